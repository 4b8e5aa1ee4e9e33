/- Contracts of PlaceOfPage, the model's and the program's. -/
import Derived.Test.YtfiefjbipjalpaaFmLaw
namespace Go.Proofs.Ytfiefjbipjalpaa
open Go.RowKit

namespace Fm
/-- Side, column, row and code of a page of a valid form. -/
def place (w : Int) (F G : List Int) (p : Int) : Int × Int × Int × Int :=
  if p ∈ F then (0, (F.idxOf p : Int) % w, (F.idxOf p : Int) / w, 0) else if p ∈ G then (1, w - 1 - (G.idxOf p : Int) % w, (G.idxOf p : Int) / w, 0) else (0, 0, 0, 4)
def plR (w h : Int) (F G H : List Int) (p : Int) : Int × Int × Int × Int := if okB w h F G H = true then place w F G p else (0, 0, 0, 1)
theorem idx_first {p : Int} : ∀ {L : List Int} {k : Nat}, L[k]? = some p → p ∉ L.take k → L.idxOf p = k := by
  intro L
  induction L with
  | nil => intro k h; simp at h
  | cons a L ih =>
    intro k h hn
    match k, h with
    | 0, h => simp at h; subst h; simp
    | k + 1, h =>
      have h1 : L[k]? = some p := by simpa using h
      rw [List.take_succ_cons, List.mem_cons] at hn
      have h2 : ¬ a = p := fun e => hn (.inl e.symm)
      have := ih h1 (fun e => hn (.inr e))
      have hb : (a == p) = false := by simpa using h2
      rw [List.idxOf_cons, hb, this]
      rfl
end Fm

set_option maxHeartbeats 1000000 in
theorem index_any (A : Option Addr) (n c B : Nat) (p : Int) (L : List Int) (w : World) (h : Rd I w B A n L) (hn : n ≤ 1048576) (v : Int) (hv : (if p ∈ L then (L.idxOf p : Int) else -1) = v) :
    Calls Try.prog 89 #[.slice A n c, .int .i64 p] w fun e w' => e = .returned (.int .i64 v) ∧ w = w' := by
  have HL : Hid (L.length = n) := h.1
  have HV := Lib.hid hv
  clear hv
  go_enter Try.func89, Try.ntmps89
  go_wp2
  go_loop [5, 8] (fun _ i => ∃ k : Nat, k ≤ n ∧ i = .int .i64 k ∧ Hid (p ∉ L.take k)) (fun _ i => n - (intOf i).toNat)
  case atStart => exact ⟨0, Nat.zero_le _, rfl, Lib.hid (by simp)⟩
  case round =>
    obtain ⟨k, hk, rfl, HN⟩ := hrel
    by_cases hlt : k < n
    · obtain ⟨b, o, x, rfl, hbB, hx, hc⟩ := h.at_ hlt
      have HX := Lib.hid hx
      clear hx
      by_cases hxp : p = x
      · have HE : Hid ((k : Int) = v) := Lib.hid (by
          have h1 := HX.out
          rw [← hxp] at h1
          rw [← HV.out, if_pos (List.mem_of_getElem? h1), Fm.idx_first h1 HN.out])
        subst hxp
        go_wp2
        go_ret
        exact ⟨ret_i HE.out, rfl⟩
      · have hne : (p == x) = false := by simpa using hxp
        go_wp2
        go_round
        case rel =>
          refine ⟨k + 1, by omega, by go_num, Lib.hid ?_⟩
          rw [take_next L k x HX.out, List.mem_append]
          rintro (hh | hh)
          · exact HN.out hh
          · exact hxp (List.mem_singleton.1 hh)
        case measure => simp [intOf]; omega
    · obtain rfl : k = n := by omega
      have HE : Hid (-1 = v) := Lib.hid (by
        have h1 := HN.out
        rw [List.take_of_length_le (Nat.le_of_eq HL.out)] at h1
        rw [← HV.out, if_neg h1])
      go_wp2
      go_ret
      exact ⟨ret_i HE.out, rfl⟩

set_option maxRecDepth 100000 in
theorem other_any (f : Fv) (g : Nat) (x : Int) (w : World) (hg : FBx w g f) (ha : 1 ≤ f.a ∧ f.a ≤ 8) (hx : 0 ≤ x ∧ x < f.a) (v : Int) (hv : f.a - 1 - x = v) :
    Calls Try.prog 118 #[.pointer (some ⟨g, 0, none⟩), .int .i64 x] w fun e w' => e = .returned (.int .i64 v) ∧ w = w' := by
  obtain ⟨k0, k1, k2, k3, k4⟩ := hg.fcell
  obtain ⟨a1, a2⟩ := ha
  obtain ⟨x1, x2⟩ := hx
  have e1 : IntKind.i64.wrap (f.a - 1) = f.a - 1 := IntWalk.i64_in _ (by omega)
  have e2 : IntKind.i64.wrap v = v := IntWalk.i64_in _ (by omega)
  go_enter Try.func118, Try.ntmps118
  go_wp2
  go_ret
  exact ⟨rfl, rfl⟩

theorem div_facts (k W N H : Nat) (hW : 1 ≤ W) (hk : k < N) (hN : N ≤ 64) (hWH : N = W * H) : ∃ X Y : Int, (k : Int) % (W : Int) = X ∧ (k : Int) / (W : Int) = Y ∧ (k : Int).tmod (W : Int) = X ∧ (k : Int).tdiv (W : Int) = Y ∧ 0 ≤ X ∧ X < (W : Int) ∧ 0 ≤ Y ∧ Y ≤ 64 ∧ Y < (H : Int) ∧ Y * (W : Int) + X = (k : Int) := by
  refine ⟨_, _, rfl, rfl, Int.tmod_eq_emod_of_nonneg (by omega), Int.tdiv_eq_ediv_of_nonneg (by omega), Int.emod_nonneg _ (by omega), Int.emod_lt_of_pos _ (by omega), Int.ediv_nonneg (by omega) (by omega), ?_, ?_, ?_⟩
  · have : (k : Int) / (W : Int) ≤ (k : Int) := Int.ediv_le_self _ (by omega)
    omega
  · refine Int.ediv_lt_of_lt_mul (by omega) ?_
    have : ((W * H : Nat) : Int) = (H : Int) * (W : Int) := by push_cast; exact Int.mul_comm _ _
    omega
  · have := Int.emod_add_mul_ediv (k : Int) (W : Int)
    rw [Int.mul_comm] at this
    omega

theorem tup4 {e : Ending} {a b c d a' b' c' d' : Int} (he : e = .returned (.tuple #[.int .i64 a, .int .i64 b, .int .i64 c, .int .i64 d])) (h : (a, b, c, d) = (a', b', c', d')) : e = .returned (.tuple #[.int .i64 a', .int .i64 b', .int .i64 c', .int .i64 d']) := by
  injection h with h1 h
  injection h with h2 h
  injection h with h3 h4
  subst h1 h2 h3 h4
  exact he
theorem Fm.place_front {w : Int} {F G : List Int} {p : Int} {k : Nat} (h : F[k]? = some p) (hn : p ∉ F.take k) : Fm.place w F G p = (0, (k : Int) % w, (k : Int) / w, 0) := by
  unfold Fm.place
  rw [if_pos (List.mem_of_getElem? h), Fm.idx_first h hn]
theorem Fm.place_back {w : Int} {F G : List Int} {p : Int} {k : Nat} (hd : (F ++ G).Nodup) (h : G[k]? = some p) (hn : p ∉ G.take k) : Fm.place w F G p = (1, w - 1 - (k : Int) % w, (k : Int) / w, 0) := by
  have hg := List.mem_of_getElem? h
  have hf : p ∉ F := fun hf => (List.nodup_append.1 hd).2.2 p hf p hg rfl
  unfold Fm.place
  rw [if_neg hf, if_pos hg, Fm.idx_first h hn]
theorem Fm.place_none {w : Int} {F G : List Int} {p : Int} (hf : p ∉ F) (hg : p ∉ G) : Fm.place w F G p = (0, 0, 0, 4) := by
  unfold Fm.place
  rw [if_neg hf, if_neg hg]
end Go.Proofs.Ytfiefjbipjalpaa

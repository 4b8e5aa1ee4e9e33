/- Contracts of ShiftForm, the model's and the program's. -/
import Derived.Test.YtfiefjbipjalpaaFmCp
namespace Go.Proofs.Ytfiefjbipjalpaa
open Go.RowKit

theorem sizeI : (Try.prog.info? 2).map (·.size) = some 1 := by kernel_rfl
def smallL (L : List Int) : Prop := ∀ x ∈ L, -4000000000 ≤ x ∧ x ≤ 4000000000
set_option maxHeartbeats 1000000 in
theorem shift_any (A : Option Addr) (n c B : Nat) (y : Int) (L : List Int) (w : World) (h : Rd I w B A n L) (hB : B ≤ w.heap.size) (hn : n ≤ 1048576) (hs : smallL L) (hy : -1000000000 ≤ y ∧ y ≤ 1000000000) (L' : List Int) (hL : L.map (· + y) = L') :
    Calls Try.prog 91 #[.slice A n c, .int .i64 y] w fun e w' => ∃ A' c', e = .returned (.slice A' n c') ∧ Own I w' w.heap.size w'.heap.size 2 (.slice A' n c') L' ∧ Below w.heap.size w w' := by
  obtain ⟨i0, hi0, hz0, hz1, hz2⟩ := info_parts infoI
  have HL := Lib.hid h.1
  have HS := Lib.hid hs
  have HP := Lib.hid hL
  have hl0 := Own.lit0 I w 2
  have hb0 := below_alloc w (.cells #[] 2)
  obtain ⟨y1, y2⟩ := hy
  clear hs hL
  go_enter Try.func91, Try.ntmps91
  go_wp2_with fail
  go_loopw [5, 6] (fun o i wr => ∃ (k : Nat) (A' : Option Addr) (c' : Nat), k ≤ n ∧ i = .int .i64 k ∧ o = .slice A' k c' ∧ Own I wr w.heap.size wr.heap.size 2 (.slice A' k c') (L'.take k) ∧ Hid (Below w.heap.size w wr)) (fun _ i _ => n - (intOf i).toNat)
  case atStart => exact ⟨0, _, _, Nat.zero_le _, rfl, rfl, by simpa using hl0, Lib.hid hb0⟩
  case round =>
    clear hl0 hb0
    obtain ⟨k, A', c', hk, rfl, rfl, ho, HB⟩ := hrel
    have hz := HB.out.size
    by_cases hlt : k < n
    · obtain ⟨b, o, x, rfl, hbB, hx, hc⟩ := (h.below HB.out hB).at_ hlt
      have hxs := HS.out x (List.mem_of_getElem? hx)
      have HX : Hid (L'[k]? = some (x + y)) := Lib.hid (by rw [← HP.out, List.getElem?_map, hx]; rfl)
      have e1 : IntKind.i64.wrap (x + y) = x + y := IntWalk.i64_in _ (by omega)
      clear hx
      go_wp2_with (at_builtin; refine wp_push (enc := I) _ rfl _ _ 24 rfl 2 i0 _ 8 Try.underlying24 hi0 hz0 hz1 hz2 rfl A' k c' _ _ _ rfl ho (x + y) rfl rfl (by omega) (by omega) (by omega) ?_; intro A5 c5 w5 ho5 hm5)
      have HB5 := Lib.hid (HB.out.trans (hm5.below (Nat.le_refl _) hz))
      go_roundw
      case rel => exact ⟨k + 1, _, _, by omega, by go_num, rfl, by rw [take_next L' k _ HX.out]; exact ho5, HB5.out⟩
      case measure => simp [intOf]; omega
    · obtain rfl : k = n := by omega
      have hlen : L'.length = k := by rw [← HP.out, List.length_map, HL.out]
      rw [List.take_of_length_le (Nat.le_of_eq hlen)] at ho
      clear hlen
      go_wp2
      go_ret
      exact ⟨_, _, rfl, ho, HB.out⟩
theorem Fm.small_of {a b : Int} {F G H : List Int} (h : Fm.ok a b F G H) : smallL F ∧ smallL G :=
  ⟨fun x hx => by have := Fm.ok_small h (List.mem_append_left G hx); omega, fun x hx => by have := Fm.ok_small h (List.mem_append_right F hx); omega⟩
theorem i64s_map {L : List Int} {y : Int} (h : smallL L) (hy : -1000000000 ≤ y ∧ y ≤ 1000000000) : i64s (L.map (· + y)) := by
  intro x hx
  obtain ⟨z, hz, rfl⟩ := List.mem_map.1 hx
  have := h z hz
  omega
theorem tup6 {a b : Int} {F G H : List Int} {c : Int} {a' b' : Int} {F' G' H' : List Int} {c' : Int} (h : (a, b, F, G, H, c) = (a', b', F', G', H', c')) : a = a' ∧ b = b' ∧ F = F' ∧ G = G' ∧ H = H' ∧ c = c' := by
  injection h with h1 h
  injection h with h2 h
  injection h with h3 h
  injection h with h4 h
  injection h with h5 h6
  exact ⟨h1, h2, h3, h4, h5, h6⟩
/-- The empty answer with a code. -/
theorem Fm.sh_bad {a b y C : Int} {F G H : List Int} {u0 u1 v : Int} {L1 L2 L3 : List Int} (hR : Fm.shR a b F G H y = (u0, u1, L1, L2, L3, C)) (hv : Fm.shC a b F G H y = v) (h0 : v ≠ 0) : u0 = 0 ∧ u1 = 0 ∧ L1 = [] ∧ L2 = [] ∧ L3 = [] ∧ C = v := by
  unfold Fm.shR at hR
  rw [hv, if_neg h0] at hR
  obtain ⟨h1, h2, h3, h4, h5, h6⟩ := tup6 hR
  exact ⟨h1.symm, h2.symm, h3.symm, h4.symm, h5.symm, h6.symm⟩
theorem Fm.sh_good {a b y C : Int} {F G H : List Int} {u0 u1 : Int} {L1 L2 L3 : List Int} (hR : Fm.shR a b F G H y = (u0, u1, L1, L2, L3, C)) (hv : Fm.shC a b F G H y = 0) : u0 = a ∧ u1 = b ∧ L1 = F.map (· + y) ∧ L2 = G.map (· + y) ∧ L3 = H ∧ C = 0 := by
  unfold Fm.shR at hR
  rw [hv, if_pos rfl] at hR
  obtain ⟨h1, h2, h3, h4, h5, h6⟩ := tup6 hR
  exact ⟨h1.symm, h2.symm, h3.symm, h4.symm, h5.symm, h6.symm⟩

end Go.Proofs.Ytfiefjbipjalpaa

/- Contracts of the laws' helpers at several lists of units: opened, copied, compared, marked, their sizes. -/
import Derived.Test.YtnfnmdeiaihgnaaSuDx
import Derived.Test.YtnfnmdeiaihgnaaUnLw
import Derived.Test.YtnfnmdeiaihgnaaLw9
namespace Go.Proofs.Ytnfnmdeiaihgnaa
open Go.RowKit Go.Deep Go.ChangeShapes Go.WideShapes
set_option linter.unusedVariables false

/-- Several lists that came in. -/
def RdA (w : World) (B : Nat) (A : Option Addr) (n : Nat) (us : List UB) : Prop := Rd UB.v w B A n us ∧ ∀ q ∈ us, RdS Un.S w B q.a q.n q.l ∧ q.n ≤ 9223372036854775807
theorem RdA.below {w w' : World} {B B' n : Nat} {A : Option Addr} {us : List UB} (h : RdA w B A n us) (hb : Below B' w w') (hB : B ≤ B') : RdA w' B A n us := ⟨h.1.below hb hB, fun q hm => ⟨(h.2 q hm).1.below hb hB, (h.2 q hm).2⟩⟩
theorem RdA.only {w w' : World} {B lo hi n : Nat} {A : Option Addr} {us : List UB} (h : RdA w B A n us) (ho : Only lo hi w w') (hB : B ≤ lo) (hs : B ≤ w.heap.size) : RdA w' B A n us := ⟨h.1.only ho hB hs, fun q hm => ⟨(h.2 q hm).1.only ho hB hs, (h.2 q hm).2⟩⟩
theorem RdA.at_ {w : World} {B n k : Nat} {A : Option Addr} {us : List UB} (h : RdA w B A n us) (hk : k < n) : ∃ b o q, A = some ⟨b, o, none⟩ ∧ b < B ∧ us[k]? = some q ∧ w.cell? ⟨b, o + k, none⟩ = some (.slice q.a q.n q.c) ∧ RdS Un.S w B q.a q.n q.l ∧ q.n ≤ 9223372036854775807 := by
  obtain ⟨b, o, q, e, hb, hq, hc⟩ := h.1.at_ hk
  have h2 := h.2 q (List.mem_of_getElem? hq)
  exact ⟨b, o, q, e, hb, hq, hc, h2.1, h2.2⟩
theorem RdU.toA {w : World} {B n : Nat} {A : Option Addr} {us : List UB} (h : RdU w B A n us) : RdA w B A n us := ⟨h.1, fun q hm => ⟨(h.2 q hm).1, by have := (h.2 q hm).2; omega⟩⟩
theorem cellsLUn : Try.prog.cellsOf 57 = 1 := by kernel_rfl
set_option maxRecDepth 100000 in
theorem RdA.of_SS {H : Type} {enc : TypeId × Value → H} {W : World} {A : Option Addr} {len cap : Nat} {d : DataW H} {p : List MemPlace}
    (h : DataW.Trod enc Try.prog W 0 (fun _ => true) true 65 (.slice A len cap) d p) : ∃ us : List UB, RdA W W.heap.size A len us ∧ len ≤ 9223372036854775807 := by
  obtain ⟨fuel, hf⟩ := h
  rcases open_slice Try.underlying65 hf with ⟨hcs, _⟩ | ⟨a, l, c, m, n, D, Pl, hcs, _, hl, hm, hmm, _, hi⟩
  · simp [Value.cells] at hcs
    obtain ⟨rfl, rfl, rfl⟩ := hcs
    exact ⟨[], ⟨Rd.none_, by simp⟩, by omega⟩
  · simp [Value.cells] at hcs
    obtain ⟨rfl, rfl, rfl⟩ := hcs
    simp only [if_true] at hmm
    subst hmm
    have hml : len ≤ 9223372036854775807 := by unfold maxLen at hm; omega
    have key : ∀ i, i < len → ∃ v : UB, (RdS Un.S W W.heap.size v.a v.n v.l ∧ v.n ≤ 9223372036854775807) ∧ W.cell? (a.add i) = some v.v := by
      intro i hlt
      obtain ⟨cs', hc, ht⟩ := hi i (by omega)
      rw [cellsLUn] at hc
      obtain ⟨_, hlen, hcell⟩ := World.cells?_some hc
      have h2 : ∃ A2 n2 c2, cs' = [.slice A2 n2 c2] := by
        rcases open_slice Try.underlying57 ht with ⟨e, _⟩ | ⟨a2, l2, c2, _, _, _, _, e, _⟩
        · exact ⟨_, _, _, e⟩
        · exact ⟨_, _, _, e⟩
      obtain ⟨A2, n2, c2, rfl⟩ := h2
      obtain ⟨l, hr, hn, _⟩ := RdS.of_Un (A := A2) (len := n2) (cap := c2) ⟨_, ht⟩
      refine ⟨⟨A2, n2, c2, l⟩, ⟨hr, hn⟩, ?_⟩
      have h0 := hcell 0 (by omega)
      rw [Nat.mul_one] at h0
      rw [show (a.add i).add 0 = a.add i from by cases a; simp [Addr.add]] at h0
      exact h0
    obtain ⟨us, hll, hq⟩ := listOf _ len key
    refine ⟨us, ⟨⟨hll, fun hp => ?_⟩, fun q hm => by obtain ⟨j, hj⟩ := List.getElem?_of_mem hm; exact (hq j q hj).1⟩, hml⟩
    obtain ⟨b, o, s⟩ := a
    have hx0 : us[0]? = some us[0] := List.getElem?_eq_getElem (by omega)
    have h0 := (hq 0 _ hx0).2
    have hs : s = none := by simpa [Addr.add] using World.cell?_spot h0
    subst hs
    refine ⟨b, o, rfl, by simpa [addr_block] using World.block_lt_of_cell? W _ h0, fun j x hx => ?_⟩
    have := (hq j x hx).2
    rwa [addr_plain] at this
/-- The number of all units. -/
def totU (us : List UB) : Nat := (us.map UB.n).sum
theorem totU_next {us : List UB} {k : Nat} {q : UB} (h : us[k]? = some q) : totU (us.take (k + 1)) = totU (us.take k) + q.n := by
  unfold totU
  rw [List.take_add_one, h]
  simp
theorem totU_le (us : List UB) (k : Nat) : totU (us.take k) ≤ totU us := by
  unfold totU
  have : us.map UB.n = (us.take k).map UB.n ++ (us.drop k).map UB.n := by rw [← List.map_append, List.take_append_drop]
  rw [this, List.sum_append]
  omega
set_option maxRecDepth 100000 in
theorem szUnitSS_yes (A : Option Addr) (n c B : Nat) (us : List UB) (w : World) (h : RdA w B A n us) (hn : n + totU us ≤ 1048576) :
    Calls Try.prog 42 #[.slice A n c, .int .i64 1048576] w fun e w' => e = .returned (.int .i64 (1048576 - (n : Int) - (totU us : Int))) ∧ w = w' := by
  have e1 : IntKind.i64.wrap (1048576 - (n : Int)) = 1048576 - (n : Int) := IntWalk.i64_in _ (by omega)
  have e2 : (1048576 - (n : Int) < 0) = False := eq_false (by omega)
  have HL := Lib.hid h.1.1
  have hn1 : n ≤ 1048576 := by omega
  go_enter Try.func42, Try.ntmps42
  go_wp2_with fail
  go_loop [1, 5] (fun r i => ∃ (k : Nat) (t : Nat), k ≤ n ∧ i = .int .i64 k ∧ r = .int .i64 (1048576 - (n : Int) - (t : Int)) ∧ Hid (t = totU (us.take k)) ∧ n + t ≤ 1048576) (fun _ i => n - (intOf i).toNat)
  case atStart => exact ⟨0, 0, Nat.zero_le _, rfl, by simp, Lib.hid rfl, by omega⟩
  case round =>
    obtain ⟨k, t, hk, rfl, rfl, HT, ht⟩ := hrel
    by_cases hlt : k < n
    · obtain ⟨b, o, q, rfl, hbB, hq, hc, hr, hqn⟩ := h.at_ hlt
      obtain ⟨qa, qn, qc, ql⟩ := q
      dsimp only at hc hr hqn
      have HN := Lib.hid (totU_next hq)
      have hle := totU_le us (k + 1)
      rw [HN.out, ← HT.out] at hle
      dsimp only at hle
      have hs := fun W => szUnitS_less qa qn qc (1048576 - (n : Int) - (t : Int)) W (by omega) (by omega)
      have e3 : (1048576 - (n : Int) - (t : Int) - (qn : Int) < 0) = False := eq_false (by omega)
      clear hq
      go_wp2_with fail
      refine (hs _).mono ?_
      rintro e' _ ⟨rfl, rfl⟩
      go_wp2_with fail
      go_round
      case rel => exact ⟨k + 1, t + qn, by omega, by go_num, (by congr 1; omega), Lib.hid (by rw [HN.out, HT.out]), by omega⟩
      case measure => simp [intOf]; omega
    · obtain rfl : k = n := by omega
      have HE : Hid ((t : Int) = (totU us : Int)) := Lib.hid (by rw [HT.out, List.take_of_length_le (Nat.le_of_eq HL.out)])
      go_wp2_with fail
      go_ret
      exact ⟨ret_i (by rw [HE.out]), rfl⟩
set_option maxRecDepth 100000 in
theorem szUnitSS_no (A : Option Addr) (n c B : Nat) (us : List UB) (w : World) (h : RdA w B A n us) (hn : 1048576 < n + totU us) (hm : n ≤ 9223372036854775807) :
    Calls Try.prog 42 #[.slice A n c, .int .i64 1048576] w fun e w' => e = .returned (.int .i64 (-1)) ∧ w = w' := by
  have e1 : IntKind.i64.wrap (1048576 - (n : Int)) = 1048576 - (n : Int) := IntWalk.i64_in _ (by omega)
  have HL := Lib.hid h.1.1
  have HH := Lib.hid hn
  by_cases hn0 : 1048576 < n
  · have e2 : 1048576 - (n : Int) < 0 := by omega
    clear hn
    go_enter Try.func42, Try.ntmps42
    go_wp2_with fail
    go_ret
    exact ⟨rfl, rfl⟩
  have e2 : (1048576 - (n : Int) < 0) = False := eq_false (by omega)
  clear hn
  go_enter Try.func42, Try.ntmps42
  go_wp2_with fail
  go_loop [1, 5] (fun r i => ∃ (k : Nat) (t : Nat), k ≤ n ∧ i = .int .i64 k ∧ r = .int .i64 (1048576 - (n : Int) - (t : Int)) ∧ Hid (t = totU (us.take k)) ∧ n + t ≤ 1048576) (fun _ i => n - (intOf i).toNat)
  case atStart => exact ⟨0, 0, Nat.zero_le _, rfl, by simp, Lib.hid rfl, by omega⟩
  case round =>
    obtain ⟨k, t, hk, rfl, rfl, HT, ht⟩ := hrel
    by_cases hlt : k < n
    · obtain ⟨b, o, q, rfl, hbB, hq, hc, hr, hqn⟩ := h.at_ hlt
      obtain ⟨qa, qn, qc, ql⟩ := q
      dsimp only at hc hr hqn
      have HN := Lib.hid (totU_next hq)
      clear hq
      by_cases hfit : n + t + qn ≤ 1048576
      · have hs := fun W => szUnitS_less qa qn qc (1048576 - (n : Int) - (t : Int)) W (by omega) (by omega)
        have e3 : (1048576 - (n : Int) - (t : Int) - (qn : Int) < 0) = False := eq_false (by omega)
        go_wp2_with fail
        refine (hs _).mono ?_
        rintro e' _ ⟨rfl, rfl⟩
        go_wp2_with fail
        go_round
        case rel => exact ⟨k + 1, t + qn, by omega, by go_num, (by congr 1; omega), Lib.hid (by rw [HN.out, HT.out]), by omega⟩
        case measure => simp [intOf]; omega
      · have hs := fun W => szUnitS_more qa qn qc (1048576 - (n : Int) - (t : Int)) W (by omega) (by omega) (by omega)
        go_wp2_with fail
        refine (hs _).mono ?_
        rintro e' _ ⟨rfl, rfl⟩
        go_wp2_with fail
        go_ret
        exact ⟨rfl, rfl⟩
    · exfalso
      obtain rfl : k = n := by omega
      have e4 : t = totU us := by rw [HT.out, List.take_of_length_le (Nat.le_of_eq HL.out)]
      have := HH.out
      omega
/-- Several lists of the call's own, each in a block of its own. -/
structure OwnW (w : World) (lo hi : Nat) (A : Option Addr) (n c : Nat) (us : List UB) : Prop where
  o : Own UB.v w lo hi 28 (.slice A n c) us
  r : ∀ q ∈ us, OwnS Un.S w lo hi (.slice q.a q.n q.c) q.l ∧ q.n ≤ 1048576
  d : us.Pairwise fun p q => ∀ k, q.v.ownBlock = some k → p.v.ownBlock ≠ some k
theorem OwnW.below {w w' : World} {B lo hi n c : Nat} {A : Option Addr} {us : List UB} (h : OwnW w lo hi A n c us) (hb : Below B w w') (hB : hi ≤ B) : OwnW w' lo hi A n c us := ⟨h.o.below hb hB, fun q hq => ⟨(h.r q hq).1.below hb hB, (h.r q hq).2⟩, h.d⟩
theorem OwnW.only {w w' : World} {lo hi lo' hi' n c : Nat} {A : Option Addr} {us : List UB} (h : OwnW w lo hi A n c us) (ho : Only lo' hi' w w') (hB : hi ≤ lo' ∨ hi' ≤ lo) : OwnW w' lo hi A n c us := ⟨h.o.only ho hB, fun q hq => ⟨(h.r q hq).1.only ho hB, (h.r q hq).2⟩, h.d⟩
theorem OwnW.mono {w : World} {lo hi lo' hi' n c : Nat} {A : Option Addr} {us : List UB} (h : OwnW w lo hi A n c us) (h1 : lo' ≤ lo) (h2 : hi ≤ hi') : OwnW w lo' hi' A n c us := ⟨h.o.mono h1 h2, fun q hq => ⟨(h.r q hq).1.mono h1 h2, (h.r q hq).2⟩, h.d⟩
theorem OwnW.rd {w : World} {lo hi n c : Nat} {A : Option Addr} {us : List UB} (h : OwnW w lo hi A n c us) : RdU w hi A n us := ⟨h.o.rd, fun q hq => ⟨(h.r q hq).1.rd, (h.r q hq).2⟩⟩
theorem lsU_app (a b : List UB) : Su.lsU (a ++ b) = Su.lsU a ++ Su.lsU b := by simp [Su.lsU]
theorem totU_app (a b : List UB) : totU (a ++ b) = totU a + totU b := by simp [totU]
set_option maxRecDepth 100000 in
set_option maxHeartbeats 4000000 in
theorem toUnitSS_any (A : Option Addr) (n c B : Nat) (us : List UB) (w : World) (h : RdA w B A n us) (hB : B ≤ w.heap.size) (hn : n + totU us ≤ 1048576) :
    Calls Try.prog 43 #[.slice A n c] w fun e w' => ∃ g us', e = .returned (.slice (some ⟨g, 0, none⟩) n n) ∧ OwnW w' w.heap.size w'.heap.size (some ⟨g, 0, none⟩) n n us' ∧ Su.lsU us' = Su.lsU us ∧ totU us' = totU us ∧ Below w.heap.size w w' := by
  obtain ⟨i0, hi0, hz0, hz1, hz2⟩ := info_parts infoLU
  have hml : n ≤ maxLen := by unfold maxLen; omega
  have HL := Lib.hid h.1.1
  have HH := Lib.hid hn
  have hn1 : n ≤ 1048576 := by omega
  go_enter Try.func43, Try.ntmps43
  go_wp2_with (at_make; refine wpList_make_full _ rfl _ _ 42 rfl w.heap.size 28 i0 (.slice none 0 0) 1 Try.underlying42 hi0 hz0 hz1 .i64 .i64 _ _ n rfl rfl rfl rfl (by rw [hz2]; omega) hml (Nat.le_refl _) ?_; intro w1 hown1 hg1)
  have hown : Own UB.v w1 w.heap.size (w.heap.size + 1) 28 (.slice (some ⟨w.heap.size, 0, none⟩) n n) (List.replicate n (⟨none, 0, 0, []⟩ : UB)) := by
    refine ⟨?_, fun k hk => by simp [Value.ownBlock] at hk; omega⟩
    have hz : (Value.slice none 0 0).cells = #[.slice none 0 0] := rfl
    rw [hz, toList_madeCells_one] at hown1
    simpa using hown1
  have hb1 : Below w.heap.size w w1 := (Below.refl _ _).grown hg1 (Nat.le_refl _) (by simp)
  have hs1 : w.heap.size + 1 ≤ w1.heap.size := by have := hown.lt w.heap.size rfl; omega
  clear hown1 hg1 hn
  go_loopw [4] (fun i wr => ∃ (k : Nat) (vs : List UB), k ≤ n ∧ i = .int .i64 k ∧ vs.length = k ∧ Hid (Su.lsU vs = (Su.lsU us).take k) ∧ Hid (totU vs = totU (us.take k)) ∧ Own UB.v wr w.heap.size (w.heap.size + 1) 28 (.slice (some ⟨w.heap.size, 0, none⟩) n n) (vs ++ List.replicate (n - k) (⟨none, 0, 0, []⟩ : UB)) ∧
    Hid ((∀ q ∈ vs, OwnS Un.S wr (w.heap.size + 1) wr.heap.size (.slice q.a q.n q.c) q.l ∧ q.n ≤ 1048576) ∧ vs.Pairwise fun p q => ∀ k, q.v.ownBlock = some k → p.v.ownBlock ≠ some k) ∧ Below w.heap.size w wr ∧ w.heap.size + 1 ≤ wr.heap.size) (fun i _ => n - (intOf i).toNat)
  case atStart => exact ⟨0, [], Nat.zero_le _, rfl, rfl, Lib.hid (by simp [Su.lsU]), Lib.hid (by simp [totU]), by simpa using hown, Lib.hid ⟨by simp, List.Pairwise.nil⟩, hb1, hs1⟩
  case round =>
    clear hown hb1 hs1
    obtain ⟨k, vs, hk, rfl, hvl, HV, HT, ho, HR, hb, hsz⟩ := hrel
    by_cases hlt : k < n
    · obtain ⟨b, o, q, rfl, hbB, hq, hc, hr, hqn⟩ := (h.below hb hB).at_ hlt
      obtain ⟨qa, qn, qc, ql⟩ := q
      dsimp only at hc hr hqn
      have HN := Lib.hid (totU_next hq)
      have hle := totU_le us (k + 1)
      rw [HN.out] at hle
      dsimp only at hle
      have hq6 : qn ≤ 1048576 := by have := HH.out; omega
      have HX := Lib.hid (Su.lsU_at hq)
      have hto := toUnitS_any qa qn qc B ql wr hr (by have := hb.size; omega) hq6
      have HVL := Lib.hid hvl
      clear hq hvl
      go_wp2_with fail
      refine hto.mono ?_
      rintro e w5 ⟨g5, rfl, ho5, hb5⟩
      have hs5 := hb5.size
      have hoh := ho.below hb5 hsz
      obtain ⟨g, y, hg, hg1, hg2, hg3, hy, hc2, hf2⟩ := hoh.at_ hlt
      injection hg with hg
      injection hg with hg _ _
      subst hg
      have hset := hoh.set_ (k := k) (⟨some ⟨g5, 0, none⟩, qn, qn, ql⟩ : UB)
      have hset1 : Own UB.v (w5.setCell ⟨w.heap.size, k, none⟩ (.slice (some ⟨g5, 0, none⟩) qn qn)) w.heap.size (w.heap.size + 1) 28 (.slice (some ⟨w.heap.size, 0, none⟩) n n) ((vs ++ [(⟨some ⟨g5, 0, none⟩, qn, qn, ql⟩ : UB)]) ++ List.replicate (n - (k + 1)) (⟨none, 0, 0, []⟩ : UB)) := by
        have := hset.1
        rw [show n - k = (n - (k + 1)) + 1 from by omega, List.replicate_succ, set_mid _ _ _ _ _ HVL.out] at this
        simpa using this
      have hset2 : Only w.heap.size (w.heap.size + 1) w5 (w5.setCell ⟨w.heap.size, k, none⟩ (.slice (some ⟨g5, 0, none⟩) qn qn)) := hset.2
      have hbn : Below w.heap.size w (w5.setCell ⟨w.heap.size, k, none⟩ (.slice (some ⟨g5, 0, none⟩) qn qn)) := (hb.trans (hb5.mono (by omega))).trans (hset2.below (Nat.le_refl _) (by omega))
      have HRN : Hid ((∀ q ∈ vs ++ [(⟨some ⟨g5, 0, none⟩, qn, qn, ql⟩ : UB)], OwnS Un.S (w5.setCell ⟨w.heap.size, k, none⟩ (.slice (some ⟨g5, 0, none⟩) qn qn)) (w.heap.size + 1) (w5.setCell ⟨w.heap.size, k, none⟩ (.slice (some ⟨g5, 0, none⟩) qn qn)).heap.size (.slice q.a q.n q.c) q.l ∧ q.n ≤ 1048576) ∧ (vs ++ [(⟨some ⟨g5, 0, none⟩, qn, qn, ql⟩ : UB)]).Pairwise fun p q => ∀ k, q.v.ownBlock = some k → p.v.ownBlock ≠ some k) := by
        refine Lib.hid ⟨fun q hq => ?_, ?_⟩
        · rcases List.mem_append.1 hq with hq | hq
          · have := HR.out.1 q hq
            exact ⟨((this.1.below hb5 (Nat.le_refl _)).only hset2 (.inr (Nat.le_refl _))).mono (Nat.le_refl _) (by simpa using hs5), this.2⟩
          · rw [List.mem_singleton] at hq
            subst hq
            exact ⟨(ho5.only hset2 (.inr hsz)).mono hsz (by simp), hq6⟩
        · refine List.pairwise_append.2 ⟨HR.out.2, List.pairwise_singleton _ _, fun p hp q hq j hj hj2 => ?_⟩
          rw [List.mem_singleton] at hq
          subst hq
          have a1 := ho5.lt j hj
          have a2 := (HR.out.1 p hp).1.lt j hj2
          omega
      clear hto hr ho hb hb5 ho5 hoh hset hset2 hy hg1 hg2 hg3 HR
      go_wp2_with fail
      go_roundw
      case rel =>
        refine ⟨k + 1, vs ++ [⟨some ⟨g5, 0, none⟩, qn, qn, ql⟩], by omega, by go_num, by simp [HVL.out], Lib.hid ?_, Lib.hid ?_, hset1, HRN, hbn, by simp; omega⟩
        · rw [lsU_app, HV.out, List.take_add_one, HX.out]
          rfl
        · rw [totU_app, HT.out, HN.out]
          simp [totU]
      case measure => simp [intOf]; omega
    · obtain rfl : k = n := by omega
      have HO := Lib.hid ho
      have HLL := HL.out
      clear ho
      go_wp2_with fail
      go_ret
      refine ⟨_, vs, rfl, ⟨?_, fun q hq => ⟨((HR.out.1 q hq).1).mono (by omega) (Nat.le_refl _), (HR.out.1 q hq).2⟩, HR.out.2⟩, ?_, ?_, hb⟩
      · have := HO.out
        simp at this
        exact this.mono (Nat.le_refl _) hsz
      · rw [HV.out, List.take_of_length_le (by rw [Su.lsU_len, HLL]; omega)]
      · rw [HT.out, List.take_of_length_le (by omega)]
set_option maxRecDepth 100000 in
set_option maxHeartbeats 2000000 in
theorem eqUnitSS_true (A A' : Option Addr) (n c c' B B' : Nat) (us us' : List UB) (w : World) (h : RdU w B A n us) (h' : RdU w B' A' n us') (hl : Su.lsU us' = Su.lsU us) (hB : B ≤ w.heap.size) (hB' : B' ≤ w.heap.size) (hn : n ≤ 1048576) :
    Calls Try.prog 45 #[.slice A n c, .slice A' n c'] w fun e w' => e = .returned (.bool true) ∧ Below w.heap.size w w' := by
  have HLS := Lib.hid hl
  clear hl
  go_enter Try.func45, Try.ntmps45
  go_wp2_with fail
  go_loopw [5] (fun i wr => ∃ k : Nat, k ≤ n ∧ i = .int .i64 k ∧ Below w.heap.size w wr) (fun i _ => n - (intOf i).toNat)
  case atStart => exact ⟨0, Nat.zero_le _, rfl, Below.refl _ _⟩
  case round =>
    obtain ⟨k, hk, rfl, hb⟩ := hrel
    have hz := hb.size
    by_cases hlt : k < n
    · obtain ⟨b, o, q, rfl, hbB, hq, hc, hr, hqn⟩ := (h.below hb hB).at_ hlt
      obtain ⟨b', o', q', rfl, hbB', hq', hc', hr', hqn'⟩ := (h'.below hb hB').at_ hlt
      have e1 := Su.lsU_at hq
      have e2 := Su.lsU_at hq'
      rw [HLS.out, e1] at e2
      injection e2 with e2
      obtain ⟨qa, qn, qc, ql⟩ := q
      obtain ⟨qa', qn', qc', ql'⟩ := q'
      dsimp only at hc hr hqn hc' hr' hqn' e2
      subst e2
      obtain rfl : qn = qn' := hr.1.symm.trans hr'.1
      clear hq hq' e1
      have heq := fun W (g1 : RdS Un.S W B qa qn ql) (g2 : RdS Un.S W B' qa' qn ql) (g3 : B ≤ W.heap.size) (g4 : B' ≤ W.heap.size) => eqUnitS_true qa qa' qn qc qc' B B' ql W g1 g2 g3 g4 hqn
      have r1 : RdS Un.S wr.drew B qa qn ql := hr
      have r2 : RdS Un.S wr.drew B' qa' qn ql := hr'
      have hB1 : B ≤ wr.drew.heap.size := Nat.le_trans hB hz
      have hB2 : B' ≤ wr.drew.heap.size := Nat.le_trans hB' hz
      go_wp2_with fail
      go_region_law (go_simp; go_at_call 36; refine (heq _ r1 r2 hB1 hB2).mono ?_; rintro e w5 ⟨rfl, hb5⟩)
      all_goals
        have HB5 := Lib.hid (hb.trans ((Below.refl _ wr).drew.trans (hb5.mono (show w.heap.size ≤ _ from hz))))
        clear hb5
        go_wp2_with fail
        go_roundw
        case rel => exact ⟨k + 1, by omega, by go_num, HB5.out⟩
        case measure => simp [intOf]; omega
    · obtain rfl : k = n := by omega
      go_wp2_with fail
      go_ret
      exact ⟨rfl, hb⟩
/-- A row lies in one block. -/
theorem OwnS.tightU {w : World} {lo hi : Nat} {v : Value} {l : List Un} (h : OwnS Un.S w lo hi v l) : ∃ lo' hi', lo ≤ lo' ∧ (lo' ≤ hi' ∧ hi' ≤ max lo hi) ∧ OwnS Un.S w lo' hi' v l ∧ ∀ g, lo' ≤ g → g < hi' → v.ownBlock = some g := by
  rcases h.1.2 with ⟨hv, hl⟩ | ⟨g, cap, cur, hv, hlo, hg, hr⟩
  · refine ⟨lo, lo, Nat.le_refl _, ⟨Nat.le_refl _, by omega⟩, ⟨⟨h.1.1, .inl ⟨hv, hl⟩⟩, fun k hk => by rw [hv] at hk; simp [Value.ownBlock] at hk⟩, fun g h1 h2 => by omega⟩
  · have hh := h.2 g (by rw [hv]; rfl)
    refine ⟨g, g + 1, hlo, ⟨by omega, by omega⟩, ⟨⟨h.1.1, .inr ⟨g, cap, cur, hv, Nat.le_refl _, hg, hr⟩⟩, fun k hk => by rw [hv] at hk; simp [Value.ownBlock] at hk; omega⟩, fun g' h1 h2 => ?_⟩
    obtain rfl : g' = g := by omega
    rw [hv]
    rfl
theorem Only.wide {w w' : World} {lo hi lo' hi' : Nat} (h : Only lo' hi' w w') (h1 : lo ≤ lo') (h2 : hi' ≤ hi) : Only lo hi w w' := ⟨h.os, h.tape, h.output, h.size, fun k hk hne => h.block k hk (by omega)⟩
set_option maxRecDepth 100000 in
set_option maxHeartbeats 4000000 in
theorem markUnitSS_any (A : Option Addr) (n c lo hi : Nat) (us : List UB) (w : World) (h : OwnW w lo hi A n c us) (hn : n + totU us ≤ 1048576) (hlh : lo ≤ hi) :
    Calls Try.prog 47 #[.slice A n c, .int .i64 1] w fun e w' => e = .returned (.int .i64 (1 + 3 * (totU us : Int))) ∧ Only lo hi w w' := by
  have HL := Lib.hid h.o.rd.1
  have HD := Lib.hid h.d
  have HH := Lib.hid hn
  have hn1 : n ≤ 1048576 := by omega
  clear hn
  go_enter Try.func47, Try.ntmps47
  go_wp2_with fail
  go_loopw [1, 5] (fun r i wr => ∃ (k : Nat) (t : Nat), k ≤ n ∧ i = .int .i64 k ∧ r = .int .i64 (1 + 3 * (t : Int)) ∧ Hid (t = totU (us.take k)) ∧ t ≤ 1048576 ∧ Own UB.v wr lo hi 28 (.slice A n c) us ∧ Hid (∀ j q, k ≤ j → us[j]? = some q → OwnS Un.S wr lo hi (.slice q.a q.n q.c) q.l) ∧ Only lo hi w wr) (fun _ i _ => n - (intOf i).toNat)
  case atStart => exact ⟨0, 0, Nat.zero_le _, rfl, by simp, Lib.hid (by simp [totU]), Nat.zero_le _, h.o, Lib.hid fun j q _ hj => (h.r q (List.mem_of_getElem? hj)).1, Only.refl _ _ _⟩
  case round =>
    obtain ⟨k, t, hk, rfl, rfl, HT, ht, ho, HR, hm⟩ := hrel
    by_cases hlt : k < n
    · obtain ⟨g, q, rfl, hg1, hg2, hg3, hq, hc, hf⟩ := ho.at_ hlt
      have hr := HR.out k q (Nat.le_refl _) hq
      have hqn := (h.r q (List.mem_of_getElem? hq)).2
      have HN := Lib.hid (totU_next hq)
      have hle := totU_le us (k + 1)
      rw [HN.out, ← HT.out] at hle
      obtain ⟨lo', hi', h1, ⟨h2, h3⟩, hro, hown⟩ := hr.tightU
      have hmk := markUnitS_any q.a q.n q.c lo' hi' (1 + 3 * (t : Int)) q.l wr hro hqn (by omega) (by omega)
      have HQ := Lib.hid hq
      have HO := Lib.hid ho
      obtain ⟨qa, qn, qc, ql⟩ := q
      dsimp only at hc hqn hmk hown hle hr
      have e1 : (1 + 3 * (t : Int) + 3 * (qn : Int)) = 1 + 3 * ((t + qn : Nat) : Int) := by omega
      clear hq hf ho hro
      go_wp2_with fail
      refine hmk.mono ?_
      rintro e w5 ⟨rfl, ho5, hm5⟩
      have hr2 := Lib.hid hr
      have HM := Lib.hid hm5
      have hO5 : Own UB.v w5 lo hi 28 (.slice (some ⟨g, 0, none⟩) n c) us := HO.out.keep fun b hb => HM.out.block b (HO.out.lt b hb).2.2 (by
        rcases Nat.lt_or_ge b lo' with e | e
        · exact .inl e
        · rcases Nat.lt_or_ge b hi' with e2 | e2
          · exfalso
            have e3 := hown b e e2
            rcases hr2.out.1.2 with ⟨hv, _⟩ | ⟨g', cap, cur, hv, hlo, hgg, _⟩
            · injection hv with hv
              subst hv
              simp [Value.ownBlock] at e3
            · have e4 := HO.out.far hgg neUL
              rw [hv] at e3
              simp only [Value.ownBlock, Option.some.injEq] at e3
              subst e3
              exact e4 hb
          · exact .inr e2)
      have HR5 : Hid (∀ j q, k + 1 ≤ j → us[j]? = some q → OwnS Un.S w5 lo hi (.slice q.a q.n q.c) q.l) := Lib.hid fun j q hj hq => (HR.out j q (by omega) hq).keep fun b hb => HM.out.block b ((HR.out j q (by omega) hq).lt b hb).2.2 (by
        rcases Nat.lt_or_ge b lo' with e | e
        · exact .inl e
        · rcases Nat.lt_or_ge b hi' with e2 | e2
          · exfalso
            have e3 := hown b e e2
            have hp := HD.out
            rw [List.pairwise_iff_getElem] at hp
            have hkl := (List.getElem?_eq_some_iff.1 HQ.out).1
            have hjl := (List.getElem?_eq_some_iff.1 hq).1
            have := hp k j hkl hjl (by omega) b
            rw [(List.getElem?_eq_some_iff.1 HQ.out).2, (List.getElem?_eq_some_iff.1 hq).2] at this
            exact this hb e3
          · exact .inr e2)
      have hmm := hm.trans (HM.out.wide h1 (by omega))
      have HNT : Hid (t + qn = totU (us.take (k + 1))) := Lib.hid (by rw [HN.out, HT.out])
      clear hmk ho5 hm5 HM HO hr hown hm
      go_wp2_with fail
      go_roundw
      case rel => exact ⟨k + 1, t + qn, by omega, by go_num, (by first | rw [e1] | (congr 1 <;> omega)), HNT, by have := HH.out; omega, hO5, HR5, hmm⟩
      case measure => simp [intOf]; omega
    · obtain rfl : k = n := by omega
      have HE : Hid ((t : Int) = (totU us : Int)) := Lib.hid (by rw [HT.out, List.take_of_length_le (Nat.le_of_eq HL.out)])
      go_wp2_with fail
      go_ret
      exact ⟨ret_i (by rw [HE.out]), hm⟩
end Go.Proofs.Ytnfnmdeiaihgnaa

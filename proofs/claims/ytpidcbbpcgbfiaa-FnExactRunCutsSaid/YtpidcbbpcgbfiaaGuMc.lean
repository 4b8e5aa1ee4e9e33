/- Contracts of the program's CanCut and of MakeCut, the program's and the model's. -/
import Derived.Test.YtpidcbbpcgbfiaaGuLa
import Derived.Test.YtpidcbbpcgbfiaaGuLb
namespace Go.Proofs.Ytpidcbbpcgbfiaa
open Go.RowKit
set_option linter.unusedVariables false

/-- Pieces and a code are handed back; the pieces are the call's own. -/
def PcC (w : World) (R : List Pc) (C : Int) (e : Ending) (w' : World) : Prop :=
  ∃ A n c, e = .returned (.tuple #[.slice A n c, .int .i64 C]) ∧ OwnS Pc.S w' w.heap.size w'.heap.size (.slice A n c) R ∧ n ≤ 1048576 ∧ Below w.heap.size w w'
theorem PcC.nil_ {w w' : World} {R : List Pc} {C C' : Int} (hR : R = []) (hC : C = C') (hb : Below w.heap.size w w') : PcC w R C (.returned (.tuple #[.slice none 0 0, .int .i64 C'])) w' := by
  subst hR hC
  exact ⟨none, 0, 0, rfl, OwnS.nil_, by omega, hb⟩
theorem PcC.mk_ {w w' : World} {R R' : List Pc} {C C' : Int} {A : Option Addr} {n c lo hi : Nat} (hR : R = R') (hC : C = C') (ho : OwnS Pc.S w' lo hi (.slice A n c) R') (h1 : w.heap.size ≤ lo) (h2 : hi ≤ w'.heap.size) (hn : n ≤ 1048576) (hb : Below w.heap.size w w') :
    PcC w R C (.returned (.tuple #[.slice A n c, .int .i64 C'])) w' := by
  subst hR hC
  exact ⟨A, n, c, rfl, ho.mono h1 h2, hn, hb⟩
theorem Gu.mk_inv {l : List Pc} {c : Ct} (h : Gu.okL l = false) : Gu.mkC l c = 1 ∧ Gu.mkR l c = [] := by
  have h1 : Gu.mkC l c = 1 := by unfold Gu.mkC; rw [h]; rfl
  exact ⟨h1, by unfold Gu.mkR; rw [h1]; rfl⟩
theorem Gu.mk_no {l : List Pc} {c : Ct} (h : Gu.okL l = true) (h2 : Gu.can l c = false) : Gu.mkC l c = 5 ∧ Gu.mkR l c = [] := by
  have h1 : Gu.mkC l c = 5 := by unfold Gu.mkC; rw [h, h2]; rfl
  exact ⟨h1, by unfold Gu.mkR; rw [h1]; rfl⟩
theorem Gu.mk_yes {l : List Pc} {c : Ct} (h : Gu.okL l = true) (h2 : Gu.can l c = true) : Gu.mkC l c = 0 ∧ Gu.mkR l c = Gu.cut l c := by
  have h1 : Gu.mkC l c = 0 := by unfold Gu.mkC; rw [h, h2]; rfl
  exact ⟨h1, by unfold Gu.mkR; rw [h1]; rfl⟩
theorem specLc_any (b o n c B : Nat) (l : List Pc) (i : Int) (a : Bool) (t : Int) (w : World) (h : RdS Pc.S w B (some ⟨b, o, none⟩) n l) (hB : B ≤ w.heap.size) (hok : Gu.okL l = true) (hc : n ≤ c) (hcan : Gu.canP l ⟨i, a, t⟩) :
    Calls Try.prog 42 #[.slice (some ⟨b, o, none⟩) n c, .agg #[.int .i64 i, .bool a, .int .i64 t]] w fun e w' => ∃ A' c', e = .returned (.slice A' (n + 1) c') ∧ OwnS Pc.S w' w.heap.size w'.heap.size (.slice A' (n + 1) c') (Gu.cut l ⟨i, a, t⟩) ∧ Below w.heap.size w w' := by
  obtain ⟨k, rfl⟩ : ∃ k : Nat, i = (k : Int) := ⟨i.toNat, by have := hcan.2.1; simp at this; omega⟩
  cases a
  · exact specLc_along b o n c B k l t w h hB hok hc hcan
  · exact specLc_across b o n c B k l t w h hB hok hc hcan
theorem implAf_any (b o n c B : Nat) (l : List Pc) (i : Int) (a : Bool) (t : Int) (w : World) (h : RdS Pc.S w B (some ⟨b, o, none⟩) n l) (hB : B ≤ w.heap.size) (hok : Gu.okL l = true) (hc : n ≤ c) (hcan : Gu.canP l ⟨i, a, t⟩) :
    Calls Try.prog 43 #[.slice (some ⟨b, o, none⟩) n c, .agg #[.int .i64 i, .bool a, .int .i64 t]] w fun e w' => ∃ A' c', e = .returned (.slice A' (n + 1) c') ∧ OwnS Pc.S w' w.heap.size w'.heap.size (.slice A' (n + 1) c') (Gu.cut l ⟨i, a, t⟩) ∧ Below w.heap.size w w' := by
  obtain ⟨k, rfl⟩ : ∃ k : Nat, i = (k : Int) := ⟨i.toNat, by have := hcan.2.1; simp at this; omega⟩
  exact after_any b o n c B k l a t w h hB hok hc hcan

set_option maxRecDepth 100000 in
set_option maxHeartbeats 2000000 in
theorem implCc_any (b o n c B : Nat) (l : List Pc) (i : Int) (a : Bool) (t : Int) (q : Bool) (w : World) (h : RdS Pc.S w B (some ⟨b, o, none⟩) n l) (hB : B ≤ w.heap.size) (hn : n ≤ 1048577) (hq : Gu.ccB l ⟨i, a, t⟩ = q) :
    Calls Try.prog 17 #[.slice (some ⟨b, o, none⟩) n c, .agg #[.int .i64 i, .bool a, .int .i64 t]] w fun e w' => e = .returned (.bool q) ∧ Below w.heap.size w w' := by
  have HQ := Lib.hid hq
  clear hq
  have HBx := Lib.hid (below_new9 w (.cells #[.int .i64 i, .bool a, .int .i64 t] 35))
  have Bx0 := Lib.hid (Blk.new (w := w) (g := w.heap.size) #[.int .i64 i, .bool a, .int .i64 t] 35 rfl)
  have hr0 := h.alloc hB (.cells #[.int .i64 i, .bool a, .int .i64 t] 35)
  have hz0 : w.heap.size + 1 = (w.alloc (.cells #[.int .i64 i, .bool a, .int .i64 t] 35)).heap.size := by simp
  have HB0 := HBx
  obtain ⟨d, hd⟩ : ∃ d, Gu.okL l = d := ⟨_, rfl⟩
  obtain ⟨d2, hd2⟩ : ∃ d, Gu.can l ⟨i, a, t⟩ = d := ⟨_, rfl⟩
  have HD := Lib.hid hd
  have HD2 := Lib.hid hd2
  clear hd hd2
  cases d
  · go_enter Try.func17, Try.ntmps17
    go_wp2_with fail
    refine (implL9_any (some ⟨b, o, none⟩) n c B l false _ hr0 (by omega) hn HD.out).mono ?_
    rintro e w1 ⟨rfl, hb1⟩
    have z1 : w.heap.size + 1 ≤ w1.heap.size := by have h_ := hb1.size; omega
    have HB1 := Lib.hid (HB0.out.trans (hb1.mono (by omega)))
    have Bx1 := Lib.hid (Bx0.out.below hb1 (by omega))
    have c1_0 := Bx1.out.cell 0 (v := .int .i64 i) rfl
    have c1_1 := Bx1.out.cell 1 (v := .bool a) rfl
    have c1_2 := Bx1.out.cell 2 (v := .int .i64 t) rfl
    have hr1 := hr0.below hb1 (by omega)
    clear hb1
    go_wp2_with fail
    go_ret
    exact ⟨ret_b (by rw [← HQ.out]; exact (Gu.cc_no HD.out).symm), HB1.out⟩
  · go_enter Try.func17, Try.ntmps17
    go_wp2_with fail
    refine (implL9_any (some ⟨b, o, none⟩) n c B l true _ hr0 (by omega) hn HD.out).mono ?_
    rintro e w1 ⟨rfl, hb1⟩
    have z1 : w.heap.size + 1 ≤ w1.heap.size := by have h_ := hb1.size; omega
    have HB1 := Lib.hid (HB0.out.trans (hb1.mono (by omega)))
    have Bx1 := Lib.hid (Bx0.out.below hb1 (by omega))
    have c1_0 := Bx1.out.cell 0 (v := .int .i64 i) rfl
    have c1_1 := Bx1.out.cell 1 (v := .bool a) rfl
    have c1_2 := Bx1.out.cell 2 (v := .int .i64 t) rfl
    have hr1 := hr0.below hb1 (by omega)
    clear hb1
    go_wp2_with fail
    refine (allows_any (some ⟨b, o, none⟩) n c B l i a t d2 _ hr1 (by omega) hn HD2.out).mono ?_
    rintro e w2 ⟨rfl, hb2⟩
    have HB2 := Lib.hid (HB1.out.trans (hb2.mono (by omega)))
    go_wp2_with fail
    go_ret
    exact ⟨ret_b (by rw [← HQ.out]; exact (Gu.cc_of HD.out HD2.out).symm), HB2.out⟩

set_option maxRecDepth 100000 in
set_option maxHeartbeats 2000000 in
theorem specMc_any (b o n c B : Nat) (l : List Pc) (i : Int) (a : Bool) (t : Int) (R : List Pc) (Cd : Int) (w : World) (h : RdS Pc.S w B (some ⟨b, o, none⟩) n l) (hB : B ≤ w.heap.size) (hn : n ≤ 1048576) (hc : n ≤ c) (hR : Gu.mkR l ⟨i, a, t⟩ = R) (hC : Gu.mkC l ⟨i, a, t⟩ = Cd) :
    Calls Try.prog 19 #[.slice (some ⟨b, o, none⟩) n c, .agg #[.int .i64 i, .bool a, .int .i64 t]] w fun e w' => PcC w R Cd e w' := by
  have HQ := Lib.hid (And.intro hC hR)
  clear hC hR
  have HBx := Lib.hid (below_new9 w (.cells #[.int .i64 i, .bool a, .int .i64 t] 35))
  have Bx0 := Lib.hid (Blk.new (w := w) (g := w.heap.size) #[.int .i64 i, .bool a, .int .i64 t] 35 rfl)
  have hr0 := h.alloc hB (.cells #[.int .i64 i, .bool a, .int .i64 t] 35)
  have hz0 : w.heap.size + 1 = (w.alloc (.cells #[.int .i64 i, .bool a, .int .i64 t] 35)).heap.size := by simp
  have HB0 := HBx
  obtain ⟨d, hd⟩ : ∃ d, Gu.okL l = d := ⟨_, rfl⟩
  obtain ⟨d2, hd2⟩ : ∃ d, Gu.can l ⟨i, a, t⟩ = d := ⟨_, rfl⟩
  have HD := Lib.hid hd
  have HD2 := Lib.hid hd2
  clear hd hd2
  cases d
  · have HE := Lib.hid (Gu.mk_inv (c := ⟨i, a, t⟩) HD.out)
    go_enter Try.func19, Try.ntmps19
    go_wp2_with fail
    refine (specL9_any (some ⟨b, o, none⟩) n c B l false _ hr0 (by omega) (by omega) HD.out).mono ?_
    rintro e w1 ⟨rfl, hb1⟩
    have z1 : w.heap.size + 1 ≤ w1.heap.size := by have h_ := hb1.size; omega
    have HB1 := Lib.hid (HB0.out.trans (hb1.mono (by omega)))
    have Bx1 := Lib.hid (Bx0.out.below hb1 (by omega))
    have c1_0 := Bx1.out.cell 0 (v := .int .i64 i) rfl
    have c1_1 := Bx1.out.cell 1 (v := .bool a) rfl
    have c1_2 := Bx1.out.cell 2 (v := .int .i64 t) rfl
    have hr1 := hr0.below hb1 (by omega)
    clear hb1
    go_wp2_with fail
    go_ret2
    exact PcC.nil_ (by rw [← HQ.out.2, HE.out.2]) (by rw [← HQ.out.1, HE.out.1]) HB1.out
  · cases d2
    · have HE := Lib.hid (Gu.mk_no (c := ⟨i, a, t⟩) HD.out HD2.out)
      go_enter Try.func19, Try.ntmps19
      go_wp2_with fail
      refine (specL9_any (some ⟨b, o, none⟩) n c B l true _ hr0 (by omega) (by omega) HD.out).mono ?_
      rintro e w1 ⟨rfl, hb1⟩
      have z1 : w.heap.size + 1 ≤ w1.heap.size := by have h_ := hb1.size; omega
      have HB1 := Lib.hid (HB0.out.trans (hb1.mono (by omega)))
      have Bx1 := Lib.hid (Bx0.out.below hb1 (by omega))
      have c1_0 := Bx1.out.cell 0 (v := .int .i64 i) rfl
      have c1_1 := Bx1.out.cell 1 (v := .bool a) rfl
      have c1_2 := Bx1.out.cell 2 (v := .int .i64 t) rfl
      have hr1 := hr0.below hb1 (by omega)
      clear hb1
      go_wp2_with fail
      refine (specCc_any (some ⟨b, o, none⟩) n c B l i a t false _ hr1 (by omega) (by omega) (Gu.cc_of HD.out HD2.out)).mono ?_
      rintro e w2 ⟨rfl, hb2⟩
      have HB2 := Lib.hid (HB1.out.trans (hb2.mono (by omega)))
      go_wp2_with fail
      go_ret2
      exact PcC.nil_ (by rw [← HQ.out.2, HE.out.2]) (by rw [← HQ.out.1, HE.out.1]) HB2.out
    · have HE := Lib.hid (Gu.mk_yes (c := ⟨i, a, t⟩) HD.out HD2.out)
      have h80 : n < 80 := by have h80_ := (Gu.can_iff.1 HD2.out).1; have := h.1; omega
      go_enter Try.func19, Try.ntmps19
      go_wp2_with fail
      refine (specL9_any (some ⟨b, o, none⟩) n c B l true _ hr0 (by omega) (by omega) HD.out).mono ?_
      rintro e w1 ⟨rfl, hb1⟩
      have z1 : w.heap.size + 1 ≤ w1.heap.size := by have h_ := hb1.size; omega
      have HB1 := Lib.hid (HB0.out.trans (hb1.mono (by omega)))
      have Bx1 := Lib.hid (Bx0.out.below hb1 (by omega))
      have c1_0 := Bx1.out.cell 0 (v := .int .i64 i) rfl
      have c1_1 := Bx1.out.cell 1 (v := .bool a) rfl
      have c1_2 := Bx1.out.cell 2 (v := .int .i64 t) rfl
      have hr1 := hr0.below hb1 (by omega)
      clear hb1
      go_wp2_with fail
      refine (specCc_any (some ⟨b, o, none⟩) n c B l i a t true _ hr1 (by omega) (by omega) (Gu.cc_of HD.out HD2.out)).mono ?_
      rintro e w2 ⟨rfl, hb2⟩
      have z2 : w.heap.size + 1 ≤ w2.heap.size := Nat.le_trans z1 hb2.size
      have HB2 := Lib.hid (HB1.out.trans (hb2.mono (by omega)))
      have Bx2 := Lib.hid (Bx1.out.below hb2 (by omega))
      have c2_0 := Bx2.out.cell 0 (v := .int .i64 i) rfl
      have c2_1 := Bx2.out.cell 1 (v := .bool a) rfl
      have c2_2 := Bx2.out.cell 2 (v := .int .i64 t) rfl
      have hr2 := hr1.below hb2 (by omega)
      clear c1_0 c1_1 c1_2
      clear hb2
      go_wp2_with fail
      refine (specLc_any b o n c B l i a t _ hr2 (by omega) HD.out hc (Gu.can_iff.1 HD2.out)).mono ?_
      rintro e w3 ⟨A3, c3, rfl, ho3, hb3⟩
      have HB3 := Lib.hid (HB2.out.trans (hb3.mono (by omega)))
      have HO := Lib.hid ho3
      clear ho3 hb3
      go_wp2_with fail
      go_ret2
      exact PcC.mk_ (by rw [← HQ.out.2, HE.out.2]) (by rw [← HQ.out.1, HE.out.1]) HO.out (by omega) (Nat.le_refl _) (by omega) HB3.out

set_option maxRecDepth 100000 in
set_option maxHeartbeats 2000000 in
theorem implMc_any (b o n c B : Nat) (l : List Pc) (i : Int) (a : Bool) (t : Int) (R : List Pc) (Cd : Int) (w : World) (h : RdS Pc.S w B (some ⟨b, o, none⟩) n l) (hB : B ≤ w.heap.size) (hn : n ≤ 1048576) (hc : n ≤ c) (hR : Gu.mkR l ⟨i, a, t⟩ = R) (hC : Gu.mkC l ⟨i, a, t⟩ = Cd) :
    Calls Try.prog 20 #[.slice (some ⟨b, o, none⟩) n c, .agg #[.int .i64 i, .bool a, .int .i64 t]] w fun e w' => PcC w R Cd e w' := by
  have HQ := Lib.hid (And.intro hC hR)
  clear hC hR
  have HBx := Lib.hid (below_new9 w (.cells #[.int .i64 i, .bool a, .int .i64 t] 35))
  have Bx0 := Lib.hid (Blk.new (w := w) (g := w.heap.size) #[.int .i64 i, .bool a, .int .i64 t] 35 rfl)
  have hr0 := h.alloc hB (.cells #[.int .i64 i, .bool a, .int .i64 t] 35)
  have hz0 : w.heap.size + 1 = (w.alloc (.cells #[.int .i64 i, .bool a, .int .i64 t] 35)).heap.size := by simp
  have HB0 := HBx
  obtain ⟨d, hd⟩ : ∃ d, Gu.okL l = d := ⟨_, rfl⟩
  obtain ⟨d2, hd2⟩ : ∃ d, Gu.can l ⟨i, a, t⟩ = d := ⟨_, rfl⟩
  have HD := Lib.hid hd
  have HD2 := Lib.hid hd2
  clear hd hd2
  cases d
  · have HE := Lib.hid (Gu.mk_inv (c := ⟨i, a, t⟩) HD.out)
    go_enter Try.func20, Try.ntmps20
    go_wp2_with fail
    refine (implL9_any (some ⟨b, o, none⟩) n c B l false _ hr0 (by omega) (by omega) HD.out).mono ?_
    rintro e w1 ⟨rfl, hb1⟩
    have z1 : w.heap.size + 1 ≤ w1.heap.size := by have h_ := hb1.size; omega
    have HB1 := Lib.hid (HB0.out.trans (hb1.mono (by omega)))
    have Bx1 := Lib.hid (Bx0.out.below hb1 (by omega))
    have c1_0 := Bx1.out.cell 0 (v := .int .i64 i) rfl
    have c1_1 := Bx1.out.cell 1 (v := .bool a) rfl
    have c1_2 := Bx1.out.cell 2 (v := .int .i64 t) rfl
    have hr1 := hr0.below hb1 (by omega)
    clear hb1
    go_wp2_with fail
    go_ret2
    exact PcC.nil_ (by rw [← HQ.out.2, HE.out.2]) (by rw [← HQ.out.1, HE.out.1]) HB1.out
  · cases d2
    · have HE := Lib.hid (Gu.mk_no (c := ⟨i, a, t⟩) HD.out HD2.out)
      go_enter Try.func20, Try.ntmps20
      go_wp2_with fail
      refine (implL9_any (some ⟨b, o, none⟩) n c B l true _ hr0 (by omega) (by omega) HD.out).mono ?_
      rintro e w1 ⟨rfl, hb1⟩
      have z1 : w.heap.size + 1 ≤ w1.heap.size := by have h_ := hb1.size; omega
      have HB1 := Lib.hid (HB0.out.trans (hb1.mono (by omega)))
      have Bx1 := Lib.hid (Bx0.out.below hb1 (by omega))
      have c1_0 := Bx1.out.cell 0 (v := .int .i64 i) rfl
      have c1_1 := Bx1.out.cell 1 (v := .bool a) rfl
      have c1_2 := Bx1.out.cell 2 (v := .int .i64 t) rfl
      have hr1 := hr0.below hb1 (by omega)
      clear hb1
      go_wp2_with fail
      refine (allows_any (some ⟨b, o, none⟩) n c B l i a t false _ hr1 (by omega) (by omega) HD2.out).mono ?_
      rintro e w2 ⟨rfl, hb2⟩
      have HB2 := Lib.hid (HB1.out.trans (hb2.mono (by omega)))
      go_wp2_with fail
      go_ret2
      exact PcC.nil_ (by rw [← HQ.out.2, HE.out.2]) (by rw [← HQ.out.1, HE.out.1]) HB2.out
    · have HE := Lib.hid (Gu.mk_yes (c := ⟨i, a, t⟩) HD.out HD2.out)
      have h80 : n < 80 := by have h80_ := (Gu.can_iff.1 HD2.out).1; have := h.1; omega
      go_enter Try.func20, Try.ntmps20
      go_wp2_with fail
      refine (implL9_any (some ⟨b, o, none⟩) n c B l true _ hr0 (by omega) (by omega) HD.out).mono ?_
      rintro e w1 ⟨rfl, hb1⟩
      have z1 : w.heap.size + 1 ≤ w1.heap.size := by have h_ := hb1.size; omega
      have HB1 := Lib.hid (HB0.out.trans (hb1.mono (by omega)))
      have Bx1 := Lib.hid (Bx0.out.below hb1 (by omega))
      have c1_0 := Bx1.out.cell 0 (v := .int .i64 i) rfl
      have c1_1 := Bx1.out.cell 1 (v := .bool a) rfl
      have c1_2 := Bx1.out.cell 2 (v := .int .i64 t) rfl
      have hr1 := hr0.below hb1 (by omega)
      clear hb1
      go_wp2_with fail
      refine (allows_any (some ⟨b, o, none⟩) n c B l i a t true _ hr1 (by omega) (by omega) HD2.out).mono ?_
      rintro e w2 ⟨rfl, hb2⟩
      have z2 : w.heap.size + 1 ≤ w2.heap.size := Nat.le_trans z1 hb2.size
      have HB2 := Lib.hid (HB1.out.trans (hb2.mono (by omega)))
      have Bx2 := Lib.hid (Bx1.out.below hb2 (by omega))
      have c2_0 := Bx2.out.cell 0 (v := .int .i64 i) rfl
      have c2_1 := Bx2.out.cell 1 (v := .bool a) rfl
      have c2_2 := Bx2.out.cell 2 (v := .int .i64 t) rfl
      have hr2 := hr1.below hb2 (by omega)
      clear c1_0 c1_1 c1_2
      clear hb2
      go_wp2_with fail
      refine (implAf_any b o n c B l i a t _ hr2 (by omega) HD.out hc (Gu.can_iff.1 HD2.out)).mono ?_
      rintro e w3 ⟨A3, c3, rfl, ho3, hb3⟩
      have HB3 := Lib.hid (HB2.out.trans (hb3.mono (by omega)))
      have HO := Lib.hid ho3
      clear ho3 hb3
      go_wp2_with fail
      go_ret2
      exact PcC.mk_ (by rw [← HQ.out.2, HE.out.2]) (by rw [← HQ.out.1, HE.out.1]) HO.out (by omega) (Nat.le_refl _) (by omega) HB3.out

end Go.Proofs.Ytpidcbbpcgbfiaa

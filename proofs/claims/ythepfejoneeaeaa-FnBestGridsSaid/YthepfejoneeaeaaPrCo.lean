/- Contracts of WasteArea and CornerOf, the program's and the model's. -/
import Derived.Test.YthepfejoneeaeaaPrGd
import Derived.BigQuiet
import Derived.Deep.QuietTactic
namespace Go.Proofs.Ythepfejoneeaeaa
open Go.RowKit

theorem sz_drew {w V : World} (h : Below w.drew.heap.size w.drew V) : w.heap.size ≤ V.heap.size := h.size

set_option maxRecDepth 100000 in
set_option maxHeartbeats 2000000 in
theorem specWs_any (a b g c d e f x k : Int) (r : Bool) (w : World) (hx : Pr.wsR a b g c d e f = x) (hk : Pr.gdC a b g c d e f = k) :
    Calls Try.prog 21 #[PV a b g r, TV c d e f] w fun e' w' => e' = .returned (.tuple #[.int .i64 x, .int .i64 k]) ∧ Below w.heap.size w w' := by
  have HK := Lib.hid hk
  rcases Pr.gd_cases a b g c d e f with ⟨hg, hp, ht, n1, n2, hr, hs, hc, _⟩ | ⟨hg, hp, ht, hz, hr, hs, hc, _⟩ | ⟨hg, hb, hr, hs, hc⟩
  · obtain rfl : (0 : Int) = k := hc.symm.trans hk
    obtain ⟨X, hX⟩ : ∃ X, Pr.ct a c e f = X := ⟨_, rfl⟩
    obtain ⟨Y, hY⟩ : ∃ Y, Pr.ct (b - g) d e f = Y := ⟨_, rfl⟩
    obtain ⟨p, q, u, s, hpp, hqq, huu, hss, pb, qb, ub, sb⟩ := Pr.ws_bd hp ht hX hY (by rw [← hX]; exact n1) (by rw [← hY]; exact n2)
    have hxx : s - u = x := by rw [← hx]; unfold Pr.wsR; rw [if_pos hg, hX, hY, hpp, hqq, huu, hss]
    have e1 : IntKind.i64.wrap (a * b) = s := by rw [hss]; exact IntWalk.i64_in _ (by omega)
    have e2 : IntKind.i64.wrap (X * Y) = p := by rw [hpp]; exact IntWalk.i64_in _ (by omega)
    have e3 : IntKind.i64.wrap (p * c) = q := by rw [hqq]; exact IntWalk.i64_in _ (by omega)
    have e4 : IntKind.i64.wrap (q * d) = u := by rw [huu]; exact IntWalk.i64_in _ (by omega)
    have e5 : IntKind.i64.wrap (s - u) = x := by rw [hxx]; exact IntWalk.i64_in _ (by omega)
    have HX := Lib.hid hX
    have HY := Lib.hid hY
    have HR := Lib.hid (hr.trans hX)
    have HS := Lib.hid (hs.trans hY)
    have Q1 := Lib.hid hp
    have Q2 := Lib.hid ht
    clear hx hk hp ht hr hs hc hX hY hg hpp hqq huu hss hxx n1 n2
    have B0_0 := Lib.hid ((Blk.new (w := w) (g := w.heap.size) #[.int .i64 a, .int .i64 b, .int .i64 g, .bool r] 25 (by simp)).alloc (.cells #[.int .i64 c, .int .i64 d, .int .i64 e, .int .i64 f] 27))
    have B0_1 := Lib.hid (Blk.new (w := (w.alloc (.cells #[.int .i64 a, .int .i64 b, .int .i64 g, .bool r] 25))) (g := w.heap.size + 1) #[.int .i64 c, .int .i64 d, .int .i64 e, .int .i64 f] 27 (by simp))
    have HB0 := Lib.hid ((below_new w (.cells #[.int .i64 a, .int .i64 b, .int .i64 g, .bool r] 25)).alloc (by simp <;> omega) (.cells #[.int .i64 c, .int .i64 d, .int .i64 e, .int .i64 f] 27))
    have Z0 : ((w.alloc (.cells #[.int .i64 a, .int .i64 b, .int .i64 g, .bool r] 25)).alloc (.cells #[.int .i64 c, .int .i64 d, .int .i64 e, .int .i64 f] 27)).heap.size = w.heap.size + 2 := by simp
    have HZ0 := Lib.hid Z0
    clear Z0
    go_enter Try.func21, Try.ntmps21
    go_wp2_with fail
    refine (specCode8_any a b g c d e f 0 r _ HK.out).mono ?_
    rintro e' w1 ⟨rfl, hb1⟩
    have z1 : w.heap.size + 2 ≤ w1.heap.size := by have h_ := hb1.size; rw [HZ0.out] at h_; exact h_
    have HB1 := Lib.hid (HB0.out.trans (hb1.mono (by rw [HZ0.out]; omega)))
    have B1_0 := Lib.hid (B0_0.out.below hb1 (by rw [HZ0.out]; omega))
    have c1_0_0 := B1_0.out.cell 0 (v := .int .i64 a) rfl
    have c1_0_1 := B1_0.out.cell 1 (v := .int .i64 b) rfl
    have c1_0_2 := B1_0.out.cell 2 (v := .int .i64 g) rfl
    have c1_0_3 := B1_0.out.cell 3 (v := .bool r) rfl
    have B1_1 := Lib.hid (B0_1.out.below hb1 (by rw [HZ0.out]; omega))
    have c1_1_0 := B1_1.out.cell 0 (v := .int .i64 c) rfl
    have c1_1_1 := B1_1.out.cell 1 (v := .int .i64 d) rfl
    have c1_1_2 := B1_1.out.cell 2 (v := .int .i64 e) rfl
    have c1_1_3 := B1_1.out.cell 3 (v := .int .i64 f) rfl
    clear hb1
    go_wp2_with fail
    refine (specGrid_any a b g c d e f X Y r _ Q1.out Q2.out HX.out HY.out).mono ?_
    rintro e' w2 ⟨rfl, hb2⟩
    have z2 : w.heap.size + 2 ≤ w2.heap.size := Nat.le_trans z1 hb2.size
    have HB2 := Lib.hid (HB1.out.trans (hb2.mono (by omega)))
    clear c1_0_0 c1_0_1 c1_0_2 c1_0_3 c1_1_0 c1_1_1 c1_1_2 c1_1_3
    have B2_0 := Lib.hid (B1_0.out.below hb2 (by omega))
    have c2_0_0 := B2_0.out.cell 0 (v := .int .i64 a) rfl
    have c2_0_1 := B2_0.out.cell 1 (v := .int .i64 b) rfl
    have c2_0_2 := B2_0.out.cell 2 (v := .int .i64 g) rfl
    have c2_0_3 := B2_0.out.cell 3 (v := .bool r) rfl
    have B2_1 := Lib.hid (B1_1.out.below hb2 (by omega))
    have c2_1_0 := B2_1.out.cell 0 (v := .int .i64 c) rfl
    have c2_1_1 := B2_1.out.cell 1 (v := .int .i64 d) rfl
    have c2_1_2 := B2_1.out.cell 2 (v := .int .i64 e) rfl
    have c2_1_3 := B2_1.out.cell 3 (v := .int .i64 f) rfl
    clear hb2
    go_wp2_with fail
    go_ret2
    exact ⟨rfl, HB2.out⟩
  · obtain rfl : (4 : Int) = k := hc.symm.trans hk
    obtain rfl : 0 = x := by rw [← hx]; unfold Pr.wsR; rw [hg]; rfl
    have HR := Lib.hid hr
    have HS := Lib.hid hs
    clear hx hk hr hs hc hg hp ht hz
    have B0_0 := Lib.hid ((Blk.new (w := w) (g := w.heap.size) #[.int .i64 a, .int .i64 b, .int .i64 g, .bool r] 25 (by simp)).alloc (.cells #[.int .i64 c, .int .i64 d, .int .i64 e, .int .i64 f] 27))
    have B0_1 := Lib.hid (Blk.new (w := (w.alloc (.cells #[.int .i64 a, .int .i64 b, .int .i64 g, .bool r] 25))) (g := w.heap.size + 1) #[.int .i64 c, .int .i64 d, .int .i64 e, .int .i64 f] 27 (by simp))
    have HB0 := Lib.hid ((below_new w (.cells #[.int .i64 a, .int .i64 b, .int .i64 g, .bool r] 25)).alloc (by simp <;> omega) (.cells #[.int .i64 c, .int .i64 d, .int .i64 e, .int .i64 f] 27))
    have Z0 : ((w.alloc (.cells #[.int .i64 a, .int .i64 b, .int .i64 g, .bool r] 25)).alloc (.cells #[.int .i64 c, .int .i64 d, .int .i64 e, .int .i64 f] 27)).heap.size = w.heap.size + 2 := by simp
    have HZ0 := Lib.hid Z0
    clear Z0
    go_enter Try.func21, Try.ntmps21
    go_wp2_with fail
    refine (specCode8_any a b g c d e f 4 r _ HK.out).mono ?_
    rintro e' w1 ⟨rfl, hb1⟩
    have z1 : w.heap.size + 2 ≤ w1.heap.size := by have h_ := hb1.size; rw [HZ0.out] at h_; exact h_
    have HB1 := Lib.hid (HB0.out.trans (hb1.mono (by rw [HZ0.out]; omega)))
    have B1_0 := Lib.hid (B0_0.out.below hb1 (by rw [HZ0.out]; omega))
    have c1_0_0 := B1_0.out.cell 0 (v := .int .i64 a) rfl
    have c1_0_1 := B1_0.out.cell 1 (v := .int .i64 b) rfl
    have c1_0_2 := B1_0.out.cell 2 (v := .int .i64 g) rfl
    have c1_0_3 := B1_0.out.cell 3 (v := .bool r) rfl
    have B1_1 := Lib.hid (B0_1.out.below hb1 (by rw [HZ0.out]; omega))
    have c1_1_0 := B1_1.out.cell 0 (v := .int .i64 c) rfl
    have c1_1_1 := B1_1.out.cell 1 (v := .int .i64 d) rfl
    have c1_1_2 := B1_1.out.cell 2 (v := .int .i64 e) rfl
    have c1_1_3 := B1_1.out.cell 3 (v := .int .i64 f) rfl
    clear hb1
    go_wp2_with fail
    go_ret2
    exact ⟨rfl, HB1.out⟩
  · obtain rfl : (1 : Int) = k := hc.symm.trans hk
    obtain rfl : 0 = x := by rw [← hx]; unfold Pr.wsR; rw [hg]; rfl
    have HR := Lib.hid hr
    have HS := Lib.hid hs
    clear hx hk hr hs hc hg hb
    have B0_0 := Lib.hid ((Blk.new (w := w) (g := w.heap.size) #[.int .i64 a, .int .i64 b, .int .i64 g, .bool r] 25 (by simp)).alloc (.cells #[.int .i64 c, .int .i64 d, .int .i64 e, .int .i64 f] 27))
    have B0_1 := Lib.hid (Blk.new (w := (w.alloc (.cells #[.int .i64 a, .int .i64 b, .int .i64 g, .bool r] 25))) (g := w.heap.size + 1) #[.int .i64 c, .int .i64 d, .int .i64 e, .int .i64 f] 27 (by simp))
    have HB0 := Lib.hid ((below_new w (.cells #[.int .i64 a, .int .i64 b, .int .i64 g, .bool r] 25)).alloc (by simp <;> omega) (.cells #[.int .i64 c, .int .i64 d, .int .i64 e, .int .i64 f] 27))
    have Z0 : ((w.alloc (.cells #[.int .i64 a, .int .i64 b, .int .i64 g, .bool r] 25)).alloc (.cells #[.int .i64 c, .int .i64 d, .int .i64 e, .int .i64 f] 27)).heap.size = w.heap.size + 2 := by simp
    have HZ0 := Lib.hid Z0
    clear Z0
    go_enter Try.func21, Try.ntmps21
    go_wp2_with fail
    refine (specCode8_any a b g c d e f 1 r _ HK.out).mono ?_
    rintro e' w1 ⟨rfl, hb1⟩
    have z1 : w.heap.size + 2 ≤ w1.heap.size := by have h_ := hb1.size; rw [HZ0.out] at h_; exact h_
    have HB1 := Lib.hid (HB0.out.trans (hb1.mono (by rw [HZ0.out]; omega)))
    have B1_0 := Lib.hid (B0_0.out.below hb1 (by rw [HZ0.out]; omega))
    have c1_0_0 := B1_0.out.cell 0 (v := .int .i64 a) rfl
    have c1_0_1 := B1_0.out.cell 1 (v := .int .i64 b) rfl
    have c1_0_2 := B1_0.out.cell 2 (v := .int .i64 g) rfl
    have c1_0_3 := B1_0.out.cell 3 (v := .bool r) rfl
    have B1_1 := Lib.hid (B0_1.out.below hb1 (by rw [HZ0.out]; omega))
    have c1_1_0 := B1_1.out.cell 0 (v := .int .i64 c) rfl
    have c1_1_1 := B1_1.out.cell 1 (v := .int .i64 d) rfl
    have c1_1_2 := B1_1.out.cell 2 (v := .int .i64 e) rfl
    have c1_1_3 := B1_1.out.cell 3 (v := .int .i64 f) rfl
    clear hb1
    go_wp2_with fail
    go_ret2
    exact ⟨rfl, HB1.out⟩

set_option maxRecDepth 100000 in
set_option maxHeartbeats 2000000 in
theorem implWs_any (a b g c d e f x k : Int) (r : Bool) (w : World) (hx : Pr.wsR a b g c d e f = x) (hk : Pr.gdC a b g c d e f = k) :
    Calls Try.prog 20 #[PV a b g r, TV c d e f] w fun e' w' => e' = .returned (.tuple #[.int .i64 x, .int .i64 k]) ∧ Below w.heap.size w w' := by
  have HK := Lib.hid hk
  rcases Pr.gd_cases a b g c d e f with ⟨hg, hp, ht, n1, n2, hr, hs, hc, _⟩ | ⟨hg, hp, ht, hz, hr, hs, hc, _⟩ | ⟨hg, hb, hr, hs, hc⟩
  · obtain rfl : (0 : Int) = k := hc.symm.trans hk
    obtain ⟨X, hX⟩ : ∃ X, Pr.ct a c e f = X := ⟨_, rfl⟩
    obtain ⟨Y, hY⟩ : ∃ Y, Pr.ct (b - g) d e f = Y := ⟨_, rfl⟩
    obtain ⟨p, q, u, s, hpp, hqq, huu, hss, pb, qb, ub, sb⟩ := Pr.ws_bd hp ht hX hY (by rw [← hX]; exact n1) (by rw [← hY]; exact n2)
    have hxx : s - u = x := by rw [← hx]; unfold Pr.wsR; rw [if_pos hg, hX, hY, hpp, hqq, huu, hss]
    have e1 : IntKind.i64.wrap (a * b) = s := by rw [hss]; exact IntWalk.i64_in _ (by omega)
    have e2 : IntKind.i64.wrap (X * Y) = p := by rw [hpp]; exact IntWalk.i64_in _ (by omega)
    have e3 : IntKind.i64.wrap (p * c) = q := by rw [hqq]; exact IntWalk.i64_in _ (by omega)
    have e4 : IntKind.i64.wrap (q * d) = u := by rw [huu]; exact IntWalk.i64_in _ (by omega)
    have e5 : IntKind.i64.wrap (s - u) = x := by rw [hxx]; exact IntWalk.i64_in _ (by omega)
    have HX := Lib.hid hX
    have HY := Lib.hid hY
    have HR := Lib.hid (hr.trans hX)
    have HS := Lib.hid (hs.trans hY)
    have Q1 := Lib.hid hp
    have Q2 := Lib.hid ht
    clear hx hk hp ht hr hs hc hX hY hg hpp hqq huu hss hxx n1 n2
    have B0_0 := Lib.hid ((Blk.new (w := w) (g := w.heap.size) #[.int .i64 a, .int .i64 b, .int .i64 g, .bool r] 25 (by simp)).alloc (.cells #[.int .i64 c, .int .i64 d, .int .i64 e, .int .i64 f] 27))
    have B0_1 := Lib.hid (Blk.new (w := (w.alloc (.cells #[.int .i64 a, .int .i64 b, .int .i64 g, .bool r] 25))) (g := w.heap.size + 1) #[.int .i64 c, .int .i64 d, .int .i64 e, .int .i64 f] 27 (by simp))
    have HB0 := Lib.hid ((below_new w (.cells #[.int .i64 a, .int .i64 b, .int .i64 g, .bool r] 25)).alloc (by simp <;> omega) (.cells #[.int .i64 c, .int .i64 d, .int .i64 e, .int .i64 f] 27))
    have Z0 : ((w.alloc (.cells #[.int .i64 a, .int .i64 b, .int .i64 g, .bool r] 25)).alloc (.cells #[.int .i64 c, .int .i64 d, .int .i64 e, .int .i64 f] 27)).heap.size = w.heap.size + 2 := by simp
    have HZ0 := Lib.hid Z0
    clear Z0
    go_enter Try.func20, Try.ntmps20
    go_wp2_with fail
    refine (implGd_any a b g c d e f X Y 0 r _ HR.out HS.out HK.out).mono ?_
    rintro e' w1 ⟨rfl, hb1⟩
    have z1 : w.heap.size + 2 ≤ w1.heap.size := by have h_ := hb1.size; rw [HZ0.out] at h_; exact h_
    have HB1 := Lib.hid (HB0.out.trans (hb1.mono (by rw [HZ0.out]; omega)))
    have B1_0 := Lib.hid (B0_0.out.below hb1 (by rw [HZ0.out]; omega))
    have c1_0_0 := B1_0.out.cell 0 (v := .int .i64 a) rfl
    have c1_0_1 := B1_0.out.cell 1 (v := .int .i64 b) rfl
    have c1_0_2 := B1_0.out.cell 2 (v := .int .i64 g) rfl
    have c1_0_3 := B1_0.out.cell 3 (v := .bool r) rfl
    have B1_1 := Lib.hid (B0_1.out.below hb1 (by rw [HZ0.out]; omega))
    have c1_1_0 := B1_1.out.cell 0 (v := .int .i64 c) rfl
    have c1_1_1 := B1_1.out.cell 1 (v := .int .i64 d) rfl
    have c1_1_2 := B1_1.out.cell 2 (v := .int .i64 e) rfl
    have c1_1_3 := B1_1.out.cell 3 (v := .int .i64 f) rfl
    clear hb1
    go_wp2_with fail
    go_ret2
    exact ⟨rfl, HB1.out⟩
  · obtain rfl : (4 : Int) = k := hc.symm.trans hk
    obtain rfl : 0 = x := by rw [← hx]; unfold Pr.wsR; rw [hg]; rfl
    have HR := Lib.hid hr
    have HS := Lib.hid hs
    clear hx hk hr hs hc hg hp ht hz
    have B0_0 := Lib.hid ((Blk.new (w := w) (g := w.heap.size) #[.int .i64 a, .int .i64 b, .int .i64 g, .bool r] 25 (by simp)).alloc (.cells #[.int .i64 c, .int .i64 d, .int .i64 e, .int .i64 f] 27))
    have B0_1 := Lib.hid (Blk.new (w := (w.alloc (.cells #[.int .i64 a, .int .i64 b, .int .i64 g, .bool r] 25))) (g := w.heap.size + 1) #[.int .i64 c, .int .i64 d, .int .i64 e, .int .i64 f] 27 (by simp))
    have HB0 := Lib.hid ((below_new w (.cells #[.int .i64 a, .int .i64 b, .int .i64 g, .bool r] 25)).alloc (by simp <;> omega) (.cells #[.int .i64 c, .int .i64 d, .int .i64 e, .int .i64 f] 27))
    have Z0 : ((w.alloc (.cells #[.int .i64 a, .int .i64 b, .int .i64 g, .bool r] 25)).alloc (.cells #[.int .i64 c, .int .i64 d, .int .i64 e, .int .i64 f] 27)).heap.size = w.heap.size + 2 := by simp
    have HZ0 := Lib.hid Z0
    clear Z0
    go_enter Try.func20, Try.ntmps20
    go_wp2_with fail
    refine (implGd_any a b g c d e f 0 0 4 r _ HR.out HS.out HK.out).mono ?_
    rintro e' w1 ⟨rfl, hb1⟩
    have z1 : w.heap.size + 2 ≤ w1.heap.size := by have h_ := hb1.size; rw [HZ0.out] at h_; exact h_
    have HB1 := Lib.hid (HB0.out.trans (hb1.mono (by rw [HZ0.out]; omega)))
    have B1_0 := Lib.hid (B0_0.out.below hb1 (by rw [HZ0.out]; omega))
    have c1_0_0 := B1_0.out.cell 0 (v := .int .i64 a) rfl
    have c1_0_1 := B1_0.out.cell 1 (v := .int .i64 b) rfl
    have c1_0_2 := B1_0.out.cell 2 (v := .int .i64 g) rfl
    have c1_0_3 := B1_0.out.cell 3 (v := .bool r) rfl
    have B1_1 := Lib.hid (B0_1.out.below hb1 (by rw [HZ0.out]; omega))
    have c1_1_0 := B1_1.out.cell 0 (v := .int .i64 c) rfl
    have c1_1_1 := B1_1.out.cell 1 (v := .int .i64 d) rfl
    have c1_1_2 := B1_1.out.cell 2 (v := .int .i64 e) rfl
    have c1_1_3 := B1_1.out.cell 3 (v := .int .i64 f) rfl
    clear hb1
    go_wp2_with fail
    go_ret2
    exact ⟨rfl, HB1.out⟩
  · obtain rfl : (1 : Int) = k := hc.symm.trans hk
    obtain rfl : 0 = x := by rw [← hx]; unfold Pr.wsR; rw [hg]; rfl
    have HR := Lib.hid hr
    have HS := Lib.hid hs
    clear hx hk hr hs hc hg hb
    have B0_0 := Lib.hid ((Blk.new (w := w) (g := w.heap.size) #[.int .i64 a, .int .i64 b, .int .i64 g, .bool r] 25 (by simp)).alloc (.cells #[.int .i64 c, .int .i64 d, .int .i64 e, .int .i64 f] 27))
    have B0_1 := Lib.hid (Blk.new (w := (w.alloc (.cells #[.int .i64 a, .int .i64 b, .int .i64 g, .bool r] 25))) (g := w.heap.size + 1) #[.int .i64 c, .int .i64 d, .int .i64 e, .int .i64 f] 27 (by simp))
    have HB0 := Lib.hid ((below_new w (.cells #[.int .i64 a, .int .i64 b, .int .i64 g, .bool r] 25)).alloc (by simp <;> omega) (.cells #[.int .i64 c, .int .i64 d, .int .i64 e, .int .i64 f] 27))
    have Z0 : ((w.alloc (.cells #[.int .i64 a, .int .i64 b, .int .i64 g, .bool r] 25)).alloc (.cells #[.int .i64 c, .int .i64 d, .int .i64 e, .int .i64 f] 27)).heap.size = w.heap.size + 2 := by simp
    have HZ0 := Lib.hid Z0
    clear Z0
    go_enter Try.func20, Try.ntmps20
    go_wp2_with fail
    refine (implGd_any a b g c d e f 0 0 1 r _ HR.out HS.out HK.out).mono ?_
    rintro e' w1 ⟨rfl, hb1⟩
    have z1 : w.heap.size + 2 ≤ w1.heap.size := by have h_ := hb1.size; rw [HZ0.out] at h_; exact h_
    have HB1 := Lib.hid (HB0.out.trans (hb1.mono (by rw [HZ0.out]; omega)))
    have B1_0 := Lib.hid (B0_0.out.below hb1 (by rw [HZ0.out]; omega))
    have c1_0_0 := B1_0.out.cell 0 (v := .int .i64 a) rfl
    have c1_0_1 := B1_0.out.cell 1 (v := .int .i64 b) rfl
    have c1_0_2 := B1_0.out.cell 2 (v := .int .i64 g) rfl
    have c1_0_3 := B1_0.out.cell 3 (v := .bool r) rfl
    have B1_1 := Lib.hid (B0_1.out.below hb1 (by rw [HZ0.out]; omega))
    have c1_1_0 := B1_1.out.cell 0 (v := .int .i64 c) rfl
    have c1_1_1 := B1_1.out.cell 1 (v := .int .i64 d) rfl
    have c1_1_2 := B1_1.out.cell 2 (v := .int .i64 e) rfl
    have c1_1_3 := B1_1.out.cell 3 (v := .int .i64 f) rfl
    clear hb1
    go_wp2_with fail
    go_ret2
    exact ⟨rfl, HB1.out⟩

set_option maxRecDepth 100000 in
set_option maxHeartbeats 2000000 in
theorem specCr8_any (a b g c d e f i j x y k : Int) (r : Bool) (w : World) (hx : Pr.crX a b g c d e f i j = x) (hy : Pr.crY a b g c d e f i j = y) (hk : Pr.crC a b g c d e f i j = k) :
    Calls Try.prog 19 #[PV a b g r, TV c d e f, .int .i64 i, .int .i64 j] w fun e' w' => e' = .returned (.tuple #[.int .i64 x, .int .i64 y, .int .i64 k]) ∧ Below w.heap.size w w' := by
  rcases Pr.cr_cases a b g c d e f i j with ⟨X, Y, u, v, _, ⟨_, hp, ht⟩, ⟨hX, hY⟩, ⟨hr, hs, hgc⟩, ⟨n1, n2⟩, ⟨i0, i1, i2⟩, ⟨j0, j1, j2⟩, ⟨hu, u0, u1⟩, ⟨hv, v0, v1⟩, q1, q2, q3⟩ | ⟨_, ⟨hp, ht⟩, ho, q1, q2, q3⟩ | ⟨_, hb, q1, q2, q3⟩
  · obtain rfl : (0 : Int) = k := q3.symm.trans hk
    obtain ⟨a0, b0, g0, g1⟩ := Pr.sh_out hp
    obtain ⟨c0, d0, e0, f0⟩ := Pr.tm_out ht
    have f1 : IntKind.i64.wrap (c + f) = c + f := IntWalk.i64_in _ (by omega)
    have f2 : IntKind.i64.wrap (d + f) = d + f := IntWalk.i64_in _ (by omega)
    have f3 : IntKind.i64.wrap (i * (c + f)) = u := by rw [hu]; exact IntWalk.i64_in _ (by omega)
    have f4 : IntKind.i64.wrap (j * (d + f)) = v := by rw [hv]; exact IntWalk.i64_in _ (by omega)
    have f5 : IntKind.i64.wrap (e + u) = x := by rw [← hx, q1]; exact IntWalk.i64_in _ (by omega)
    have f6 : IntKind.i64.wrap (e + v) = y := by rw [← hy, q2]; exact IntWalk.i64_in _ (by omega)
    have f7 : IntKind.i64.wrap (X - 1) = X - 1 := IntWalk.i64_in _ (by omega)
    have f8 : IntKind.i64.wrap (Y - 1) = Y - 1 := IntWalk.i64_in _ (by omega)
    have i3 : i ≤ X - 1 := by omega
    have j3 : j ≤ Y - 1 := by omega
    have n1' : (X == 0) = false := by simpa using n1
    have n2' : (Y == 0) = false := by simpa using n2
    have HX := Lib.hid hX
    have HY := Lib.hid hY
    have Q1 := Lib.hid hp
    have Q2 := Lib.hid ht
    clear hx hy hk hp ht hr hs hgc hX hY hu hv q1 q2 q3
    have B0_0 := Lib.hid ((Blk.new (w := w) (g := w.heap.size) #[.int .i64 a, .int .i64 b, .int .i64 g, .bool r] 25 (by simp)).alloc (.cells #[.int .i64 c, .int .i64 d, .int .i64 e, .int .i64 f] 27))
    have B0_1 := Lib.hid (Blk.new (w := (w.alloc (.cells #[.int .i64 a, .int .i64 b, .int .i64 g, .bool r] 25))) (g := w.heap.size + 1) #[.int .i64 c, .int .i64 d, .int .i64 e, .int .i64 f] 27 (by simp))
    have HB0 := Lib.hid ((below_new w (.cells #[.int .i64 a, .int .i64 b, .int .i64 g, .bool r] 25)).alloc (by simp <;> omega) (.cells #[.int .i64 c, .int .i64 d, .int .i64 e, .int .i64 f] 27))
    have Z0 : ((w.alloc (.cells #[.int .i64 a, .int .i64 b, .int .i64 g, .bool r] 25)).alloc (.cells #[.int .i64 c, .int .i64 d, .int .i64 e, .int .i64 f] 27)).heap.size = w.heap.size + 2 := by simp
    have HZ0 := Lib.hid Z0
    clear Z0
    go_enter Try.func19, Try.ntmps19
    go_wp2_with fail
    refine (specPr_any a b g r true _ Q1.out).mono ?_
    rintro e' w1 ⟨rfl, hb1⟩
    have z1 : w.heap.size + 2 ≤ w1.heap.size := by have h_ := hb1.size; rw [HZ0.out] at h_; exact h_
    have HB1 := Lib.hid (HB0.out.trans (hb1.mono (by rw [HZ0.out]; omega)))
    have B1_0 := Lib.hid (B0_0.out.below hb1 (by rw [HZ0.out]; omega))
    have c1_0_0 := B1_0.out.cell 0 (v := .int .i64 a) rfl
    have c1_0_1 := B1_0.out.cell 1 (v := .int .i64 b) rfl
    have c1_0_2 := B1_0.out.cell 2 (v := .int .i64 g) rfl
    have c1_0_3 := B1_0.out.cell 3 (v := .bool r) rfl
    have B1_1 := Lib.hid (B0_1.out.below hb1 (by rw [HZ0.out]; omega))
    have c1_1_0 := B1_1.out.cell 0 (v := .int .i64 c) rfl
    have c1_1_1 := B1_1.out.cell 1 (v := .int .i64 d) rfl
    have c1_1_2 := B1_1.out.cell 2 (v := .int .i64 e) rfl
    have c1_1_3 := B1_1.out.cell 3 (v := .int .i64 f) rfl
    clear hb1
    go_wp2_with fail
    refine (specTm_any c d e f true _ Q2.out).mono ?_
    rintro e' w2 ⟨rfl, hb2⟩
    have z2 : w.heap.size + 2 ≤ w2.heap.size := Nat.le_trans z1 hb2.size
    have HB2 := Lib.hid (HB1.out.trans (hb2.mono (by omega)))
    clear c1_0_0 c1_0_1 c1_0_2 c1_0_3 c1_1_0 c1_1_1 c1_1_2 c1_1_3
    have B2_0 := Lib.hid (B1_0.out.below hb2 (by omega))
    have c2_0_0 := B2_0.out.cell 0 (v := .int .i64 a) rfl
    have c2_0_1 := B2_0.out.cell 1 (v := .int .i64 b) rfl
    have c2_0_2 := B2_0.out.cell 2 (v := .int .i64 g) rfl
    have c2_0_3 := B2_0.out.cell 3 (v := .bool r) rfl
    have B2_1 := Lib.hid (B1_1.out.below hb2 (by omega))
    have c2_1_0 := B2_1.out.cell 0 (v := .int .i64 c) rfl
    have c2_1_1 := B2_1.out.cell 1 (v := .int .i64 d) rfl
    have c2_1_2 := B2_1.out.cell 2 (v := .int .i64 e) rfl
    have c2_1_3 := B2_1.out.cell 3 (v := .int .i64 f) rfl
    clear hb2
    go_wp2_with fail
    refine (specGrid_any a b g c d e f X Y r _ Q1.out Q2.out HX.out HY.out).mono ?_
    rintro e' w3 ⟨rfl, hb3⟩
    have z3 : w.heap.size + 2 ≤ w3.heap.size := Nat.le_trans z2 hb3.size
    have HB3 := Lib.hid (HB2.out.trans (hb3.mono (by omega)))
    clear c2_0_0 c2_0_1 c2_0_2 c2_0_3 c2_1_0 c2_1_1 c2_1_2 c2_1_3
    have B3_0 := Lib.hid (B2_0.out.below hb3 (by omega))
    have c3_0_0 := B3_0.out.cell 0 (v := .int .i64 a) rfl
    have c3_0_1 := B3_0.out.cell 1 (v := .int .i64 b) rfl
    have c3_0_2 := B3_0.out.cell 2 (v := .int .i64 g) rfl
    have c3_0_3 := B3_0.out.cell 3 (v := .bool r) rfl
    have B3_1 := Lib.hid (B2_1.out.below hb3 (by omega))
    have c3_1_0 := B3_1.out.cell 0 (v := .int .i64 c) rfl
    have c3_1_1 := B3_1.out.cell 1 (v := .int .i64 d) rfl
    have c3_1_2 := B3_1.out.cell 2 (v := .int .i64 e) rfl
    have c3_1_3 := B3_1.out.cell 3 (v := .int .i64 f) rfl
    clear hb3
    go_wp2_with fail
    refine (l01In_yes _ _ _ _ i0 i3).mono ?_
    rintro e' _ ⟨rfl, rfl⟩
    go_wp2_with fail
    refine (l01In_yes _ _ _ _ j0 j3).mono ?_
    rintro e' _ ⟨rfl, rfl⟩
    go_wp2_with fail
    go_quiet (fail)
    go_wp2_with fail
    go_ret3
    exact ⟨rfl, below_drewN' HB3.out _⟩
  · obtain rfl : (2 : Int) = k := q3.symm.trans hk
    obtain rfl : (0 : Int) = x := q1.symm.trans hx
    obtain rfl : (0 : Int) = y := q2.symm.trans hy
    obtain ⟨X, hX⟩ : ∃ X, Pr.ct a c e f = X := ⟨_, rfl⟩
    obtain ⟨Y, hY⟩ : ∃ Y, Pr.ct (b - g) d e f = Y := ⟨_, rfl⟩
    have hgr : ((X = 0 ∨ Y = 0) ∧ Pr.gdR a b g c d e f = 0 ∧ Pr.gdS a b g c d e f = 0) ∨ (¬ X = 0 ∧ ¬ Y = 0 ∧ Pr.gdR a b g c d e f = X ∧ Pr.gdS a b g c d e f = Y) := by
      rcases Pr.gd_cases a b g c d e f with ⟨_, _, _, m1, m2, m3, m4, _⟩ | ⟨_, _, _, m1, m2, m3, _⟩ | ⟨_, m1, _⟩
      · right; rw [hX] at m1 m3; rw [hY] at m2 m4; exact ⟨m1, m2, m3, m4⟩
      · left; rw [hX, hY] at m1; exact ⟨m1, m2, m3⟩
      · unfold Pr.bothB at m1; rw [hp, ht] at m1; cases m1
    have xb : 0 ≤ X ∧ X ≤ 20000 := by
      obtain ⟨a0, b0, g0, g1⟩ := Pr.sh_out hp
      obtain ⟨c0, d0, e0, f0⟩ := Pr.tm_out ht
      rw [← hX]; exact Pr.ct_bd c0.1 e0.1 f0.1 a0.2
    have yb : 0 ≤ Y ∧ Y ≤ 20000 := by
      obtain ⟨a0, b0, g0, g1⟩ := Pr.sh_out hp
      obtain ⟨c0, d0, e0, f0⟩ := Pr.tm_out ht
      rw [← hY]; exact Pr.ct_bd d0.1 e0.1 f0.1 (by omega)
    have f7 : IntKind.i64.wrap (X - 1) = X - 1 := IntWalk.i64_in _ (by omega)
    have f8 : IntKind.i64.wrap (Y - 1) = Y - 1 := IntWalk.i64_in _ (by omega)
    have HX := Lib.hid hX
    have HY := Lib.hid hY
    have Q1 := Lib.hid hp
    have Q2 := Lib.hid ht
    clear hx hy hk hp ht hX hY q1 q2 q3
    rcases hgr with ⟨hz, m1, m2⟩ | ⟨n1, n2, m1, m2⟩
    · rw [m1, m2] at ho
      have HI : Hid (i < 0 ∨ -1 < i) := Lib.hid (by omega)
      by_cases n1 : X = 0
      · subst n1
        clear ho m1 m2 hz
        have B0_0 := Lib.hid ((Blk.new (w := w) (g := w.heap.size) #[.int .i64 a, .int .i64 b, .int .i64 g, .bool r] 25 (by simp)).alloc (.cells #[.int .i64 c, .int .i64 d, .int .i64 e, .int .i64 f] 27))
        have B0_1 := Lib.hid (Blk.new (w := (w.alloc (.cells #[.int .i64 a, .int .i64 b, .int .i64 g, .bool r] 25))) (g := w.heap.size + 1) #[.int .i64 c, .int .i64 d, .int .i64 e, .int .i64 f] 27 (by simp))
        have HB0 := Lib.hid ((below_new w (.cells #[.int .i64 a, .int .i64 b, .int .i64 g, .bool r] 25)).alloc (by simp <;> omega) (.cells #[.int .i64 c, .int .i64 d, .int .i64 e, .int .i64 f] 27))
        have Z0 : ((w.alloc (.cells #[.int .i64 a, .int .i64 b, .int .i64 g, .bool r] 25)).alloc (.cells #[.int .i64 c, .int .i64 d, .int .i64 e, .int .i64 f] 27)).heap.size = w.heap.size + 2 := by simp
        have HZ0 := Lib.hid Z0
        clear Z0
        go_enter Try.func19, Try.ntmps19
        go_wp2_with fail
        refine (specPr_any a b g r true _ Q1.out).mono ?_
        rintro e' w1 ⟨rfl, hb1⟩
        have z1 : w.heap.size + 2 ≤ w1.heap.size := by have h_ := hb1.size; rw [HZ0.out] at h_; exact h_
        have HB1 := Lib.hid (HB0.out.trans (hb1.mono (by rw [HZ0.out]; omega)))
        have B1_0 := Lib.hid (B0_0.out.below hb1 (by rw [HZ0.out]; omega))
        have c1_0_0 := B1_0.out.cell 0 (v := .int .i64 a) rfl
        have c1_0_1 := B1_0.out.cell 1 (v := .int .i64 b) rfl
        have c1_0_2 := B1_0.out.cell 2 (v := .int .i64 g) rfl
        have c1_0_3 := B1_0.out.cell 3 (v := .bool r) rfl
        have B1_1 := Lib.hid (B0_1.out.below hb1 (by rw [HZ0.out]; omega))
        have c1_1_0 := B1_1.out.cell 0 (v := .int .i64 c) rfl
        have c1_1_1 := B1_1.out.cell 1 (v := .int .i64 d) rfl
        have c1_1_2 := B1_1.out.cell 2 (v := .int .i64 e) rfl
        have c1_1_3 := B1_1.out.cell 3 (v := .int .i64 f) rfl
        clear hb1
        go_wp2_with fail
        refine (specTm_any c d e f true _ Q2.out).mono ?_
        rintro e' w2 ⟨rfl, hb2⟩
        have z2 : w.heap.size + 2 ≤ w2.heap.size := Nat.le_trans z1 hb2.size
        have HB2 := Lib.hid (HB1.out.trans (hb2.mono (by omega)))
        clear c1_0_0 c1_0_1 c1_0_2 c1_0_3 c1_1_0 c1_1_1 c1_1_2 c1_1_3
        have B2_0 := Lib.hid (B1_0.out.below hb2 (by omega))
        have c2_0_0 := B2_0.out.cell 0 (v := .int .i64 a) rfl
        have c2_0_1 := B2_0.out.cell 1 (v := .int .i64 b) rfl
        have c2_0_2 := B2_0.out.cell 2 (v := .int .i64 g) rfl
        have c2_0_3 := B2_0.out.cell 3 (v := .bool r) rfl
        have B2_1 := Lib.hid (B1_1.out.below hb2 (by omega))
        have c2_1_0 := B2_1.out.cell 0 (v := .int .i64 c) rfl
        have c2_1_1 := B2_1.out.cell 1 (v := .int .i64 d) rfl
        have c2_1_2 := B2_1.out.cell 2 (v := .int .i64 e) rfl
        have c2_1_3 := B2_1.out.cell 3 (v := .int .i64 f) rfl
        clear hb2
        go_wp2_with fail
        refine (specGrid_any a b g c d e f 0 Y r _ Q1.out Q2.out HX.out HY.out).mono ?_
        rintro e' w3 ⟨rfl, hb3⟩
        have z3 : w.heap.size + 2 ≤ w3.heap.size := Nat.le_trans z2 hb3.size
        have HB3 := Lib.hid (HB2.out.trans (hb3.mono (by omega)))
        clear c2_0_0 c2_0_1 c2_0_2 c2_0_3 c2_1_0 c2_1_1 c2_1_2 c2_1_3
        have B3_0 := Lib.hid (B2_0.out.below hb3 (by omega))
        have c3_0_0 := B3_0.out.cell 0 (v := .int .i64 a) rfl
        have c3_0_1 := B3_0.out.cell 1 (v := .int .i64 b) rfl
        have c3_0_2 := B3_0.out.cell 2 (v := .int .i64 g) rfl
        have c3_0_3 := B3_0.out.cell 3 (v := .bool r) rfl
        have B3_1 := Lib.hid (B2_1.out.below hb3 (by omega))
        have c3_1_0 := B3_1.out.cell 0 (v := .int .i64 c) rfl
        have c3_1_1 := B3_1.out.cell 1 (v := .int .i64 d) rfl
        have c3_1_2 := B3_1.out.cell 2 (v := .int .i64 e) rfl
        have c3_1_3 := B3_1.out.cell 3 (v := .int .i64 f) rfl
        clear hb3
        go_wp2_with fail
        refine (l01In_no _ _ _ _ HI.out).mono ?_
        rintro e' _ ⟨rfl, rfl⟩
        go_wp2_with fail
        go_ret3
        exact ⟨rfl, HB3.out⟩
      · have n1' : (X == 0) = false := by simpa using n1
        obtain rfl : Y = 0 := by rcases hz with h | h; exact absurd h n1; exact h
        clear ho m1 m2 hz
        have B0_0 := Lib.hid ((Blk.new (w := w) (g := w.heap.size) #[.int .i64 a, .int .i64 b, .int .i64 g, .bool r] 25 (by simp)).alloc (.cells #[.int .i64 c, .int .i64 d, .int .i64 e, .int .i64 f] 27))
        have B0_1 := Lib.hid (Blk.new (w := (w.alloc (.cells #[.int .i64 a, .int .i64 b, .int .i64 g, .bool r] 25))) (g := w.heap.size + 1) #[.int .i64 c, .int .i64 d, .int .i64 e, .int .i64 f] 27 (by simp))
        have HB0 := Lib.hid ((below_new w (.cells #[.int .i64 a, .int .i64 b, .int .i64 g, .bool r] 25)).alloc (by simp <;> omega) (.cells #[.int .i64 c, .int .i64 d, .int .i64 e, .int .i64 f] 27))
        have Z0 : ((w.alloc (.cells #[.int .i64 a, .int .i64 b, .int .i64 g, .bool r] 25)).alloc (.cells #[.int .i64 c, .int .i64 d, .int .i64 e, .int .i64 f] 27)).heap.size = w.heap.size + 2 := by simp
        have HZ0 := Lib.hid Z0
        clear Z0
        go_enter Try.func19, Try.ntmps19
        go_wp2_with fail
        refine (specPr_any a b g r true _ Q1.out).mono ?_
        rintro e' w1 ⟨rfl, hb1⟩
        have z1 : w.heap.size + 2 ≤ w1.heap.size := by have h_ := hb1.size; rw [HZ0.out] at h_; exact h_
        have HB1 := Lib.hid (HB0.out.trans (hb1.mono (by rw [HZ0.out]; omega)))
        have B1_0 := Lib.hid (B0_0.out.below hb1 (by rw [HZ0.out]; omega))
        have c1_0_0 := B1_0.out.cell 0 (v := .int .i64 a) rfl
        have c1_0_1 := B1_0.out.cell 1 (v := .int .i64 b) rfl
        have c1_0_2 := B1_0.out.cell 2 (v := .int .i64 g) rfl
        have c1_0_3 := B1_0.out.cell 3 (v := .bool r) rfl
        have B1_1 := Lib.hid (B0_1.out.below hb1 (by rw [HZ0.out]; omega))
        have c1_1_0 := B1_1.out.cell 0 (v := .int .i64 c) rfl
        have c1_1_1 := B1_1.out.cell 1 (v := .int .i64 d) rfl
        have c1_1_2 := B1_1.out.cell 2 (v := .int .i64 e) rfl
        have c1_1_3 := B1_1.out.cell 3 (v := .int .i64 f) rfl
        clear hb1
        go_wp2_with fail
        refine (specTm_any c d e f true _ Q2.out).mono ?_
        rintro e' w2 ⟨rfl, hb2⟩
        have z2 : w.heap.size + 2 ≤ w2.heap.size := Nat.le_trans z1 hb2.size
        have HB2 := Lib.hid (HB1.out.trans (hb2.mono (by omega)))
        clear c1_0_0 c1_0_1 c1_0_2 c1_0_3 c1_1_0 c1_1_1 c1_1_2 c1_1_3
        have B2_0 := Lib.hid (B1_0.out.below hb2 (by omega))
        have c2_0_0 := B2_0.out.cell 0 (v := .int .i64 a) rfl
        have c2_0_1 := B2_0.out.cell 1 (v := .int .i64 b) rfl
        have c2_0_2 := B2_0.out.cell 2 (v := .int .i64 g) rfl
        have c2_0_3 := B2_0.out.cell 3 (v := .bool r) rfl
        have B2_1 := Lib.hid (B1_1.out.below hb2 (by omega))
        have c2_1_0 := B2_1.out.cell 0 (v := .int .i64 c) rfl
        have c2_1_1 := B2_1.out.cell 1 (v := .int .i64 d) rfl
        have c2_1_2 := B2_1.out.cell 2 (v := .int .i64 e) rfl
        have c2_1_3 := B2_1.out.cell 3 (v := .int .i64 f) rfl
        clear hb2
        go_wp2_with fail
        refine (specGrid_any a b g c d e f X 0 r _ Q1.out Q2.out HX.out HY.out).mono ?_
        rintro e' w3 ⟨rfl, hb3⟩
        have z3 : w.heap.size + 2 ≤ w3.heap.size := Nat.le_trans z2 hb3.size
        have HB3 := Lib.hid (HB2.out.trans (hb3.mono (by omega)))
        clear c2_0_0 c2_0_1 c2_0_2 c2_0_3 c2_1_0 c2_1_1 c2_1_2 c2_1_3
        have B3_0 := Lib.hid (B2_0.out.below hb3 (by omega))
        have c3_0_0 := B3_0.out.cell 0 (v := .int .i64 a) rfl
        have c3_0_1 := B3_0.out.cell 1 (v := .int .i64 b) rfl
        have c3_0_2 := B3_0.out.cell 2 (v := .int .i64 g) rfl
        have c3_0_3 := B3_0.out.cell 3 (v := .bool r) rfl
        have B3_1 := Lib.hid (B2_1.out.below hb3 (by omega))
        have c3_1_0 := B3_1.out.cell 0 (v := .int .i64 c) rfl
        have c3_1_1 := B3_1.out.cell 1 (v := .int .i64 d) rfl
        have c3_1_2 := B3_1.out.cell 2 (v := .int .i64 e) rfl
        have c3_1_3 := B3_1.out.cell 3 (v := .int .i64 f) rfl
        clear hb3
        go_wp2_with fail
        refine (l01In_no _ _ _ _ HI.out).mono ?_
        rintro e' _ ⟨rfl, rfl⟩
        go_wp2_with fail
        go_ret3
        exact ⟨rfl, HB3.out⟩
    · rw [m1, m2] at ho
      have n1' : (X == 0) = false := by simpa using n1
      have n2' : (Y == 0) = false := by simpa using n2
      by_cases hi : 0 ≤ i ∧ i < X
      · obtain ⟨i0, i1⟩ := hi
        have i3 : i ≤ X - 1 := by omega
        have HJ : Hid (j < 0 ∨ Y - 1 < j) := Lib.hid (by omega)
        clear ho m1 m2
        have B0_0 := Lib.hid ((Blk.new (w := w) (g := w.heap.size) #[.int .i64 a, .int .i64 b, .int .i64 g, .bool r] 25 (by simp)).alloc (.cells #[.int .i64 c, .int .i64 d, .int .i64 e, .int .i64 f] 27))
        have B0_1 := Lib.hid (Blk.new (w := (w.alloc (.cells #[.int .i64 a, .int .i64 b, .int .i64 g, .bool r] 25))) (g := w.heap.size + 1) #[.int .i64 c, .int .i64 d, .int .i64 e, .int .i64 f] 27 (by simp))
        have HB0 := Lib.hid ((below_new w (.cells #[.int .i64 a, .int .i64 b, .int .i64 g, .bool r] 25)).alloc (by simp <;> omega) (.cells #[.int .i64 c, .int .i64 d, .int .i64 e, .int .i64 f] 27))
        have Z0 : ((w.alloc (.cells #[.int .i64 a, .int .i64 b, .int .i64 g, .bool r] 25)).alloc (.cells #[.int .i64 c, .int .i64 d, .int .i64 e, .int .i64 f] 27)).heap.size = w.heap.size + 2 := by simp
        have HZ0 := Lib.hid Z0
        clear Z0
        go_enter Try.func19, Try.ntmps19
        go_wp2_with fail
        refine (specPr_any a b g r true _ Q1.out).mono ?_
        rintro e' w1 ⟨rfl, hb1⟩
        have z1 : w.heap.size + 2 ≤ w1.heap.size := by have h_ := hb1.size; rw [HZ0.out] at h_; exact h_
        have HB1 := Lib.hid (HB0.out.trans (hb1.mono (by rw [HZ0.out]; omega)))
        have B1_0 := Lib.hid (B0_0.out.below hb1 (by rw [HZ0.out]; omega))
        have c1_0_0 := B1_0.out.cell 0 (v := .int .i64 a) rfl
        have c1_0_1 := B1_0.out.cell 1 (v := .int .i64 b) rfl
        have c1_0_2 := B1_0.out.cell 2 (v := .int .i64 g) rfl
        have c1_0_3 := B1_0.out.cell 3 (v := .bool r) rfl
        have B1_1 := Lib.hid (B0_1.out.below hb1 (by rw [HZ0.out]; omega))
        have c1_1_0 := B1_1.out.cell 0 (v := .int .i64 c) rfl
        have c1_1_1 := B1_1.out.cell 1 (v := .int .i64 d) rfl
        have c1_1_2 := B1_1.out.cell 2 (v := .int .i64 e) rfl
        have c1_1_3 := B1_1.out.cell 3 (v := .int .i64 f) rfl
        clear hb1
        go_wp2_with fail
        refine (specTm_any c d e f true _ Q2.out).mono ?_
        rintro e' w2 ⟨rfl, hb2⟩
        have z2 : w.heap.size + 2 ≤ w2.heap.size := Nat.le_trans z1 hb2.size
        have HB2 := Lib.hid (HB1.out.trans (hb2.mono (by omega)))
        clear c1_0_0 c1_0_1 c1_0_2 c1_0_3 c1_1_0 c1_1_1 c1_1_2 c1_1_3
        have B2_0 := Lib.hid (B1_0.out.below hb2 (by omega))
        have c2_0_0 := B2_0.out.cell 0 (v := .int .i64 a) rfl
        have c2_0_1 := B2_0.out.cell 1 (v := .int .i64 b) rfl
        have c2_0_2 := B2_0.out.cell 2 (v := .int .i64 g) rfl
        have c2_0_3 := B2_0.out.cell 3 (v := .bool r) rfl
        have B2_1 := Lib.hid (B1_1.out.below hb2 (by omega))
        have c2_1_0 := B2_1.out.cell 0 (v := .int .i64 c) rfl
        have c2_1_1 := B2_1.out.cell 1 (v := .int .i64 d) rfl
        have c2_1_2 := B2_1.out.cell 2 (v := .int .i64 e) rfl
        have c2_1_3 := B2_1.out.cell 3 (v := .int .i64 f) rfl
        clear hb2
        go_wp2_with fail
        refine (specGrid_any a b g c d e f X Y r _ Q1.out Q2.out HX.out HY.out).mono ?_
        rintro e' w3 ⟨rfl, hb3⟩
        have z3 : w.heap.size + 2 ≤ w3.heap.size := Nat.le_trans z2 hb3.size
        have HB3 := Lib.hid (HB2.out.trans (hb3.mono (by omega)))
        clear c2_0_0 c2_0_1 c2_0_2 c2_0_3 c2_1_0 c2_1_1 c2_1_2 c2_1_3
        have B3_0 := Lib.hid (B2_0.out.below hb3 (by omega))
        have c3_0_0 := B3_0.out.cell 0 (v := .int .i64 a) rfl
        have c3_0_1 := B3_0.out.cell 1 (v := .int .i64 b) rfl
        have c3_0_2 := B3_0.out.cell 2 (v := .int .i64 g) rfl
        have c3_0_3 := B3_0.out.cell 3 (v := .bool r) rfl
        have B3_1 := Lib.hid (B2_1.out.below hb3 (by omega))
        have c3_1_0 := B3_1.out.cell 0 (v := .int .i64 c) rfl
        have c3_1_1 := B3_1.out.cell 1 (v := .int .i64 d) rfl
        have c3_1_2 := B3_1.out.cell 2 (v := .int .i64 e) rfl
        have c3_1_3 := B3_1.out.cell 3 (v := .int .i64 f) rfl
        clear hb3
        go_wp2_with fail
        refine (l01In_yes _ _ _ _ i0 i3).mono ?_
        rintro e' _ ⟨rfl, rfl⟩
        go_wp2_with fail
        refine (l01In_no _ _ _ _ HJ.out).mono ?_
        rintro e' _ ⟨rfl, rfl⟩
        go_wp2_with fail
        go_ret3
        exact ⟨rfl, HB3.out⟩
      · have HI : Hid (i < 0 ∨ X - 1 < i) := Lib.hid (by omega)
        clear ho m1 m2 hi
        have B0_0 := Lib.hid ((Blk.new (w := w) (g := w.heap.size) #[.int .i64 a, .int .i64 b, .int .i64 g, .bool r] 25 (by simp)).alloc (.cells #[.int .i64 c, .int .i64 d, .int .i64 e, .int .i64 f] 27))
        have B0_1 := Lib.hid (Blk.new (w := (w.alloc (.cells #[.int .i64 a, .int .i64 b, .int .i64 g, .bool r] 25))) (g := w.heap.size + 1) #[.int .i64 c, .int .i64 d, .int .i64 e, .int .i64 f] 27 (by simp))
        have HB0 := Lib.hid ((below_new w (.cells #[.int .i64 a, .int .i64 b, .int .i64 g, .bool r] 25)).alloc (by simp <;> omega) (.cells #[.int .i64 c, .int .i64 d, .int .i64 e, .int .i64 f] 27))
        have Z0 : ((w.alloc (.cells #[.int .i64 a, .int .i64 b, .int .i64 g, .bool r] 25)).alloc (.cells #[.int .i64 c, .int .i64 d, .int .i64 e, .int .i64 f] 27)).heap.size = w.heap.size + 2 := by simp
        have HZ0 := Lib.hid Z0
        clear Z0
        go_enter Try.func19, Try.ntmps19
        go_wp2_with fail
        refine (specPr_any a b g r true _ Q1.out).mono ?_
        rintro e' w1 ⟨rfl, hb1⟩
        have z1 : w.heap.size + 2 ≤ w1.heap.size := by have h_ := hb1.size; rw [HZ0.out] at h_; exact h_
        have HB1 := Lib.hid (HB0.out.trans (hb1.mono (by rw [HZ0.out]; omega)))
        have B1_0 := Lib.hid (B0_0.out.below hb1 (by rw [HZ0.out]; omega))
        have c1_0_0 := B1_0.out.cell 0 (v := .int .i64 a) rfl
        have c1_0_1 := B1_0.out.cell 1 (v := .int .i64 b) rfl
        have c1_0_2 := B1_0.out.cell 2 (v := .int .i64 g) rfl
        have c1_0_3 := B1_0.out.cell 3 (v := .bool r) rfl
        have B1_1 := Lib.hid (B0_1.out.below hb1 (by rw [HZ0.out]; omega))
        have c1_1_0 := B1_1.out.cell 0 (v := .int .i64 c) rfl
        have c1_1_1 := B1_1.out.cell 1 (v := .int .i64 d) rfl
        have c1_1_2 := B1_1.out.cell 2 (v := .int .i64 e) rfl
        have c1_1_3 := B1_1.out.cell 3 (v := .int .i64 f) rfl
        clear hb1
        go_wp2_with fail
        refine (specTm_any c d e f true _ Q2.out).mono ?_
        rintro e' w2 ⟨rfl, hb2⟩
        have z2 : w.heap.size + 2 ≤ w2.heap.size := Nat.le_trans z1 hb2.size
        have HB2 := Lib.hid (HB1.out.trans (hb2.mono (by omega)))
        clear c1_0_0 c1_0_1 c1_0_2 c1_0_3 c1_1_0 c1_1_1 c1_1_2 c1_1_3
        have B2_0 := Lib.hid (B1_0.out.below hb2 (by omega))
        have c2_0_0 := B2_0.out.cell 0 (v := .int .i64 a) rfl
        have c2_0_1 := B2_0.out.cell 1 (v := .int .i64 b) rfl
        have c2_0_2 := B2_0.out.cell 2 (v := .int .i64 g) rfl
        have c2_0_3 := B2_0.out.cell 3 (v := .bool r) rfl
        have B2_1 := Lib.hid (B1_1.out.below hb2 (by omega))
        have c2_1_0 := B2_1.out.cell 0 (v := .int .i64 c) rfl
        have c2_1_1 := B2_1.out.cell 1 (v := .int .i64 d) rfl
        have c2_1_2 := B2_1.out.cell 2 (v := .int .i64 e) rfl
        have c2_1_3 := B2_1.out.cell 3 (v := .int .i64 f) rfl
        clear hb2
        go_wp2_with fail
        refine (specGrid_any a b g c d e f X Y r _ Q1.out Q2.out HX.out HY.out).mono ?_
        rintro e' w3 ⟨rfl, hb3⟩
        have z3 : w.heap.size + 2 ≤ w3.heap.size := Nat.le_trans z2 hb3.size
        have HB3 := Lib.hid (HB2.out.trans (hb3.mono (by omega)))
        clear c2_0_0 c2_0_1 c2_0_2 c2_0_3 c2_1_0 c2_1_1 c2_1_2 c2_1_3
        have B3_0 := Lib.hid (B2_0.out.below hb3 (by omega))
        have c3_0_0 := B3_0.out.cell 0 (v := .int .i64 a) rfl
        have c3_0_1 := B3_0.out.cell 1 (v := .int .i64 b) rfl
        have c3_0_2 := B3_0.out.cell 2 (v := .int .i64 g) rfl
        have c3_0_3 := B3_0.out.cell 3 (v := .bool r) rfl
        have B3_1 := Lib.hid (B2_1.out.below hb3 (by omega))
        have c3_1_0 := B3_1.out.cell 0 (v := .int .i64 c) rfl
        have c3_1_1 := B3_1.out.cell 1 (v := .int .i64 d) rfl
        have c3_1_2 := B3_1.out.cell 2 (v := .int .i64 e) rfl
        have c3_1_3 := B3_1.out.cell 3 (v := .int .i64 f) rfl
        clear hb3
        go_wp2_with fail
        refine (l01In_no _ _ _ _ HI.out).mono ?_
        rintro e' _ ⟨rfl, rfl⟩
        go_wp2_with fail
        go_ret3
        exact ⟨rfl, HB3.out⟩
  · obtain rfl : (1 : Int) = k := q3.symm.trans hk
    obtain rfl : (0 : Int) = x := q1.symm.trans hx
    obtain rfl : (0 : Int) = y := q2.symm.trans hy
    clear hx hy hk q1 q2 q3
    rcases Pr.both_no hb with h1 | ⟨h1, h2⟩
    · have Q1 := Lib.hid h1
      clear hb h1
      have B0_0 := Lib.hid ((Blk.new (w := w) (g := w.heap.size) #[.int .i64 a, .int .i64 b, .int .i64 g, .bool r] 25 (by simp)).alloc (.cells #[.int .i64 c, .int .i64 d, .int .i64 e, .int .i64 f] 27))
      have B0_1 := Lib.hid (Blk.new (w := (w.alloc (.cells #[.int .i64 a, .int .i64 b, .int .i64 g, .bool r] 25))) (g := w.heap.size + 1) #[.int .i64 c, .int .i64 d, .int .i64 e, .int .i64 f] 27 (by simp))
      have HB0 := Lib.hid ((below_new w (.cells #[.int .i64 a, .int .i64 b, .int .i64 g, .bool r] 25)).alloc (by simp <;> omega) (.cells #[.int .i64 c, .int .i64 d, .int .i64 e, .int .i64 f] 27))
      have Z0 : ((w.alloc (.cells #[.int .i64 a, .int .i64 b, .int .i64 g, .bool r] 25)).alloc (.cells #[.int .i64 c, .int .i64 d, .int .i64 e, .int .i64 f] 27)).heap.size = w.heap.size + 2 := by simp
      have HZ0 := Lib.hid Z0
      clear Z0
      go_enter Try.func19, Try.ntmps19
      go_wp2_with fail
      refine (specPr_any a b g r false _ Q1.out).mono ?_
      rintro e' w1 ⟨rfl, hb1⟩
      have z1 : w.heap.size + 2 ≤ w1.heap.size := by have h_ := hb1.size; rw [HZ0.out] at h_; exact h_
      have HB1 := Lib.hid (HB0.out.trans (hb1.mono (by rw [HZ0.out]; omega)))
      have B1_0 := Lib.hid (B0_0.out.below hb1 (by rw [HZ0.out]; omega))
      have c1_0_0 := B1_0.out.cell 0 (v := .int .i64 a) rfl
      have c1_0_1 := B1_0.out.cell 1 (v := .int .i64 b) rfl
      have c1_0_2 := B1_0.out.cell 2 (v := .int .i64 g) rfl
      have c1_0_3 := B1_0.out.cell 3 (v := .bool r) rfl
      have B1_1 := Lib.hid (B0_1.out.below hb1 (by rw [HZ0.out]; omega))
      have c1_1_0 := B1_1.out.cell 0 (v := .int .i64 c) rfl
      have c1_1_1 := B1_1.out.cell 1 (v := .int .i64 d) rfl
      have c1_1_2 := B1_1.out.cell 2 (v := .int .i64 e) rfl
      have c1_1_3 := B1_1.out.cell 3 (v := .int .i64 f) rfl
      clear hb1
      go_wp2_with fail
      go_ret3
      exact ⟨rfl, HB1.out⟩
    · have Q1 := Lib.hid h1
      have Q2 := Lib.hid h2
      clear hb h1 h2
      have B0_0 := Lib.hid ((Blk.new (w := w) (g := w.heap.size) #[.int .i64 a, .int .i64 b, .int .i64 g, .bool r] 25 (by simp)).alloc (.cells #[.int .i64 c, .int .i64 d, .int .i64 e, .int .i64 f] 27))
      have B0_1 := Lib.hid (Blk.new (w := (w.alloc (.cells #[.int .i64 a, .int .i64 b, .int .i64 g, .bool r] 25))) (g := w.heap.size + 1) #[.int .i64 c, .int .i64 d, .int .i64 e, .int .i64 f] 27 (by simp))
      have HB0 := Lib.hid ((below_new w (.cells #[.int .i64 a, .int .i64 b, .int .i64 g, .bool r] 25)).alloc (by simp <;> omega) (.cells #[.int .i64 c, .int .i64 d, .int .i64 e, .int .i64 f] 27))
      have Z0 : ((w.alloc (.cells #[.int .i64 a, .int .i64 b, .int .i64 g, .bool r] 25)).alloc (.cells #[.int .i64 c, .int .i64 d, .int .i64 e, .int .i64 f] 27)).heap.size = w.heap.size + 2 := by simp
      have HZ0 := Lib.hid Z0
      clear Z0
      go_enter Try.func19, Try.ntmps19
      go_wp2_with fail
      refine (specPr_any a b g r true _ Q1.out).mono ?_
      rintro e' w1 ⟨rfl, hb1⟩
      have z1 : w.heap.size + 2 ≤ w1.heap.size := by have h_ := hb1.size; rw [HZ0.out] at h_; exact h_
      have HB1 := Lib.hid (HB0.out.trans (hb1.mono (by rw [HZ0.out]; omega)))
      have B1_0 := Lib.hid (B0_0.out.below hb1 (by rw [HZ0.out]; omega))
      have c1_0_0 := B1_0.out.cell 0 (v := .int .i64 a) rfl
      have c1_0_1 := B1_0.out.cell 1 (v := .int .i64 b) rfl
      have c1_0_2 := B1_0.out.cell 2 (v := .int .i64 g) rfl
      have c1_0_3 := B1_0.out.cell 3 (v := .bool r) rfl
      have B1_1 := Lib.hid (B0_1.out.below hb1 (by rw [HZ0.out]; omega))
      have c1_1_0 := B1_1.out.cell 0 (v := .int .i64 c) rfl
      have c1_1_1 := B1_1.out.cell 1 (v := .int .i64 d) rfl
      have c1_1_2 := B1_1.out.cell 2 (v := .int .i64 e) rfl
      have c1_1_3 := B1_1.out.cell 3 (v := .int .i64 f) rfl
      clear hb1
      go_wp2_with fail
      refine (specTm_any c d e f false _ Q2.out).mono ?_
      rintro e' w2 ⟨rfl, hb2⟩
      have z2 : w.heap.size + 2 ≤ w2.heap.size := Nat.le_trans z1 hb2.size
      have HB2 := Lib.hid (HB1.out.trans (hb2.mono (by omega)))
      clear c1_0_0 c1_0_1 c1_0_2 c1_0_3 c1_1_0 c1_1_1 c1_1_2 c1_1_3
      have B2_0 := Lib.hid (B1_0.out.below hb2 (by omega))
      have c2_0_0 := B2_0.out.cell 0 (v := .int .i64 a) rfl
      have c2_0_1 := B2_0.out.cell 1 (v := .int .i64 b) rfl
      have c2_0_2 := B2_0.out.cell 2 (v := .int .i64 g) rfl
      have c2_0_3 := B2_0.out.cell 3 (v := .bool r) rfl
      have B2_1 := Lib.hid (B1_1.out.below hb2 (by omega))
      have c2_1_0 := B2_1.out.cell 0 (v := .int .i64 c) rfl
      have c2_1_1 := B2_1.out.cell 1 (v := .int .i64 d) rfl
      have c2_1_2 := B2_1.out.cell 2 (v := .int .i64 e) rfl
      have c2_1_3 := B2_1.out.cell 3 (v := .int .i64 f) rfl
      clear hb2
      go_wp2_with fail
      go_ret3
      exact ⟨rfl, HB2.out⟩

set_option maxRecDepth 100000 in
set_option maxHeartbeats 2000000 in
theorem implCr8_any (a b g c d e f i j x y k : Int) (r : Bool) (w : World) (hx : Pr.crX a b g c d e f i j = x) (hy : Pr.crY a b g c d e f i j = y) (hk : Pr.crC a b g c d e f i j = k) :
    Calls Try.prog 18 #[PV a b g r, TV c d e f, .int .i64 i, .int .i64 j] w fun e' w' => e' = .returned (.tuple #[.int .i64 x, .int .i64 y, .int .i64 k]) ∧ Below w.heap.size w w' := by
  rcases Pr.cr_cases a b g c d e f i j with ⟨X, Y, u, v, _, ⟨_, hp, ht⟩, ⟨hX, hY⟩, ⟨hr, hs, hgc⟩, ⟨n1, n2⟩, ⟨i0, i1, i2⟩, ⟨j0, j1, j2⟩, ⟨hu, u0, u1⟩, ⟨hv, v0, v1⟩, q1, q2, q3⟩ | ⟨_, ⟨hp, ht⟩, ho, q1, q2, q3⟩ | ⟨_, hb, q1, q2, q3⟩
  · obtain rfl : (0 : Int) = k := q3.symm.trans hk
    obtain ⟨a0, b0, g0, g1⟩ := Pr.sh_out hp
    obtain ⟨c0, d0, e0, f0⟩ := Pr.tm_out ht
    have HG1 := Lib.hid hr
    have HG2 := Lib.hid hs
    have HG3 := Lib.hid hgc
    have HC1 : ∀ V, Calls Try.prog 44 #[TV c d e f, .int .i64 i, .int .i64 c] V fun e' w' => e' = .returned (.int .i64 x) ∧ Below V.heap.size V w' := fun V => by have h_ := start_any c d e f i c u V e0 f0 c0 hu (by omega); rwa [show e + u = x from q1.symm.trans hx] at h_
    have HC2 : ∀ V, Calls Try.prog 44 #[TV c d e f, .int .i64 j, .int .i64 d] V fun e' w' => e' = .returned (.int .i64 y) ∧ Below V.heap.size V w' := fun V => by have h_ := start_any c d e f j d v V e0 f0 d0 hv (by omega); rwa [show e + v = y from q2.symm.trans hy] at h_
    clear hx hy hk hp ht hr hs hgc hX hY hu hv q1 q2 q3
    have B0_0 := Lib.hid ((Blk.new (w := w) (g := w.heap.size) #[.int .i64 a, .int .i64 b, .int .i64 g, .bool r] 25 (by simp)).alloc (.cells #[.int .i64 c, .int .i64 d, .int .i64 e, .int .i64 f] 27))
    have B0_1 := Lib.hid (Blk.new (w := (w.alloc (.cells #[.int .i64 a, .int .i64 b, .int .i64 g, .bool r] 25))) (g := w.heap.size + 1) #[.int .i64 c, .int .i64 d, .int .i64 e, .int .i64 f] 27 (by simp))
    have HB0 := Lib.hid ((below_new w (.cells #[.int .i64 a, .int .i64 b, .int .i64 g, .bool r] 25)).alloc (by simp <;> omega) (.cells #[.int .i64 c, .int .i64 d, .int .i64 e, .int .i64 f] 27))
    have Z0 : ((w.alloc (.cells #[.int .i64 a, .int .i64 b, .int .i64 g, .bool r] 25)).alloc (.cells #[.int .i64 c, .int .i64 d, .int .i64 e, .int .i64 f] 27)).heap.size = w.heap.size + 2 := by simp
    have HZ0 := Lib.hid Z0
    clear Z0
    go_enter Try.func18, Try.ntmps18
    go_wp2_with fail
    refine (implGd_any a b g c d e f X Y 0 r _ HG1.out HG2.out HG3.out).mono ?_
    rintro e' w1 ⟨rfl, hb1⟩
    have z1 : w.heap.size + 2 ≤ w1.heap.size := by have h_ := hb1.size; rw [HZ0.out] at h_; exact h_
    have HB1 := Lib.hid (HB0.out.trans (hb1.mono (by rw [HZ0.out]; omega)))
    have B1_0 := Lib.hid (B0_0.out.below hb1 (by rw [HZ0.out]; omega))
    have B1_1 := Lib.hid (B0_1.out.below hb1 (by rw [HZ0.out]; omega))
    have c1_1_0 := B1_1.out.cell 0 (v := .int .i64 c) rfl
    have c1_1_1 := B1_1.out.cell 1 (v := .int .i64 d) rfl
    have c1_1_2 := B1_1.out.cell 2 (v := .int .i64 e) rfl
    have c1_1_3 := B1_1.out.cell 3 (v := .int .i64 f) rfl
    clear hb1
    go_wp2_with fail
    go_region_held3 (fun V => V.cell? ⟨w.heap.size + 1, 0, none⟩ = some (.int .i64 c) ∧ V.cell? ⟨w.heap.size + 1, 1, none⟩ = some (.int .i64 d) ∧ V.cell? ⟨w.heap.size + 1, 2, none⟩ = some (.int .i64 e) ∧ V.cell? ⟨w.heap.size + 1, 3, none⟩ = some (.int .i64 f))
      (first | go_keep | (refine ⟨?_, ?_, ?_, ?_⟩ <;> (first | go_keep | (rw [hbk.cell (by first | omega | (simp; omega) | simp)]; first | assumption | go_keep))))
      (first
        | (go_at_call 44; with_reducible refine (HC2 _).mono ?_; rintro e' w3 ⟨rfl, hbk⟩; have hbk3 := hbk)
        | (go_at_call 44; with_reducible refine (HC1 _).mono ?_; rintro e' w2 ⟨rfl, hbk⟩; have hbk2 := hbk; have zk : w.heap.size + 2 ≤ w2.heap.size := Nat.le_trans z1 (sz_drew hbk)))
    go_wp2_with fail
    go_ret3
    exact ⟨rfl, (below_drewN' HB1.out 1).trans ((hbk2.trans (hbk3.mono hbk2.size)).mono (show w.heap.size ≤ w1.heap.size by omega))⟩
  · obtain rfl : (2 : Int) = k := q3.symm.trans hk
    obtain rfl : (0 : Int) = x := q1.symm.trans hx
    obtain rfl : (0 : Int) = y := q2.symm.trans hy
    obtain ⟨X, hX⟩ : ∃ X, Pr.gdR a b g c d e f = X := ⟨_, rfl⟩
    obtain ⟨Y, hY⟩ : ∃ Y, Pr.gdS a b g c d e f = Y := ⟨_, rfl⟩
    have hK := Pr.gd_both (a := a) (b := b) (g := g) (c := c) (d := d) (e := e) (f := f) (by unfold Pr.bothB; rw [hp, ht]; rfl)
    rw [hX, hY] at ho
    have HG1 := Lib.hid hX
    have HG2 := Lib.hid hY
    clear hx hy hk hp ht hX hY q1 q2 q3
    rcases hK with hK | hK
    · have HG3 := Lib.hid hK
      clear hK
      by_cases k0 : i < 0
      · clear ho
        have B0_0 := Lib.hid ((Blk.new (w := w) (g := w.heap.size) #[.int .i64 a, .int .i64 b, .int .i64 g, .bool r] 25 (by simp)).alloc (.cells #[.int .i64 c, .int .i64 d, .int .i64 e, .int .i64 f] 27))
        have B0_1 := Lib.hid (Blk.new (w := (w.alloc (.cells #[.int .i64 a, .int .i64 b, .int .i64 g, .bool r] 25))) (g := w.heap.size + 1) #[.int .i64 c, .int .i64 d, .int .i64 e, .int .i64 f] 27 (by simp))
        have HB0 := Lib.hid ((below_new w (.cells #[.int .i64 a, .int .i64 b, .int .i64 g, .bool r] 25)).alloc (by simp <;> omega) (.cells #[.int .i64 c, .int .i64 d, .int .i64 e, .int .i64 f] 27))
        have Z0 : ((w.alloc (.cells #[.int .i64 a, .int .i64 b, .int .i64 g, .bool r] 25)).alloc (.cells #[.int .i64 c, .int .i64 d, .int .i64 e, .int .i64 f] 27)).heap.size = w.heap.size + 2 := by simp
        have HZ0 := Lib.hid Z0
        clear Z0
        go_enter Try.func18, Try.ntmps18
        go_wp2_with fail
        refine (implGd_any a b g c d e f X Y 0 r _ HG1.out HG2.out HG3.out).mono ?_
        rintro e' w1 ⟨rfl, hb1⟩
        have z1 : w.heap.size + 2 ≤ w1.heap.size := by have h_ := hb1.size; rw [HZ0.out] at h_; exact h_
        have HB1 := Lib.hid (HB0.out.trans (hb1.mono (by rw [HZ0.out]; omega)))
        have B1_0 := Lib.hid (B0_0.out.below hb1 (by rw [HZ0.out]; omega))
        have B1_1 := Lib.hid (B0_1.out.below hb1 (by rw [HZ0.out]; omega))
        clear hb1
        go_wp2_with fail
        go_ret3
        exact ⟨rfl, HB1.out⟩
      by_cases k1 : X ≤ i
      · have h1_ : 0 ≤ i := by omega
        clear ho k0
        have B0_0 := Lib.hid ((Blk.new (w := w) (g := w.heap.size) #[.int .i64 a, .int .i64 b, .int .i64 g, .bool r] 25 (by simp)).alloc (.cells #[.int .i64 c, .int .i64 d, .int .i64 e, .int .i64 f] 27))
        have B0_1 := Lib.hid (Blk.new (w := (w.alloc (.cells #[.int .i64 a, .int .i64 b, .int .i64 g, .bool r] 25))) (g := w.heap.size + 1) #[.int .i64 c, .int .i64 d, .int .i64 e, .int .i64 f] 27 (by simp))
        have HB0 := Lib.hid ((below_new w (.cells #[.int .i64 a, .int .i64 b, .int .i64 g, .bool r] 25)).alloc (by simp <;> omega) (.cells #[.int .i64 c, .int .i64 d, .int .i64 e, .int .i64 f] 27))
        have Z0 : ((w.alloc (.cells #[.int .i64 a, .int .i64 b, .int .i64 g, .bool r] 25)).alloc (.cells #[.int .i64 c, .int .i64 d, .int .i64 e, .int .i64 f] 27)).heap.size = w.heap.size + 2 := by simp
        have HZ0 := Lib.hid Z0
        clear Z0
        go_enter Try.func18, Try.ntmps18
        go_wp2_with fail
        refine (implGd_any a b g c d e f X Y 0 r _ HG1.out HG2.out HG3.out).mono ?_
        rintro e' w1 ⟨rfl, hb1⟩
        have z1 : w.heap.size + 2 ≤ w1.heap.size := by have h_ := hb1.size; rw [HZ0.out] at h_; exact h_
        have HB1 := Lib.hid (HB0.out.trans (hb1.mono (by rw [HZ0.out]; omega)))
        have B1_0 := Lib.hid (B0_0.out.below hb1 (by rw [HZ0.out]; omega))
        have B1_1 := Lib.hid (B0_1.out.below hb1 (by rw [HZ0.out]; omega))
        clear hb1
        go_wp2_with fail
        go_ret3
        exact ⟨rfl, HB1.out⟩
      by_cases k2 : j < 0
      · have h1_ : 0 ≤ i := by omega
        have h2_ : i < X := by omega
        clear ho k0 k1
        have B0_0 := Lib.hid ((Blk.new (w := w) (g := w.heap.size) #[.int .i64 a, .int .i64 b, .int .i64 g, .bool r] 25 (by simp)).alloc (.cells #[.int .i64 c, .int .i64 d, .int .i64 e, .int .i64 f] 27))
        have B0_1 := Lib.hid (Blk.new (w := (w.alloc (.cells #[.int .i64 a, .int .i64 b, .int .i64 g, .bool r] 25))) (g := w.heap.size + 1) #[.int .i64 c, .int .i64 d, .int .i64 e, .int .i64 f] 27 (by simp))
        have HB0 := Lib.hid ((below_new w (.cells #[.int .i64 a, .int .i64 b, .int .i64 g, .bool r] 25)).alloc (by simp <;> omega) (.cells #[.int .i64 c, .int .i64 d, .int .i64 e, .int .i64 f] 27))
        have Z0 : ((w.alloc (.cells #[.int .i64 a, .int .i64 b, .int .i64 g, .bool r] 25)).alloc (.cells #[.int .i64 c, .int .i64 d, .int .i64 e, .int .i64 f] 27)).heap.size = w.heap.size + 2 := by simp
        have HZ0 := Lib.hid Z0
        clear Z0
        go_enter Try.func18, Try.ntmps18
        go_wp2_with fail
        refine (implGd_any a b g c d e f X Y 0 r _ HG1.out HG2.out HG3.out).mono ?_
        rintro e' w1 ⟨rfl, hb1⟩
        have z1 : w.heap.size + 2 ≤ w1.heap.size := by have h_ := hb1.size; rw [HZ0.out] at h_; exact h_
        have HB1 := Lib.hid (HB0.out.trans (hb1.mono (by rw [HZ0.out]; omega)))
        have B1_0 := Lib.hid (B0_0.out.below hb1 (by rw [HZ0.out]; omega))
        have B1_1 := Lib.hid (B0_1.out.below hb1 (by rw [HZ0.out]; omega))
        clear hb1
        go_wp2_with fail
        go_ret3
        exact ⟨rfl, HB1.out⟩
      have h1_ : 0 ≤ i := by omega
      have h2_ : i < X := by omega
      have h3_ : 0 ≤ j := by omega
      have h4_ : Y ≤ j := by omega
      clear ho k0 k1 k2
      have B0_0 := Lib.hid ((Blk.new (w := w) (g := w.heap.size) #[.int .i64 a, .int .i64 b, .int .i64 g, .bool r] 25 (by simp)).alloc (.cells #[.int .i64 c, .int .i64 d, .int .i64 e, .int .i64 f] 27))
      have B0_1 := Lib.hid (Blk.new (w := (w.alloc (.cells #[.int .i64 a, .int .i64 b, .int .i64 g, .bool r] 25))) (g := w.heap.size + 1) #[.int .i64 c, .int .i64 d, .int .i64 e, .int .i64 f] 27 (by simp))
      have HB0 := Lib.hid ((below_new w (.cells #[.int .i64 a, .int .i64 b, .int .i64 g, .bool r] 25)).alloc (by simp <;> omega) (.cells #[.int .i64 c, .int .i64 d, .int .i64 e, .int .i64 f] 27))
      have Z0 : ((w.alloc (.cells #[.int .i64 a, .int .i64 b, .int .i64 g, .bool r] 25)).alloc (.cells #[.int .i64 c, .int .i64 d, .int .i64 e, .int .i64 f] 27)).heap.size = w.heap.size + 2 := by simp
      have HZ0 := Lib.hid Z0
      clear Z0
      go_enter Try.func18, Try.ntmps18
      go_wp2_with fail
      refine (implGd_any a b g c d e f X Y 0 r _ HG1.out HG2.out HG3.out).mono ?_
      rintro e' w1 ⟨rfl, hb1⟩
      have z1 : w.heap.size + 2 ≤ w1.heap.size := by have h_ := hb1.size; rw [HZ0.out] at h_; exact h_
      have HB1 := Lib.hid (HB0.out.trans (hb1.mono (by rw [HZ0.out]; omega)))
      have B1_0 := Lib.hid (B0_0.out.below hb1 (by rw [HZ0.out]; omega))
      have B1_1 := Lib.hid (B0_1.out.below hb1 (by rw [HZ0.out]; omega))
      clear hb1
      go_wp2_with fail
      go_ret3
      exact ⟨rfl, HB1.out⟩
    · have HG3 := Lib.hid hK
      clear hK
      by_cases k0 : i < 0
      · clear ho
        have B0_0 := Lib.hid ((Blk.new (w := w) (g := w.heap.size) #[.int .i64 a, .int .i64 b, .int .i64 g, .bool r] 25 (by simp)).alloc (.cells #[.int .i64 c, .int .i64 d, .int .i64 e, .int .i64 f] 27))
        have B0_1 := Lib.hid (Blk.new (w := (w.alloc (.cells #[.int .i64 a, .int .i64 b, .int .i64 g, .bool r] 25))) (g := w.heap.size + 1) #[.int .i64 c, .int .i64 d, .int .i64 e, .int .i64 f] 27 (by simp))
        have HB0 := Lib.hid ((below_new w (.cells #[.int .i64 a, .int .i64 b, .int .i64 g, .bool r] 25)).alloc (by simp <;> omega) (.cells #[.int .i64 c, .int .i64 d, .int .i64 e, .int .i64 f] 27))
        have Z0 : ((w.alloc (.cells #[.int .i64 a, .int .i64 b, .int .i64 g, .bool r] 25)).alloc (.cells #[.int .i64 c, .int .i64 d, .int .i64 e, .int .i64 f] 27)).heap.size = w.heap.size + 2 := by simp
        have HZ0 := Lib.hid Z0
        clear Z0
        go_enter Try.func18, Try.ntmps18
        go_wp2_with fail
        refine (implGd_any a b g c d e f X Y 4 r _ HG1.out HG2.out HG3.out).mono ?_
        rintro e' w1 ⟨rfl, hb1⟩
        have z1 : w.heap.size + 2 ≤ w1.heap.size := by have h_ := hb1.size; rw [HZ0.out] at h_; exact h_
        have HB1 := Lib.hid (HB0.out.trans (hb1.mono (by rw [HZ0.out]; omega)))
        have B1_0 := Lib.hid (B0_0.out.below hb1 (by rw [HZ0.out]; omega))
        have B1_1 := Lib.hid (B0_1.out.below hb1 (by rw [HZ0.out]; omega))
        clear hb1
        go_wp2_with fail
        go_ret3
        exact ⟨rfl, HB1.out⟩
      by_cases k1 : X ≤ i
      · have h1_ : 0 ≤ i := by omega
        clear ho k0
        have B0_0 := Lib.hid ((Blk.new (w := w) (g := w.heap.size) #[.int .i64 a, .int .i64 b, .int .i64 g, .bool r] 25 (by simp)).alloc (.cells #[.int .i64 c, .int .i64 d, .int .i64 e, .int .i64 f] 27))
        have B0_1 := Lib.hid (Blk.new (w := (w.alloc (.cells #[.int .i64 a, .int .i64 b, .int .i64 g, .bool r] 25))) (g := w.heap.size + 1) #[.int .i64 c, .int .i64 d, .int .i64 e, .int .i64 f] 27 (by simp))
        have HB0 := Lib.hid ((below_new w (.cells #[.int .i64 a, .int .i64 b, .int .i64 g, .bool r] 25)).alloc (by simp <;> omega) (.cells #[.int .i64 c, .int .i64 d, .int .i64 e, .int .i64 f] 27))
        have Z0 : ((w.alloc (.cells #[.int .i64 a, .int .i64 b, .int .i64 g, .bool r] 25)).alloc (.cells #[.int .i64 c, .int .i64 d, .int .i64 e, .int .i64 f] 27)).heap.size = w.heap.size + 2 := by simp
        have HZ0 := Lib.hid Z0
        clear Z0
        go_enter Try.func18, Try.ntmps18
        go_wp2_with fail
        refine (implGd_any a b g c d e f X Y 4 r _ HG1.out HG2.out HG3.out).mono ?_
        rintro e' w1 ⟨rfl, hb1⟩
        have z1 : w.heap.size + 2 ≤ w1.heap.size := by have h_ := hb1.size; rw [HZ0.out] at h_; exact h_
        have HB1 := Lib.hid (HB0.out.trans (hb1.mono (by rw [HZ0.out]; omega)))
        have B1_0 := Lib.hid (B0_0.out.below hb1 (by rw [HZ0.out]; omega))
        have B1_1 := Lib.hid (B0_1.out.below hb1 (by rw [HZ0.out]; omega))
        clear hb1
        go_wp2_with fail
        go_ret3
        exact ⟨rfl, HB1.out⟩
      by_cases k2 : j < 0
      · have h1_ : 0 ≤ i := by omega
        have h2_ : i < X := by omega
        clear ho k0 k1
        have B0_0 := Lib.hid ((Blk.new (w := w) (g := w.heap.size) #[.int .i64 a, .int .i64 b, .int .i64 g, .bool r] 25 (by simp)).alloc (.cells #[.int .i64 c, .int .i64 d, .int .i64 e, .int .i64 f] 27))
        have B0_1 := Lib.hid (Blk.new (w := (w.alloc (.cells #[.int .i64 a, .int .i64 b, .int .i64 g, .bool r] 25))) (g := w.heap.size + 1) #[.int .i64 c, .int .i64 d, .int .i64 e, .int .i64 f] 27 (by simp))
        have HB0 := Lib.hid ((below_new w (.cells #[.int .i64 a, .int .i64 b, .int .i64 g, .bool r] 25)).alloc (by simp <;> omega) (.cells #[.int .i64 c, .int .i64 d, .int .i64 e, .int .i64 f] 27))
        have Z0 : ((w.alloc (.cells #[.int .i64 a, .int .i64 b, .int .i64 g, .bool r] 25)).alloc (.cells #[.int .i64 c, .int .i64 d, .int .i64 e, .int .i64 f] 27)).heap.size = w.heap.size + 2 := by simp
        have HZ0 := Lib.hid Z0
        clear Z0
        go_enter Try.func18, Try.ntmps18
        go_wp2_with fail
        refine (implGd_any a b g c d e f X Y 4 r _ HG1.out HG2.out HG3.out).mono ?_
        rintro e' w1 ⟨rfl, hb1⟩
        have z1 : w.heap.size + 2 ≤ w1.heap.size := by have h_ := hb1.size; rw [HZ0.out] at h_; exact h_
        have HB1 := Lib.hid (HB0.out.trans (hb1.mono (by rw [HZ0.out]; omega)))
        have B1_0 := Lib.hid (B0_0.out.below hb1 (by rw [HZ0.out]; omega))
        have B1_1 := Lib.hid (B0_1.out.below hb1 (by rw [HZ0.out]; omega))
        clear hb1
        go_wp2_with fail
        go_ret3
        exact ⟨rfl, HB1.out⟩
      have h1_ : 0 ≤ i := by omega
      have h2_ : i < X := by omega
      have h3_ : 0 ≤ j := by omega
      have h4_ : Y ≤ j := by omega
      clear ho k0 k1 k2
      have B0_0 := Lib.hid ((Blk.new (w := w) (g := w.heap.size) #[.int .i64 a, .int .i64 b, .int .i64 g, .bool r] 25 (by simp)).alloc (.cells #[.int .i64 c, .int .i64 d, .int .i64 e, .int .i64 f] 27))
      have B0_1 := Lib.hid (Blk.new (w := (w.alloc (.cells #[.int .i64 a, .int .i64 b, .int .i64 g, .bool r] 25))) (g := w.heap.size + 1) #[.int .i64 c, .int .i64 d, .int .i64 e, .int .i64 f] 27 (by simp))
      have HB0 := Lib.hid ((below_new w (.cells #[.int .i64 a, .int .i64 b, .int .i64 g, .bool r] 25)).alloc (by simp <;> omega) (.cells #[.int .i64 c, .int .i64 d, .int .i64 e, .int .i64 f] 27))
      have Z0 : ((w.alloc (.cells #[.int .i64 a, .int .i64 b, .int .i64 g, .bool r] 25)).alloc (.cells #[.int .i64 c, .int .i64 d, .int .i64 e, .int .i64 f] 27)).heap.size = w.heap.size + 2 := by simp
      have HZ0 := Lib.hid Z0
      clear Z0
      go_enter Try.func18, Try.ntmps18
      go_wp2_with fail
      refine (implGd_any a b g c d e f X Y 4 r _ HG1.out HG2.out HG3.out).mono ?_
      rintro e' w1 ⟨rfl, hb1⟩
      have z1 : w.heap.size + 2 ≤ w1.heap.size := by have h_ := hb1.size; rw [HZ0.out] at h_; exact h_
      have HB1 := Lib.hid (HB0.out.trans (hb1.mono (by rw [HZ0.out]; omega)))
      have B1_0 := Lib.hid (B0_0.out.below hb1 (by rw [HZ0.out]; omega))
      have B1_1 := Lib.hid (B0_1.out.below hb1 (by rw [HZ0.out]; omega))
      clear hb1
      go_wp2_with fail
      go_ret3
      exact ⟨rfl, HB1.out⟩
  · obtain rfl : (1 : Int) = k := q3.symm.trans hk
    obtain rfl : (0 : Int) = x := q1.symm.trans hx
    obtain rfl : (0 : Int) = y := q2.symm.trans hy
    clear hx hy hk q1 q2 q3
    have hgd : Pr.gdR a b g c d e f = 0 ∧ Pr.gdS a b g c d e f = 0 ∧ Pr.gdC a b g c d e f = 1 := by
      rcases Pr.gd_cases a b g c d e f with ⟨_, m1, m2, _⟩ | ⟨_, m1, m2, _⟩ | ⟨_, _, m1, m2, m3⟩
      · unfold Pr.bothB at hb; rw [m1, m2] at hb; cases hb
      · unfold Pr.bothB at hb; rw [m1, m2] at hb; cases hb
      · exact ⟨m1, m2, m3⟩
    have HG := Lib.hid hgd
    clear hb hgd
    have B0_0 := Lib.hid ((Blk.new (w := w) (g := w.heap.size) #[.int .i64 a, .int .i64 b, .int .i64 g, .bool r] 25 (by simp)).alloc (.cells #[.int .i64 c, .int .i64 d, .int .i64 e, .int .i64 f] 27))
    have B0_1 := Lib.hid (Blk.new (w := (w.alloc (.cells #[.int .i64 a, .int .i64 b, .int .i64 g, .bool r] 25))) (g := w.heap.size + 1) #[.int .i64 c, .int .i64 d, .int .i64 e, .int .i64 f] 27 (by simp))
    have HB0 := Lib.hid ((below_new w (.cells #[.int .i64 a, .int .i64 b, .int .i64 g, .bool r] 25)).alloc (by simp <;> omega) (.cells #[.int .i64 c, .int .i64 d, .int .i64 e, .int .i64 f] 27))
    have Z0 : ((w.alloc (.cells #[.int .i64 a, .int .i64 b, .int .i64 g, .bool r] 25)).alloc (.cells #[.int .i64 c, .int .i64 d, .int .i64 e, .int .i64 f] 27)).heap.size = w.heap.size + 2 := by simp
    have HZ0 := Lib.hid Z0
    clear Z0
    go_enter Try.func18, Try.ntmps18
    go_wp2_with fail
    refine (implGd_any a b g c d e f 0 0 1 r _ HG.out.1 HG.out.2.1 HG.out.2.2).mono ?_
    rintro e' w1 ⟨rfl, hb1⟩
    have z1 : w.heap.size + 2 ≤ w1.heap.size := by have h_ := hb1.size; rw [HZ0.out] at h_; exact h_
    have HB1 := Lib.hid (HB0.out.trans (hb1.mono (by rw [HZ0.out]; omega)))
    have B1_0 := Lib.hid (B0_0.out.below hb1 (by rw [HZ0.out]; omega))
    have B1_1 := Lib.hid (B0_1.out.below hb1 (by rw [HZ0.out]; omega))
    clear hb1
    go_wp2_with fail
    go_ret3
    exact ⟨rfl, HB1.out⟩
end Go.Proofs.Ythepfejoneeaeaa

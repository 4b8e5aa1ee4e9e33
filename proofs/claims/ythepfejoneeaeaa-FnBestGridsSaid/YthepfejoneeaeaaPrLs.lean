/- Contracts of TurnTrim and of the model's LeastSheet. -/
import Derived.Test.YthepfejoneeaeaaPrCo
namespace Go.Proofs.Ythepfejoneeaeaa
open Go.RowKit

/-- Four cells stored, one after another. -/
abbrev put4w (w : World) (g : Nat) (v0 v1 v2 v3 : Value) : World := (((w.setCell ⟨g, 0, none⟩ v0).setCell ⟨g, 1, none⟩ v1).setCell ⟨g, 2, none⟩ v2).setCell ⟨g, 3, none⟩ v3
theorem Blk.put4 {w : World} {g : Nat} {u0 u1 u2 u3 : Value} {t : TypeId} (h : Blk w g #[u0, u1, u2, u3] t) (v0 v1 v2 v3 : Value) : Blk (put4w w g v0 v1 v2 v3) g #[v0, v1, v2, v3] t := by
  have h4 := (((h.set 0 v0).set 1 v1).set 2 v2).set 3 v3
  simpa using h4
theorem below_put4 {w0 w : World} {B g : Nat} (h : Below B w0 w) (hg : B ≤ g) (v0 v1 v2 v3 : Value) : Below B w0 (put4w w g v0 v1 v2 v3) :=
  (((h.setCell hg _).setCell hg _).setCell hg _).setCell hg _

set_option maxRecDepth 100000 in
set_option maxHeartbeats 2000000 in
theorem implTt_any (c d e f p q s u k : Int) (w : World) (h : Pr.ttP c d e f p q s u k) :
    Calls Try.prog 29 #[TV c d e f] w fun e' w' => e' = .returned (.tuple #[TV p q s u, .int .i64 k]) ∧ Below w.heap.size w w' := by
  rcases h with ⟨ht, rfl, rfl, rfl, rfl, rfl⟩ | ⟨ht, rfl, rfl, rfl, rfl, rfl⟩
  · have Q := Lib.hid ht
    clear ht
    have B0_0 := Lib.hid ((Blk.new (w := w) (g := w.heap.size) #[.int .i64 q, .int .i64 p, .int .i64 s, .int .i64 u] 27 (by simp)).alloc (.cells #[.int .i64 0, .int .i64 0, .int .i64 0, .int .i64 0] 27))
    have B0_1 := Lib.hid (Blk.new (w := (w.alloc (.cells #[.int .i64 q, .int .i64 p, .int .i64 s, .int .i64 u] 27))) (g := w.heap.size + 1) #[.int .i64 0, .int .i64 0, .int .i64 0, .int .i64 0] 27 (by simp))
    have HB0 := Lib.hid ((below_new w (.cells #[.int .i64 q, .int .i64 p, .int .i64 s, .int .i64 u] 27)).alloc (by simp <;> omega) (.cells #[.int .i64 0, .int .i64 0, .int .i64 0, .int .i64 0] 27))
    have Z0 : ((w.alloc (.cells #[.int .i64 q, .int .i64 p, .int .i64 s, .int .i64 u] 27)).alloc (.cells #[.int .i64 0, .int .i64 0, .int .i64 0, .int .i64 0] 27)).heap.size = w.heap.size + 2 := by simp
    have HZ0 := Lib.hid Z0
    clear Z0
    go_enter Try.func29, Try.ntmps29
    go_wp2_with fail
    refine (implTm_any q p s u true _ Q.out).mono ?_
    rintro e' w1 ⟨rfl, hb1⟩
    have z1 : w.heap.size + 2 ≤ w1.heap.size := by have h_ := hb1.size; rw [HZ0.out] at h_; exact h_
    have HB1 := Lib.hid (HB0.out.trans (hb1.mono (by rw [HZ0.out]; omega)))
    have B1_0 := Lib.hid (B0_0.out.below hb1 (by rw [HZ0.out]; omega))
    have c1_0_0 := B1_0.out.cell 0 (v := .int .i64 q) rfl
    have c1_0_1 := B1_0.out.cell 1 (v := .int .i64 p) rfl
    have c1_0_2 := B1_0.out.cell 2 (v := .int .i64 s) rfl
    have c1_0_3 := B1_0.out.cell 3 (v := .int .i64 u) rfl
    have B1_1 := Lib.hid (B0_1.out.below hb1 (by rw [HZ0.out]; omega))
    clear hb1
    go_wp2_with fail
    refine (turned_any q p s u _).mono ?_
    rintro e' w2 ⟨rfl, hb2⟩
    have z2 : w.heap.size + 2 ≤ w2.heap.size := Nat.le_trans z1 hb2.size
    have HB2 := Lib.hid (HB1.out.trans (hb2.mono (by omega)))
    clear c1_0_0 c1_0_1 c1_0_2 c1_0_3
    have B2_0 := Lib.hid (B1_0.out.below hb2 (by omega))
    have B2_1 := Lib.hid (B1_1.out.below hb2 (by omega))
    clear hb2
    have x0 := B2_1.out.cell 0 (v := .int .i64 0) rfl
    have x1 := B2_1.out.cell 1 (v := .int .i64 0) rfl
    have x2 := B2_1.out.cell 2 (v := .int .i64 0) rfl
    have x3 := B2_1.out.cell 3 (v := .int .i64 0) rfl
    have p1_0 := B2_1.out.free 0
    have p1_1 := B2_1.out.free 1
    have p1_2 := B2_1.out.free 2
    have p1_3 := B2_1.out.free 3
    have S4 := Lib.hid (B2_1.out.put4 (.int .i64 p) (.int .i64 q) (.int .i64 s) (.int .i64 u))
    go_wp2_with fail
    have d0 := S4.out.cell 0 (v := .int .i64 p) rfl
    have d1 := S4.out.cell 1 (v := .int .i64 q) rfl
    have d2 := S4.out.cell 2 (v := .int .i64 s) rfl
    have d3 := S4.out.cell 3 (v := .int .i64 u) rfl
    exact bodyPost_ret (v := .tuple #[TV p q s u, .int .i64 0]) (by simp [results, Try.results29, go_sem, d0, d1, d2, d3]) rfl ⟨rfl, below_put4 HB2.out (by omega) _ _ _ _⟩
  · have Q := Lib.hid ht
    clear ht
    have B0_0 := Lib.hid ((Blk.new (w := w) (g := w.heap.size) #[.int .i64 c, .int .i64 d, .int .i64 e, .int .i64 f] 27 (by simp)).alloc (.cells #[.int .i64 0, .int .i64 0, .int .i64 0, .int .i64 0] 27))
    have B0_1 := Lib.hid (Blk.new (w := (w.alloc (.cells #[.int .i64 c, .int .i64 d, .int .i64 e, .int .i64 f] 27))) (g := w.heap.size + 1) #[.int .i64 0, .int .i64 0, .int .i64 0, .int .i64 0] 27 (by simp))
    have HB0 := Lib.hid ((below_new w (.cells #[.int .i64 c, .int .i64 d, .int .i64 e, .int .i64 f] 27)).alloc (by simp <;> omega) (.cells #[.int .i64 0, .int .i64 0, .int .i64 0, .int .i64 0] 27))
    have Z0 : ((w.alloc (.cells #[.int .i64 c, .int .i64 d, .int .i64 e, .int .i64 f] 27)).alloc (.cells #[.int .i64 0, .int .i64 0, .int .i64 0, .int .i64 0] 27)).heap.size = w.heap.size + 2 := by simp
    have HZ0 := Lib.hid Z0
    clear Z0
    go_enter Try.func29, Try.ntmps29
    go_wp2_with fail
    refine (implTm_any c d e f false _ Q.out).mono ?_
    rintro e' w1 ⟨rfl, hb1⟩
    have z1 : w.heap.size + 2 ≤ w1.heap.size := by have h_ := hb1.size; rw [HZ0.out] at h_; exact h_
    have HB1 := Lib.hid (HB0.out.trans (hb1.mono (by rw [HZ0.out]; omega)))
    have B1_0 := Lib.hid (B0_0.out.below hb1 (by rw [HZ0.out]; omega))
    have B1_1 := Lib.hid (B0_1.out.below hb1 (by rw [HZ0.out]; omega))
    clear hb1
    have x0 := B1_1.out.cell 0 (v := .int .i64 0) rfl
    have x1 := B1_1.out.cell 1 (v := .int .i64 0) rfl
    have x2 := B1_1.out.cell 2 (v := .int .i64 0) rfl
    have x3 := B1_1.out.cell 3 (v := .int .i64 0) rfl
    have p1_0 := B1_1.out.free 0
    have p1_1 := B1_1.out.free 1
    have p1_2 := B1_1.out.free 2
    have p1_3 := B1_1.out.free 3
    have S4 := Lib.hid (B1_1.out.put4 (.int .i64 0) (.int .i64 0) (.int .i64 0) (.int .i64 0))
    go_wp2_with fail
    have d0 := S4.out.cell 0 (v := .int .i64 0) rfl
    have d1 := S4.out.cell 1 (v := .int .i64 0) rfl
    have d2 := S4.out.cell 2 (v := .int .i64 0) rfl
    have d3 := S4.out.cell 3 (v := .int .i64 0) rfl
    exact bodyPost_ret (v := .tuple #[TV 0 0 0 0, .int .i64 1]) (by simp [results, Try.results29, go_sem, d0, d1, d2, d3]) rfl ⟨rfl, below_put4 HB1.out (by omega) _ _ _ _⟩

set_option maxRecDepth 100000 in
set_option maxHeartbeats 2000000 in
theorem specTt_any (c d e f p q s u k : Int) (w : World) (h : Pr.ttP c d e f p q s u k) :
    Calls Try.prog 30 #[TV c d e f] w fun e' w' => e' = .returned (.tuple #[TV p q s u, .int .i64 k]) ∧ Below w.heap.size w w' := by
  rcases h with ⟨ht, rfl, rfl, rfl, rfl, rfl⟩ | ⟨ht, rfl, rfl, rfl, rfl, rfl⟩
  · have Q := Lib.hid ht
    clear ht
    have B0_0 := Lib.hid ((Blk.new (w := w) (g := w.heap.size) #[.int .i64 q, .int .i64 p, .int .i64 s, .int .i64 u] 27 (by simp)).alloc (.cells #[.int .i64 0, .int .i64 0, .int .i64 0, .int .i64 0] 27))
    have B0_1 := Lib.hid (Blk.new (w := (w.alloc (.cells #[.int .i64 q, .int .i64 p, .int .i64 s, .int .i64 u] 27))) (g := w.heap.size + 1) #[.int .i64 0, .int .i64 0, .int .i64 0, .int .i64 0] 27 (by simp))
    have HB0 := Lib.hid ((below_new w (.cells #[.int .i64 q, .int .i64 p, .int .i64 s, .int .i64 u] 27)).alloc (by simp <;> omega) (.cells #[.int .i64 0, .int .i64 0, .int .i64 0, .int .i64 0] 27))
    have Z0 : ((w.alloc (.cells #[.int .i64 q, .int .i64 p, .int .i64 s, .int .i64 u] 27)).alloc (.cells #[.int .i64 0, .int .i64 0, .int .i64 0, .int .i64 0] 27)).heap.size = w.heap.size + 2 := by simp
    have HZ0 := Lib.hid Z0
    clear Z0
    go_enter Try.func30, Try.ntmps30
    go_wp2_with fail
    refine (specTm_any q p s u true _ Q.out).mono ?_
    rintro e' w1 ⟨rfl, hb1⟩
    have z1 : w.heap.size + 2 ≤ w1.heap.size := by have h_ := hb1.size; rw [HZ0.out] at h_; exact h_
    have HB1 := Lib.hid (HB0.out.trans (hb1.mono (by rw [HZ0.out]; omega)))
    have B1_0 := Lib.hid (B0_0.out.below hb1 (by rw [HZ0.out]; omega))
    have c1_0_0 := B1_0.out.cell 0 (v := .int .i64 q) rfl
    have c1_0_1 := B1_0.out.cell 1 (v := .int .i64 p) rfl
    have c1_0_2 := B1_0.out.cell 2 (v := .int .i64 s) rfl
    have c1_0_3 := B1_0.out.cell 3 (v := .int .i64 u) rfl
    have B1_1 := Lib.hid (B0_1.out.below hb1 (by rw [HZ0.out]; omega))
    clear hb1
    go_wp2_with fail
    refine (specTurn_any q p s u _).mono ?_
    rintro e' w2 ⟨rfl, hb2⟩
    have z2 : w.heap.size + 2 ≤ w2.heap.size := Nat.le_trans z1 hb2.size
    have HB2 := Lib.hid (HB1.out.trans (hb2.mono (by omega)))
    clear c1_0_0 c1_0_1 c1_0_2 c1_0_3
    have B2_0 := Lib.hid (B1_0.out.below hb2 (by omega))
    have B2_1 := Lib.hid (B1_1.out.below hb2 (by omega))
    clear hb2
    have x0 := B2_1.out.cell 0 (v := .int .i64 0) rfl
    have x1 := B2_1.out.cell 1 (v := .int .i64 0) rfl
    have x2 := B2_1.out.cell 2 (v := .int .i64 0) rfl
    have x3 := B2_1.out.cell 3 (v := .int .i64 0) rfl
    have p1_0 := B2_1.out.free 0
    have p1_1 := B2_1.out.free 1
    have p1_2 := B2_1.out.free 2
    have p1_3 := B2_1.out.free 3
    have S4 := Lib.hid (B2_1.out.put4 (.int .i64 p) (.int .i64 q) (.int .i64 s) (.int .i64 u))
    go_wp2_with fail
    have d0 := S4.out.cell 0 (v := .int .i64 p) rfl
    have d1 := S4.out.cell 1 (v := .int .i64 q) rfl
    have d2 := S4.out.cell 2 (v := .int .i64 s) rfl
    have d3 := S4.out.cell 3 (v := .int .i64 u) rfl
    exact bodyPost_ret (v := .tuple #[TV p q s u, .int .i64 0]) (by simp [results, Try.results30, go_sem, d0, d1, d2, d3]) rfl ⟨rfl, below_put4 HB2.out (by omega) _ _ _ _⟩
  · have Q := Lib.hid ht
    clear ht
    have B0_0 := Lib.hid ((Blk.new (w := w) (g := w.heap.size) #[.int .i64 c, .int .i64 d, .int .i64 e, .int .i64 f] 27 (by simp)).alloc (.cells #[.int .i64 0, .int .i64 0, .int .i64 0, .int .i64 0] 27))
    have B0_1 := Lib.hid (Blk.new (w := (w.alloc (.cells #[.int .i64 c, .int .i64 d, .int .i64 e, .int .i64 f] 27))) (g := w.heap.size + 1) #[.int .i64 0, .int .i64 0, .int .i64 0, .int .i64 0] 27 (by simp))
    have HB0 := Lib.hid ((below_new w (.cells #[.int .i64 c, .int .i64 d, .int .i64 e, .int .i64 f] 27)).alloc (by simp <;> omega) (.cells #[.int .i64 0, .int .i64 0, .int .i64 0, .int .i64 0] 27))
    have Z0 : ((w.alloc (.cells #[.int .i64 c, .int .i64 d, .int .i64 e, .int .i64 f] 27)).alloc (.cells #[.int .i64 0, .int .i64 0, .int .i64 0, .int .i64 0] 27)).heap.size = w.heap.size + 2 := by simp
    have HZ0 := Lib.hid Z0
    clear Z0
    go_enter Try.func30, Try.ntmps30
    go_wp2_with fail
    refine (specTm_any c d e f false _ Q.out).mono ?_
    rintro e' w1 ⟨rfl, hb1⟩
    have z1 : w.heap.size + 2 ≤ w1.heap.size := by have h_ := hb1.size; rw [HZ0.out] at h_; exact h_
    have HB1 := Lib.hid (HB0.out.trans (hb1.mono (by rw [HZ0.out]; omega)))
    have B1_0 := Lib.hid (B0_0.out.below hb1 (by rw [HZ0.out]; omega))
    have B1_1 := Lib.hid (B0_1.out.below hb1 (by rw [HZ0.out]; omega))
    clear hb1
    have x0 := B1_1.out.cell 0 (v := .int .i64 0) rfl
    have x1 := B1_1.out.cell 1 (v := .int .i64 0) rfl
    have x2 := B1_1.out.cell 2 (v := .int .i64 0) rfl
    have x3 := B1_1.out.cell 3 (v := .int .i64 0) rfl
    have p1_0 := B1_1.out.free 0
    have p1_1 := B1_1.out.free 1
    have p1_2 := B1_1.out.free 2
    have p1_3 := B1_1.out.free 3
    have S4 := Lib.hid (B1_1.out.put4 (.int .i64 0) (.int .i64 0) (.int .i64 0) (.int .i64 0))
    go_wp2_with fail
    have d0 := S4.out.cell 0 (v := .int .i64 0) rfl
    have d1 := S4.out.cell 1 (v := .int .i64 0) rfl
    have d2 := S4.out.cell 2 (v := .int .i64 0) rfl
    have d3 := S4.out.cell 3 (v := .int .i64 0) rfl
    exact bodyPost_ret (v := .tuple #[TV 0 0 0 0, .int .i64 1]) (by simp [results, Try.results30, go_sem, d0, d1, d2, d3]) rfl ⟨rfl, below_put4 HB1.out (by omega) _ _ _ _⟩

set_option maxRecDepth 100000 in
set_option maxHeartbeats 4000000 in
theorem specLs_any (c d e f n m t p q s : Int) (z : Bool) (k : Int) (w : World) (h : Pr.lsP c d e f n m t p q s z k) :
    Calls Try.prog 33 #[TV c d e f, .int .i64 n, .int .i64 m, .int .i64 t] w fun e' w' => e' = .returned (.tuple #[PV p q s z, .int .i64 k]) ∧ Below w.heap.size w w' := by
  rcases h with ⟨ht, rfl, rfl, rfl, rfl, rfl⟩ | ⟨ht, hr, rfl, rfl, rfl, rfl, rfl⟩ | ⟨ht, ⟨hn, hm, hg⟩, hs, rfl, rfl, rfl, rfl, rfl⟩ | ⟨ht, ⟨hn, hm, hg⟩, hs, hp, hq, hss, rfl, rfl⟩
  · have Q := Lib.hid ht
    clear ht
    have B0_0 := Lib.hid ((Blk.new (w := w) (g := w.heap.size) #[.int .i64 c, .int .i64 d, .int .i64 e, .int .i64 f] 27 (by simp)).alloc (.cells #[.int .i64 0, .int .i64 0, .int .i64 0, .bool false] 25))
    have B0_1 := Lib.hid (Blk.new (w := (w.alloc (.cells #[.int .i64 c, .int .i64 d, .int .i64 e, .int .i64 f] 27))) (g := w.heap.size + 1) #[.int .i64 0, .int .i64 0, .int .i64 0, .bool false] 25 (by simp))
    have HB0 := Lib.hid ((below_new w (.cells #[.int .i64 c, .int .i64 d, .int .i64 e, .int .i64 f] 27)).alloc (by simp <;> omega) (.cells #[.int .i64 0, .int .i64 0, .int .i64 0, .bool false] 25))
    have Z0 : ((w.alloc (.cells #[.int .i64 c, .int .i64 d, .int .i64 e, .int .i64 f] 27)).alloc (.cells #[.int .i64 0, .int .i64 0, .int .i64 0, .bool false] 25)).heap.size = w.heap.size + 2 := by simp
    have HZ0 := Lib.hid Z0
    clear Z0
    go_enter Try.func33, Try.ntmps33
    go_wp2_with fail
    refine (specTm_any c d e f false _ Q.out).mono ?_
    rintro e' w1 ⟨rfl, hb1⟩
    have z1 : w.heap.size + 2 ≤ w1.heap.size := by have h_ := hb1.size; rw [HZ0.out] at h_; exact h_
    have HB1 := Lib.hid (HB0.out.trans (hb1.mono (by rw [HZ0.out]; omega)))
    have B1_0 := Lib.hid (B0_0.out.below hb1 (by rw [HZ0.out]; omega))
    have B1_1 := Lib.hid (B0_1.out.below hb1 (by rw [HZ0.out]; omega))
    clear hb1
    have x0 := B1_1.out.cell 0 (v := .int .i64 0) rfl
    have x1 := B1_1.out.cell 1 (v := .int .i64 0) rfl
    have x2 := B1_1.out.cell 2 (v := .int .i64 0) rfl
    have x3 := B1_1.out.cell 3 (v := .bool false) rfl
    have p1_0 := B1_1.out.free 0
    have p1_1 := B1_1.out.free 1
    have p1_2 := B1_1.out.free 2
    have p1_3 := B1_1.out.free 3
    have S4 := Lib.hid (B1_1.out.put4 (.int .i64 0) (.int .i64 0) (.int .i64 0) (.bool false))
    go_wp2_with fail
    have d0 := S4.out.cell 0 (v := .int .i64 0) rfl
    have d1 := S4.out.cell 1 (v := .int .i64 0) rfl
    have d2 := S4.out.cell 2 (v := .int .i64 0) rfl
    have d3 := S4.out.cell 3 (v := .bool false) rfl
    exact bodyPost_ret (v := .tuple #[PV 0 0 0 false, .int .i64 1]) (by simp [results, Try.results33, go_sem, d0, d1, d2, d3]) rfl ⟨rfl, below_put4 HB1.out (by omega) _ _ _ _⟩
  · have hc : (n < 1 ∨ 20000 < n) ∨ ((1 ≤ n ∧ n ≤ 20000) ∧ (m < 1 ∨ 20000 < m)) ∨ ((1 ≤ n ∧ n ≤ 20000) ∧ (1 ≤ m ∧ m ≤ 20000) ∧ (t < 0 ∨ 20000 < t)) := by omega
    clear hr
    rcases hc with h0 | ⟨⟨n1, n2⟩, h0⟩ | ⟨⟨n1, n2⟩, ⟨m1, m2⟩, h0⟩
    · have Q := Lib.hid ht
      have H0 := Lib.hid h0
      clear ht h0
      have B0_0 := Lib.hid ((Blk.new (w := w) (g := w.heap.size) #[.int .i64 c, .int .i64 d, .int .i64 e, .int .i64 f] 27 (by simp)).alloc (.cells #[.int .i64 0, .int .i64 0, .int .i64 0, .bool false] 25))
      have B0_1 := Lib.hid (Blk.new (w := (w.alloc (.cells #[.int .i64 c, .int .i64 d, .int .i64 e, .int .i64 f] 27))) (g := w.heap.size + 1) #[.int .i64 0, .int .i64 0, .int .i64 0, .bool false] 25 (by simp))
      have HB0 := Lib.hid ((below_new w (.cells #[.int .i64 c, .int .i64 d, .int .i64 e, .int .i64 f] 27)).alloc (by simp <;> omega) (.cells #[.int .i64 0, .int .i64 0, .int .i64 0, .bool false] 25))
      have Z0 : ((w.alloc (.cells #[.int .i64 c, .int .i64 d, .int .i64 e, .int .i64 f] 27)).alloc (.cells #[.int .i64 0, .int .i64 0, .int .i64 0, .bool false] 25)).heap.size = w.heap.size + 2 := by simp
      have HZ0 := Lib.hid Z0
      clear Z0
      go_enter Try.func33, Try.ntmps33
      go_wp2_with fail
      refine (specTm_any c d e f true _ Q.out).mono ?_
      rintro e' w1 ⟨rfl, hb1⟩
      have z1 : w.heap.size + 2 ≤ w1.heap.size := by have h_ := hb1.size; rw [HZ0.out] at h_; exact h_
      have HB1 := Lib.hid (HB0.out.trans (hb1.mono (by rw [HZ0.out]; omega)))
      have B1_0 := Lib.hid (B0_0.out.below hb1 (by rw [HZ0.out]; omega))
      have B1_1 := Lib.hid (B0_1.out.below hb1 (by rw [HZ0.out]; omega))
      clear hb1
      go_wp2_with fail
      refine (l01In_no _ _ _ _ H0.out).mono ?_
      rintro e' _ ⟨rfl, rfl⟩
      have x0 := B1_1.out.cell 0 (v := .int .i64 0) rfl
      have x1 := B1_1.out.cell 1 (v := .int .i64 0) rfl
      have x2 := B1_1.out.cell 2 (v := .int .i64 0) rfl
      have x3 := B1_1.out.cell 3 (v := .bool false) rfl
      have p1_0 := B1_1.out.free 0
      have p1_1 := B1_1.out.free 1
      have p1_2 := B1_1.out.free 2
      have p1_3 := B1_1.out.free 3
      have S4 := Lib.hid (B1_1.out.put4 (.int .i64 0) (.int .i64 0) (.int .i64 0) (.bool false))
      go_wp2_with fail
      have d0 := S4.out.cell 0 (v := .int .i64 0) rfl
      have d1 := S4.out.cell 1 (v := .int .i64 0) rfl
      have d2 := S4.out.cell 2 (v := .int .i64 0) rfl
      have d3 := S4.out.cell 3 (v := .bool false) rfl
      exact bodyPost_ret (v := .tuple #[PV 0 0 0 false, .int .i64 2]) (by simp [results, Try.results33, go_sem, d0, d1, d2, d3]) rfl ⟨rfl, below_put4 HB1.out (by omega) _ _ _ _⟩
    · have Q := Lib.hid ht
      have H0 := Lib.hid h0
      clear ht h0
      have B0_0 := Lib.hid ((Blk.new (w := w) (g := w.heap.size) #[.int .i64 c, .int .i64 d, .int .i64 e, .int .i64 f] 27 (by simp)).alloc (.cells #[.int .i64 0, .int .i64 0, .int .i64 0, .bool false] 25))
      have B0_1 := Lib.hid (Blk.new (w := (w.alloc (.cells #[.int .i64 c, .int .i64 d, .int .i64 e, .int .i64 f] 27))) (g := w.heap.size + 1) #[.int .i64 0, .int .i64 0, .int .i64 0, .bool false] 25 (by simp))
      have HB0 := Lib.hid ((below_new w (.cells #[.int .i64 c, .int .i64 d, .int .i64 e, .int .i64 f] 27)).alloc (by simp <;> omega) (.cells #[.int .i64 0, .int .i64 0, .int .i64 0, .bool false] 25))
      have Z0 : ((w.alloc (.cells #[.int .i64 c, .int .i64 d, .int .i64 e, .int .i64 f] 27)).alloc (.cells #[.int .i64 0, .int .i64 0, .int .i64 0, .bool false] 25)).heap.size = w.heap.size + 2 := by simp
      have HZ0 := Lib.hid Z0
      clear Z0
      go_enter Try.func33, Try.ntmps33
      go_wp2_with fail
      refine (specTm_any c d e f true _ Q.out).mono ?_
      rintro e' w1 ⟨rfl, hb1⟩
      have z1 : w.heap.size + 2 ≤ w1.heap.size := by have h_ := hb1.size; rw [HZ0.out] at h_; exact h_
      have HB1 := Lib.hid (HB0.out.trans (hb1.mono (by rw [HZ0.out]; omega)))
      have B1_0 := Lib.hid (B0_0.out.below hb1 (by rw [HZ0.out]; omega))
      have B1_1 := Lib.hid (B0_1.out.below hb1 (by rw [HZ0.out]; omega))
      clear hb1
      go_wp2_with fail
      refine (l01In_yes _ _ _ _ n1 n2).mono ?_
      rintro e' _ ⟨rfl, rfl⟩
      go_wp2_with fail
      refine (l01In_no _ _ _ _ H0.out).mono ?_
      rintro e' _ ⟨rfl, rfl⟩
      have x0 := B1_1.out.cell 0 (v := .int .i64 0) rfl
      have x1 := B1_1.out.cell 1 (v := .int .i64 0) rfl
      have x2 := B1_1.out.cell 2 (v := .int .i64 0) rfl
      have x3 := B1_1.out.cell 3 (v := .bool false) rfl
      have p1_0 := B1_1.out.free 0
      have p1_1 := B1_1.out.free 1
      have p1_2 := B1_1.out.free 2
      have p1_3 := B1_1.out.free 3
      have S4 := Lib.hid (B1_1.out.put4 (.int .i64 0) (.int .i64 0) (.int .i64 0) (.bool false))
      go_wp2_with fail
      have d0 := S4.out.cell 0 (v := .int .i64 0) rfl
      have d1 := S4.out.cell 1 (v := .int .i64 0) rfl
      have d2 := S4.out.cell 2 (v := .int .i64 0) rfl
      have d3 := S4.out.cell 3 (v := .bool false) rfl
      exact bodyPost_ret (v := .tuple #[PV 0 0 0 false, .int .i64 2]) (by simp [results, Try.results33, go_sem, d0, d1, d2, d3]) rfl ⟨rfl, below_put4 HB1.out (by omega) _ _ _ _⟩
    · have Q := Lib.hid ht
      have H0 := Lib.hid h0
      clear ht h0
      have B0_0 := Lib.hid ((Blk.new (w := w) (g := w.heap.size) #[.int .i64 c, .int .i64 d, .int .i64 e, .int .i64 f] 27 (by simp)).alloc (.cells #[.int .i64 0, .int .i64 0, .int .i64 0, .bool false] 25))
      have B0_1 := Lib.hid (Blk.new (w := (w.alloc (.cells #[.int .i64 c, .int .i64 d, .int .i64 e, .int .i64 f] 27))) (g := w.heap.size + 1) #[.int .i64 0, .int .i64 0, .int .i64 0, .bool false] 25 (by simp))
      have HB0 := Lib.hid ((below_new w (.cells #[.int .i64 c, .int .i64 d, .int .i64 e, .int .i64 f] 27)).alloc (by simp <;> omega) (.cells #[.int .i64 0, .int .i64 0, .int .i64 0, .bool false] 25))
      have Z0 : ((w.alloc (.cells #[.int .i64 c, .int .i64 d, .int .i64 e, .int .i64 f] 27)).alloc (.cells #[.int .i64 0, .int .i64 0, .int .i64 0, .bool false] 25)).heap.size = w.heap.size + 2 := by simp
      have HZ0 := Lib.hid Z0
      clear Z0
      go_enter Try.func33, Try.ntmps33
      go_wp2_with fail
      refine (specTm_any c d e f true _ Q.out).mono ?_
      rintro e' w1 ⟨rfl, hb1⟩
      have z1 : w.heap.size + 2 ≤ w1.heap.size := by have h_ := hb1.size; rw [HZ0.out] at h_; exact h_
      have HB1 := Lib.hid (HB0.out.trans (hb1.mono (by rw [HZ0.out]; omega)))
      have B1_0 := Lib.hid (B0_0.out.below hb1 (by rw [HZ0.out]; omega))
      have B1_1 := Lib.hid (B0_1.out.below hb1 (by rw [HZ0.out]; omega))
      clear hb1
      go_wp2_with fail
      refine (l01In_yes _ _ _ _ n1 n2).mono ?_
      rintro e' _ ⟨rfl, rfl⟩
      go_wp2_with fail
      refine (l01In_yes _ _ _ _ m1 m2).mono ?_
      rintro e' _ ⟨rfl, rfl⟩
      go_wp2_with fail
      refine (l01In_no _ _ _ _ H0.out).mono ?_
      rintro e' _ ⟨rfl, rfl⟩
      have x0 := B1_1.out.cell 0 (v := .int .i64 0) rfl
      have x1 := B1_1.out.cell 1 (v := .int .i64 0) rfl
      have x2 := B1_1.out.cell 2 (v := .int .i64 0) rfl
      have x3 := B1_1.out.cell 3 (v := .bool false) rfl
      have p1_0 := B1_1.out.free 0
      have p1_1 := B1_1.out.free 1
      have p1_2 := B1_1.out.free 2
      have p1_3 := B1_1.out.free 3
      have S4 := Lib.hid (B1_1.out.put4 (.int .i64 0) (.int .i64 0) (.int .i64 0) (.bool false))
      go_wp2_with fail
      have d0 := S4.out.cell 0 (v := .int .i64 0) rfl
      have d1 := S4.out.cell 1 (v := .int .i64 0) rfl
      have d2 := S4.out.cell 2 (v := .int .i64 0) rfl
      have d3 := S4.out.cell 3 (v := .bool false) rfl
      exact bodyPost_ret (v := .tuple #[PV 0 0 0 false, .int .i64 2]) (by simp [results, Try.results33, go_sem, d0, d1, d2, d3]) rfl ⟨rfl, below_put4 HB1.out (by omega) _ _ _ _⟩
  · obtain ⟨c1, d1, e1, f1⟩ := Pr.tm_out ht
    obtain ⟨x, y, xx, hx, hy, hxx, hW, hW2, xb, yb, xxb⟩ := Pr.need_parts hn c1 e1 f1
    obtain ⟨x2, y2, xx2, hx2, hy2, hxx2, hW3, hW4, x2b, y2b, xx2b⟩ := Pr.need_parts hm d1 e1 f1
    obtain ⟨WW, hWW⟩ : ∃ W, Pr.need n c e f = W := ⟨_, rfl⟩
    obtain ⟨HH, hHH⟩ : ∃ H, Pr.need m d e f = H := ⟨_, rfl⟩
    rw [hWW] at hW hW2
    rw [hHH] at hW3 hW4
    rw [hWW, hHH] at hs
    have w1_ : IntKind.i64.wrap (n * c) = x := by rw [hx]; exact IntWalk.i64_in _ (by omega)
    have w2_ : IntKind.i64.wrap (n - 1) = n - 1 := IntWalk.i64_in _ (by omega)
    have w3_ : IntKind.i64.wrap ((n - 1) * f) = y := by rw [hy]; exact IntWalk.i64_in _ (by omega)
    have w4_ : IntKind.i64.wrap (x + y) = x + y := IntWalk.i64_in _ (by omega)
    have w5_ : IntKind.i64.wrap (2 * e) = 2 * e := IntWalk.i64_in _ (by omega)
    have w6_ : IntKind.i64.wrap (x + y + 2 * e) = WW := by rw [hW]; exact IntWalk.i64_in _ (by omega)
    have v1_ : IntKind.i64.wrap (m * d) = x2 := by rw [hx2]; exact IntWalk.i64_in _ (by omega)
    have v2_ : IntKind.i64.wrap (m - 1) = m - 1 := IntWalk.i64_in _ (by omega)
    have v3_ : IntKind.i64.wrap ((m - 1) * f) = y2 := by rw [hy2]; exact IntWalk.i64_in _ (by omega)
    have v4_ : IntKind.i64.wrap (x2 + y2) = x2 + y2 := IntWalk.i64_in _ (by omega)
    have v6_ : IntKind.i64.wrap (x2 + y2 + 2 * e) = HH := by rw [hW3]; exact IntWalk.i64_in _ (by omega)
    have v7_ : IntKind.i64.wrap (HH + t) = HH + t := IntWalk.i64_in _ (by omega)
    obtain ⟨n1, n2⟩ := hn
    obtain ⟨m1, m2⟩ := hm
    obtain ⟨g1, g2⟩ := hg
    have Q := Lib.hid ht
    have QS := Lib.hid hs
    clear ht hs hx hy hxx hW hW2 hx2 hy2 hxx2 hW3 hW4 hWW hHH
    have B0_0 := Lib.hid ((Blk.new (w := w) (g := w.heap.size) #[.int .i64 c, .int .i64 d, .int .i64 e, .int .i64 f] 27 (by simp)).alloc (.cells #[.int .i64 0, .int .i64 0, .int .i64 0, .bool false] 25))
    have B0_1 := Lib.hid (Blk.new (w := (w.alloc (.cells #[.int .i64 c, .int .i64 d, .int .i64 e, .int .i64 f] 27))) (g := w.heap.size + 1) #[.int .i64 0, .int .i64 0, .int .i64 0, .bool false] 25 (by simp))
    have HB0 := Lib.hid ((below_new w (.cells #[.int .i64 c, .int .i64 d, .int .i64 e, .int .i64 f] 27)).alloc (by simp <;> omega) (.cells #[.int .i64 0, .int .i64 0, .int .i64 0, .bool false] 25))
    have Z0 : ((w.alloc (.cells #[.int .i64 c, .int .i64 d, .int .i64 e, .int .i64 f] 27)).alloc (.cells #[.int .i64 0, .int .i64 0, .int .i64 0, .bool false] 25)).heap.size = w.heap.size + 2 := by simp
    have HZ0 := Lib.hid Z0
    clear Z0
    go_enter Try.func33, Try.ntmps33
    go_wp2_with fail
    refine (specTm_any c d e f true _ Q.out).mono ?_
    rintro e' w1 ⟨rfl, hb1⟩
    have z1 : w.heap.size + 2 ≤ w1.heap.size := by have h_ := hb1.size; rw [HZ0.out] at h_; exact h_
    have HB1 := Lib.hid (HB0.out.trans (hb1.mono (by rw [HZ0.out]; omega)))
    have B1_0 := Lib.hid (B0_0.out.below hb1 (by rw [HZ0.out]; omega))
    have c1_0_0 := B1_0.out.cell 0 (v := .int .i64 c) rfl
    have c1_0_1 := B1_0.out.cell 1 (v := .int .i64 d) rfl
    have c1_0_2 := B1_0.out.cell 2 (v := .int .i64 e) rfl
    have c1_0_3 := B1_0.out.cell 3 (v := .int .i64 f) rfl
    have B1_1 := Lib.hid (B0_1.out.below hb1 (by rw [HZ0.out]; omega))
    clear hb1
    go_wp2_with fail
    refine (l01In_yes _ _ _ _ n1 n2).mono ?_
    rintro e' _ ⟨rfl, rfl⟩
    go_wp2_with fail
    refine (l01In_yes _ _ _ _ m1 m2).mono ?_
    rintro e' _ ⟨rfl, rfl⟩
    go_wp2_with fail
    refine (l01In_yes _ _ _ _ g1 g2).mono ?_
    rintro e' _ ⟨rfl, rfl⟩
    have NP := Lib.hid (Blk.new (w := w1) (g := w1.heap.size) #[.int .i64 WW, .int .i64 (HH + t), .int .i64 t, .bool true] 25 rfl)
    go_wp2_with fail
    refine (specPr_any WW (HH + t) t true false _ QS.out).mono ?_
    rintro e' w2 ⟨rfl, hb2⟩
    have zA : w1.heap.size + 1 ≤ w2.heap.size := by have h_ := hb2.size; simp at h_; omega
    have z2 : w.heap.size + 2 ≤ w2.heap.size := by omega
    have hb_ := (below_new w1 (.cells #[.int .i64 WW, .int .i64 (HH + t), .int .i64 t, .bool true] 25)).trans (hb2.mono (by simp))
    have HB2 := Lib.hid (HB1.out.trans (hb_.mono (by omega)))
    clear c1_0_0 c1_0_1 c1_0_2 c1_0_3
    have B2_1 := Lib.hid (B1_1.out.below hb_ (by omega))
    clear hb_ hb2
    have x0 := B2_1.out.cell 0 (v := .int .i64 0) rfl
    have x1 := B2_1.out.cell 1 (v := .int .i64 0) rfl
    have x2 := B2_1.out.cell 2 (v := .int .i64 0) rfl
    have x3 := B2_1.out.cell 3 (v := .bool false) rfl
    have p1_0 := B2_1.out.free 0
    have p1_1 := B2_1.out.free 1
    have p1_2 := B2_1.out.free 2
    have p1_3 := B2_1.out.free 3
    have S4 := Lib.hid (B2_1.out.put4 (.int .i64 0) (.int .i64 0) (.int .i64 0) (.bool false))
    go_wp2_with fail
    have d0 := S4.out.cell 0 (v := .int .i64 0) rfl
    have d1 := S4.out.cell 1 (v := .int .i64 0) rfl
    have d2 := S4.out.cell 2 (v := .int .i64 0) rfl
    have d3 := S4.out.cell 3 (v := .bool false) rfl
    exact bodyPost_ret (v := .tuple #[PV 0 0 0 false, .int .i64 3]) (by simp [results, Try.results33, go_sem, d0, d1, d2, d3]) rfl ⟨rfl, below_put4 HB2.out (by omega) _ _ _ _⟩
  · obtain ⟨c1, d1, e1, f1⟩ := Pr.tm_out ht
    obtain ⟨x, y, xx, hx, hy, hxx, hW, hW2, xb, yb, xxb⟩ := Pr.need_parts hn c1 e1 f1
    obtain ⟨x2, y2, xx2, hx2, hy2, hxx2, hW3, hW4, x2b, y2b, xx2b⟩ := Pr.need_parts hm d1 e1 f1
    obtain ⟨WW, hWW⟩ : ∃ W, Pr.need n c e f = W := ⟨_, rfl⟩
    obtain ⟨HH, hHH⟩ : ∃ H, Pr.need m d e f = H := ⟨_, rfl⟩
    rw [hWW] at hW hW2
    rw [hHH] at hW3 hW4
    rw [hWW, hHH] at hs
    have w1_ : IntKind.i64.wrap (n * c) = x := by rw [hx]; exact IntWalk.i64_in _ (by omega)
    have w2_ : IntKind.i64.wrap (n - 1) = n - 1 := IntWalk.i64_in _ (by omega)
    have w3_ : IntKind.i64.wrap ((n - 1) * f) = y := by rw [hy]; exact IntWalk.i64_in _ (by omega)
    have w4_ : IntKind.i64.wrap (x + y) = x + y := IntWalk.i64_in _ (by omega)
    have w5_ : IntKind.i64.wrap (2 * e) = 2 * e := IntWalk.i64_in _ (by omega)
    have w6_ : IntKind.i64.wrap (x + y + 2 * e) = WW := by rw [hW]; exact IntWalk.i64_in _ (by omega)
    have v1_ : IntKind.i64.wrap (m * d) = x2 := by rw [hx2]; exact IntWalk.i64_in _ (by omega)
    have v2_ : IntKind.i64.wrap (m - 1) = m - 1 := IntWalk.i64_in _ (by omega)
    have v3_ : IntKind.i64.wrap ((m - 1) * f) = y2 := by rw [hy2]; exact IntWalk.i64_in _ (by omega)
    have v4_ : IntKind.i64.wrap (x2 + y2) = x2 + y2 := IntWalk.i64_in _ (by omega)
    have v6_ : IntKind.i64.wrap (x2 + y2 + 2 * e) = HH := by rw [hW3]; exact IntWalk.i64_in _ (by omega)
    have v7_ : IntKind.i64.wrap (HH + t) = HH + t := IntWalk.i64_in _ (by omega)
    obtain rfl : WW = p := by rw [hp, hWW]
    obtain rfl : HH + t = q := by rw [hq, hHH]
    obtain rfl : t = s := hss.symm
    clear hp hq hss
    obtain ⟨n1, n2⟩ := hn
    obtain ⟨m1, m2⟩ := hm
    obtain ⟨g1, g2⟩ := hg
    have Q := Lib.hid ht
    have QS := Lib.hid hs
    clear ht hs hx hy hxx hW hW2 hx2 hy2 hxx2 hW3 hW4 hWW hHH
    have B0_0 := Lib.hid ((Blk.new (w := w) (g := w.heap.size) #[.int .i64 c, .int .i64 d, .int .i64 e, .int .i64 f] 27 (by simp)).alloc (.cells #[.int .i64 0, .int .i64 0, .int .i64 0, .bool false] 25))
    have B0_1 := Lib.hid (Blk.new (w := (w.alloc (.cells #[.int .i64 c, .int .i64 d, .int .i64 e, .int .i64 f] 27))) (g := w.heap.size + 1) #[.int .i64 0, .int .i64 0, .int .i64 0, .bool false] 25 (by simp))
    have HB0 := Lib.hid ((below_new w (.cells #[.int .i64 c, .int .i64 d, .int .i64 e, .int .i64 f] 27)).alloc (by simp <;> omega) (.cells #[.int .i64 0, .int .i64 0, .int .i64 0, .bool false] 25))
    have Z0 : ((w.alloc (.cells #[.int .i64 c, .int .i64 d, .int .i64 e, .int .i64 f] 27)).alloc (.cells #[.int .i64 0, .int .i64 0, .int .i64 0, .bool false] 25)).heap.size = w.heap.size + 2 := by simp
    have HZ0 := Lib.hid Z0
    clear Z0
    go_enter Try.func33, Try.ntmps33
    go_wp2_with fail
    refine (specTm_any c d e f true _ Q.out).mono ?_
    rintro e' w1 ⟨rfl, hb1⟩
    have z1 : w.heap.size + 2 ≤ w1.heap.size := by have h_ := hb1.size; rw [HZ0.out] at h_; exact h_
    have HB1 := Lib.hid (HB0.out.trans (hb1.mono (by rw [HZ0.out]; omega)))
    have B1_0 := Lib.hid (B0_0.out.below hb1 (by rw [HZ0.out]; omega))
    have c1_0_0 := B1_0.out.cell 0 (v := .int .i64 c) rfl
    have c1_0_1 := B1_0.out.cell 1 (v := .int .i64 d) rfl
    have c1_0_2 := B1_0.out.cell 2 (v := .int .i64 e) rfl
    have c1_0_3 := B1_0.out.cell 3 (v := .int .i64 f) rfl
    have B1_1 := Lib.hid (B0_1.out.below hb1 (by rw [HZ0.out]; omega))
    clear hb1
    go_wp2_with fail
    refine (l01In_yes _ _ _ _ n1 n2).mono ?_
    rintro e' _ ⟨rfl, rfl⟩
    go_wp2_with fail
    refine (l01In_yes _ _ _ _ m1 m2).mono ?_
    rintro e' _ ⟨rfl, rfl⟩
    go_wp2_with fail
    refine (l01In_yes _ _ _ _ g1 g2).mono ?_
    rintro e' _ ⟨rfl, rfl⟩
    have NP := Lib.hid (Blk.new (w := w1) (g := w1.heap.size) #[.int .i64 WW, .int .i64 (HH + t), .int .i64 t, .bool true] 25 rfl)
    go_wp2_with fail
    refine (specPr_any WW (HH + t) t true true _ QS.out).mono ?_
    rintro e' w2 ⟨rfl, hb2⟩
    have zA : w1.heap.size + 1 ≤ w2.heap.size := by have h_ := hb2.size; simp at h_; omega
    have z2 : w.heap.size + 2 ≤ w2.heap.size := by omega
    have hb_ := (below_new w1 (.cells #[.int .i64 WW, .int .i64 (HH + t), .int .i64 t, .bool true] 25)).trans (hb2.mono (by simp))
    have HB2 := Lib.hid (HB1.out.trans (hb_.mono (by omega)))
    clear c1_0_0 c1_0_1 c1_0_2 c1_0_3
    have B2_1 := Lib.hid (B1_1.out.below hb_ (by omega))
    have NP2 := Lib.hid (NP.out.below hb2 (by simp))
    have y0 := NP2.out.cell 0 (v := .int .i64 WW) rfl
    have y1 := NP2.out.cell 1 (v := .int .i64 (HH + t)) rfl
    have y2 := NP2.out.cell 2 (v := .int .i64 t) rfl
    have y3 := NP2.out.cell 3 (v := .bool true) rfl
    clear hb_ hb2
    have x0 := B2_1.out.cell 0 (v := .int .i64 0) rfl
    have x1 := B2_1.out.cell 1 (v := .int .i64 0) rfl
    have x2 := B2_1.out.cell 2 (v := .int .i64 0) rfl
    have x3 := B2_1.out.cell 3 (v := .bool false) rfl
    have p1_0 := B2_1.out.free 0
    have p1_1 := B2_1.out.free 1
    have p1_2 := B2_1.out.free 2
    have p1_3 := B2_1.out.free 3
    have S4 := Lib.hid (B2_1.out.put4 (.int .i64 WW) (.int .i64 (HH + t)) (.int .i64 t) (.bool true))
    go_wp2_with fail
    have d0 := S4.out.cell 0 (v := .int .i64 WW) rfl
    have d1 := S4.out.cell 1 (v := .int .i64 (HH + t)) rfl
    have d2 := S4.out.cell 2 (v := .int .i64 t) rfl
    have d3 := S4.out.cell 3 (v := .bool true) rfl
    exact bodyPost_ret (v := .tuple #[PV WW (HH + t) t true, .int .i64 0]) (by simp [results, Try.results33, go_sem, d0, d1, d2, d3]) rfl ⟨rfl, below_put4 HB2.out (by omega) _ _ _ _⟩
end Go.Proofs.Ythepfejoneeaeaa

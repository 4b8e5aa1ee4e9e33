/- The walk of the law FnBlocks, out of the contracts. -/
import Derived.Test.YtamnhbambklmkaaTkDw
import Derived.Test.YtamnhbambklmkaaTkTr
import Derived.Test.YtamnhbambklmkaaSgLk
namespace Go.Proofs.Ytamnhbambklmkaa
open Go.RowKit

/-- What the spine of a block says of its thickness. -/
theorem Tk.sp_facts {p t g r c : Int} (h : Tk.spOk p t g = true) (hr : Tk.spR p t g = r) (hc : Tk.spC p t g = c) : ∃ x, Tk.bkR p t = x ∧ Tk.bkC p t = 0 ∧ c = 0 ∧ (0 ≤ g ∧ g ≤ 2000) ∧ (0 ≤ x ∧ x ≤ 5000000) ∧ (0 ≤ r ∧ r ≤ 100000) ∧ x + g ≤ 100 * r ∧ 100 * r < x + g + 100 := by
  obtain ⟨hb, g0, g1⟩ := Tk.sp_out h
  obtain ⟨h1, h2⟩ := Tk.sp_yes h hr hc
  obtain ⟨⟨p1, p2⟩, t1, t2⟩ := Tk.bk_out hb
  have hl := Tk.leaves_bd ⟨p1, p2⟩
  obtain ⟨x, hx, x0, x1⟩ := Tk.bk_bd hl.1 hl.2 t1 t2
  rw [hx] at h1
  unfold Tk.up at h1
  refine ⟨x, ?_, ?_, h2, ⟨g0, g1⟩, by omega, by omega, by omega, by omega⟩
  · unfold Tk.bkR
    rw [if_pos hb, hx]
  · unfold Tk.bkC
    rw [if_pos hb]
/-- One thickness tried: its spine is the one wanted just between the two ends. -/
theorem Tk.sp_zero {p b u : Int} (hp : 1 ≤ p ∧ p ≤ 4096) (hb : 0 ≤ b) (h1 : 1 ≤ u) (h2 : u ≤ 2000) : ∃ x, Tk.spR p u 0 = x ∧ Tk.spC p u 0 = 0 ∧ (x = b ↔ (Tk.trA (Tk.leaves p) b ≤ u ∧ u ≤ Tk.trZ (Tk.leaves p) b)) := by
  have hl := Tk.leaves_bd hp
  have hs : Tk.spOk p u 0 = true := Tk.sp_mk (Tk.bk_mk hp ⟨h1, h2⟩) (by omega) (by omega)
  refine ⟨_, rfl, by unfold Tk.spC; rw [if_pos hs], ?_⟩
  unfold Tk.spR
  rw [if_pos hs, Int.add_zero]
  exact Tk.tr_iff hl.1 hb h1 h2
theorem Tk.sp_over {p u : Int} (h : u < 1 ∨ 2000 < u) : Tk.spR p u 0 = 0 ∧ Tk.spC p u 0 = 2 := by
  have hs : Tk.spOk p u 0 = false := by
    unfold Tk.spOk Tk.bkOk
    rw [Tk.okT_no h]
    simp
  unfold Tk.spR Tk.spC
  rw [hs]
  exact ⟨rfl, rfl⟩

set_option maxRecDepth 100000 in
set_option maxHeartbeats 4000000 in
theorem w_FnBlocks (A : Option Addr) (N C : Nat) (l : List Int) (w : World) (h : Rd U w w.heap.size A N l) (hl : inByte l) :
    Calls Try.prog 6 #[.slice A N C] w fun e w' => e = .returned (.bool true) ∧ Below w.heap.size w w' := by
  by_cases hN : N ≤ 4096
  · have HF : Hid (decide (4096 < N) = false) := decide_eq_false (by omega)
    go_enter Try.func6, Try.ntmps6
    go_wp2_with fail
    refine (sgBig_any A N C _).mono ?_
    rintro e _ ⟨rfl, rfl⟩
    rw [HF.out]
    go_wp2_with fail
    refine (DrawTr_any N C w.heap.size A l w h hl (Nat.le_refl _) (by omega)).mono ?_
    rintro e w1 ⟨p, b, rfl, hb1⟩
    have z1 := hb1.size
    have h1 := h.below hb1 (Nat.le_refl _)
    obtain ⟨lo, hlo⟩ : ∃ lo, Tk.trL p b = lo := ⟨_, rfl⟩
    have Hlo := Lib.hid hlo
    clear hlo
    obtain ⟨hi, hhi⟩ : ∃ hi, Tk.trH p b = hi := ⟨_, rfl⟩
    have Hhi := Lib.hid hhi
    clear hhi
    obtain ⟨c, hc⟩ : ∃ c, Tk.trC p b = c := ⟨_, rfl⟩
    have Hc := Lib.hid hc
    clear hc
    go_wp2_with fail
    refine (implTr_any p b lo hi c _ Hlo.out Hhi.out Hc.out).mono ?_
    rintro e _ ⟨rfl, rfl⟩
    go_wp2_with fail
    refine (specTr_any p b lo hi c _ Hlo.out Hhi.out Hc.out).mono ?_
    rintro e _ ⟨rfl, rfl⟩
    go_wp2_with fail
    refine (DrawSp_any N C w.heap.size A l w1 h1 hl (by omega) (by omega)).mono ?_
    rintro e w2 ⟨p2, t, g, rfl, hb2⟩
    have z2 := hb2.size
    have hB2 := hb1.trans (hb2.mono z1)
    have h2 := h1.below hb2 z1
    obtain ⟨v, hv⟩ : ∃ v, Tk.spR p2 t g = v := ⟨_, rfl⟩
    have Hv := Lib.hid hv
    clear hv
    obtain ⟨d, hd⟩ : ∃ d, Tk.spC p2 t g = d := ⟨_, rfl⟩
    have Hd := Lib.hid hd
    clear hd
    go_wp2_with fail
    refine (implSp_any p2 t g v d _ Hv.out Hd.out).mono ?_
    rintro e _ ⟨rfl, rfl⟩
    go_wp2_with fail
    refine (specSp_any p2 t g v d _ Hv.out Hd.out).mono ?_
    rintro e _ ⟨rfl, rfl⟩
    go_wp2_with fail
    refine (DrawBk_any N C w.heap.size A l w2 h2 hl (by omega) (by omega)).mono ?_
    rintro e w3 ⟨q, u, rfl, hb3⟩
    have z3 := hb3.size
    have HB3 := Lib.hid (hB2.trans (hb3.mono (by omega)))
    obtain ⟨s, hs⟩ : ∃ s, Tk.bkR q u = s := ⟨_, rfl⟩
    have Hs := Lib.hid hs
    clear hs
    obtain ⟨f, hf⟩ : ∃ f, Tk.bkC q u = f := ⟨_, rfl⟩
    have Hf := Lib.hid hf
    clear hf
    clear h h1 h2 hb1 hb2 hb3 hB2
    go_wp2_with fail
    refine (implBk_any q u s f _ Hs.out Hf.out).mono ?_
    rintro e _ ⟨rfl, rfl⟩
    go_wp2_with fail
    refine (specBk_any q u s f _ Hs.out Hf.out).mono ?_
    rintro e _ ⟨rfl, rfl⟩
    by_cases hc0 : c = 0
    · obtain ⟨hin, hle⟩ := Tk.tr_zero (p := p) (b := b) (by rw [Hc.out]; exact hc0)
      obtain ⟨hp, hb⟩ := Tk.tr_out hin
      obtain ⟨ea, ez, _⟩ := Tk.tr_yes hin hle Hlo.out Hhi.out Hc.out
      have hl1 := Tk.leaves_bd hp
      have hA1 := Tk.trA_pos (b := b) hl1.1 hb.1
      have hZ1 := Tk.trZ_nonneg (b := b) hl1.1 hb.1
      rw [ea] at hA1
      rw [ez] at hZ1
      have hlh : lo ≤ hi := by rw [ea, ez] at hle; exact hle
      have HPB : Hid ((1 ≤ p ∧ p ≤ 4096) ∧ 0 ≤ b) := Lib.hid ⟨hp, hb.1⟩
      have HAZ : Hid (Tk.trA (Tk.leaves p) b = lo ∧ Tk.trZ (Tk.leaves p) b = hi) := Lib.hid ⟨ea, ez⟩
      have e1 : IntKind.i64.wrap (lo - 1) = lo - 1 := IntWalk.i64_in _ (by omega)
      have e2 : IntKind.i64.wrap (hi + 1) = hi + 1 := IntWalk.i64_in _ (by omega)
      subst hc0
      clear hin hle hp hb ea ez hl1
      cases hs : Tk.spOk p2 t g
      · have HD : Hid (d = 2) := Lib.hid (Tk.sp_no hs Hv.out Hd.out).2
        rw [HD.out]
        clear hs
        go_wp2_with fail
        go_loopw [26] (fun i wr => ∃ k : Int, lo - 1 ≤ k ∧ k ≤ hi + 2 ∧ i = .int .i64 k ∧ w3 = wr) (fun i _ => (hi + 2 - intOf i).toNat)
        case atStart => exact ⟨lo - 1, by omega, by omega, by go_num, by trivial⟩
        case round =>
          obtain ⟨k, k0, k1, rfl, rfl⟩ := hrel
          by_cases hle : k ≤ hi + 1
          · have ek : IntKind.i64.wrap (k + 1) = k + 1 := IntWalk.i64_in _ (by omega)
            by_cases ho : k < 1 ∨ 2000 < k
            · have HX := Lib.hid (Tk.sp_over (p := p) ho)
              clear ho
              go_wp2_with (go_at_call 51; refine (implSp_any p k 0 _ _ _ HX.out.1 HX.out.2).mono ?_; rintro e _ ⟨rfl, rfl⟩)
              go_roundw
              case rel => exact ⟨k + 1, by omega, by omega, by go_num, by trivial⟩
              case measure => simp [intOf]; omega
            · obtain ⟨x, hx1, hx2, hx3⟩ := Tk.sp_zero (b := b) HPB.out.1 HPB.out.2 (show 1 ≤ k by omega) (show k ≤ 2000 by omega)
              have HX := Lib.hid (And.intro hx1 hx2)
              have HI := Lib.hid hx3
              rw [HAZ.out.1, HAZ.out.2] at HI
              clear hx1 hx2 hx3
              by_cases c1 : lo ≤ k
              · by_cases c2 : k ≤ hi
                · obtain rfl : x = b := HI.out.2 ⟨c1, c2⟩
                  go_wp2_with (go_at_call 51; refine (implSp_any p k 0 _ _ _ HX.out.1 HX.out.2).mono ?_; rintro e _ ⟨rfl, rfl⟩)
                  go_roundw
                  case rel => exact ⟨k + 1, by omega, by omega, by go_num, by trivial⟩
                  case measure => simp [intOf]; omega
                · have c2' : hi < k := by omega
                  have hxb : ¬ x = b := fun e => c2 (HI.out.1 e).2
                  have hxb' : (x == b) = false := by simpa using hxb
                  go_wp2_with (go_at_call 51; refine (implSp_any p k 0 _ _ _ HX.out.1 HX.out.2).mono ?_; rintro e _ ⟨rfl, rfl⟩)
                  go_roundw
                  case rel => exact ⟨k + 1, by omega, by omega, by go_num, by trivial⟩
                  case measure => simp [intOf]; omega
              · have c1' : k < lo := by omega
                have hxb : ¬ x = b := fun e => c1 (HI.out.1 e).1
                have hxb' : (x == b) = false := by simpa using hxb
                go_wp2_with (go_at_call 51; refine (implSp_any p k 0 _ _ _ HX.out.1 HX.out.2).mono ?_; rintro e _ ⟨rfl, rfl⟩)
                go_roundw
                case rel => exact ⟨k + 1, by omega, by omega, by go_num, by trivial⟩
                case measure => simp [intOf]; omega
          · have hgt : hi + 1 < k := by omega
            go_wp2_with fail
            go_ret
            exact ⟨rfl, HB3.out⟩
      · obtain ⟨x, hx1, hx2, hd0, ⟨g0, g1⟩, ⟨x0, x1⟩, ⟨v0, v1⟩, q1, q2⟩ := Tk.sp_facts hs Hv.out Hd.out
        have HD := Lib.hid hd0
        have HX2 := Lib.hid (And.intro hx1 hx2)
        have f1 : IntKind.i64.wrap (100 * v) = 100 * v := IntWalk.i64_in _ (by omega)
        have f2 : IntKind.i64.wrap (x + g) = x + g := IntWalk.i64_in _ (by omega)
        have f3 : IntKind.i64.wrap (x + g + 100) = x + g + 100 := IntWalk.i64_in _ (by omega)
        have f4 : decide (100 * v < x + g) = false := decide_eq_false (by omega)
        have f5 : decide (x + g + 100 ≤ 100 * v) = false := decide_eq_false (by omega)
        rw [HD.out]
        clear hs hd0 hx1 hx2
        go_wp2_with fail
        refine (implBk_any p2 t x 0 _ HX2.out.1 HX2.out.2).mono ?_
        rintro e _ ⟨rfl, rfl⟩
        go_wp2_with fail
        go_loopw [26] (fun i wr => ∃ k : Int, lo - 1 ≤ k ∧ k ≤ hi + 2 ∧ i = .int .i64 k ∧ w3 = wr) (fun i _ => (hi + 2 - intOf i).toNat)
        case atStart => exact ⟨lo - 1, by omega, by omega, by go_num, by trivial⟩
        case round =>
          obtain ⟨k, k0, k1, rfl, rfl⟩ := hrel
          by_cases hle : k ≤ hi + 1
          · have ek : IntKind.i64.wrap (k + 1) = k + 1 := IntWalk.i64_in _ (by omega)
            by_cases ho : k < 1 ∨ 2000 < k
            · have HX := Lib.hid (Tk.sp_over (p := p) ho)
              clear ho
              go_wp2_with (go_at_call 51; refine (implSp_any p k 0 _ _ _ HX.out.1 HX.out.2).mono ?_; rintro e _ ⟨rfl, rfl⟩)
              go_roundw
              case rel => exact ⟨k + 1, by omega, by omega, by go_num, by trivial⟩
              case measure => simp [intOf]; omega
            · obtain ⟨x, hx1, hx2, hx3⟩ := Tk.sp_zero (b := b) HPB.out.1 HPB.out.2 (show 1 ≤ k by omega) (show k ≤ 2000 by omega)
              have HX := Lib.hid (And.intro hx1 hx2)
              have HI := Lib.hid hx3
              rw [HAZ.out.1, HAZ.out.2] at HI
              clear hx1 hx2 hx3
              by_cases c1 : lo ≤ k
              · by_cases c2 : k ≤ hi
                · obtain rfl : x = b := HI.out.2 ⟨c1, c2⟩
                  go_wp2_with (go_at_call 51; refine (implSp_any p k 0 _ _ _ HX.out.1 HX.out.2).mono ?_; rintro e _ ⟨rfl, rfl⟩)
                  go_roundw
                  case rel => exact ⟨k + 1, by omega, by omega, by go_num, by trivial⟩
                  case measure => simp [intOf]; omega
                · have c2' : hi < k := by omega
                  have hxb : ¬ x = b := fun e => c2 (HI.out.1 e).2
                  have hxb' : (x == b) = false := by simpa using hxb
                  go_wp2_with (go_at_call 51; refine (implSp_any p k 0 _ _ _ HX.out.1 HX.out.2).mono ?_; rintro e _ ⟨rfl, rfl⟩)
                  go_roundw
                  case rel => exact ⟨k + 1, by omega, by omega, by go_num, by trivial⟩
                  case measure => simp [intOf]; omega
              · have c1' : k < lo := by omega
                have hxb : ¬ x = b := fun e => c1 (HI.out.1 e).1
                have hxb' : (x == b) = false := by simpa using hxb
                go_wp2_with (go_at_call 51; refine (implSp_any p k 0 _ _ _ HX.out.1 HX.out.2).mono ?_; rintro e _ ⟨rfl, rfl⟩)
                go_roundw
                case rel => exact ⟨k + 1, by omega, by omega, by go_num, by trivial⟩
                case measure => simp [intOf]; omega
          · have hgt : hi + 1 < k := by omega
            go_wp2_with fail
            go_ret
            exact ⟨rfl, HB3.out⟩
    · have hc0' : (c == 0) = false := by simpa using hc0
      cases hs : Tk.spOk p2 t g
      · have HD : Hid (d = 2) := Lib.hid (Tk.sp_no hs Hv.out Hd.out).2
        rw [HD.out]
        clear hs
        go_wp2_with fail
        go_ret
        exact ⟨rfl, HB3.out⟩
      · obtain ⟨x, hx1, hx2, hd0, ⟨g0, g1⟩, ⟨x0, x1⟩, ⟨v0, v1⟩, q1, q2⟩ := Tk.sp_facts hs Hv.out Hd.out
        have HD := Lib.hid hd0
        have HX2 := Lib.hid (And.intro hx1 hx2)
        have f1 : IntKind.i64.wrap (100 * v) = 100 * v := IntWalk.i64_in _ (by omega)
        have f2 : IntKind.i64.wrap (x + g) = x + g := IntWalk.i64_in _ (by omega)
        have f3 : IntKind.i64.wrap (x + g + 100) = x + g + 100 := IntWalk.i64_in _ (by omega)
        have f4 : decide (100 * v < x + g) = false := decide_eq_false (by omega)
        have f5 : decide (x + g + 100 ≤ 100 * v) = false := decide_eq_false (by omega)
        rw [HD.out]
        clear hs hd0 hx1 hx2
        go_wp2_with fail
        refine (implBk_any p2 t x 0 _ HX2.out.1 HX2.out.2).mono ?_
        rintro e _ ⟨rfl, rfl⟩
        go_wp2_with fail
        go_ret
        exact ⟨rfl, HB3.out⟩
  · have HF : Hid (decide (4096 < N) = true) := decide_eq_true (by omega)
    go_enter Try.func6, Try.ntmps6
    go_wp2_with fail
    refine (sgBig_any A N C _).mono ?_
    rintro e _ ⟨rfl, rfl⟩
    rw [HF.out]
    go_wp2_with fail
    go_ret
    exact ⟨rfl, Below.refl _ _⟩
end Go.Proofs.Ytamnhbambklmkaa

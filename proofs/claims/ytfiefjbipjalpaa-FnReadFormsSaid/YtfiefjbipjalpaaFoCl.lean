/- The contract of the program's closure that calls itself and collects all schemes. -/
import Derived.Test.YtfiefjbipjalpaaFoSc
import Derived.Test.YtfiefjbipjalpaaFoIm
import Derived.Test.YtfiefjbipjalpaaFoSt
import Derived.Handy
namespace Go.Proofs.Ytfiefjbipjalpaa
open Go.RowKit

/-- The closure over its two variables. -/
abbrev Clo (R E : Nat) : Value := .func (.func 106) #[] #[.pointer (some ⟨R, 0, none⟩), .pointer (some ⟨E, 0, none⟩)]
theorem neST : (34 : TypeId) ≠ 9 := by decide
/-- The two variables, and the list that the first one holds. -/
structure Col (w : World) (lo R E : Nat) (A : Option Addr) (n c : Nat) (L : List (List UInt8)) : Prop where
  br : Blk w R #[.slice A n c] 34
  be : Blk w E #[Clo R E] 114
  ow : Own Tv w lo w.heap.size 9 (.slice A n c) L
  lr : lo ≤ R
  le : lo ≤ E
  ne : R ≠ E
theorem Col.len {w : World} {lo R E n c : Nat} {A : Option Addr} {L : List (List UInt8)} (h : Col w lo R E A n c L) : L.length = n := h.ow.rd.1
theorem Col.lo_le {w : World} {lo R E n c : Nat} {A : Option Addr} {L : List (List UInt8)} (h : Col w lo R E A n c L) : lo ≤ w.heap.size := by have := h.lr; have := h.br.lt; omega
/-- A text is pushed and the variable written. -/
theorem Col.push {w w' : World} {lo R E n c c' : Nat} {A A' : Option Addr} {L L' : List (List UInt8)} (h : Col w lo R E A n c L) (ho : Own Tv w' lo w'.heap.size 9 (.slice A' (n + 1) c') L') (hk : Kept w w' (.slice A n c) (.slice A' (n + 1) c')) :
    Blk w' R #[.slice A n c] 34 ∧ Col (w'.setCell ⟨R, 0, none⟩ (.slice A' (n + 1) c')) lo R E A' (n + 1) c' L' := by
  have hr := hk R h.br.lt (h.ow.far h.br neST)
  have hr' : Blk w' R #[.slice A n c] 34 := hr.1.trans h.br
  have he' : Blk w' E #[Clo R E] 114 := (hk E h.be.lt (h.ow.far h.be (by decide))).1.trans h.be
  refine ⟨hr', hr'.set 0 _, he'.other _ _ (fun e => h.ne e.symm), ?_, h.lr, h.le, h.ne⟩
  have := ho.other ⟨R, 0, none⟩ (.slice A' (n + 1) c') hr.2
  exact this.mono (Nat.le_refl _) (by simp)

set_option maxRecDepth 100000 in
set_option maxHeartbeats 800000 in
theorem ext_any (N : Nat) : ∀ (a b : Nat), a + b = N → a ≤ 3 → b ≤ 3 → ∀ (s : ByteArray), s.size + N ≤ 64 → ∀ (X Y : Int), X = ((2 ^ a : Nat) : Int) → Y = ((2 ^ b : Nat) : Int) → ∀ (lo R E : Nat) (A : Option Addr) (n c : Nat) (L : List (List UInt8)) (w : World), Col w lo R E A n c L → n + (Fo.sch s.data.toList a b).length ≤ 8192 →
    Calls Try.prog 106 #[.string s, .int .i64 X, .int .i64 Y, .pointer (some ⟨R, 0, none⟩), .pointer (some ⟨E, 0, none⟩)] w fun e w' => e = .returned (.tuple #[]) ∧ ∃ A' n' c', Col w' lo R E A' n' c' (L ++ Fo.sch s.data.toList a b) ∧ Below lo w w' := by
  obtain ⟨i0, hi0, hy0, hy1, hy2⟩ := info_parts infoTv
  have hcf : ∀ args W, (callFunc 106 args).run Try.prog W = .ok (.enter 106 args) W := enters_of Try.func106 (by kernel_rfl) rfl
  induction N with
  | zero =>
    intro a b h _ _ s _ X Y hX hY lo R E A n c L w hc hn
    obtain rfl : a = 0 := by omega
    obtain rfl : b = 0 := by omega
    replace hX : X = 1 := hX
    replace hY : Y = 1 := hY
    subst hX hY
    have HS := Lib.hid (Fo.sch_00 s.data.toList)
    have r0 := hc.br.cell 0 rfl
    have rf := hc.br.free 0
    have hlo := hc.lo_le
    have how := hc.ow
    have hn2 : n ≤ 8192 := by omega
    clear hn
    go_enter Try.func106, Try.ntmps106
    go_wp2_with (at_builtin; refine wp_push4 w rfl _ _ 34 rfl 9 i0 _ 16 Try.underlying34 hi0 hy0 hy1 hy2 rfl A n c _ _ _ rfl how s.data.toList _ rfl rfl rfl (by omega) (by omega) hlo ?_; intro A6 c6 w6 ho6 hm6 hk6; obtain ⟨hq1, hq2⟩ := hc.push ho6 hk6; have q0 := hq1.cell 0 rfl; have qf := hq1.free 0)
    have hbl : Below lo w w6 := hm6.below (Nat.le_refl _) hlo
    go_end0
    exact ⟨rfl, ⟨_, _, _, by rw [HS.out]; exact hq2⟩, hbl.setCell hc.lr _⟩
  | succ N ih =>
    intro a b h ha hb s hsN X Y hX hY lo R E A n c L w hc hn
    have a66 := app_toList s ⟨#[66]⟩
    have a76 := app_toList s ⟨#[76]⟩
    have a82 := app_toList s ⟨#[82]⟩
    have a84 := app_toList s ⟨#[84]⟩
    have HA := Lib.hid (And.intro a66 (And.intro a76 (And.intro a82 a84)))
    clear a66 a76 a82 a84
    have hs1 : s.size ≤ 63 := by omega
    have HSZ : Hid (∀ z : UInt8, (s ++ ⟨#[z]⟩ : ByteArray).size + N ≤ 64) := Lib.hid fun z => by rw [ByteArray.size_append]; show s.size + 1 + N ≤ 64; omega
    rcases a with _ | a <;> rcases b with _ | b
    · omega
    · have HS := Lib.hid (Fo.sch_b s.data.toList b)
      have HN := Lib.hid hn
      clear hn
      replace hX : X = 1 := hX
      subst hX
      obtain ⟨Y', hY'⟩ : ∃ Y' : Int, Y' = ((2 ^ b : Nat) : Int) := ⟨_, rfl⟩
      have hYp : 0 < 2 ^ b := Nat.pow_pos (by omega)
      have hYq : 2 ^ b ≤ 8 := Nat.le_trans (Nat.pow_le_pow_right (by omega) (show b ≤ 3 by omega)) (by decide)
      have hYY : Y = 2 * Y' := by rw [hY, Nat.pow_succ, hY']; omega
      have hY0 : 0 < Y' := by omega
      have hY8 : Y' ≤ 8 := by omega
      have ey : Y.tdiv 2 = Y' := by rw [Int.tdiv_eq_ediv_of_nonneg (by omega)]; omega
      have ew2 : IntKind.i64.wrap Y' = Y' := IntWalk.i64_in _ (by omega)
      have y1 : ¬ (Y = 1) := by omega
      have y2 : 1 < Y := by omega
      have HY := Lib.hid hY
      have HY' := Lib.hid hY'
      clear hY hY' hYY hYp hYq
      have k0 : ∀ (A : Option Addr) (n c : Nat) (L : List (List UInt8)) (w : World), Col w lo R E A n c L → n + (Fo.sch (s ++ ⟨#[66]⟩).data.toList (0) (b)).length ≤ 8192 → Calls Try.prog 106 #[.string (s ++ ⟨#[66]⟩), .int .i64 1, .int .i64 Y', .pointer (some ⟨R, 0, none⟩), .pointer (some ⟨E, 0, none⟩)] w fun e w' => e = .returned (.tuple #[]) ∧ ∃ A' n' c', Col w' lo R E A' n' c' (L ++ Fo.sch (s ++ ⟨#[66]⟩).data.toList (0) (b)) ∧ Below lo w w' := by
        intro A n c L w hc hn
        have h1 := ih (0) (b) (by omega) (by omega) (by omega) (s ++ ⟨#[66]⟩) (HSZ.out 66)
        have h2 := h1 1 Y' rfl HY'.out
        have h3 := h2 lo R E A n c L w hc hn
        exact h3
      have k1 : ∀ (A : Option Addr) (n c : Nat) (L : List (List UInt8)) (w : World), Col w lo R E A n c L → n + (Fo.sch (s ++ ⟨#[84]⟩).data.toList (0) (b)).length ≤ 8192 → Calls Try.prog 106 #[.string (s ++ ⟨#[84]⟩), .int .i64 1, .int .i64 Y', .pointer (some ⟨R, 0, none⟩), .pointer (some ⟨E, 0, none⟩)] w fun e w' => e = .returned (.tuple #[]) ∧ ∃ A' n' c', Col w' lo R E A' n' c' (L ++ Fo.sch (s ++ ⟨#[84]⟩).data.toList (0) (b)) ∧ Below lo w w' := by
        intro A n c L w hc hn
        have h1 := ih (0) (b) (by omega) (by omega) (by omega) (s ++ ⟨#[84]⟩) (HSZ.out 84)
        have h2 := h1 1 Y' rfl HY'.out
        have h3 := h2 lo R E A n c L w hc hn
        exact h3
      have l0 := hc.be.cell 0 rfl
      clear ih
      go_enter Try.func106, Try.ntmps106
      go_wp2_with fail
      refine (k0 _ _ _ _ _ hc (by rw [HA.out.1]; have h1 := HN.out; have h2 := hc.len; have h3 := hc.len; rw [HS.out] at h1; simp only [List.length_append] at h1 h2; omega)).mono ?_
      rintro e u0 ⟨rfl, A0, n0, c0, hc0, hb0⟩
      rw [HA.out.1] at hc0
      have l1 := hc0.be.cell 0 rfl
      go_wp2_with fail
      refine (k1 _ _ _ _ _ hc0 (by rw [HA.out.2.2.2]; have h1 := HN.out; have h2 := hc0.len; have h3 := hc.len; rw [HS.out] at h1; simp only [List.length_append] at h1 h2; omega)).mono ?_
      rintro e u1 ⟨rfl, A1, n1, c1, hc1, hb1⟩
      rw [HA.out.2.2.2] at hc1
      have l2 := hc1.be.cell 0 rfl
      go_wp2_with fail
      have hfin := hc1
      go_end0
      refine ⟨rfl, A1, n1, c1, ?_, (hb0).trans hb1⟩
      rw [HS.out]
      simpa only [List.append_assoc] using hfin
    · have HS := Lib.hid (Fo.sch_a s.data.toList a)
      have HN := Lib.hid hn
      clear hn
      obtain ⟨X', hX'⟩ : ∃ X' : Int, X' = ((2 ^ a : Nat) : Int) := ⟨_, rfl⟩
      have hXp : 0 < 2 ^ a := Nat.pow_pos (by omega)
      have hXq : 2 ^ a ≤ 8 := Nat.le_trans (Nat.pow_le_pow_right (by omega) (show a ≤ 3 by omega)) (by decide)
      have hXX : X = 2 * X' := by rw [hX, Nat.pow_succ, hX']; omega
      have hX0 : 0 < X' := by omega
      have hX8 : X' ≤ 8 := by omega
      have ex : X.tdiv 2 = X' := by rw [Int.tdiv_eq_ediv_of_nonneg (by omega)]; omega
      have ew : IntKind.i64.wrap X' = X' := IntWalk.i64_in _ (by omega)
      have x1 : ¬ (X = 1) := by omega
      have x2 : 1 < X := by omega
      have HX := Lib.hid hX
      have HX' := Lib.hid hX'
      clear hX hX' hXX hXp hXq
      replace hY : Y = 1 := hY
      subst hY
      have k0 : ∀ (A : Option Addr) (n c : Nat) (L : List (List UInt8)) (w : World), Col w lo R E A n c L → n + (Fo.sch (s ++ ⟨#[76]⟩).data.toList (a) (0)).length ≤ 8192 → Calls Try.prog 106 #[.string (s ++ ⟨#[76]⟩), .int .i64 X', .int .i64 1, .pointer (some ⟨R, 0, none⟩), .pointer (some ⟨E, 0, none⟩)] w fun e w' => e = .returned (.tuple #[]) ∧ ∃ A' n' c', Col w' lo R E A' n' c' (L ++ Fo.sch (s ++ ⟨#[76]⟩).data.toList (a) (0)) ∧ Below lo w w' := by
        intro A n c L w hc hn
        have h1 := ih (a) (0) (by omega) (by omega) (by omega) (s ++ ⟨#[76]⟩) (HSZ.out 76)
        have h2 := h1 X' 1 HX'.out rfl
        have h3 := h2 lo R E A n c L w hc hn
        exact h3
      have k1 : ∀ (A : Option Addr) (n c : Nat) (L : List (List UInt8)) (w : World), Col w lo R E A n c L → n + (Fo.sch (s ++ ⟨#[82]⟩).data.toList (a) (0)).length ≤ 8192 → Calls Try.prog 106 #[.string (s ++ ⟨#[82]⟩), .int .i64 X', .int .i64 1, .pointer (some ⟨R, 0, none⟩), .pointer (some ⟨E, 0, none⟩)] w fun e w' => e = .returned (.tuple #[]) ∧ ∃ A' n' c', Col w' lo R E A' n' c' (L ++ Fo.sch (s ++ ⟨#[82]⟩).data.toList (a) (0)) ∧ Below lo w w' := by
        intro A n c L w hc hn
        have h1 := ih (a) (0) (by omega) (by omega) (by omega) (s ++ ⟨#[82]⟩) (HSZ.out 82)
        have h2 := h1 X' 1 HX'.out rfl
        have h3 := h2 lo R E A n c L w hc hn
        exact h3
      have l0 := hc.be.cell 0 rfl
      clear ih
      go_enter Try.func106, Try.ntmps106
      go_wp2_with fail
      refine (k0 _ _ _ _ _ hc (by rw [HA.out.2.1]; have h1 := HN.out; have h2 := hc.len; have h3 := hc.len; rw [HS.out] at h1; simp only [List.length_append] at h1 h2; omega)).mono ?_
      rintro e u0 ⟨rfl, A0, n0, c0, hc0, hb0⟩
      rw [HA.out.2.1] at hc0
      have l1 := hc0.be.cell 0 rfl
      go_wp2_with fail
      refine (k1 _ _ _ _ _ hc0 (by rw [HA.out.2.2.1]; have h1 := HN.out; have h2 := hc0.len; have h3 := hc.len; rw [HS.out] at h1; simp only [List.length_append] at h1 h2; omega)).mono ?_
      rintro e u1 ⟨rfl, A1, n1, c1, hc1, hb1⟩
      rw [HA.out.2.2.1] at hc1
      have l2 := hc1.be.cell 0 rfl
      go_wp2_with fail
      have hfin := hc1
      go_end0
      refine ⟨rfl, A1, n1, c1, ?_, (hb0).trans hb1⟩
      rw [HS.out]
      simpa only [List.append_assoc] using hfin
    · have HS := Lib.hid (Fo.sch_ab s.data.toList a b)
      have HN := Lib.hid hn
      clear hn
      obtain ⟨X', hX'⟩ : ∃ X' : Int, X' = ((2 ^ a : Nat) : Int) := ⟨_, rfl⟩
      have hXp : 0 < 2 ^ a := Nat.pow_pos (by omega)
      have hXq : 2 ^ a ≤ 8 := Nat.le_trans (Nat.pow_le_pow_right (by omega) (show a ≤ 3 by omega)) (by decide)
      have hXX : X = 2 * X' := by rw [hX, Nat.pow_succ, hX']; omega
      have hX0 : 0 < X' := by omega
      have hX8 : X' ≤ 8 := by omega
      have ex : X.tdiv 2 = X' := by rw [Int.tdiv_eq_ediv_of_nonneg (by omega)]; omega
      have ew : IntKind.i64.wrap X' = X' := IntWalk.i64_in _ (by omega)
      have x1 : ¬ (X = 1) := by omega
      have x2 : 1 < X := by omega
      have HX := Lib.hid hX
      have HX' := Lib.hid hX'
      clear hX hX' hXX hXp hXq
      obtain ⟨Y', hY'⟩ : ∃ Y' : Int, Y' = ((2 ^ b : Nat) : Int) := ⟨_, rfl⟩
      have hYp : 0 < 2 ^ b := Nat.pow_pos (by omega)
      have hYq : 2 ^ b ≤ 8 := Nat.le_trans (Nat.pow_le_pow_right (by omega) (show b ≤ 3 by omega)) (by decide)
      have hYY : Y = 2 * Y' := by rw [hY, Nat.pow_succ, hY']; omega
      have hY0 : 0 < Y' := by omega
      have hY8 : Y' ≤ 8 := by omega
      have ey : Y.tdiv 2 = Y' := by rw [Int.tdiv_eq_ediv_of_nonneg (by omega)]; omega
      have ew2 : IntKind.i64.wrap Y' = Y' := IntWalk.i64_in _ (by omega)
      have y1 : ¬ (Y = 1) := by omega
      have y2 : 1 < Y := by omega
      have HY := Lib.hid hY
      have HY' := Lib.hid hY'
      clear hY hY' hYY hYp hYq
      have k0 : ∀ (A : Option Addr) (n c : Nat) (L : List (List UInt8)) (w : World), Col w lo R E A n c L → n + (Fo.sch (s ++ ⟨#[66]⟩).data.toList (a + 1) (b)).length ≤ 8192 → Calls Try.prog 106 #[.string (s ++ ⟨#[66]⟩), .int .i64 X, .int .i64 Y', .pointer (some ⟨R, 0, none⟩), .pointer (some ⟨E, 0, none⟩)] w fun e w' => e = .returned (.tuple #[]) ∧ ∃ A' n' c', Col w' lo R E A' n' c' (L ++ Fo.sch (s ++ ⟨#[66]⟩).data.toList (a + 1) (b)) ∧ Below lo w w' := by
        intro A n c L w hc hn
        have h1 := ih (a + 1) (b) (by omega) (by omega) (by omega) (s ++ ⟨#[66]⟩) (HSZ.out 66)
        have h2 := h1 X Y' HX.out HY'.out
        have h3 := h2 lo R E A n c L w hc hn
        exact h3
      have k1 : ∀ (A : Option Addr) (n c : Nat) (L : List (List UInt8)) (w : World), Col w lo R E A n c L → n + (Fo.sch (s ++ ⟨#[76]⟩).data.toList (a) (b + 1)).length ≤ 8192 → Calls Try.prog 106 #[.string (s ++ ⟨#[76]⟩), .int .i64 X', .int .i64 Y, .pointer (some ⟨R, 0, none⟩), .pointer (some ⟨E, 0, none⟩)] w fun e w' => e = .returned (.tuple #[]) ∧ ∃ A' n' c', Col w' lo R E A' n' c' (L ++ Fo.sch (s ++ ⟨#[76]⟩).data.toList (a) (b + 1)) ∧ Below lo w w' := by
        intro A n c L w hc hn
        have h1 := ih (a) (b + 1) (by omega) (by omega) (by omega) (s ++ ⟨#[76]⟩) (HSZ.out 76)
        have h2 := h1 X' Y HX'.out HY.out
        have h3 := h2 lo R E A n c L w hc hn
        exact h3
      have k2 : ∀ (A : Option Addr) (n c : Nat) (L : List (List UInt8)) (w : World), Col w lo R E A n c L → n + (Fo.sch (s ++ ⟨#[82]⟩).data.toList (a) (b + 1)).length ≤ 8192 → Calls Try.prog 106 #[.string (s ++ ⟨#[82]⟩), .int .i64 X', .int .i64 Y, .pointer (some ⟨R, 0, none⟩), .pointer (some ⟨E, 0, none⟩)] w fun e w' => e = .returned (.tuple #[]) ∧ ∃ A' n' c', Col w' lo R E A' n' c' (L ++ Fo.sch (s ++ ⟨#[82]⟩).data.toList (a) (b + 1)) ∧ Below lo w w' := by
        intro A n c L w hc hn
        have h1 := ih (a) (b + 1) (by omega) (by omega) (by omega) (s ++ ⟨#[82]⟩) (HSZ.out 82)
        have h2 := h1 X' Y HX'.out HY.out
        have h3 := h2 lo R E A n c L w hc hn
        exact h3
      have k3 : ∀ (A : Option Addr) (n c : Nat) (L : List (List UInt8)) (w : World), Col w lo R E A n c L → n + (Fo.sch (s ++ ⟨#[84]⟩).data.toList (a + 1) (b)).length ≤ 8192 → Calls Try.prog 106 #[.string (s ++ ⟨#[84]⟩), .int .i64 X, .int .i64 Y', .pointer (some ⟨R, 0, none⟩), .pointer (some ⟨E, 0, none⟩)] w fun e w' => e = .returned (.tuple #[]) ∧ ∃ A' n' c', Col w' lo R E A' n' c' (L ++ Fo.sch (s ++ ⟨#[84]⟩).data.toList (a + 1) (b)) ∧ Below lo w w' := by
        intro A n c L w hc hn
        have h1 := ih (a + 1) (b) (by omega) (by omega) (by omega) (s ++ ⟨#[84]⟩) (HSZ.out 84)
        have h2 := h1 X Y' HX.out HY'.out
        have h3 := h2 lo R E A n c L w hc hn
        exact h3
      have l0 := hc.be.cell 0 rfl
      clear ih
      go_enter Try.func106, Try.ntmps106
      go_wp2_with fail
      refine (k0 _ _ _ _ _ hc (by rw [HA.out.1]; have h1 := HN.out; have h2 := hc.len; have h3 := hc.len; rw [HS.out] at h1; simp only [List.length_append] at h1 h2; omega)).mono ?_
      rintro e u0 ⟨rfl, A0, n0, c0, hc0, hb0⟩
      rw [HA.out.1] at hc0
      have l1 := hc0.be.cell 0 rfl
      go_wp2_with fail
      refine (k1 _ _ _ _ _ hc0 (by rw [HA.out.2.1]; have h1 := HN.out; have h2 := hc0.len; have h3 := hc.len; rw [HS.out] at h1; simp only [List.length_append] at h1 h2; omega)).mono ?_
      rintro e u1 ⟨rfl, A1, n1, c1, hc1, hb1⟩
      rw [HA.out.2.1] at hc1
      have l2 := hc1.be.cell 0 rfl
      go_wp2_with fail
      refine (k2 _ _ _ _ _ hc1 (by rw [HA.out.2.2.1]; have h1 := HN.out; have h2 := hc1.len; have h3 := hc.len; rw [HS.out] at h1; simp only [List.length_append] at h1 h2; omega)).mono ?_
      rintro e u2 ⟨rfl, A2, n2, c2, hc2, hb2⟩
      rw [HA.out.2.2.1] at hc2
      have l3 := hc2.be.cell 0 rfl
      go_wp2_with fail
      refine (k3 _ _ _ _ _ hc2 (by rw [HA.out.2.2.2]; have h1 := HN.out; have h2 := hc2.len; have h3 := hc.len; rw [HS.out] at h1; simp only [List.length_append] at h1 h2; omega)).mono ?_
      rintro e u3 ⟨rfl, A3, n3, c3, hc3, hb3⟩
      rw [HA.out.2.2.2] at hc3
      have l4 := hc3.be.cell 0 rfl
      go_wp2_with fail
      have hfin := hc3
      go_end0
      refine ⟨rfl, A3, n3, c3, ?_, (((hb0).trans hb1).trans hb2).trans hb3⟩
      rw [HS.out]
      simpa only [List.append_assoc] using hfin
end Go.Proofs.Ytfiefjbipjalpaa

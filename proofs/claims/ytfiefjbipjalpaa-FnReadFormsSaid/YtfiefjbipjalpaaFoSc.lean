/- The contract of the model's list of all schemes. -/
import Derived.Test.YtfiefjbipjalpaaFoIs
import Derived.Test.YtfiefjbipjalpaaSpread
namespace Go.Proofs.Ytfiefjbipjalpaa
open Go.RowKit

namespace Fo
theorem sch_00 (s : List UInt8) : sch s 0 0 = [s] := by rw [sch]; simp
theorem sch_b (s : List UInt8) (b : Nat) : sch s 0 (b + 1) = sch (s ++ [66]) 0 b ++ sch (s ++ [84]) 0 b := by rw [sch]; simp
theorem sch_a (s : List UInt8) (a : Nat) : sch s (a + 1) 0 = sch (s ++ [76]) a 0 ++ sch (s ++ [82]) a 0 := by rw [sch]; simp
theorem sch_ab (s : List UInt8) (a b : Nat) : sch s (a + 1) (b + 1) = sch (s ++ [66]) (a + 1) b ++ sch (s ++ [76]) a (b + 1) ++ sch (s ++ [82]) a (b + 1) ++ sch (s ++ [84]) (a + 1) b := by rw [sch]; simp
theorem sch_len (n : Nat) : ∀ (a b : Nat) (s : List UInt8), a + b = n → (sch s a b).length ≤ 4 ^ n := by
  induction n with
  | zero =>
    intro a b s h
    obtain rfl : a = 0 := by omega
    obtain rfl : b = 0 := by omega
    simp [sch_00]
  | succ n ih =>
    intro a b s h
    have hp : 4 ^ (n + 1) = 4 * 4 ^ n := by rw [Nat.pow_succ]; omega
    rcases a with _ | a <;> rcases b with _ | b
    · omega
    · have h1 := ih 0 b (s ++ [66]) (by omega)
      have h2 := ih 0 b (s ++ [84]) (by omega)
      rw [sch_b, List.length_append]
      omega
    · have h1 := ih a 0 (s ++ [76]) (by omega)
      have h2 := ih a 0 (s ++ [82]) (by omega)
      rw [sch_a, List.length_append]
      omega
    · have h1 := ih (a + 1) b (s ++ [66]) (by omega)
      have h2 := ih a (b + 1) (s ++ [76]) (by omega)
      have h3 := ih a (b + 1) (s ++ [82]) (by omega)
      have h4 := ih (a + 1) b (s ++ [84]) (by omega)
      rw [sch_ab, List.length_append, List.length_append, List.length_append]
      omega
theorem sch_small (a b : Nat) (s : List UInt8) (ha : a ≤ 3) (hb : b ≤ 3) : (sch s a b).length ≤ 4096 :=
  Nat.le_trans (sch_len (a + b) a b s rfl) (Nat.le_trans (Nat.pow_le_pow_right (by omega) (show a + b ≤ 6 by omega)) (by decide))
end Fo

/-- A text as a value. -/
abbrev Tv (l : List UInt8) : Value := .string ⟨l.toArray⟩
theorem infoTv : (Try.prog.info? 9).map (fun i => (i.zero, i.size, i.bytes)) = some (some (.string ⟨#[]⟩), 1, 16) := by kernel_rfl
theorem app_toList (s t : ByteArray) : (s ++ t).data.toList = s.data.toList ++ t.data.toList := by simp
theorem Own.litT (w : World) (s : ByteArray) : Own Tv (w.alloc (.cells #[.string s] 9)) w.heap.size (w.heap.size + 1) 9 (.slice (some ⟨w.heap.size, 0, none⟩) 1 1) [s.data.toList] :=
  ⟨⟨rfl, .inr ⟨w.heap.size, 1, #[.string s], rfl, Nat.le_refl _, heap_alloc_new w _, Nat.le_refl _, by unfold maxLen; omega, rfl, rfl⟩⟩, fun k hk => by simp [Value.ownBlock] at hk; omega⟩


set_option maxRecDepth 100000 in
set_option maxHeartbeats 4000000 in
theorem specSch_any (N : Nat) : ∀ (a b : Nat), a + b = N → a ≤ 3 → b ≤ 3 → ∀ (s : ByteArray), s.size + N ≤ 64 → ∀ (w : World),
    Calls Try.prog 93 #[.string s, .int .i64 (a : Int), .int .i64 (b : Int)] w fun e w' => ∃ A m c, e = .returned (.slice A m c) ∧ Own Tv w' w.heap.size w'.heap.size 9 (.slice A m c) (Fo.sch s.data.toList a b) ∧ m ≤ 4096 ∧ Below w.heap.size w w' := by
  obtain ⟨i0, hi0, hy0, hy1, hy2⟩ := info_parts infoTv
  induction N with
  | zero =>
    intro a b h _ _ s _ w
    obtain rfl : a = 0 := by omega
    obtain rfl : b = 0 := by omega
    have ho := Own.litT w s
    have HS := Lib.hid (Fo.sch_00 s.data.toList)
    have HB : Hid (Below w.heap.size w (w.alloc (.cells #[.string s] 9))) := Lib.hid ((Below.refl _ _).alloc (Nat.le_refl _) _)
    go_enter Try.func93, Try.ntmps93
    go_wp2_with fail
    go_ret
    exact ⟨_, _, _, rfl, by rw [HS.out]; exact ho.mono (Nat.le_refl _) (by simp), by omega, HB.out⟩
  | succ N ih =>
    intro a b h ha hb s hsN w
    have hl0 := Own.lit0 Tv w 9
    have hb0 : Below w.heap.size w (w.alloc (.cells #[] 9)) := (Below.refl _ _).alloc (Nat.le_refl _) _
    have HSM : Hid ((Fo.sch s.data.toList a b).length ≤ 4096) := Lib.hid (Fo.sch_small a b _ ha hb)
    have a66 := app_toList s ⟨#[66]⟩
    have a76 := app_toList s ⟨#[76]⟩
    have a82 := app_toList s ⟨#[82]⟩
    have a84 := app_toList s ⟨#[84]⟩
    have HA := Lib.hid (And.intro a66 (And.intro a76 (And.intro a82 a84)))
    clear a66 a76 a82 a84
    rcases a with _ | a <;> rcases b with _ | b
    · omega
    · have HS := Lib.hid (Fo.sch_b s.data.toList b)
      obtain ⟨bi, hbi⟩ : ∃ bi : Int, bi = ((b + 1 : Nat) : Int) := ⟨_, rfl⟩
      rw [← hbi]
      have eb : bi - 1 = (b : Int) := by omega
      have qb : ¬ (bi = 0) := by omega
      have pb : (0 : Int) < bi := by omega
      have bb : bi ≤ 3 := by omega
      have HBI := Lib.hid hbi
      clear hbi
      have k0 : ∀ W, Calls Try.prog 93 #[.string (s ++ ⟨#[66]⟩), .int .i64 0, .int .i64 ((b : Nat) : Int)] W fun e w' => ∃ A m c, e = .returned (.slice A m c) ∧ Own Tv w' W.heap.size w'.heap.size 9 (.slice A m c) (Fo.sch (s ++ ⟨#[66]⟩).data.toList (0) (b)) ∧ m ≤ 4096 ∧ Below W.heap.size W w' := fun W => by exact ih (0) (b) (by omega) (by omega) (by omega) (s ++ ⟨#[66]⟩) (by rw [ByteArray.size_append]; show s.size + 1 + N ≤ 64; omega) W
      have k1 : ∀ W, Calls Try.prog 93 #[.string (s ++ ⟨#[84]⟩), .int .i64 0, .int .i64 ((b : Nat) : Int)] W fun e w' => ∃ A m c, e = .returned (.slice A m c) ∧ Own Tv w' W.heap.size w'.heap.size 9 (.slice A m c) (Fo.sch (s ++ ⟨#[84]⟩).data.toList (0) (b)) ∧ m ≤ 4096 ∧ Below W.heap.size W w' := fun W => by exact ih (0) (b) (by omega) (by omega) (by omega) (s ++ ⟨#[84]⟩) (by rw [ByteArray.size_append]; show s.size + 1 + N ≤ 64; omega) W
      have hs1 : s.size ≤ 63 := by omega
      clear ih
      go_enter Try.func93, Try.ntmps93
      go_wp2_with fail
      refine (k0 _).mono ?_
      rintro e u0 ⟨B0, m0, d0, rfl, hr0, hm0, hc0⟩
      have hz0 := hc0.size
      have ho0 := hl0.below hc0 (by simp)
      have hbl0 := hb0.trans (hc0.mono (by simp))
      go_wp2_with (at_builtin; refine wp_spread u0 rfl _ _ 34 rfl 9 i0 _ 16 Try.underlying34 hi0 hy0 hy1 hy2 rfl (some ⟨w.heap.size, 0, none⟩) (0) (0) _ _ _ rfl ho0 B0 m0 d0 _ _ rfl hr0.rd (fun _ => rfl) (by omega) (by omega) hbl0.size ?_; intro A0 c0 w0 hp0 hq0)
      have hbw0 := hbl0.trans (hq0.below (Nat.le_refl _) hbl0.size)
      rw [Nat.zero_add, List.nil_append] at hp0
      refine (k1 _).mono ?_
      rintro e u1 ⟨B1, m1, d1, rfl, hr1, hm1, hc1⟩
      have hz1 := hc1.size
      have ho1 := hp0.below hc1 (Nat.le_refl _)
      have hbl1 := hbw0.trans (hc1.mono (hbw0.size))
      go_wp2_with (at_builtin; refine wp_spread u1 rfl _ _ 34 rfl 9 i0 _ 16 Try.underlying34 hi0 hy0 hy1 hy2 rfl A0 (m0) (c0) _ _ _ rfl ho1 B1 m1 d1 _ _ rfl hr1.rd (fun _ => rfl) (by omega) (by omega) hbl1.size ?_; intro A1 c1 w1 hp1 hq1)
      have hbw1 := hbl1.trans (hq1.below (Nat.le_refl _) hbl1.size)
      go_ret
      have hfin := hp1
      simp only [HA.out.1, HA.out.2.2.2] at hfin
      rw [← HS.out] at hfin
      exact ⟨_, _, _, rfl, hfin, by have := hfin.rd.1; have := HSM.out; omega, hbw1⟩
    · have HS := Lib.hid (Fo.sch_a s.data.toList a)
      obtain ⟨ai, hai⟩ : ∃ ai : Int, ai = ((a + 1 : Nat) : Int) := ⟨_, rfl⟩
      rw [← hai]
      have ea : ai - 1 = (a : Int) := by omega
      have qa : ¬ (ai = 0) := by omega
      have pa : (0 : Int) < ai := by omega
      have ba : ai ≤ 3 := by omega
      have HAI := Lib.hid hai
      clear hai
      have k0 : ∀ W, Calls Try.prog 93 #[.string (s ++ ⟨#[76]⟩), .int .i64 ((a : Nat) : Int), .int .i64 0] W fun e w' => ∃ A m c, e = .returned (.slice A m c) ∧ Own Tv w' W.heap.size w'.heap.size 9 (.slice A m c) (Fo.sch (s ++ ⟨#[76]⟩).data.toList (a) (0)) ∧ m ≤ 4096 ∧ Below W.heap.size W w' := fun W => by exact ih (a) (0) (by omega) (by omega) (by omega) (s ++ ⟨#[76]⟩) (by rw [ByteArray.size_append]; show s.size + 1 + N ≤ 64; omega) W
      have k1 : ∀ W, Calls Try.prog 93 #[.string (s ++ ⟨#[82]⟩), .int .i64 ((a : Nat) : Int), .int .i64 0] W fun e w' => ∃ A m c, e = .returned (.slice A m c) ∧ Own Tv w' W.heap.size w'.heap.size 9 (.slice A m c) (Fo.sch (s ++ ⟨#[82]⟩).data.toList (a) (0)) ∧ m ≤ 4096 ∧ Below W.heap.size W w' := fun W => by exact ih (a) (0) (by omega) (by omega) (by omega) (s ++ ⟨#[82]⟩) (by rw [ByteArray.size_append]; show s.size + 1 + N ≤ 64; omega) W
      have hs1 : s.size ≤ 63 := by omega
      clear ih
      go_enter Try.func93, Try.ntmps93
      go_wp2_with fail
      refine (k0 _).mono ?_
      rintro e u0 ⟨B0, m0, d0, rfl, hr0, hm0, hc0⟩
      have hz0 := hc0.size
      have ho0 := hl0.below hc0 (by simp)
      have hbl0 := hb0.trans (hc0.mono (by simp))
      go_wp2_with (at_builtin; refine wp_spread u0 rfl _ _ 34 rfl 9 i0 _ 16 Try.underlying34 hi0 hy0 hy1 hy2 rfl (some ⟨w.heap.size, 0, none⟩) (0) (0) _ _ _ rfl ho0 B0 m0 d0 _ _ rfl hr0.rd (fun _ => rfl) (by omega) (by omega) hbl0.size ?_; intro A0 c0 w0 hp0 hq0)
      have hbw0 := hbl0.trans (hq0.below (Nat.le_refl _) hbl0.size)
      rw [Nat.zero_add, List.nil_append] at hp0
      refine (k1 _).mono ?_
      rintro e u1 ⟨B1, m1, d1, rfl, hr1, hm1, hc1⟩
      have hz1 := hc1.size
      have ho1 := hp0.below hc1 (Nat.le_refl _)
      have hbl1 := hbw0.trans (hc1.mono (hbw0.size))
      go_wp2_with (at_builtin; refine wp_spread u1 rfl _ _ 34 rfl 9 i0 _ 16 Try.underlying34 hi0 hy0 hy1 hy2 rfl A0 (m0) (c0) _ _ _ rfl ho1 B1 m1 d1 _ _ rfl hr1.rd (fun _ => rfl) (by omega) (by omega) hbl1.size ?_; intro A1 c1 w1 hp1 hq1)
      have hbw1 := hbl1.trans (hq1.below (Nat.le_refl _) hbl1.size)
      go_ret
      have hfin := hp1
      simp only [HA.out.2.1, HA.out.2.2.1] at hfin
      rw [← HS.out] at hfin
      exact ⟨_, _, _, rfl, hfin, by have := hfin.rd.1; have := HSM.out; omega, hbw1⟩
    · have HS := Lib.hid (Fo.sch_ab s.data.toList a b)
      obtain ⟨ai, hai⟩ : ∃ ai : Int, ai = ((a + 1 : Nat) : Int) := ⟨_, rfl⟩
      rw [← hai]
      have ea : ai - 1 = (a : Int) := by omega
      have qa : ¬ (ai = 0) := by omega
      have pa : (0 : Int) < ai := by omega
      have ba : ai ≤ 3 := by omega
      have HAI := Lib.hid hai
      clear hai
      obtain ⟨bi, hbi⟩ : ∃ bi : Int, bi = ((b + 1 : Nat) : Int) := ⟨_, rfl⟩
      rw [← hbi]
      have eb : bi - 1 = (b : Int) := by omega
      have qb : ¬ (bi = 0) := by omega
      have pb : (0 : Int) < bi := by omega
      have bb : bi ≤ 3 := by omega
      have HBI := Lib.hid hbi
      clear hbi
      have k0 : ∀ W, Calls Try.prog 93 #[.string (s ++ ⟨#[66]⟩), .int .i64 ai, .int .i64 ((b : Nat) : Int)] W fun e w' => ∃ A m c, e = .returned (.slice A m c) ∧ Own Tv w' W.heap.size w'.heap.size 9 (.slice A m c) (Fo.sch (s ++ ⟨#[66]⟩).data.toList (a + 1) (b)) ∧ m ≤ 4096 ∧ Below W.heap.size W w' := fun W => by rw [HAI.out]; exact ih (a + 1) (b) (by omega) (by omega) (by omega) (s ++ ⟨#[66]⟩) (by rw [ByteArray.size_append]; show s.size + 1 + N ≤ 64; omega) W
      have k1 : ∀ W, Calls Try.prog 93 #[.string (s ++ ⟨#[76]⟩), .int .i64 ((a : Nat) : Int), .int .i64 bi] W fun e w' => ∃ A m c, e = .returned (.slice A m c) ∧ Own Tv w' W.heap.size w'.heap.size 9 (.slice A m c) (Fo.sch (s ++ ⟨#[76]⟩).data.toList (a) (b + 1)) ∧ m ≤ 4096 ∧ Below W.heap.size W w' := fun W => by rw [HBI.out]; exact ih (a) (b + 1) (by omega) (by omega) (by omega) (s ++ ⟨#[76]⟩) (by rw [ByteArray.size_append]; show s.size + 1 + N ≤ 64; omega) W
      have k2 : ∀ W, Calls Try.prog 93 #[.string (s ++ ⟨#[82]⟩), .int .i64 ((a : Nat) : Int), .int .i64 bi] W fun e w' => ∃ A m c, e = .returned (.slice A m c) ∧ Own Tv w' W.heap.size w'.heap.size 9 (.slice A m c) (Fo.sch (s ++ ⟨#[82]⟩).data.toList (a) (b + 1)) ∧ m ≤ 4096 ∧ Below W.heap.size W w' := fun W => by rw [HBI.out]; exact ih (a) (b + 1) (by omega) (by omega) (by omega) (s ++ ⟨#[82]⟩) (by rw [ByteArray.size_append]; show s.size + 1 + N ≤ 64; omega) W
      have k3 : ∀ W, Calls Try.prog 93 #[.string (s ++ ⟨#[84]⟩), .int .i64 ai, .int .i64 ((b : Nat) : Int)] W fun e w' => ∃ A m c, e = .returned (.slice A m c) ∧ Own Tv w' W.heap.size w'.heap.size 9 (.slice A m c) (Fo.sch (s ++ ⟨#[84]⟩).data.toList (a + 1) (b)) ∧ m ≤ 4096 ∧ Below W.heap.size W w' := fun W => by rw [HAI.out]; exact ih (a + 1) (b) (by omega) (by omega) (by omega) (s ++ ⟨#[84]⟩) (by rw [ByteArray.size_append]; show s.size + 1 + N ≤ 64; omega) W
      have hs1 : s.size ≤ 63 := by omega
      clear ih
      go_enter Try.func93, Try.ntmps93
      go_wp2_with fail
      refine (k0 _).mono ?_
      rintro e u0 ⟨B0, m0, d0, rfl, hr0, hm0, hc0⟩
      have hz0 := hc0.size
      have ho0 := hl0.below hc0 (by simp)
      have hbl0 := hb0.trans (hc0.mono (by simp))
      go_wp2_with (at_builtin; refine wp_spread u0 rfl _ _ 34 rfl 9 i0 _ 16 Try.underlying34 hi0 hy0 hy1 hy2 rfl (some ⟨w.heap.size, 0, none⟩) (0) (0) _ _ _ rfl ho0 B0 m0 d0 _ _ rfl hr0.rd (fun _ => rfl) (by omega) (by omega) hbl0.size ?_; intro A0 c0 w0 hp0 hq0)
      have hbw0 := hbl0.trans (hq0.below (Nat.le_refl _) hbl0.size)
      rw [Nat.zero_add, List.nil_append] at hp0
      refine (k1 _).mono ?_
      rintro e u1 ⟨B1, m1, d1, rfl, hr1, hm1, hc1⟩
      have hz1 := hc1.size
      have ho1 := hp0.below hc1 (Nat.le_refl _)
      have hbl1 := hbw0.trans (hc1.mono (hbw0.size))
      go_wp2_with (at_builtin; refine wp_spread u1 rfl _ _ 34 rfl 9 i0 _ 16 Try.underlying34 hi0 hy0 hy1 hy2 rfl A0 (m0) (c0) _ _ _ rfl ho1 B1 m1 d1 _ _ rfl hr1.rd (fun _ => rfl) (by omega) (by omega) hbl1.size ?_; intro A1 c1 w1 hp1 hq1)
      have hbw1 := hbl1.trans (hq1.below (Nat.le_refl _) hbl1.size)
      refine (k2 _).mono ?_
      rintro e u2 ⟨B2, m2, d2, rfl, hr2, hm2, hc2⟩
      have hz2 := hc2.size
      have ho2 := hp1.below hc2 (Nat.le_refl _)
      have hbl2 := hbw1.trans (hc2.mono (hbw1.size))
      go_wp2_with (at_builtin; refine wp_spread u2 rfl _ _ 34 rfl 9 i0 _ 16 Try.underlying34 hi0 hy0 hy1 hy2 rfl A1 (m0 + m1) (c1) _ _ _ rfl ho2 B2 m2 d2 _ _ rfl hr2.rd (fun _ => rfl) (by omega) (by omega) hbl2.size ?_; intro A2 c2 w2 hp2 hq2)
      have hbw2 := hbl2.trans (hq2.below (Nat.le_refl _) hbl2.size)
      refine (k3 _).mono ?_
      rintro e u3 ⟨B3, m3, d3, rfl, hr3, hm3, hc3⟩
      have hz3 := hc3.size
      have ho3 := hp2.below hc3 (Nat.le_refl _)
      have hbl3 := hbw2.trans (hc3.mono (hbw2.size))
      go_wp2_with (at_builtin; refine wp_spread u3 rfl _ _ 34 rfl 9 i0 _ 16 Try.underlying34 hi0 hy0 hy1 hy2 rfl A2 (m0 + m1 + m2) (c2) _ _ _ rfl ho3 B3 m3 d3 _ _ rfl hr3.rd (fun _ => rfl) (by omega) (by omega) hbl3.size ?_; intro A3 c3 w3 hp3 hq3)
      have hbw3 := hbl3.trans (hq3.below (Nat.le_refl _) hbl3.size)
      go_ret
      have hfin := hp3
      simp only [HA.out.1, HA.out.2.1, HA.out.2.2.1, HA.out.2.2.2] at hfin
      rw [← HS.out] at hfin
      exact ⟨_, _, _, rfl, hfin, by have := hfin.rd.1; have := HSM.out; omega, hbw3⟩
end Go.Proofs.Ytfiefjbipjalpaa

/- Contracts of SchemesOf and CountSchemes, the model's and the program's. -/
import Derived.Test.YtfiefjbipjalpaaFoCl
import Derived.Laws.EntriesVeiled
namespace Go.Proofs.Ytfiefjbipjalpaa
open Go.RowKit

/-- What SchemesOf answers. -/
def soR (a b : Int) : List (List UInt8) := if Fo.sheet a b = true then Fo.sch [] (Fo.pw a) (Fo.pw b) else []
def soC (a b : Int) : Int := if Fo.sheet a b = true then 0 else 1
def SC (w : World) (R : List (List UInt8)) (C : Int) (e : Ending) (w' : World) : Prop :=
  ∃ A n c, e = .returned (.tuple #[.slice A n c, .int .i64 C]) ∧ Own Tv w' w.heap.size w'.heap.size 9 (.slice A n c) R ∧ n ≤ 4096 ∧ Below w.heap.size w w'
theorem SC.nil_ {w w' : World} {R : List (List UInt8)} {C C' : Int} (hR : R = []) (hC : C = C') (hb : Below w.heap.size w w') : SC w R C (.returned (.tuple #[.slice none 0 0, .int .i64 C'])) w' := by
  subst hR hC
  exact ⟨none, 0, 0, rfl, Own.nil_, by omega, hb⟩
theorem SC.mk_ {w w' : World} {R R' : List (List UInt8)} {C C' : Int} {A : Option Addr} {n c lo hi : Nat} (hR : R = R') (hC : C = C') (ho : Own Tv w' lo hi 9 (.slice A n c) R') (h1 : w.heap.size ≤ lo) (h2 : hi ≤ w'.heap.size) (hn : n ≤ 4096) (hb : Below w.heap.size w w') :
    SC w R C (.returned (.tuple #[.slice A n c, .int .i64 C'])) w' := by
  subst hR hC
  exact ⟨A, n, c, rfl, ho.mono h1 h2, hn, hb⟩

set_option maxRecDepth 100000 in
theorem specAll_any (a b : Int) (w : World) (hs : Fo.sheet a b = true) :
    Calls Try.prog 56 #[.int .i64 a, .int .i64 b] w fun e w' => ∃ A m c, e = .returned (.slice A m c) ∧ Own Tv w' w.heap.size w'.heap.size 9 (.slice A m c) (Fo.sch [] (Fo.pw a) (Fo.pw b)) ∧ m ≤ 4096 ∧ Below w.heap.size w w' := by
  obtain ⟨ha, hb⟩ := Fo.sheet_parts hs
  have h3 := (Fo.side_pow ha).2
  have h4 := (Fo.side_pow hb).2
  obtain ⟨p, hp⟩ : ∃ p, p = Fo.pw a := ⟨_, rfl⟩
  obtain ⟨q, hq⟩ : ∃ q, q = Fo.pw b := ⟨_, rfl⟩
  have pa : ∀ W, Calls Try.prog 92 #[.int .i64 a] W fun e w' => e = .returned (.tuple #[.int .i64 (p : Int), .bool true]) ∧ W = w' := fun W => power_at a p true W hp ha.symm
  have pb : ∀ W, Calls Try.prog 92 #[.int .i64 b] W fun e w' => e = .returned (.tuple #[.int .i64 (q : Int), .bool true]) ∧ W = w' := fun W => power_at b q true W hq hb.symm
  rw [← hp] at h3 ⊢
  rw [← hq] at h4 ⊢
  have hsc := specSch_any (p + q) p q rfl h3 h4 ⟨#[]⟩ (by show 0 + (p + q) ≤ 64; omega)
  clear hp hq ha hb hs
  go_enter Try.func56, Try.ntmps56
  go_wp2_with fail
  refine (pa _).mono ?_
  rintro e _ ⟨rfl, rfl⟩
  go_wp2_with fail
  refine (pb _).mono ?_
  rintro e _ ⟨rfl, rfl⟩
  go_wp2_with fail
  refine (hsc _).mono ?_
  rintro e w1 ⟨A, m, c, rfl, ho, hm, hb⟩
  go_wp2_with fail
  go_ret
  exact ⟨_, _, _, rfl, ho, hm, hb⟩

set_option maxRecDepth 100000 in
set_option maxHeartbeats 1000000 in
theorem implSo_any (a b : Int) (w : World) :
    Calls Try.prog 66 #[.int .i64 a, .int .i64 b] w fun e w' => SC w (soR a b) (soC a b) e w' := by
  by_cases hs : Fo.sheet a b = true
  · obtain ⟨ha, hb⟩ := Fo.sheet_parts hs
    have h3 := (Fo.side_pow ha).2
    have h4 := (Fo.side_pow hb).2
    have x3 := (Fo.side_pow ha).1
    have x4 := (Fo.side_pow hb).1
    have HR : Hid (soR a b = Fo.sch [] (Fo.pw a) (Fo.pw b)) := by unfold soR; rw [if_pos hs]; exact Lib.hid rfl
    have HC : Hid (soC a b = 0) := by unfold soC; rw [if_pos hs]; exact Lib.hid rfl
    have HS := Lib.hid hs
    have hsm := Fo.sch_small (Fo.pw a) (Fo.pw b) [] h3 h4
    have HSM := Lib.hid hsm
    have hex : ∀ W, Col W w.heap.size w.heap.size (w.heap.size + 1) none 0 0 [] → Calls Try.prog 106 #[.string ⟨#[]⟩, .int .i64 a, .int .i64 b, .pointer (some ⟨w.heap.size, 0, none⟩), .pointer (some ⟨w.heap.size + 1, 0, none⟩)] W fun e w' => e = .returned (.tuple #[]) ∧ ∃ A' n' c', Col w' w.heap.size w.heap.size (w.heap.size + 1) A' n' c' ([] ++ Fo.sch [] (Fo.pw a) (Fo.pw b)) ∧ Below w.heap.size W w' := by
      intro W hc
      have h1 := ext_any (Fo.pw a + Fo.pw b) (Fo.pw a) (Fo.pw b) rfl h3 h4 ⟨#[]⟩ (by show 0 + (Fo.pw a + Fo.pw b) ≤ 64; omega)
      have h2 := h1 a b x3 x4
      have h5 := h2 w.heap.size w.heap.size (w.heap.size + 1) none 0 0 [] W hc (by rw [Nat.zero_add]; exact Nat.le_trans hsm (by omega))
      exact h5
    have hcf : ∀ args W, (callFunc 106 args).run Try.prog W = .ok (.enter 106 args) W := enters_of Try.func106 (by kernel_rfl) rfl
    have hmf : ∀ (fn : Fn) (first cap : Array Value) (w : World), (Instr.makeFunc fn first cap).run Try.prog w = .ok (.func fn first cap) w := fun _ _ _ _ => rfl
    have HB0 : Hid (Below w.heap.size w ((w.alloc (.cells #[.slice none 0 0] 34)).alloc (.cells #[Clo w.heap.size (w.heap.size + 1)] 114))) := Lib.hid (((Below.refl _ _).alloc (Nat.le_refl _) _).alloc (by simp) _)
    have HC0 : Hid (Col ((w.alloc (.cells #[.slice none 0 0] 34)).alloc (.cells #[Clo w.heap.size (w.heap.size + 1)] 114)) w.heap.size w.heap.size (w.heap.size + 1) none 0 0 []) :=
      Lib.hid ⟨(Blk.new _ _ rfl).alloc _, Blk.new _ _ (by simp), Own.nil_, Nat.le_refl _, by omega, by omega⟩
    clear ha hb h3 h4 x3 x4 hs hsm
    go_enter Try.func66, Try.ntmps66
    go_wp2_with fail
    refine (isSheet_any a b _).mono ?_
    rintro e _ ⟨rfl, rfl⟩
    rw [HS.out]
    go_wp2_with fail
    refine (hex _ HC0.out).mono ?_
    rintro e w1 ⟨rfl, A, m, c, hc, hb⟩
    have r0 := hc.br.cell 0 rfl
    have HO := Lib.hid hc
    have hm : m ≤ 4096 := by have h1 := hc.len; have h2 := HSM.out; rw [List.nil_append] at h1; omega
    clear hc
    go_wp2_with fail
    go_ret2
    exact SC.mk_ HR.out HC.out (by have := HO.out.ow; rwa [List.nil_append] at this) (Nat.le_refl _) (Nat.le_refl _) hm (HB0.out.trans hb)
  · have HR : Hid (soR a b = []) := by unfold soR; rw [if_neg hs]; exact Lib.hid rfl
    have HC : Hid (soC a b = 1) := by unfold soC; rw [if_neg hs]; exact Lib.hid rfl
    have HS : Hid (Fo.sheet a b = false) := Lib.hid (by simpa using hs)
    clear hs
    go_enter Try.func66, Try.ntmps66
    go_wp2_with fail
    refine (isSheet_any a b _).mono ?_
    rintro e _ ⟨rfl, rfl⟩
    rw [HS.out]
    go_wp2_with fail
    go_ret2
    exact SC.nil_ HR.out HC.out (Below.refl _ _)

end Go.Proofs.Ytfiefjbipjalpaa

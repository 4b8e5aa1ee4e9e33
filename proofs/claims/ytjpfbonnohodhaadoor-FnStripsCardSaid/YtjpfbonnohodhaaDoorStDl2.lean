/- Contracts of the draws of the law of strips. -/
import Derived.Test.YtjpfbonnohodhaaDoorStDl
import Derived.Test.YtjpfbonnohodhaaDoorStCreases
namespace Go.Proofs.YtjpfbonnohodhaaDoor
open Go.RowKit Go.Shelf

theorem DrawFold_any (N C B : Nat) (A : Option Addr) (l : List Int) (w : World) (hc : Rd U w B A N l) (hl : inByte l) (hB : B ≤ w.heap.size) (hN : N ≤ 1048576) :
    Calls Tryd.prog 11 #[.slice A N C] w fun e w' => DrT w e w' := by
  go_enter Tryd.func11, Tryd.ntmps11
  go_wp2_with fail
  refine (l01From_ex N C B A l _ hc hl hB).mono ?_
  rintro e w1 ⟨g, rfl, hg, hs1, hb1⟩
  have hz1 := hb1.size
  have hlt := hs1.lt
  go_wp2_with fail
  refine (l03Draw_any g N C B A l _ hs1 (hc.below hb1 hB) hl (by omega) hN).mono ?_
  rintro e w2 ⟨t, rfl, ht, hs2, ho2⟩
  have HB : Hid (DrT w (.returned (.string t)) w2) := ⟨t, rfl, ht, hb1.trans (ho2.below hg hz1)⟩
  clear ht hs2 ho2 hs1 hb1
  go_wp2_with fail
  go_ret
  exact HB.out
def DrX (w : World) (e : Ending) (w' : World) : Prop :=
  ∃ (A' : Option Addr) (n' c' : Nat) (L : List Int), e = .returned (.slice A' n' c') ∧ Rd I w' w'.heap.size A' n' L ∧ n' ≤ 1048576 ∧ (∀ x ∈ L, -1000 ≤ x ∧ x ≤ 1000) ∧ Below w.heap.size w w'
theorem DrawFind_any (N C B : Nat) (A : Option Addr) (l : List Int) (w : World) (hc : Rd U w B A N l) (hl : inByte l) (hB : B ≤ w.heap.size) (hN : N ≤ 1048576) :
    Calls Tryd.prog 14 #[.slice A N C] w fun e w' => DrX w e w' := by
  go_enter Tryd.func14, Tryd.ntmps14
  go_wp2_with fail
  refine (l01From_ex N C B A l _ hc hl hB).mono ?_
  rintro e w1 ⟨g, rfl, hg, hs1, hb1⟩
  have hz1 := hb1.size
  have hlt := hs1.lt
  go_wp2_with fail
  refine (l03DrawList_any g N C B A l _ hs1 (hc.below hb1 hB) hl (by omega) hN).mono ?_
  rintro e w2 ⟨A', n', c', L, rfl, hr, hn, hL, ho2⟩
  have HB : Hid (DrX w (.returned (.slice A' n' c')) w2) := ⟨A', n', c', L, rfl, hr, hn, hL, hb1.trans (ho2.below hg hz1)⟩
  clear hr hn hL ho2 hs1 hb1
  go_wp2_with fail
  go_ret
  exact HB.out
def DrP (w : World) (e : Ending) (w' : World) : Prop :=
  ∃ (t : ByteArray) (x : Int), e = .returned (.tuple #[.string t, .int .i64 x]) ∧ t.size ≤ 7 ∧ (-1000 ≤ x ∧ x ≤ 1000) ∧ Below w.heap.size w w'
theorem DrawPlace_any (N C B : Nat) (A : Option Addr) (l : List Int) (w : World) (hc : Rd U w B A N l) (hl : inByte l) (hB : B ≤ w.heap.size) (hN : N ≤ 1048576) :
    Calls Tryd.prog 17 #[.slice A N C] w fun e w' => DrP w e w' := by
  go_enter Tryd.func17, Tryd.ntmps17
  go_wp2_with fail
  refine (l01From_ex N C B A l _ hc hl hB).mono ?_
  rintro e w1 ⟨g, rfl, hg, hs1, hb1⟩
  have hz1 := hb1.size
  have hlt := hs1.lt
  go_wp2_with fail
  refine (l03Draw_any g N C B A l _ hs1 (hc.below hb1 hB) hl (by omega) hN).mono ?_
  rintro e w2 ⟨t, rfl, ht, hs2, ho2⟩
  have hb2 := hb1.trans (ho2.below hg hz1)
  have hz2 := ho2.size
  have hc2 := hc.below hb2 hB
  obtain ⟨p, hp⟩ : ∃ p : Nat, p = 2 ^ t.size := ⟨_, rfl⟩
  have hp128 : p ≤ 128 := by
    have := Nat.pow_le_pow_right (n := 2) (by omega) ht
    omega
  have hp0 : 0 < p := by rw [hp]; exact Nat.pow_pos (by omega)
  have m1 : min 7 (t.size : Int) = (t.size : Int) := by omega
  have m2 : (if (t.size : Int) < 7 then (t.size : Int) else 7) = (t.size : Int) := by split <;> omega
  have huw : IntKind.u64.wrap (t.size : Int) = (t.size : Int) := by
    show (t.size : Int) % 18446744073709551616 = _
    omega
  have hsh2 : IntKind.i64.wrap (2 ^ t.size) = (p : Int) := by
    have h9 : ((2 : Int) ^ t.size) = (p : Int) := by rw [hp]; simp
    rw [h9]
    exact IntWalk.i64_in _ (by omega)
  have HP := Lib.hid hp
  have HB2 := Lib.hid hb2
  clear hp hb1 hb2 ho2 hs1
  go_wp2_with fail
  refine (l01Next_any g N C B A l _ _ hs2 hc2 hl (by omega) hN (by omega)).mono ?_
  rintro e w3 ⟨v, rfl, hv0, hv1, _, hs3, ho3⟩
  have hz3 := ho3.size
  have HB3 := Lib.hid (HB2.out.trans (ho3.below (B := w.heap.size) hg (by omega)))
  have hc3 := hc.below HB3.out hB
  have u1 : IntKind.i64.wrap (-(p : Int)) = -(p : Int) := IntWalk.i64_in _ (by omega)
  clear hv1 hs2 hc2 ho3
  by_cases h0 : v = 0
  · subst h0
    go_wp2_with fail
    refine (pick_lit g N C B A l [-1, (p : Int), -(p : Int)] _ _ w3 rfl rfl hs3 hc3 hl (by omega) hN (by simp) (by simp)).mono ?_
    rintro e w4 ⟨y, rfl, hy, _, ho4⟩
    have hyb : -1000 ≤ y ∧ y ≤ 1000 := by simp at hy; omega
    have HE : Hid (DrP w (.returned (.tuple #[.string t, .int .i64 y])) w4) := ⟨t, y, rfl, ht, hyb, HB3.out.trans (ho4.below (B := w.heap.size) hg (by omega))⟩
    clear hy ho4
    go_wp2_with fail
    go_ret2
    exact HE.out
  · go_wp2_with fail
    refine (l01Next_any g N C B A l _ _ hs3 hc3 hl (by omega) hN (by omega)).mono ?_
    rintro e w4 ⟨y, rfl, hy0, hy1, _, _, ho4⟩
    have hy2 : y < (p : Int) := hy1 (by omega)
    have HE : Hid (DrP w (.returned (.tuple #[.string t, .int .i64 y])) w4) := ⟨t, y, rfl, ht, by omega, HB3.out.trans (ho4.below (B := w.heap.size) hg (by omega))⟩
    clear hy1 ho4
    go_wp2_with fail
    go_ret2
    exact HE.out
end Go.Proofs.YtjpfbonnohodhaaDoor

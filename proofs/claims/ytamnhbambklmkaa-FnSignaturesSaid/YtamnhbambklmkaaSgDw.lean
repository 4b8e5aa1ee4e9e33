/- Contracts of the draws of the laws of chapter 6: whatever numbers and lists, the call's own. -/
import Derived.Test.YtamnhbambklmkaaSgSc
import Derived.Test.YtamnhbambklmkaaSgDo
namespace Go.Proofs.Ytamnhbambklmkaa
open Go.RowKit

def NumP (w : World) (g N C : Nat) (A : Option Addr) (lo hi : Int) (e : Ending) (w' : World) : Prop :=
  ∃ x, e = .returned (.int .i64 x) ∧ (lo ≤ x ∧ x ≤ hi) ∧ Src w' g A N C ∧ Only g (g + 1) w w'
theorem NumP.mk_ {w w' : World} {g N C : Nat} {A : Option Addr} {lo hi x : Int} (hx : lo ≤ x ∧ x ≤ hi) (hs : Src w' g A N C) (ho : Only g (g + 1) w w') : NumP w g N C A lo hi (.returned (.int .i64 x)) w' := ⟨x, rfl, hx, hs, ho⟩
theorem only_then {g : Nat} {w w1 w2 : World} (h : Only g (g + 1) w w1) (k : Only g (g + 1) w1 w2) : Only g (g + 1) w w2 := h.trans k

set_option maxHeartbeats 2000000 in
theorem drawPages_any (g N C B : Nat) (A : Option Addr) (l : List Int) (w : World) (hs : Src w g A N C) (hc : Rd U w B A N l) (hl : inByte l) (hB : B ≤ g) (hN : N ≤ 1048576) :
    Calls Try.prog 61 #[.pointer (some ⟨g, 0, none⟩)] w fun e w' => NumP w g N C A (-1) 4097 e w' := by
  have hlt := hs.lt
  go_enter Try.func61, Try.ntmps61
  go_wp2_with fail
  refine (l01Next_any g N C B A l _ _ hs hc hl hB hN (by omega)).mono ?_
  rintro e w1 ⟨v, rfl, hv0, hv1, _, hs1, ho1⟩
  have hc1 := hc.only ho1 (by omega) (by omega)
  clear hv1
  by_cases hv : v = 0
  · subst hv
    go_wp2_with fail
    refine (pick_lit g N C B A l [0, -1, 4096, 4097] _ _ w1 rfl rfl hs1 hc1 hl hB hN (by decide) (by decide)).mono ?_
    rintro e w2 ⟨x, rfl, hx, hs2, ho2⟩
    have hx' : -1 ≤ x ∧ x ≤ 4097 := by simp at hx; omega
    clear hx
    go_wp2_with fail
    go_ret
    exact NumP.mk_ hx' hs2 (ho1.trans ho2)
  · have hv' : (v == 0) = false := by simpa using hv
    go_wp2_with fail
    refine (l01Next_any g N C B A l _ _ hs1 hc1 hl hB hN (by omega)).mono ?_
    rintro e w2 ⟨x, rfl, hx0, hx1, _, hs2, ho2⟩
    have hx1' := hx1 (by omega)
    clear hx1
    go_wp2_with fail
    go_ret
    exact NumP.mk_ (by omega) hs2 (ho1.trans ho2)

set_option maxHeartbeats 2000000 in
theorem drawNest_any (g N C B : Nat) (A : Option Addr) (l : List Int) (w : World) (hs : Src w g A N C) (hc : Rd U w B A N l) (hl : inByte l) (hB : B ≤ g) (hN : N ≤ 1048576) :
    Calls Try.prog 94 #[.pointer (some ⟨g, 0, none⟩)] w fun e w' => NumP w g N C A (-1) 65 e w' := by
  have hlt := hs.lt
  go_enter Try.func94, Try.ntmps94
  go_wp2_with fail
  refine (l01Next_any g N C B A l _ _ hs hc hl hB hN (by omega)).mono ?_
  rintro e w1 ⟨v, rfl, hv0, hv1, _, hs1, ho1⟩
  have hc1 := hc.only ho1 (by omega) (by omega)
  clear hv1
  by_cases hv : v = 0
  · subst hv
    go_wp2_with fail
    refine (pick_lit g N C B A l [0, -1, 64, 65] _ _ w1 rfl rfl hs1 hc1 hl hB hN (by decide) (by decide)).mono ?_
    rintro e w2 ⟨x, rfl, hx, hs2, ho2⟩
    have hx' : -1 ≤ x ∧ x ≤ 65 := by simp at hx; omega
    clear hx
    go_wp2_with fail
    go_ret
    exact NumP.mk_ hx' hs2 (ho1.trans ho2)
  · have hv' : (v == 0) = false := by simpa using hv
    go_wp2_with fail
    refine (l01Next_any g N C B A l _ _ hs1 hc1 hl hB hN (by omega)).mono ?_
    rintro e w2 ⟨x, rfl, hx0, hx1, _, hs2, ho2⟩
    have hx1' := hx1 (by omega)
    clear hx1
    go_wp2_with fail
    go_ret
    exact NumP.mk_ (by omega) hs2 (ho1.trans ho2)

set_option maxHeartbeats 2000000 in
theorem drawUnit_any (g N C B : Nat) (A : Option Addr) (l : List Int) (w : World) (hs : Src w g A N C) (hc : Rd U w B A N l) (hl : inByte l) (hB : B ≤ g) (hN : N ≤ 1048576) :
    Calls Try.prog 63 #[.pointer (some ⟨g, 0, none⟩)] w fun e w' => NumP w g N C A (-4) 256 e w' := by
  have hlt := hs.lt
  go_enter Try.func63, Try.ntmps63
  go_wp2_with fail
  refine (l01Next_any g N C B A l _ _ hs hc hl hB hN (by omega)).mono ?_
  rintro e w1 ⟨v, rfl, hv0, hv1, _, hs1, ho1⟩
  have hc1 := hc.only ho1 (by omega) (by omega)
  clear hv1
  by_cases hv : v = 0
  · subst hv
    go_wp2_with fail
    refine (pick_lit g N C B A l [0, 2, 12, 256, -4] _ _ w1 rfl rfl hs1 hc1 hl hB hN (by decide) (by decide)).mono ?_
    rintro e w2 ⟨x, rfl, hx, hs2, ho2⟩
    have hx' : -4 ≤ x ∧ x ≤ 256 := by simp at hx; omega
    clear hx
    go_wp2_with fail
    go_ret
    exact NumP.mk_ hx' hs2 (ho1.trans ho2)
  · have hv' : (v == 0) = false := by simpa using hv
    go_wp2_with fail
    refine (l01Next_any g N C B A l _ _ hs1 hc1 hl hB hN (by omega)).mono ?_
    rintro e w2 ⟨x, rfl, hx0, hx1, _, hs2, ho2⟩
    have hx1' := hx1 (by omega)
    clear hx1
    have hcase : x = 0 ∨ x = 1 ∨ x = 2 ∨ x = 3 ∨ x = 4 ∨ x = 5 := by omega
    clear hx0 hx1'
    rcases hcase with rfl | rfl | rfl | rfl | rfl | rfl
    all_goals
      go_wp2_with fail
      go_ret
      exact NumP.mk_ (by decide) hs2 (ho1.trans ho2)
end Go.Proofs.Ytamnhbambklmkaa

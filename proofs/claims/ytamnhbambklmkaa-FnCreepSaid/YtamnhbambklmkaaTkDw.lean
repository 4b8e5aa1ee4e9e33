/- Contracts of the draws of the laws of chapter 7: whatever numbers, and what the call leaves as it was. -/
import Derived.Test.YtamnhbambklmkaaSgDx
import Derived.Test.YtamnhbambklmkaaTkBk
namespace Go.Proofs.Ytamnhbambklmkaa
open Go.RowKit

def D2 (w : World) (e : Ending) (w' : World) : Prop := ∃ p u, e = .returned (.tuple #[.int .i64 p, .int .i64 u]) ∧ Below w.heap.size w w'
theorem D2.mk_ {w w' : World} {p u : Int} (hb : Below w.heap.size w w') : D2 w (.returned (.tuple #[.int .i64 p, .int .i64 u])) w' := ⟨p, u, rfl, hb⟩
def D3 (w : World) (e : Ending) (w' : World) : Prop := ∃ p u x, e = .returned (.tuple #[.int .i64 p, .int .i64 u, .int .i64 x]) ∧ Below w.heap.size w w'
theorem D3.mk_ {w w' : World} {p u x : Int} (hb : Below w.heap.size w w') : D3 w (.returned (.tuple #[.int .i64 p, .int .i64 u, .int .i64 x])) w' := ⟨p, u, x, rfl, hb⟩

set_option maxHeartbeats 2000000 in
theorem drawThick_any (g N C B : Nat) (A : Option Addr) (l : List Int) (w : World) (hs : Src w g A N C) (hc : Rd U w B A N l) (hl : inByte l) (hB : B ≤ g) (hN : N ≤ 1048576) :
    Calls Try.prog 84 #[.pointer (some ⟨g, 0, none⟩)] w fun e w' => NumP w g N C A 0 2001 e w' := by
  have hlt := hs.lt
  go_enter Try.func84, Try.ntmps84
  go_wp2_with fail
  refine (l01Next_any g N C B A l _ _ hs hc hl hB hN (by omega)).mono ?_
  rintro e w1 ⟨v, rfl, hv0, hv1, _, hs1, ho1⟩
  have hc1 := hc.only ho1 (by omega) (by omega)
  clear hv1
  by_cases hv : v = 0
  · subst hv
    go_wp2_with fail
    refine (pick_lit g N C B A l [0, 1, 2000, 2001] _ _ w1 rfl rfl hs1 hc1 hl hB hN (by decide) (by decide)).mono ?_
    rintro e w2 ⟨x, rfl, hx, hs2, ho2⟩
    have hx' : 0 ≤ x ∧ x ≤ 2001 := by simp at hx; omega
    clear hx
    go_wp2_with fail
    go_ret
    exact NumP.mk_ hx' hs2 (ho1.trans ho2)
  · have hv' : (v == 0) = false := by simpa using hv
    go_wp2_with fail
    refine (l01Next_any g N C B A l _ _ hs1 hc1 hl hB hN (by omega)).mono ?_
    rintro e w2 ⟨x, rfl, hx0, hx1, _, hs2, ho2⟩
    have hx1' := hx1 (by omega)
    clear hx1
    go_wp2_with fail
    go_ret
    exact NumP.mk_ (by omega) hs2 (ho1.trans ho2)

set_option maxRecDepth 100000 in
set_option maxHeartbeats 2000000 in
theorem DrawCt_any (N C B : Nat) (A : Option Addr) (l : List Int) (w : World) (hc : Rd U w B A N l) (hl : inByte l) (hB : B ≤ w.heap.size) (hN : N ≤ 1048576) :
    Calls Try.prog 77 #[.slice A N C] w fun e w' => D2 w e w' := by
  go_enter Try.func77, Try.ntmps77
  go_wp2_with fail
  refine (l01From_ex N C B A l _ hc hl hB).mono ?_
  rintro e w1 ⟨g, rfl, hg, hs1, hb1⟩
  have z1 := hb1.size
  have hc1 := hc.below hb1 hB
  have hlt := hs1.lt
  go_wp2_with fail
  refine (drawNest_any g N C B A l _ hs1 hc1 hl (by omega) hN).mono ?_
  rintro e w2 ⟨n, rfl, hn, hs2, ho2⟩
  have z2 := ho2.size
  have hb2 := hb1.trans (ho2.below (B := w.heap.size) (by omega) (by omega))
  have hc2 := hc1.only ho2 (by omega) (by omega)
  go_wp2_with fail
  refine (drawThick_any g N C B A l _ hs2 hc2 hl (by omega) hN).mono ?_
  rintro e w3 ⟨t, rfl, ht, hs3, ho3⟩
  have z3 := ho3.size
  have hb3 := hb2.trans (ho3.below (B := w.heap.size) (by omega) (by omega))
  have hc3 := hc2.only ho3 (by omega) (by omega)
  go_wp2_with fail
  exact bodyPost_ret (v := .tuple #[.int .i64 n, .int .i64 t]) (by simp [results, Try.results77, go_sem]) rfl (D2.mk_ hb3)

set_option maxRecDepth 100000 in
set_option maxHeartbeats 2000000 in
theorem DrawCo_any (N C B : Nat) (A : Option Addr) (l : List Int) (w : World) (hc : Rd U w B A N l) (hl : inByte l) (hB : B ≤ w.heap.size) (hN : N ≤ 1048576) :
    Calls Try.prog 39 #[.slice A N C] w fun e w' => D3 w e w' := by
  go_enter Try.func39, Try.ntmps39
  go_wp2_with fail
  refine (l01From_ex N C B A l _ hc hl hB).mono ?_
  rintro e w1 ⟨g, rfl, hg, hs1, hb1⟩
  have z1 := hb1.size
  have hc1 := hc.below hb1 hB
  have hlt := hs1.lt
  go_wp2_with fail
  refine (DrawNp_any N C B A l _ hc1 hl (by omega) hN).mono ?_
  rintro e w2 ⟨n, k, rfl, _, _, hx2⟩
  have z2 := hx2.size
  have hb2 := hb1.trans (hx2.mono (by omega))
  have hc2 := hc1.below hx2 (by omega)
  have hs2 := hs1.below hx2 (by omega)
  go_wp2_with fail
  refine (drawThick_any g N C B A l _ hs2 hc2 hl (by omega) hN).mono ?_
  rintro e w3 ⟨t, rfl, ht, hs3, ho3⟩
  have z3 := ho3.size
  have hb3 := hb2.trans (ho3.below (B := w.heap.size) (by omega) (by omega))
  have hc3 := hc2.only ho3 (by omega) (by omega)
  go_wp2_with fail
  exact bodyPost_ret (v := .tuple #[.int .i64 n, .int .i64 k, .int .i64 t]) (by simp [results, Try.results39, go_sem]) rfl (D3.mk_ hb3)

set_option maxRecDepth 100000 in
set_option maxHeartbeats 2000000 in
theorem DrawMg_any (N C B : Nat) (A : Option Addr) (l : List Int) (w : World) (hc : Rd U w B A N l) (hl : inByte l) (hB : B ≤ w.heap.size) (hN : N ≤ 1048576) :
    Calls Try.prog 34 #[.slice A N C] w fun e w' => D3 w e w' := by
  go_enter Try.func34, Try.ntmps34
  go_wp2_with fail
  refine (l01From_ex N C B A l _ hc hl hB).mono ?_
  rintro e w1 ⟨g, rfl, hg, hs1, hb1⟩
  have z1 := hb1.size
  have hc1 := hc.below hb1 hB
  have hlt := hs1.lt
  go_wp2_with fail
  refine (DrawCt_any N C B A l _ hc1 hl (by omega) hN).mono ?_
  rintro e w2 ⟨n, t, rfl, hx2⟩
  have z2 := hx2.size
  have hb2 := hb1.trans (hx2.mono (by omega))
  have hc2 := hc1.below hx2 (by omega)
  have hs2 := hs1.below hx2 (by omega)
  go_wp2_with fail
  refine (l01Next_any g N C B A l _ _ hs2 hc2 hl (by omega) hN (by omega)).mono ?_
  rintro e w3 ⟨a, rfl, a0, a1, _, hs3, ho3⟩
  have z3 := ho3.size
  have hb3 := hb2.trans (ho3.below (B := w.heap.size) (by omega) (by omega))
  have hc3 := hc2.only ho3 (by omega) (by omega)
  clear a1
  go_wp2_with fail
  refine (pick_lit g N C B A l [-1, 0, 1000000000, 1000000001] _ _ w3 rfl rfl hs3 hc3 hl (by omega) hN (by simp) (by simp)).mono ?_
  rintro e w4 ⟨b, rfl, hb, hs4, ho4⟩
  have z4 := ho4.size
  have hb4 := hb3.trans (ho4.below (B := w.heap.size) (by omega) (by omega))
  have hc4 := hc3.only ho4 (by omega) (by omega)
  clear hb
  go_wp2_with fail
  refine (pick_lit g N C B A l [a, 100, 100, b] _ _ w4 rfl rfl hs4 hc4 hl (by omega) hN (by simp) (by simp)).mono ?_
  rintro e w5 ⟨m, rfl, hm, hs5, ho5⟩
  have z5 := ho5.size
  have hb5 := hb4.trans (ho5.below (B := w.heap.size) (by omega) (by omega))
  have hc5 := hc4.only ho5 (by omega) (by omega)
  clear hm
  go_wp2_with fail
  exact bodyPost_ret (v := .tuple #[.int .i64 n, .int .i64 t, .int .i64 m]) (by simp [results, Try.results34, go_sem]) rfl (D3.mk_ hb5)

set_option maxRecDepth 100000 in
set_option maxHeartbeats 2000000 in
theorem DrawMn_any (N C B : Nat) (A : Option Addr) (l : List Int) (w : World) (hc : Rd U w B A N l) (hl : inByte l) (hB : B ≤ w.heap.size) (hN : N ≤ 1048576) :
    Calls Try.prog 44 #[.slice A N C] w fun e w' => D2 w e w' := by
  go_enter Try.func44, Try.ntmps44
  go_wp2_with fail
  refine (l01From_ex N C B A l _ hc hl hB).mono ?_
  rintro e w1 ⟨g, rfl, hg, hs1, hb1⟩
  have z1 := hb1.size
  have hc1 := hc.below hb1 hB
  have hlt := hs1.lt
  go_wp2_with fail
  refine (drawThick_any g N C B A l _ hs1 hc1 hl (by omega) hN).mono ?_
  rintro e w2 ⟨t, rfl, ht, hs2, ho2⟩
  have z2 := ho2.size
  have hb2 := hb1.trans (ho2.below (B := w.heap.size) (by omega) (by omega))
  have hc2 := hc1.only ho2 (by omega) (by omega)
  go_wp2_with fail
  refine (l01Next_any g N C B A l _ _ hs2 hc2 hl (by omega) hN (by omega)).mono ?_
  rintro e w3 ⟨a, rfl, a0, a1, _, hs3, ho3⟩
  have z3 := ho3.size
  have hb3 := hb2.trans (ho3.below (B := w.heap.size) (by omega) (by omega))
  have hc3 := hc2.only ho3 (by omega) (by omega)
  clear a1
  go_wp2_with fail
  refine (l01Next_any g N C B A l _ _ hs3 hc3 hl (by omega) hN (by omega)).mono ?_
  rintro e w4 ⟨b, rfl, b0, b1, _, hs4, ho4⟩
  have z4 := ho4.size
  have hb4 := hb3.trans (ho4.below (B := w.heap.size) (by omega) (by omega))
  have hc4 := hc3.only ho4 (by omega) (by omega)
  clear b1
  go_wp2_with fail
  refine (pick_lit g N C B A l [-1, 0, 1000000000, 1000000001] _ _ w4 rfl rfl hs4 hc4 hl (by omega) hN (by simp) (by simp)).mono ?_
  rintro e w5 ⟨c, rfl, hc, hs5, ho5⟩
  have z5 := ho5.size
  have hb5 := hb4.trans (ho5.below (B := w.heap.size) (by omega) (by omega))
  have hc5 := hc4.only ho5 (by omega) (by omega)
  clear hc
  go_wp2_with fail
  refine (pick_lit g N C B A l [a, b, c] _ _ w5 rfl rfl hs5 hc5 hl (by omega) hN (by simp) (by simp)).mono ?_
  rintro e w6 ⟨m, rfl, hm, hs6, ho6⟩
  have z6 := ho6.size
  have hb6 := hb5.trans (ho6.below (B := w.heap.size) (by omega) (by omega))
  have hc6 := hc5.only ho6 (by omega) (by omega)
  clear hm
  go_wp2_with fail
  exact bodyPost_ret (v := .tuple #[.int .i64 t, .int .i64 m]) (by simp [results, Try.results44, go_sem]) rfl (D2.mk_ hb6)

set_option maxRecDepth 100000 in
set_option maxHeartbeats 2000000 in
theorem DrawBk_any (N C B : Nat) (A : Option Addr) (l : List Int) (w : World) (hc : Rd U w B A N l) (hl : inByte l) (hB : B ≤ w.heap.size) (hN : N ≤ 1048576) :
    Calls Try.prog 53 #[.slice A N C] w fun e w' => D2 w e w' := by
  go_enter Try.func53, Try.ntmps53
  go_wp2_with fail
  refine (l01From_ex N C B A l _ hc hl hB).mono ?_
  rintro e w1 ⟨g, rfl, hg, hs1, hb1⟩
  have z1 := hb1.size
  have hc1 := hc.below hb1 hB
  have hlt := hs1.lt
  go_wp2_with fail
  refine (drawPages_any g N C B A l _ hs1 hc1 hl (by omega) hN).mono ?_
  rintro e w2 ⟨p, rfl, hp, hs2, ho2⟩
  have z2 := ho2.size
  have hb2 := hb1.trans (ho2.below (B := w.heap.size) (by omega) (by omega))
  have hc2 := hc1.only ho2 (by omega) (by omega)
  go_wp2_with fail
  refine (drawThick_any g N C B A l _ hs2 hc2 hl (by omega) hN).mono ?_
  rintro e w3 ⟨t, rfl, ht, hs3, ho3⟩
  have z3 := ho3.size
  have hb3 := hb2.trans (ho3.below (B := w.heap.size) (by omega) (by omega))
  have hc3 := hc2.only ho3 (by omega) (by omega)
  go_wp2_with fail
  exact bodyPost_ret (v := .tuple #[.int .i64 p, .int .i64 t]) (by simp [results, Try.results53, go_sem]) rfl (D2.mk_ hb3)

set_option maxRecDepth 100000 in
set_option maxHeartbeats 2000000 in
theorem DrawSp_any (N C B : Nat) (A : Option Addr) (l : List Int) (w : World) (hc : Rd U w B A N l) (hl : inByte l) (hB : B ≤ w.heap.size) (hN : N ≤ 1048576) :
    Calls Try.prog 50 #[.slice A N C] w fun e w' => D3 w e w' := by
  go_enter Try.func50, Try.ntmps50
  go_wp2_with fail
  refine (l01From_ex N C B A l _ hc hl hB).mono ?_
  rintro e w1 ⟨g, rfl, hg, hs1, hb1⟩
  have z1 := hb1.size
  have hc1 := hc.below hb1 hB
  have hlt := hs1.lt
  go_wp2_with fail
  refine (drawPages_any g N C B A l _ hs1 hc1 hl (by omega) hN).mono ?_
  rintro e w2 ⟨p, rfl, hp, hs2, ho2⟩
  have z2 := ho2.size
  have hb2 := hb1.trans (ho2.below (B := w.heap.size) (by omega) (by omega))
  have hc2 := hc1.only ho2 (by omega) (by omega)
  go_wp2_with fail
  refine (drawThick_any g N C B A l _ hs2 hc2 hl (by omega) hN).mono ?_
  rintro e w3 ⟨t, rfl, ht, hs3, ho3⟩
  have z3 := ho3.size
  have hb3 := hb2.trans (ho3.below (B := w.heap.size) (by omega) (by omega))
  have hc3 := hc2.only ho3 (by omega) (by omega)
  go_wp2_with fail
  refine (l01Next_any g N C B A l _ _ hs3 hc3 hl (by omega) hN (by omega)).mono ?_
  rintro e w4 ⟨a, rfl, a0, a1, _, hs4, ho4⟩
  have z4 := ho4.size
  have hb4 := hb3.trans (ho4.below (B := w.heap.size) (by omega) (by omega))
  have hc4 := hc3.only ho4 (by omega) (by omega)
  clear a1
  go_wp2_with fail
  refine (l01Next_any g N C B A l _ _ hs4 hc4 hl (by omega) hN (by omega)).mono ?_
  rintro e w5 ⟨b, rfl, b0, b1, _, hs5, ho5⟩
  have z5 := ho5.size
  have hb5 := hb4.trans (ho5.below (B := w.heap.size) (by omega) (by omega))
  have hc5 := hc4.only ho5 (by omega) (by omega)
  clear b1
  go_wp2_with fail
  refine (pick_lit g N C B A l [-1, 2000, 2001] _ _ w5 rfl rfl hs5 hc5 hl (by omega) hN (by simp) (by simp)).mono ?_
  rintro e w6 ⟨c, rfl, hc, hs6, ho6⟩
  have z6 := ho6.size
  have hb6 := hb5.trans (ho6.below (B := w.heap.size) (by omega) (by omega))
  have hc6 := hc5.only ho6 (by omega) (by omega)
  clear hc
  go_wp2_with fail
  refine (pick_lit g N C B A l [0, a, b, c] _ _ w6 rfl rfl hs6 hc6 hl (by omega) hN (by simp) (by simp)).mono ?_
  rintro e w7 ⟨m, rfl, hm, hs7, ho7⟩
  have z7 := ho7.size
  have hb7 := hb6.trans (ho7.below (B := w.heap.size) (by omega) (by omega))
  have hc7 := hc6.only ho7 (by omega) (by omega)
  clear hm
  go_wp2_with fail
  exact bodyPost_ret (v := .tuple #[.int .i64 p, .int .i64 t, .int .i64 m]) (by simp [results, Try.results50, go_sem]) rfl (D3.mk_ hb7)

set_option maxRecDepth 100000 in
set_option maxHeartbeats 2000000 in
theorem DrawTr_any (N C B : Nat) (A : Option Addr) (l : List Int) (w : World) (hc : Rd U w B A N l) (hl : inByte l) (hB : B ≤ w.heap.size) (hN : N ≤ 1048576) :
    Calls Try.prog 47 #[.slice A N C] w fun e w' => D2 w e w' := by
  go_enter Try.func47, Try.ntmps47
  go_wp2_with fail
  refine (l01From_ex N C B A l _ hc hl hB).mono ?_
  rintro e w1 ⟨g, rfl, hg, hs1, hb1⟩
  have z1 := hb1.size
  have hc1 := hc.below hb1 hB
  have hlt := hs1.lt
  go_wp2_with fail
  refine (drawPages_any g N C B A l _ hs1 hc1 hl (by omega) hN).mono ?_
  rintro e w2 ⟨p, rfl, hp, hs2, ho2⟩
  have z2 := ho2.size
  have hb2 := hb1.trans (ho2.below (B := w.heap.size) (by omega) (by omega))
  have hc2 := hc1.only ho2 (by omega) (by omega)
  go_wp2_with fail
  refine (drawThick_any g N C B A l _ hs2 hc2 hl (by omega) hN).mono ?_
  rintro e w3 ⟨t, rfl, ht, hs3, ho3⟩
  have z3 := ho3.size
  have hb3 := hb2.trans (ho3.below (B := w.heap.size) (by omega) (by omega))
  have hc3 := hc2.only ho3 (by omega) (by omega)
  obtain ⟨r, hr⟩ : ∃ r, Tk.spR p t 0 = r := ⟨_, rfl⟩
  obtain ⟨c, hcc⟩ : ∃ c, Tk.spC p t 0 = c := ⟨_, rfl⟩
  go_wp2_with fail
  refine (specSp_any p t 0 r c _ hr hcc).mono ?_
  rintro e _ ⟨rfl, rfl⟩
  clear hr hcc
  by_cases h0 : c = 0
  · subst h0
    go_wp2_with fail
    refine (l01Next_any g N C B A l _ _ hs3 hc3 hl (by omega) hN (by omega)).mono ?_
    rintro e w4 ⟨v, rfl, v0, v1, _, hs4, ho4⟩
    have z4 := ho4.size
    have hb4 := hb3.trans (ho4.below (B := w.heap.size) (by omega) (by omega))
    have hc4 := hc3.only ho4 (by omega) (by omega)
    clear v1
    by_cases hv : v = 0
    · subst hv
      go_wp2_with fail
      refine (l01Next_any g N C B A l _ _ hs4 hc4 hl (by omega) hN (by omega)).mono ?_
      rintro e w5 ⟨a, rfl, a0, a1, _, hs5, ho5⟩
      have z5 := ho5.size
      have hb5 := hb4.trans (ho5.below (B := w.heap.size) (by omega) (by omega))
      have hc5 := hc4.only ho5 (by omega) (by omega)
      clear a1
      go_wp2_with fail
      refine (pick_lit g N C B A l [0, 1, -1, 1000000000, 1000000001, a] _ _ w5 rfl rfl hs5 hc5 hl (by omega) hN (by simp) (by simp)).mono ?_
      rintro e w6 ⟨m, rfl, hm, hs6, ho6⟩
      have z6 := ho6.size
      have hb6 := hb5.trans (ho6.below (B := w.heap.size) (by omega) (by omega))
      have hc6 := hc5.only ho6 (by omega) (by omega)
      clear hm
      go_wp2_with fail
      exact bodyPost_ret (v := .tuple #[.int .i64 p, .int .i64 m]) (by simp [results, Try.results47, go_sem]) rfl (D2.mk_ hb6)
    · have hv' : (v == 0) = false := by simpa using hv
      go_wp2_with fail
      exact bodyPost_ret (v := .tuple #[.int .i64 p, .int .i64 r]) (by simp [results, Try.results47, go_sem]) rfl (D2.mk_ hb4)
  · have h0' : (c == 0) = false := by simpa using h0
    go_wp2_with fail
    refine (l01Next_any g N C B A l _ _ hs3 hc3 hl (by omega) hN (by omega)).mono ?_
    rintro e w4 ⟨a, rfl, a0, a1, _, hs4, ho4⟩
    have z4 := ho4.size
    have hb4 := hb3.trans (ho4.below (B := w.heap.size) (by omega) (by omega))
    have hc4 := hc3.only ho4 (by omega) (by omega)
    clear a1
    go_wp2_with fail
    refine (pick_lit g N C B A l [0, 1, -1, 1000000000, 1000000001, a] _ _ w4 rfl rfl hs4 hc4 hl (by omega) hN (by simp) (by simp)).mono ?_
    rintro e w5 ⟨m, rfl, hm, hs5, ho5⟩
    have z5 := ho5.size
    have hb5 := hb4.trans (ho5.below (B := w.heap.size) (by omega) (by omega))
    have hc5 := hc4.only ho5 (by omega) (by omega)
    clear hm
    go_wp2_with fail
    exact bodyPost_ret (v := .tuple #[.int .i64 p, .int .i64 m]) (by simp [results, Try.results47, go_sem]) rfl (D2.mk_ hb5)
end Go.Proofs.Ytamnhbambklmkaa

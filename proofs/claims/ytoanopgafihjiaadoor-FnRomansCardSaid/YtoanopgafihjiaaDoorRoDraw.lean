/- Contracts of the draws of the law of roman numerals. -/
import Derived.Test.YtoanopgafihjiaaDoorSrc
import Derived.Test.YtoanopgafihjiaaDoorRoSpec
import Derived.Deep.RegionLaw
import Derived.Deep.DrawnRows
import Derived.Lib.SliceRun
namespace Go.Proofs.YtoanopgafihjiaaDoor
open Go.RowKit Ro

theorem big_any (A : Option Addr) (N C : Nat) (w : World) :
    Calls Tryd.prog 9 #[.slice A N C] w fun e w' => e = .returned (.bool (decide (4096 < N))) ∧ w = w' := by
  go_enter Tryd.func9, Tryd.ntmps9
  go_wp2
  go_ret
  exact ⟨ret_b (by simp; omega), rfl⟩

/-- A number is drawn; a text is drawn; two numbers are drawn. -/
def DrI (lo hi : Int) (w : World) (e : Ending) (w' : World) : Prop := ∃ n : Int, e = .returned (.int .i64 n) ∧ (lo ≤ n ∧ n ≤ hi) ∧ Below w.heap.size w w'
theorem DrI.mk_ {lo hi n : Int} {w w' : World} (h : lo ≤ n ∧ n ≤ hi) (hb : Below w.heap.size w w') : DrI lo hi w (.returned (.int .i64 n)) w' := ⟨n, rfl, h, hb⟩
def DrS (m : Nat) (w : World) (e : Ending) (w' : World) : Prop := ∃ u : ByteArray, e = .returned (.string u) ∧ u.size ≤ m ∧ Below w.heap.size w w'
theorem DrS.mk_ {m : Nat} {u : ByteArray} {w w' : World} (h : u.size ≤ m) (hb : Below w.heap.size w w') : DrS m w (.returned (.string u)) w' := ⟨u, rfl, h, hb⟩
def DrII (w : World) (e : Ending) (w' : World) : Prop := ∃ n k : Int, e = .returned (.tuple #[.int .i64 n, .int .i64 k]) ∧ (-1 ≤ n ∧ n ≤ 1000000001) ∧ (0 ≤ k ∧ k ≤ 1000000001) ∧ Below w.heap.size w w'
theorem DrII.mk_ {n k : Int} {w w' : World} (h : -1 ≤ n ∧ n ≤ 1000000001) (h' : 0 ≤ k ∧ k ≤ 1000000001) (hb : Below w.heap.size w w') : DrII w (.returned (.tuple #[.int .i64 n, .int .i64 k])) w' := ⟨n, k, rfl, h, h', hb⟩

set_option maxRecDepth 100000 in
set_option maxHeartbeats 1000000 in
theorem DrawPad_any (N C B : Nat) (A : Option Addr) (l : List Int) (w : World) (hc : Rd U w B A N l) (hl : inByte l) (hB : B ≤ w.heap.size) (hN : N ≤ 1048576) :
    Calls Tryd.prog 21 #[.slice A N C] w fun e w' => DrII w e w' := by
  go_enter Tryd.func21, Tryd.ntmps21
  go_wp2_with fail
  refine (l01From_ex N C B A l _ hc hl hB).mono ?_
  rintro e w1 ⟨g, rfl, hg, hs1, hb1⟩
  have hz1 := hb1.size
  have hlt1 := hs1.lt
  go_wp2_with fail
  refine (l01Next_any g N C B A l _ _ hs1 (hc.below hb1 hB) hl (by omega) hN (by omega)).mono ?_
  rintro e w2 ⟨v, rfl, hv0, hv1, _, hs2, ho2⟩
  have hb2 := hb1.trans (ho2.below (B := w.heap.size) (by omega) (by omega))
  have hz2 := ho2.size
  clear hv1
  by_cases hv : v = 0
  · subst hv
    go_wp2_with fail
    refine (pick_lit g N C B A l [-1, 0, 1000000000, 1000000001] _ _ w2 rfl rfl hs2 (hc.below hb2 hB) hl (by omega) hN (by decide) (by decide)).mono ?_
    rintro e w3 ⟨x, rfl, hx, hs3, ho3⟩
    have hz3 := ho3.size
    have hb3 := hb2.trans (ho3.below (B := w.heap.size) (by omega) (by omega))
    have hx' : -1 ≤ x ∧ x ≤ 1000000001 := by simp at hx; omega
    clear hx
    go_wp2_with fail
    refine (pick_lit g N C B A l [0, 1, 1000000000, 1000000001] _ _ w3 rfl rfl hs3 (hc.below hb3 hB) hl (by omega) hN (by decide) (by decide)).mono ?_
    rintro e w4 ⟨y, rfl, hy, hs4, ho4⟩
    have hy' : 0 ≤ y ∧ y ≤ 1000000001 := by simp at hy; omega
    clear hy
    go_wp2_with fail
    go_ret2
    exact DrII.mk_ hx' hy' (hb3.trans (ho4.below (B := w.heap.size) (by omega) (by omega)))
  · have hv' : (v == 0) = false := by simpa using hv
    go_wp2_with fail
    refine (l01Next_any g N C B A l _ _ hs2 (hc.below hb2 hB) hl (by omega) hN (by omega)).mono ?_
    rintro e w3 ⟨x, rfl, hx0, hx1, _, hs3, ho3⟩
    have hx1' := hx1 (by omega)
    have hz3 := ho3.size
    have hb3 := hb2.trans (ho3.below (B := w.heap.size) (by omega) (by omega))
    clear hx1
    go_wp2_with fail
    refine (l01Next_any g N C B A l _ _ hs3 (hc.below hb3 hB) hl (by omega) hN (by omega)).mono ?_
    rintro e w4 ⟨y, rfl, hy0, hy1, _, hs4, ho4⟩
    have hy1' := hy1 (by omega)
    clear hy1
    go_wp2_with fail
    go_ret2
    exact DrII.mk_ (by omega) (by omega) (hb3.trans (ho4.below (B := w.heap.size) (by omega) (by omega)))

set_option maxRecDepth 100000 in
set_option maxHeartbeats 1000000 in
theorem DrawRoman_any (N C B : Nat) (A : Option Addr) (l : List Int) (w : World) (hc : Rd U w B A N l) (hl : inByte l) (hB : B ≤ w.heap.size) (hN : N ≤ 1048576) :
    Calls Tryd.prog 16 #[.slice A N C] w fun e w' => DrI (-1) 4000 w e w' := by
  go_enter Tryd.func16, Tryd.ntmps16
  go_wp2_with fail
  refine (l01From_ex N C B A l _ hc hl hB).mono ?_
  rintro e w1 ⟨g, rfl, hg, hs1, hb1⟩
  have hz1 := hb1.size
  have hlt1 := hs1.lt
  go_wp2_with fail
  refine (l01Next_any g N C B A l _ _ hs1 (hc.below hb1 hB) hl (by omega) hN (by omega)).mono ?_
  rintro e w2 ⟨v, rfl, hv0, hv1, _, hs2, ho2⟩
  have hb2 := hb1.trans (ho2.below (B := w.heap.size) (by omega) (by omega))
  have hz2 := ho2.size
  have hv1' := hv1 (by omega)
  clear hv1
  go_wp2_with fail
  refine (l01Next_any g N C B A l _ _ hs2 (hc.below hb2 hB) hl (by omega) hN (by omega)).mono ?_
  rintro e w3 ⟨x, rfl, hx0, hx1, _, hs3, ho3⟩
  have hx1' := hx1 (by omega)
  have hz3 := ho3.size
  have hb3 := hb2.trans (ho3.below (B := w.heap.size) (by omega) (by omega))
  clear hx1
  go_wp2_with fail
  refine (pick_lit g N C B A l [0, -1, 3999, 4000, 1994, 444, 999] _ _ w3 rfl rfl hs3 (hc.below hb3 hB) hl (by omega) hN (by decide) (by decide)).mono ?_
  rintro e w4 ⟨y, rfl, hy, hs4, ho4⟩
  have hy' : -1 ≤ y ∧ y ≤ 4000 := by simp at hy; omega
  have hz4 := ho4.size
  have hb4 := hb3.trans (ho4.below (B := w.heap.size) (by omega) (by omega))
  clear hy
  go_wp2_with fail
  refine (pick_lit g N C B A l [1 + v, 1 + x, y] _ _ w4 rfl rfl hs4 (hc.below hb4 hB) hl (by omega) hN (by simp) (by simp)).mono ?_
  rintro e w5 ⟨z, rfl, hz, hs5, ho5⟩
  have hz' : -1 ≤ z ∧ z ≤ 4000 := by simp at hz; omega
  clear hz
  go_wp2_with fail
  go_ret
  exact DrI.mk_ hz' (hb4.trans (ho5.below (B := w.heap.size) (by omega) (by omega)))

def signsS : List ByteArray := [⟨#[105]⟩, ⟨#[118]⟩, ⟨#[120]⟩, ⟨#[99]⟩, ⟨#[109]⟩, ⟨#[97]⟩]
theorem signsS_at (k : Nat) (b : ByteArray) (hb : signsS[k]? = some b) (h : k < ([Value.string ⟨#[105]⟩, Value.string ⟨#[118]⟩, Value.string ⟨#[120]⟩, Value.string ⟨#[99]⟩, Value.string ⟨#[109]⟩, Value.string ⟨#[97]⟩] : List Value).length) : ([Value.string ⟨#[105]⟩, Value.string ⟨#[118]⟩, Value.string ⟨#[120]⟩, Value.string ⟨#[99]⟩, Value.string ⟨#[109]⟩, Value.string ⟨#[97]⟩] : List Value)[k] = .string b := by
  have e : (signsS.map Value.string)[k]? = some (.string b) := by rw [List.getElem?_map, hb]; rfl
  have e2 : ([Value.string ⟨#[105]⟩, Value.string ⟨#[118]⟩, Value.string ⟨#[120]⟩, Value.string ⟨#[99]⟩, Value.string ⟨#[109]⟩, Value.string ⟨#[97]⟩] : List Value)[k]? = some (.string b) := e
  rw [List.getElem?_eq_getElem h] at e2
  injection e2
theorem romI_len (n : Int) : (romI n).length ≤ 15 := by
  unfold romI
  split
  · exact roman_len _ (by omega)
  · simp

set_option maxRecDepth 100000 in
set_option maxHeartbeats 4000000 in
theorem DrawReadRoman_any (N C B : Nat) (A : Option Addr) (l : List Int) (w : World) (hc : Rd U w B A N l) (hl : inByte l) (hB : B ≤ w.heap.size) (hN : N ≤ 1048576) :
    Calls Tryd.prog 18 #[.slice A N C] w fun e w' => DrS 100 w e w' := by
  go_enter Tryd.func18, Tryd.ntmps18
  go_wp2_with fail
  refine (l01From_ex N C B A l _ hc hl hB).mono ?_
  rintro e w1 ⟨g, rfl, hg, hs1, hb1⟩
  have hz1 := hb1.size
  have hlt1 := hs1.lt
  go_wp2_with fail
  refine (l01Next_any g N C B A l _ _ hs1 (hc.below hb1 hB) hl (by omega) hN (by omega)).mono ?_
  rintro e w2 ⟨v, rfl, hv0, hv1, _, hs2, ho2⟩
  have hb2 := hb1.trans (ho2.below (B := w.heap.size) (by omega) (by omega))
  have hz2 := ho2.size
  have hv1' := hv1 (by omega)
  clear hv1
  go_wp2_with fail
  refine (specRoman_any _ _).mono ?_
  rintro e _ ⟨rfl, rfl⟩
  have htl := romI_len (1 + v)
  obtain ⟨t, ht⟩ : ∃ t, St (romI (1 + v)) = t := ⟨_, rfl⟩
  have htz : t.size ≤ 15 := by rw [← ht, St_size]; exact htl
  rw [ht]
  clear ht htl
  go_wp2_with fail
  refine (l01Next_any g N C B A l _ _ hs2 (hc.below hb2 hB) hl (by omega) hN (by omega)).mono ?_
  rintro e w3 ⟨x, rfl, hx0, hx1, _, hs3, ho3⟩
  have hz3 := ho3.size
  have hb3 := hb2.trans (ho3.below (B := w.heap.size) (by omega) (by omega))
  clear hx1
  by_cases hx : x = 0
  · subst hx
    go_wp2_with fail
    refine (l01Next_any g N C B A l _ _ hs3 (hc.below hb3 hB) hl (by omega) hN (by omega)).mono ?_
    rintro e w4 ⟨k, rfl, hk0, hk1, _, hs4, ho4⟩
    obtain ⟨k, rfl⟩ := Int.eq_ofNat_of_zero_le hk0
    have hkt : k ≤ t.size := by have := hk1 (by omega); omega
    have hz4 := ho4.size
    have hb4 := hb3.trans (ho4.below (B := w.heap.size) (by omega) (by omega))
    clear hk0 hk1
    obtain ⟨p, hp⟩ : ∃ p, p = t.extract 0 k := ⟨_, rfl⟩
    have hpz : p.size ≤ 15 := by rw [hp, ByteArray.size_extract]; omega
    have hsl : ∀ W, (Instr.slice 9 (.string t) none (some (.int .i64 (k : Int))) none).run Tryd.prog W = .ok (.string p) W := fun W => by
      rw [run_slice_string_to_if W _ _ _ _ Tryd.underlying9, if_pos ⟨by omega, by omega⟩, hp]
      rfl
    obtain ⟨q, hq⟩ : ∃ q, q = t.extract k t.size := ⟨_, rfl⟩
    have hqz : q.size ≤ 15 := by rw [hq, ByteArray.size_extract]; omega
    have hsl2 : ∀ W, (Instr.slice 9 (.string t) (some (.int .i64 (k : Int))) none none).run Tryd.prog W = .ok (.string q) W := fun W => by
      rw [run_slice_string_from_if W _ _ _ _ Tryd.underlying9, if_pos ⟨by omega, by omega⟩, hq]
      rfl
    clear hp hq
    have HD : Hid (∀ (b : ByteArray) (W : World), b.size = 1 → Below w.heap.size w W → DrS 100 w (.returned (.string (p ++ b ++ q))) W) := fun b W hb hbb => DrS.mk_ (by rw [ByteArray.size_append, ByteArray.size_append]; omega) hbb
    have HN : Hid (∀ W, Below w4.heap.size w4 W → Calls Tryd.prog 36 #[.pointer (some ⟨g, 0, none⟩), .int .i64 6] W (NextP W g A N C 6)) := fun W hb =>
      l01Next_any g N C B A l _ W (hs4.below hb hs4.lt) ((hc.below hb4 hB).below hb (by omega)) hl (by omega) hN (by omega)
    have hsum1 : ¬ 9223372036854775807 < p.size + 1 := by omega
    have hsum2 : ¬ 9223372036854775807 < p.size + 1 + q.size := by omega
    have HV : Hid (∀ v : Int, 0 ≤ v → v < 6 → ∃ b : ByteArray, b.size = 1 ∧ signsS[v.toNat]? = some b) := fun v h0 h1 => by
      have h : v = 0 ∨ v = 1 ∨ v = 2 ∨ v = 3 ∨ v = 4 ∨ v = 5 := by omega
      rcases h with rfl | rfl | rfl | rfl | rfl | rfl <;> exact ⟨_, rfl, rfl⟩
    have HA : Hid (∀ (W W3 : World) (v : Int) (b : ByteArray), signsS[v.toNat]? = some b → Only g (g + 1) W W3 → W.heap[w4.heap.size]? = some (.cells (signsS.map Value.string).toArray 9 (0, 0)) → W3.cell? ⟨w4.heap.size, v.toNat, none⟩ = some (.string b)) := fun W W3 v b hb ho hW => by
      have hg2 := hs4.lt
      have hlt : w4.heap.size < W.heap.size := (Array.getElem?_eq_some_iff.1 hW).1
      rw [World.cell?_of_block (ho.block w4.heap.size hlt (.inr (by omega))), cell_of_row W _ v.toNat _ _ (0, 0) hW]
      simp [hb]
    have HB4 := Lib.hid hb4
    go_wp2_with fail
    go_region_law ((go_simp; go_at_call 36; refine (HN.out _ (by repeat (first | exact Below.refl _ _ | apply below_drewN' | apply Below.drew | (refine Below.alloc ?_ (Nat.le_refl _) _)))).mono ?_; rintro e w5 ⟨v, rfl, hv0, hv1, _, hs5, ho5⟩; have hv8 := hv1 (by omega); obtain ⟨b, hbz, hbv⟩ := HV.out v hv0 hv8; have HBV := Lib.hid hbv; clear hbv hv1; have hcB := signsS_at v.toNat b HBV.out; (try (have hcA := HA.out _ w5 v b HBV.out ho5 (by first | exact heap_alloc_new w4 _ | exact heap_alloc_new w4.drew _ | exact heap_alloc_new (w4.drewN 1) _)))))
    all_goals
      go_wp2_with fail
      go_ret
      have ho5' := ho5.below (B := w.heap.size) (by omega) (by simp; omega)
      first
        | exact HD.out b _ hbz (HB4.out.trans (((Below.refl _ _).drew.alloc (by omega) _).trans ho5'))
        | exact HD.out b _ hbz (HB4.out.trans ((((Below.refl _ _).alloc (by omega) _).drew).trans ho5'))
        | exact HD.out b _ hbz (HB4.out.trans ((Below.refl _ _).drew.trans (ho5'.alloc (by have := ho5.size; simp at this; omega) _)))
  · have hv' : (x == 0) = false := by simpa using hx
    go_wp2_with fail
    go_ret
    exact DrS.mk_ (by omega) hb3
end Go.Proofs.YtoanopgafihjiaaDoor

/- Contracts of the draws of lengths and of their texts. -/
import Derived.Test.YtamnhbambklmkaaDoorDrawD
import Derived.Test.YtamnhbambklmkaaDoorL1h
namespace Go.Proofs.YtamnhbambklmkaaDoor
open Go.RowKit

/-- How the damaging of a text ends: with a text that is at most one byte longer. -/
def DmgP (n : Nat) (w : World) (g : Nat) (A : Option Addr) (N C : Nat) (e : Ending) (w' : World) : Prop :=
  ∃ u : ByteArray, e = .returned (.string u) ∧ u.size ≤ n ∧ Src w' g A N C ∧ Only g (g + 1) w w'
theorem DmgP.mk_ {n : Nat} {w w' : World} {g N C : Nat} {A : Option Addr} {u : ByteArray} (hu : u.size ≤ n) (hs : Src w' g A N C) (ho : Only g (g + 1) w w') : DmgP n w g A N C (.returned (.string u)) w' := ⟨u, rfl, hu, hs, ho⟩

def marksS : List ByteArray := [⟨#[48]⟩, ⟨#[49]⟩, ⟨#[32]⟩, ⟨#[45]⟩, ⟨#[46]⟩, ⟨#[44]⟩, ⟨#[10]⟩, ⟨#[120]⟩]
theorem marks_at (k : Nat) (b : ByteArray) (hb : marksS[k]? = some b) (h : k < ([Value.string ⟨#[48]⟩, Value.string ⟨#[49]⟩, Value.string ⟨#[32]⟩, Value.string ⟨#[45]⟩, Value.string ⟨#[46]⟩, Value.string ⟨#[44]⟩, Value.string ⟨#[10]⟩, Value.string ⟨#[120]⟩] : List Value).length) : ([Value.string ⟨#[48]⟩, Value.string ⟨#[49]⟩, Value.string ⟨#[32]⟩, Value.string ⟨#[45]⟩, Value.string ⟨#[46]⟩, Value.string ⟨#[44]⟩, Value.string ⟨#[10]⟩, Value.string ⟨#[120]⟩] : List Value)[k] = .string b := by
  have e : (marksS.map St)[k]? = some (.string b) := by rw [List.getElem?_map, hb]; rfl
  have e2 : ([Value.string ⟨#[48]⟩, Value.string ⟨#[49]⟩, Value.string ⟨#[32]⟩, Value.string ⟨#[45]⟩, Value.string ⟨#[46]⟩, Value.string ⟨#[44]⟩, Value.string ⟨#[10]⟩, Value.string ⟨#[120]⟩] : List Value)[k]? = some (.string b) := e
  rw [List.getElem?_eq_getElem h] at e2
  injection e2

set_option maxHeartbeats 4000000 in
theorem l01Damage_any (g N C B : Nat) (A : Option Addr) (l : List Int) (t : ByteArray) (w : World) (hs : Src w g A N C) (hc : Rd U w B A N l) (hl : inByte l) (hB : B ≤ g) (hN : N ≤ 1048576) (ht : t.size ≤ 1000000) :
    Calls Tryd.prog 20 #[.pointer (some ⟨g, 0, none⟩), .string t] w (DmgP (t.size + 1) w g A N C) := by
  go_enter Tryd.func20, Tryd.ntmps20
  go_wp2_with fail
  refine (l01Next_any g N C B A l _ _ hs hc hl hB hN (by omega)).mono ?_
  rintro e w1 ⟨k, rfl, hk0, hk1, _, hs1, ho1⟩
  obtain ⟨k, rfl⟩ := Int.eq_ofNat_of_zero_le hk0
  have hkt : k ≤ t.size := by have := hk1 (by omega); omega
  have hB1 := hs.lt
  have hc1 := hc.only ho1 (by omega) (by omega)
  clear hk0 hk1
  go_wp2_with fail
  refine (l01Next_any g N C B A l _ _ hs1 hc1 hl hB hN (by omega)).mono ?_
  rintro e w2 ⟨v, rfl, hv0, hv1, _, hs2, ho2⟩
  have hc2 := hc1.only ho2 (by omega) (by have := hs1.lt; omega)
  have hO := ho1.trans ho2
  obtain ⟨p, hp⟩ : ∃ p, p = t.extract 0 k := ⟨_, rfl⟩
  have hpz : p.size ≤ k := by rw [hp, ByteArray.size_extract]; omega
  have hsl : ∀ W, (Instr.slice 9 (.string t) none (some (.int .i64 (k : Int))) none).run Tryd.prog W = .ok (.string p) W := fun W => by
    rw [run_slice_string_to_if W _ _ _ _ Tryd.underlying9, if_pos ⟨by omega, by omega⟩, hp]
    rfl
  clear hp
  by_cases h0 : v = 0
  · subst h0
    have hD := Lib.hid (DmgP.mk_ (n := t.size + 1) (u := p) (by omega) hs2 hO)
    go_wp2_with fail
    go_ret
    exact hD.out
  · by_cases h1 : v = 1
    · subst h1
      obtain ⟨q, hq⟩ : ∃ q, q = t.extract k t.size := ⟨_, rfl⟩
      have hqz : q.size ≤ t.size - k := by rw [hq, ByteArray.size_extract]; omega
      have hsl2 : ∀ W, (Instr.slice 9 (.string t) (some (.int .i64 (k : Int))) none none).run Tryd.prog W = .ok (.string q) W := fun W => by
        rw [run_slice_string_from_if W _ _ _ _ Tryd.underlying9, if_pos ⟨by omega, by omega⟩, hq]
        rfl
      clear hq
      have HD : Hid (∀ (b : ByteArray) (W : World), b.size = 1 → Src W g A N C → Only g (g + 1) w W → DmgP (t.size + 1) w g A N C (.returned (.string (p ++ b ++ q))) W) := fun b W hb hs ho => DmgP.mk_ (by rw [ByteArray.size_append, ByteArray.size_append]; omega) hs ho
      have HN : Hid (∀ W, Below w2.heap.size w2 W → Calls Tryd.prog 15 #[.pointer (some ⟨g, 0, none⟩), .int .i64 8] W (NextP W g A N C 8)) := fun W hb =>
        l01Next_any g N C B A l _ W (hs2.below hb hs2.lt) (hc2.below hb (by have := hs2.lt; omega)) hl hB hN (by omega)
      have hsum1 : ¬ 9223372036854775807 < p.size + 1 := by omega
      have hsum2 : ¬ 9223372036854775807 < p.size + 1 + q.size := by omega
      have HV : Hid (∀ v : Int, 0 ≤ v → v < 8 → ∃ b : ByteArray, b.size = 1 ∧ marksS[v.toNat]? = some b) := fun v h0 h1 => by
        have h : v = 0 ∨ v = 1 ∨ v = 2 ∨ v = 3 ∨ v = 4 ∨ v = 5 ∨ v = 6 ∨ v = 7 := by omega
        rcases h with rfl | rfl | rfl | rfl | rfl | rfl | rfl | rfl <;> exact ⟨_, rfl, rfl⟩
      have HA : Hid (∀ (W W3 : World) (v : Int) (b : ByteArray), marksS[v.toNat]? = some b → Only g (g + 1) W W3 → W.heap[w2.heap.size]? = some (.cells (marksS.map St).toArray 9 (0, 0)) → W3.cell? ⟨w2.heap.size, v.toNat, none⟩ = some (.string b)) := fun W W3 v b hb ho hW => by
        have hg2 := hs2.lt
        have hlt : w2.heap.size < W.heap.size := (Array.getElem?_eq_some_iff.1 hW).1
        rw [World.cell?_of_block (ho.block w2.heap.size hlt (.inr (by omega))), cell_of_row W _ v.toNat _ _ (0, 0) hW]
        simp [hb]
      go_wp2_with fail
      go_region_law ((go_simp; go_at_call 15; refine (HN.out _ (by repeat (first | exact Below.refl _ _ | apply below_drewN' | apply Below.drew | (refine Below.alloc ?_ (Nat.le_refl _) _)))).mono ?_; rintro e w3 ⟨v, rfl, hv0, hv1, _, hs3, ho3⟩; have hv8 := hv1 (by omega); obtain ⟨b, hbz, hbv⟩ := HV.out v hv0 hv8; have HBV := Lib.hid hbv; clear hbv hv1; have hcB := marks_at v.toNat b HBV.out; (try (have hcA := HA.out _ w3 v b HBV.out ho3 (by first | exact heap_alloc_new w2 _ | exact heap_alloc_new w2.drew _ | exact heap_alloc_new (w2.drewN 1) _)))))
      all_goals
        go_wp2_with fail
        go_ret
        first
          | exact HD.out b _ hbz hs3 (hO.trans ((Only.of_below ((Below.refl _ _).drew.alloc (Nat.le_refl _) _) _ _).trans ho3))
          | exact HD.out b _ hbz hs3 (hO.trans ((Only.of_below (((Below.refl _ _).alloc (Nat.le_refl _) _).drew) _ _).trans ho3))
          | exact HD.out b _ hbz (hs3.below ((Below.refl _ _).alloc (Nat.le_refl _) _) hs3.lt) (hO.trans ((Only.refl _ _ _).drew.trans (ho3.trans (Only.of_below ((Below.refl _ _).alloc (Nat.le_refl _) _) _ _))))
    · by_cases h2 : v = 2
      · subst h2
        by_cases hkl : k < t.size
        · obtain ⟨q, hq⟩ : ∃ q, q = t.extract (k + 1) t.size := ⟨_, rfl⟩
          have hqz : q.size = t.size - (k + 1) := by rw [hq, ByteArray.size_extract]; omega
          have hsl2 : ∀ W, (Instr.slice 9 (.string t) (some (.int .i64 ((k : Int) + 1))) none none).run Tryd.prog W = .ok (.string q) W := fun W => by
            rw [run_slice_string_from_if W _ _ _ _ Tryd.underlying9, if_pos ⟨by omega, by omega⟩, hq]
            rfl
          have e1 : IntKind.i64.wrap ((k : Int) + 1) = (k : Int) + 1 := IntWalk.i64_in _ (by omega)
          have hsum : ¬ p.size + q.size > 9223372036854775807 := by omega
          have hD := Lib.hid (fun m => DmgP.mk_ (n := t.size + 1) (u := p ++ q) (by rw [ByteArray.size_append]; omega) (hs2.q (Q.drewN _ m)) (hO.drewN m))
          clear hq
          go_wp2_with fail
          go_region
          all_goals
            go_wp2
            go_ret
            exact hD.out _
        · have hD := Lib.hid (DmgP.mk_ (n := t.size + 1) (u := t) (by omega) hs2 hO)
          have hkl' : t.size ≤ k := by omega
          go_wp2_with fail
          go_ret
          exact hD.out
      · have hD := Lib.hid (DmgP.mk_ (n := t.size + 1) (u := t) (by omega) hs2 hO)
        have t0 : (v == 0) = false := by simpa using h0
        have t1 : (v == 1) = false := by simpa using h1
        have t2 : (v == 2) = false := by simpa using h2
        go_wp2_with fail
        go_ret
        exact hD.out

def DrawL (w : World) (e : Ending) (w' : World) : Prop := ∃ n : Int, e = .returned (.int .i64 n) ∧ (-1 ≤ n ∧ n ≤ 1000000001) ∧ Below w.heap.size w w'
theorem DrawL.mk_ {w w' : World} {n : Int} (h : -1 ≤ n ∧ n ≤ 1000000001) (hb : Below w.heap.size w w') : DrawL w (.returned (.int .i64 n)) w' := ⟨n, rfl, h, hb⟩

set_option maxHeartbeats 2000000 in
theorem DrawLength_any (N C B : Nat) (A : Option Addr) (l : List Int) (w : World) (hc : Rd U w B A N l) (hl : inByte l) (hB : B ≤ w.heap.size) (hN : N ≤ 1048576) :
    Calls Tryd.prog 7 #[.slice A N C] w (DrawL w) := by
  go_enter Tryd.func7, Tryd.ntmps7
  go_wp2_with fail
  refine (l01From_ex N C B A l _ hc hl hB).mono ?_
  rintro e w1 ⟨g, rfl, hg, hs1, hb1⟩
  have hz1 := hb1.size
  have hlt1 := hs1.lt
  go_wp2_with fail
  refine (l01Next_any g N C B A l _ _ hs1 (hc.below hb1 hB) hl (by omega) hN (by omega)).mono ?_
  rintro e w2 ⟨v, rfl, hv0, hv1, _, hs2, ho2⟩
  have hv1' := hv1 (by omega)
  have hb2 := hb1.trans (ho2.below (B := w.heap.size) (by omega) (by omega))
  have hz2 := ho2.size
  clear hv1
  go_wp2_with fail
  refine (l01Next_any g N C B A l _ _ hs2 (hc.below hb2 hB) hl (by omega) hN (by omega)).mono ?_
  rintro e w3 ⟨x, rfl, hx0, hx1, _, hs3, ho3⟩
  have hx1' := hx1 (by omega)
  have hb3 := hb2.trans (ho3.below (B := w.heap.size) (by omega) (by omega))
  have hz3 := ho3.size
  clear hx1
  go_wp2_with fail
  refine (l01Next_any g N C B A l _ _ hs3 (hc.below hb3 hB) hl (by omega) hN (by omega)).mono ?_
  rintro e w4 ⟨y, rfl, hy0, hy1, _, hs4, ho4⟩
  have hy1' := hy1 (by omega)
  have hb4 := hb3.trans (ho4.below (B := w.heap.size) (by omega) (by omega))
  have hz4 := ho4.size
  clear hy1
  go_wp2_with fail
  refine (pick_lit g N C B A l [-1, 1000000000, 1000000001] _ _ w4 rfl rfl hs4 (hc.below hb4 hB) hl (by omega) hN (by decide) (by decide)).mono ?_
  rintro e w5 ⟨z, rfl, hz, hs5, ho5⟩
  have hz5 := ho5.size
  have hb5 := hb4.trans (ho5.below (B := w.heap.size) (by omega) (by omega))
  have hz' : -1 ≤ z ∧ z ≤ 1000000001 := by simp at hz; omega
  clear hz
  go_wp2_with fail
  refine (pick_lit g N C B A l [v, x, y, z] _ _ w5 rfl rfl hs5 (hc.below hb5 hB) hl (by omega) hN (by simp) (by simp)).mono ?_
  rintro e w6 ⟨n, rfl, hn, hs6, ho6⟩
  have hb6 := hb5.trans (ho6.below (B := w.heap.size) (by omega) (by omega))
  have hn' : -1 ≤ n ∧ n ≤ 1000000001 := by simp at hn; omega
  clear hn
  go_wp2_with fail
  go_ret
  exact DrawL.mk_ hn' hb6

theorem lenText_size (n : Int) : (lenText n).size ≤ 40 := by
  unfold lenText
  split
  · have z1 := dec_size 18 (n / 10).toNat (by omega) (by omega)
    have z2 := dec_size 18 (n % 10).toNat (by omega) (by omega)
    rw [ByteArray.size_append, ByteArray.size_append]
    have : (⟨#[46]⟩ : ByteArray).size = 1 := rfl
    omega
  · exact Nat.zero_le _

def DrawS (w : World) (e : Ending) (w' : World) : Prop := ∃ u : ByteArray, e = .returned (.string u) ∧ u.size ≤ 41 ∧ Below w.heap.size w w'
theorem DrawS.mk_ {w w' : World} {u : ByteArray} (h : u.size ≤ 41) (hb : Below w.heap.size w w') : DrawS w (.returned (.string u)) w' := ⟨u, rfl, h, hb⟩

set_option maxHeartbeats 2000000 in
theorem DrawRead_any (N C B : Nat) (A : Option Addr) (l : List Int) (w : World) (hc : Rd U w B A N l) (hl : inByte l) (hB : B ≤ w.heap.size) (hN : N ≤ 1048576) :
    Calls Tryd.prog 10 #[.slice A N C] w (DrawS w) := by
  go_enter Tryd.func10, Tryd.ntmps10
  go_wp2_with fail
  refine (l01From_ex N C B A l _ hc hl hB).mono ?_
  rintro e w1 ⟨g, rfl, hg, hs1, hb1⟩
  have hz1 := hb1.size
  have hlt1 := hs1.lt
  go_wp2_with fail
  refine (DrawLength_any N C B A l _ (hc.below hb1 hB) hl (by omega) hN).mono ?_
  rintro e w2 ⟨n, rfl, hn, hb2⟩
  have hz2 := hb2.size
  have hs2 := hs1.below hb2 hlt1
  have hb2' := hb1.trans (hb2.mono hz1)
  go_wp2_with fail
  refine (specLen_any n _ (by omega)).mono ?_
  rintro e w3 ⟨rfl, hb3⟩
  have hz3 := hb3.size
  have hs3 := hs2.below hb3 hs2.lt
  have hb3' := hb2'.trans (hb3.mono (by omega))
  obtain ⟨t, ht⟩ : ∃ t, t = lenText n := ⟨_, rfl⟩
  have htz : t.size ≤ 40 := by rw [ht]; exact lenText_size n
  rw [← ht]
  clear ht
  go_wp2_with fail
  refine (l01Next_any g N C B A l _ _ hs3 (hc.below hb3' hB) hl (by omega) hN (by omega)).mono ?_
  rintro e w4 ⟨v, rfl, hv0, hv1, _, hs4, ho4⟩
  have hb4 := hb3'.trans (ho4.below (B := w.heap.size) (by omega) (by omega))
  have hz4 := ho4.size
  clear hv1
  by_cases hv : v = 0
  · subst hv
    go_wp2_with fail
    refine (l01Damage_any g N C B A l t _ hs4 (hc.below hb4 hB) hl (by omega) hN (by omega)).mono ?_
    rintro e w5 ⟨u, rfl, hu, hs5, ho5⟩
    have hb5 := hb4.trans (ho5.below (B := w.heap.size) (by omega) (by omega))
    have hu' : u.size ≤ 41 := by omega
    clear hu
    go_wp2_with fail
    go_ret
    exact DrawS.mk_ hu' hb5
  · have t0 : (v == 0) = false := by simpa using hv
    have htz' : t.size ≤ 41 := by omega
    go_wp2_with fail
    go_ret
    exact DrawS.mk_ htz' hb4
end Go.Proofs.YtamnhbambklmkaaDoor

/- Contract of the draw of a plan's text. -/
import Derived.Test.YtbhofhobnbhhhaaDoorBcDw
import Derived.Test.YtbhofhobnbhhhaaDoorDcA
namespace Go.Proofs.YtbhofhobnbhhhaaDoor
open Go.RowKit
set_option linter.unusedVariables false

/-- So long is a text of this depth at most. -/
def szT : Nat → Nat
  | 0 => 1
  | d + 1 => 7 + 2 * szT d
theorem szT_pos (d : Nat) : 1 ≤ szT d := by cases d <;> simp only [szT] <;> omega
theorem szT_le (d : Nat) (h : d ≤ 3) : szT d ≤ 57 := by
  have : d = 0 ∨ d = 1 ∨ d = 2 ∨ d = 3 := by omega
  rcases this with rfl | rfl | rfl | rfl <;> decide
def DtP (d : Nat) (w : World) (g N C B : Nat) (A : Option Addr) (l : List Int) (e' : Ending) (w' : World) : Prop := ∃ s : ByteArray, e' = .returned (.string s) ∧ s.size ≤ szT d ∧ SrcG w' g N C B A l ∧ Only g (g + 1) w w'
theorem DtP.mk_ {d : Nat} {w w' : World} {g N C B : Nat} {A : Option Addr} {l : List Int} {s : ByteArray} (h : s.size ≤ szT d) (hs : SrcG w' g N C B A l) (ho : Only g (g + 1) w w') : DtP d w g N C B A l (.returned (.string s)) w' := ⟨s, rfl, h, hs, ho⟩
abbrev fiveC : Array Value := #[.string ⟨#[46]⟩, .string ⟨#[97]⟩, .string ⟨#[98]⟩, .string ⟨#[99]⟩, .string ⟨#[100]⟩]
theorem fiveS {V : World} {q : Nat} (h : Blk V q fiveC 9) (k : Nat) (hk : k < 5) : ∃ b : ByteArray, b.size = 1 ∧ V.cell? ⟨q, k, none⟩ = some (.string b) := by
  have : k = 0 ∨ k = 1 ∨ k = 2 ∨ k = 3 ∨ k = 4 := by omega
  rcases this with rfl | rfl | rfl | rfl | rfl <;> exact ⟨_, rfl, h.cell _ rfl⟩
set_option maxRecDepth 100000 in
set_option maxHeartbeats 8000000 in
theorem drawDt_any (g N C B n : Nat) (A : Option Addr) (l : List Int) (hl : inByte l) (hN : N ≤ 1048576) (hn : 1 ≤ n ∧ n ≤ 7) : ∀ (d : Nat) (W H : Nat) (w : World), d ≤ 3 → 1 ≤ W ∧ W ≤ 40 → 1 ≤ H ∧ H ≤ 40 → SrcG w g N C B A l →
    Calls Tryd.prog 80 #[.pointer (some ⟨g, 0, none⟩), .int .i64 W, .int .i64 H, .int .i64 n, .int .i64 d] w fun e' w' => DtP d w g N C B A l e' w' := by
  have bL : ∀ W : World, Blk (W.alloc (.cells fiveC 9)) W.heap.size fiveC 9 := fun W => Blk.new _ _ rfl
  have yn : IntKind.i64.wrap ((n : Int) + 1) = (n : Int) + 1 := IntWalk.i64_in _ (by omega)
  intro d
  induction d with
  | zero =>
    intro W H w hd hW hH hs
    go_enter Tryd.func80, Tryd.ntmps80
    rcases Int.lt_trichotomy 5 ((n : Int) + 1) with o | o | o
    · have o2 : ¬ ((n : Int) + 1 < 5) := by omega
      have o3 : ¬ ((n : Int) + 1 ≤ 5) := by omega
      have o4 : (5 : Int) ≤ (n : Int) + 1 := by omega
      go_wp2_with fail
      refine (nextG_ex g N C B A l 5 _ (hs.alloc _) hl hN (by omega) (by omega)).mono ?_
      rintro e wz ⟨v, rfl, hv, hsz, hqz⟩
      obtain ⟨k, rfl⟩ := Int.eq_ofNat_of_zero_le hv.1
      have hk5 : k < 5 := by omega
      obtain ⟨bs, hbs, cbs⟩ := fiveS (Blk.moveG (bL w) hqz (by have := hs.lt; omega)) k hk5
      have hkI : (k : Int) < 5 := by omega
      have HE := Lib.hid (DtP.mk_ (d := 0) (by rw [hbs]; exact szT_pos _) hsz ((((Only.refl g (g + 1) w).then_alloc _).trans hqz)))
      clear hsz hqz hbs
      go_wp2_with fail
      go_ret
      exact HE.out
    · obtain rfl : n = 4 := by omega
      go_wp2_with fail
      refine (nextG_ex g N C B A l 5 _ (hs.alloc _) hl hN (by omega) (by omega)).mono ?_
      rintro e wz ⟨v, rfl, hv, hsz, hqz⟩
      obtain ⟨k, rfl⟩ := Int.eq_ofNat_of_zero_le hv.1
      have hk5 : k < 5 := by omega
      obtain ⟨bs, hbs, cbs⟩ := fiveS (Blk.moveG (bL w) hqz (by have := hs.lt; omega)) k hk5
      have hkI : (k : Int) < 5 := by omega
      have HE := Lib.hid (DtP.mk_ (d := 0) (by rw [hbs]; exact szT_pos _) hsz ((((Only.refl g (g + 1) w).then_alloc _).trans hqz)))
      clear hsz hqz hbs
      go_wp2_with fail
      go_ret
      exact HE.out
    · have o2 : ¬ ((5 : Int) < (n : Int) + 1) := by omega
      have o3 : ¬ ((5 : Int) ≤ (n : Int) + 1) := by omega
      have o4 : (n : Int) + 1 ≤ 5 := by omega
      go_wp2_with fail
      refine (nextG_ex g N C B A l ((n : Int) + 1) _ (hs.alloc _) hl hN (by omega) (by omega)).mono ?_
      rintro e wz ⟨v, rfl, hv, hsz, hqz⟩
      obtain ⟨k, rfl⟩ := Int.eq_ofNat_of_zero_le hv.1
      have hk5 : k < 5 := by omega
      obtain ⟨bs, hbs, cbs⟩ := fiveS (Blk.moveG (bL w) hqz (by have := hs.lt; omega)) k hk5
      have hkI : (k : Int) < 5 := by omega
      have HE := Lib.hid (DtP.mk_ (d := 0) (by rw [hbs]; exact szT_pos _) hsz ((((Only.refl g (g + 1) w).then_alloc _).trans hqz)))
      clear hsz hqz hbs
      go_wp2_with fail
      go_ret
      exact HE.out
  | succ d ih =>
    intro W H w hd hW hH hs
    have IH : Hid (∀ (W H : Nat) (w : World), 1 ≤ W → W ≤ 40 → 1 ≤ H → H ≤ 40 → SrcG w g N C B A l → Calls Tryd.prog 80 #[.pointer (some ⟨g, 0, none⟩), .int .i64 W, .int .i64 H, .int .i64 n, .int .i64 d] w fun e' w' => DtP d w g N C B A l e' w') := Lib.hid fun W H w h1 h2 h3 h4 hs => ih W H w (by omega) ⟨h1, h2⟩ ⟨h3, h4⟩ hs
    clear ih
    have ed : IntKind.i64.wrap ((d : Int) + 1 - 1) = (d : Int) := by rw [show (d : Int) + 1 - 1 = (d : Int) from by omega]; exact IntWalk.i64_in _ (by omega)
    have hd1 : ¬ ((d : Int) + 1 = 0) := by omega
    have hd1B : ((d : Int) + 1 == 0) = false := by simpa using hd1
    have eW : IntKind.i64.wrap ((W : Int) - 1) = (W : Int) - 1 := IntWalk.i64_in _ (by omega)
    have eH : IntKind.i64.wrap ((H : Int) - 1) = (H : Int) - 1 := IntWalk.i64_in _ (by omega)
    go_enter Tryd.func80, Tryd.ntmps80
    go_wp2_with fail
    refine (nextG_ex g N C B A l 5 _ hs hl hN (by decide) (by decide)).mono ?_
    rintro e w1 ⟨u, rfl, hu, hs1, hq1⟩
    by_cases hu0 : u = 0
    · subst hu0
      rcases Int.lt_trichotomy 5 ((n : Int) + 1) with o | o | o
      · have o2 : ¬ ((n : Int) + 1 < 5) := by omega
        have o3 : ¬ ((n : Int) + 1 ≤ 5) := by omega
        have o4 : (5 : Int) ≤ (n : Int) + 1 := by omega
        go_wp2_with fail
        refine (nextG_ex g N C B A l 5 _ (hs1.alloc _) hl hN (by omega) (by omega)).mono ?_
        rintro e wz ⟨v, rfl, hv, hsz, hqz⟩
        obtain ⟨k, rfl⟩ := Int.eq_ofNat_of_zero_le hv.1
        have hk5 : k < 5 := by omega
        obtain ⟨bs, hbs, cbs⟩ := fiveS (Blk.moveG (bL w1) hqz (by have := hs1.lt; omega)) k hk5
        have hkI : (k : Int) < 5 := by omega
        have HE := Lib.hid (DtP.mk_ (d := (d + 1)) (by rw [hbs]; exact szT_pos _) hsz (hq1.trans (((Only.refl g (g + 1) w1).then_alloc _).trans hqz)))
        clear hsz hqz hbs
        go_wp2_with fail
        go_ret
        exact HE.out
      · obtain rfl : n = 4 := by omega
        go_wp2_with fail
        refine (nextG_ex g N C B A l 5 _ (hs1.alloc _) hl hN (by omega) (by omega)).mono ?_
        rintro e wz ⟨v, rfl, hv, hsz, hqz⟩
        obtain ⟨k, rfl⟩ := Int.eq_ofNat_of_zero_le hv.1
        have hk5 : k < 5 := by omega
        obtain ⟨bs, hbs, cbs⟩ := fiveS (Blk.moveG (bL w1) hqz (by have := hs1.lt; omega)) k hk5
        have hkI : (k : Int) < 5 := by omega
        have HE := Lib.hid (DtP.mk_ (d := (d + 1)) (by rw [hbs]; exact szT_pos _) hsz (hq1.trans (((Only.refl g (g + 1) w1).then_alloc _).trans hqz)))
        clear hsz hqz hbs
        go_wp2_with fail
        go_ret
        exact HE.out
      · have o2 : ¬ ((5 : Int) < (n : Int) + 1) := by omega
        have o3 : ¬ ((5 : Int) ≤ (n : Int) + 1) := by omega
        have o4 : (n : Int) + 1 ≤ 5 := by omega
        go_wp2_with fail
        refine (nextG_ex g N C B A l ((n : Int) + 1) _ (hs1.alloc _) hl hN (by omega) (by omega)).mono ?_
        rintro e wz ⟨v, rfl, hv, hsz, hqz⟩
        obtain ⟨k, rfl⟩ := Int.eq_ofNat_of_zero_le hv.1
        have hk5 : k < 5 := by omega
        obtain ⟨bs, hbs, cbs⟩ := fiveS (Blk.moveG (bL w1) hqz (by have := hs1.lt; omega)) k hk5
        have hkI : (k : Int) < 5 := by omega
        have HE := Lib.hid (DtP.mk_ (d := (d + 1)) (by rw [hbs]; exact szT_pos _) hsz (hq1.trans (((Only.refl g (g + 1) w1).then_alloc _).trans hqz)))
        clear hsz hqz hbs
        go_wp2_with fail
        go_ret
        exact HE.out
    have hu0B : (u == 0) = false := by simpa using hu0
    by_cases hW1 : 1 < W
    · have hW1I : (1 : Int) < (W : Int) := by omega
      by_cases hH2 : H < 2
      · have hH2I : (H : Int) < 2 := by omega
        go_wp2_with fail
        refine (nextG_ex g N C B A l ((W : Int) - 1) _ hs1 hl hN (by omega) (by omega)).mono ?_
        rintro e w3 ⟨v, rfl, hv, hs3, hq3⟩
        obtain ⟨x, hx⟩ : ∃ x : Nat, 1 + v = (x : Int) := ⟨(1 + v).toNat, by omega⟩
        have yx : IntKind.i64.wrap (1 + v) = (x : Int) := by rw [hx]; exact IntWalk.i64_in _ (by omega)
        obtain ⟨m, hm⟩ : ∃ m : Nat, m + x = W := ⟨W - x, by omega⟩
        have em : IntKind.i64.wrap ((W : Int) - (x : Int)) = (m : Int) := by rw [show (m : Int) = (W : Int) - (x : Int) from by omega]; exact IntWalk.i64_in _ (by omega)
        have HO3 := Lib.hid (hq1.trans hq3)
        have sD := dec_size 2 x (by omega) (by omega)
        obtain ⟨D, hD⟩ : ∃ D, dec x = D := ⟨_, rfl⟩
        have hdc := fun W' => l01Dec_any 18 x W' (by omega) (by omega) (by omega)
        rw [hD] at hdc sD
        have hxs : 1 ≤ x ∧ x < W := by omega
        clear hD hq3 hx hv
        go_wp2_with fail
        refine (hdc _).mono ?_
        rintro e w4 ⟨rfl, hb4⟩
        have hs4 := hs3.below hb4
        have HO4 := Lib.hid (HO3.out.trans (Only.of_below hb4 _ _))
        clear hb4
        have hc1 := IH.out x H w4 (by omega) (by omega) (by omega) (by omega) hs4
        go_wp2_with fail
        refine hc1.mono ?_
        rintro e w5 ⟨sa, rfl, hsa, hs5, hq5⟩
        have HO5 := Lib.hid (HO4.out.trans hq5)
        have hsa2 : sa.size ≤ 57 := Nat.le_trans hsa (szT_le d (by omega))
        clear hq5 hc1
        have hc2 := IH.out m H w5 (by omega) (by omega) (by omega) (by omega) hs5
        go_wp2_with fail
        refine hc2.mono ?_
        rintro e w6 ⟨sb, rfl, hsb, hs6, hq6⟩
        have hsb2 : sb.size ≤ 57 := Nat.le_trans hsb (szT_le d (by omega))
        have HE := Lib.hid (DtP.mk_ (d := d + 1) (s := (⟨#[124]⟩ : ByteArray) ++ D ++ ⟨#[40]⟩ ++ sa ++ ⟨#[41, 40]⟩ ++ sb ++ ⟨#[41]⟩) (by
          have hz : ((⟨#[124]⟩ : ByteArray) ++ D ++ ⟨#[40]⟩ ++ sa ++ ⟨#[41, 40]⟩ ++ sb ++ ⟨#[41]⟩).size = 1 + D.size + 1 + sa.size + 2 + sb.size + 1 := by simp only [ByteArray.size_append]; rfl
          rw [hz, szT]
          omega) hs6 (HO5.out.trans hq6))
        clear hq6 hc2 hs6
        go_wp2_with fail
        go_ret
        exact HE.out
      have hH2I : ¬ ((H : Int) < 2) := by omega
      go_wp2_with fail
      refine (nextG_ex g N C B A l 2 _ hs1 hl hN (by decide) (by decide)).mono ?_
      rintro e w2 ⟨t, rfl, ht, hs2, hq2⟩
      have hq12 := hq1.trans hq2
      clear hq1 hq2 hs1
      by_cases ht0 : t = 0
      · subst ht0
        go_wp2_with fail
        refine (nextG_ex g N C B A l ((W : Int) - 1) _ hs2 hl hN (by omega) (by omega)).mono ?_
        rintro e w3 ⟨v, rfl, hv, hs3, hq3⟩
        obtain ⟨x, hx⟩ : ∃ x : Nat, 1 + v = (x : Int) := ⟨(1 + v).toNat, by omega⟩
        have yx : IntKind.i64.wrap (1 + v) = (x : Int) := by rw [hx]; exact IntWalk.i64_in _ (by omega)
        obtain ⟨m, hm⟩ : ∃ m : Nat, m + x = W := ⟨W - x, by omega⟩
        have em : IntKind.i64.wrap ((W : Int) - (x : Int)) = (m : Int) := by rw [show (m : Int) = (W : Int) - (x : Int) from by omega]; exact IntWalk.i64_in _ (by omega)
        have HO3 := Lib.hid (hq12.trans hq3)
        have sD := dec_size 2 x (by omega) (by omega)
        obtain ⟨D, hD⟩ : ∃ D, dec x = D := ⟨_, rfl⟩
        have hdc := fun W' => l01Dec_any 18 x W' (by omega) (by omega) (by omega)
        rw [hD] at hdc sD
        have hxs : 1 ≤ x ∧ x < W := by omega
        clear hD hq3 hx hv
        go_wp2_with fail
        refine (hdc _).mono ?_
        rintro e w4 ⟨rfl, hb4⟩
        have hs4 := hs3.below hb4
        have HO4 := Lib.hid (HO3.out.trans (Only.of_below hb4 _ _))
        clear hb4
        have hc1 := IH.out x H w4 (by omega) (by omega) (by omega) (by omega) hs4
        go_wp2_with fail
        refine hc1.mono ?_
        rintro e w5 ⟨sa, rfl, hsa, hs5, hq5⟩
        have HO5 := Lib.hid (HO4.out.trans hq5)
        have hsa2 : sa.size ≤ 57 := Nat.le_trans hsa (szT_le d (by omega))
        clear hq5 hc1
        have hc2 := IH.out m H w5 (by omega) (by omega) (by omega) (by omega) hs5
        go_wp2_with fail
        refine hc2.mono ?_
        rintro e w6 ⟨sb, rfl, hsb, hs6, hq6⟩
        have hsb2 : sb.size ≤ 57 := Nat.le_trans hsb (szT_le d (by omega))
        have HE := Lib.hid (DtP.mk_ (d := d + 1) (s := (⟨#[124]⟩ : ByteArray) ++ D ++ ⟨#[40]⟩ ++ sa ++ ⟨#[41, 40]⟩ ++ sb ++ ⟨#[41]⟩) (by
          have hz : ((⟨#[124]⟩ : ByteArray) ++ D ++ ⟨#[40]⟩ ++ sa ++ ⟨#[41, 40]⟩ ++ sb ++ ⟨#[41]⟩).size = 1 + D.size + 1 + sa.size + 2 + sb.size + 1 := by simp only [ByteArray.size_append]; rfl
          rw [hz, szT]
          omega) hs6 (HO5.out.trans hq6))
        clear hq6 hc2 hs6
        go_wp2_with fail
        go_ret
        exact HE.out
      have ht0B : (t == 0) = false := by simpa using ht0
      have hH1I : (1 : Int) < (H : Int) := by omega
      go_wp2_with fail
      refine (nextG_ex g N C B A l ((H : Int) - 1) _ hs2 hl hN (by omega) (by omega)).mono ?_
      rintro e w3 ⟨v, rfl, hv, hs3, hq3⟩
      obtain ⟨x, hx⟩ : ∃ x : Nat, 1 + v = (x : Int) := ⟨(1 + v).toNat, by omega⟩
      have yx : IntKind.i64.wrap (1 + v) = (x : Int) := by rw [hx]; exact IntWalk.i64_in _ (by omega)
      obtain ⟨m, hm⟩ : ∃ m : Nat, m + x = H := ⟨H - x, by omega⟩
      have em : IntKind.i64.wrap ((H : Int) - (x : Int)) = (m : Int) := by rw [show (m : Int) = (H : Int) - (x : Int) from by omega]; exact IntWalk.i64_in _ (by omega)
      have HO3 := Lib.hid (hq12.trans hq3)
      have sD := dec_size 2 x (by omega) (by omega)
      obtain ⟨D, hD⟩ : ∃ D, dec x = D := ⟨_, rfl⟩
      have hdc := fun W' => l01Dec_any 18 x W' (by omega) (by omega) (by omega)
      rw [hD] at hdc sD
      have hxs : 1 ≤ x ∧ x < H := by omega
      clear hD hq3 hx hv
      go_wp2_with fail
      refine (hdc _).mono ?_
      rintro e w4 ⟨rfl, hb4⟩
      have hs4 := hs3.below hb4
      have HO4 := Lib.hid (HO3.out.trans (Only.of_below hb4 _ _))
      clear hb4
      have hc1 := IH.out W x w4 (by omega) (by omega) (by omega) (by omega) hs4
      go_wp2_with fail
      refine hc1.mono ?_
      rintro e w5 ⟨sa, rfl, hsa, hs5, hq5⟩
      have HO5 := Lib.hid (HO4.out.trans hq5)
      have hsa2 : sa.size ≤ 57 := Nat.le_trans hsa (szT_le d (by omega))
      clear hq5 hc1
      have hc2 := IH.out W m w5 (by omega) (by omega) (by omega) (by omega) hs5
      go_wp2_with fail
      refine hc2.mono ?_
      rintro e w6 ⟨sb, rfl, hsb, hs6, hq6⟩
      have hsb2 : sb.size ≤ 57 := Nat.le_trans hsb (szT_le d (by omega))
      have HE := Lib.hid (DtP.mk_ (d := d + 1) (s := (⟨#[45]⟩ : ByteArray) ++ D ++ ⟨#[40]⟩ ++ sa ++ ⟨#[41, 40]⟩ ++ sb ++ ⟨#[41]⟩) (by
        have hz : ((⟨#[45]⟩ : ByteArray) ++ D ++ ⟨#[40]⟩ ++ sa ++ ⟨#[41, 40]⟩ ++ sb ++ ⟨#[41]⟩).size = 1 + D.size + 1 + sa.size + 2 + sb.size + 1 := by simp only [ByteArray.size_append]; rfl
        rw [hz, szT]
        omega) hs6 (HO5.out.trans hq6))
      clear hq6 hc2 hs6
      go_wp2_with fail
      go_ret
      exact HE.out
    have hW1I : ¬ ((1 : Int) < (W : Int)) := by omega
    by_cases hH1 : 1 < H
    · have hH1I : (1 : Int) < (H : Int) := by omega
      go_wp2_with fail
      refine (nextG_ex g N C B A l ((H : Int) - 1) _ hs1 hl hN (by omega) (by omega)).mono ?_
      rintro e w3 ⟨v, rfl, hv, hs3, hq3⟩
      obtain ⟨x, hx⟩ : ∃ x : Nat, 1 + v = (x : Int) := ⟨(1 + v).toNat, by omega⟩
      have yx : IntKind.i64.wrap (1 + v) = (x : Int) := by rw [hx]; exact IntWalk.i64_in _ (by omega)
      obtain ⟨m, hm⟩ : ∃ m : Nat, m + x = H := ⟨H - x, by omega⟩
      have em : IntKind.i64.wrap ((H : Int) - (x : Int)) = (m : Int) := by rw [show (m : Int) = (H : Int) - (x : Int) from by omega]; exact IntWalk.i64_in _ (by omega)
      have HO3 := Lib.hid (hq1.trans hq3)
      have sD := dec_size 2 x (by omega) (by omega)
      obtain ⟨D, hD⟩ : ∃ D, dec x = D := ⟨_, rfl⟩
      have hdc := fun W' => l01Dec_any 18 x W' (by omega) (by omega) (by omega)
      rw [hD] at hdc sD
      have hxs : 1 ≤ x ∧ x < H := by omega
      clear hD hq3 hx hv
      go_wp2_with fail
      refine (hdc _).mono ?_
      rintro e w4 ⟨rfl, hb4⟩
      have hs4 := hs3.below hb4
      have HO4 := Lib.hid (HO3.out.trans (Only.of_below hb4 _ _))
      clear hb4
      have hc1 := IH.out W x w4 (by omega) (by omega) (by omega) (by omega) hs4
      go_wp2_with fail
      refine hc1.mono ?_
      rintro e w5 ⟨sa, rfl, hsa, hs5, hq5⟩
      have HO5 := Lib.hid (HO4.out.trans hq5)
      have hsa2 : sa.size ≤ 57 := Nat.le_trans hsa (szT_le d (by omega))
      clear hq5 hc1
      have hc2 := IH.out W m w5 (by omega) (by omega) (by omega) (by omega) hs5
      go_wp2_with fail
      refine hc2.mono ?_
      rintro e w6 ⟨sb, rfl, hsb, hs6, hq6⟩
      have hsb2 : sb.size ≤ 57 := Nat.le_trans hsb (szT_le d (by omega))
      have HE := Lib.hid (DtP.mk_ (d := d + 1) (s := (⟨#[45]⟩ : ByteArray) ++ D ++ ⟨#[40]⟩ ++ sa ++ ⟨#[41, 40]⟩ ++ sb ++ ⟨#[41]⟩) (by
        have hz : ((⟨#[45]⟩ : ByteArray) ++ D ++ ⟨#[40]⟩ ++ sa ++ ⟨#[41, 40]⟩ ++ sb ++ ⟨#[41]⟩).size = 1 + D.size + 1 + sa.size + 2 + sb.size + 1 := by simp only [ByteArray.size_append]; rfl
        rw [hz, szT]
        omega) hs6 (HO5.out.trans hq6))
      clear hq6 hc2 hs6
      go_wp2_with fail
      go_ret
      exact HE.out
    have hH1I : ¬ ((1 : Int) < (H : Int)) := by omega
    have HE := Lib.hid (DtP.mk_ (d := d + 1) (s := ⟨#[46]⟩) (szT_pos _) hs1 hq1)
    clear hs1 hq1
    go_wp2_with fail
    go_ret
    exact HE.out
end Go.Proofs.YtbhofhobnbhhhaaDoor

/- Contracts of the model's draws of a sheet and a scheme. -/
import Derived.Test.YtnfnmdeiaihgnaaSrc
import Derived.Test.YtnfnmdeiaihgnaaStr
import Derived.Test.YtnfnmdeiaihgnaaFoIs
import Derived.BigRegion
import Derived.Deep.RegionLaw
namespace Go.Proofs.Ytnfnmdeiaihgnaa
open Go.RowKit

theorem infoUD : (Try.prog.info? 5).map (fun i => (i.zero, i.size, i.bytes)) = some (some (.int .u8 0), 1, 1) := by kernel_rfl
theorem Only.andNew {w w' w'' : World} {lo hi hi' : Nat} (h : Only lo hi w w') (h' : Only w.heap.size hi' w' w'') : Only lo hi w w'' :=
  ⟨h'.os.trans h.os, h'.tape.trans h.tape, h'.output.trans h.output, Nat.le_trans h.size h'.size, fun k hk hne => (h'.block k (by have := h.size; omega) (by omega)).trans (h.block k hk hne)⟩
theorem push_size (L : List Int) : ∀ s : ByteArray, (L.foldl (fun r n => r.push (UInt8.ofNat n.toNat)) s).size = s.size + L.length := by
  induction L with
  | nil => intro s; rfl
  | cons a L ih => intro s; rw [List.foldl_cons, ih, ByteArray.size_push, List.length_cons]; omega
theorem run_row (w : World) (b o m c lo hi : Nat) (L : List Int) (h : Own U w lo hi 5 (.slice (some ⟨b, o, none⟩) m c) L) :
    ∃ t : ByteArray, t.size = m ∧ ∀ k, (convert 22 9 (.slice (some ⟨b, o, none⟩) m c)).run Try.prog (w.drewN k) = .ok (.string t) (w.drewN k) := by
  have hl : L.length = m := h.rd.1
  subst hl
  refine ⟨L.foldl (fun r n => r.push (UInt8.ofNat n.toNat)) ByteArray.empty, ?_, fun k => ?_⟩
  · rw [push_size]
    simp
  · have hc := run_loadCells_list (P := Try.prog) (w.drewN k) ⟨b, o, none⟩ (L.map U) (fun j v hj => by
      have hj' : j < L.length := by
        have := (List.getElem?_eq_some_iff.1 hj).1
        simpa using this
      obtain ⟨b', o', x', hA, _, hx, hc⟩ := h.rd.at_ hj'
      injection hA with hA
      injection hA with h1 h2 _
      subst h1 h2
      rw [List.getElem?_map, hx] at hj
      obtain rfl : U x' = v := Option.some.inj hj
      have : (Addr.add ⟨b, o, none⟩ j) = ⟨b, o + j, none⟩ := by
        unfold Addr.add
        by_cases h0 : j = 0
        · subst h0; rfl
        · rw [if_neg h0]
      rw [this]
      exact hc)
    simp only [List.length_map] at hc
    exact (run_convert_bytes_string (w.drewN k) _ _ _ _ _ c Try.underlying22 Try.underlying5 Try.underlying9).trans (run_bytesToString (w.drewN k) _ _ c L hc)

def DrS (w : World) (g N C : Nat) (A : Option Addr) (e : Ending) (w' : World) : Prop := ∃ x, e = .returned (.int .i64 x) ∧ -1 ≤ x ∧ x ≤ 16 ∧ Src w' g A N C ∧ Only g (g + 1) w w'
set_option maxRecDepth 100000 in
set_option maxHeartbeats 1000000 in
theorem side_draw (g N C B : Nat) (A : Option Addr) (l : List Int) (w : World) (hs : Src w g A N C) (hc : Rd U w B A N l) (hl : inByte l) (hB : B ≤ g) (hN : N ≤ 1048576) :
    Calls Try.prog 103 #[.pointer (some ⟨g, 0, none⟩)] w fun e w' => DrS w g N C A e w' := by
  have hlt := hs.lt
  go_enter Try.func103, Try.ntmps103
  go_wp2_with fail
  refine (l01Next_any g N C B A l _ _ hs hc hl hB hN (by omega)).mono ?_
  rintro e w2 ⟨v, rfl, hv0, hv1, _, hs2, ho2⟩
  have hbr : Below g w w2 := ho2.below (Nat.le_refl _) (by omega)
  have hc2 := hc.below hbr hB
  have HO := Lib.hid ho2
  clear hv1 ho2 hbr hs hc
  by_cases hv : v = 0
  · subst hv
    go_wp2_with fail
    refine (pick_lit g N C B A l [0, 3, -1, 16] _ _ w2 rfl rfl hs2 hc2 hl hB hN (by decide) (by decide)).mono ?_
    rintro e w3 ⟨x, rfl, hx, hs3, ho3⟩
    have HX : Hid (DrS w g N C A (.returned (.int .i64 x)) w3) := Lib.hid ⟨x, rfl, by simp at hx; omega, by simp at hx; omega, hs3, HO.out.trans ho3⟩
    clear hx hs3 ho3
    go_wp2_with fail
    go_ret
    exact HX.out
  · go_wp2_with fail
    refine (pick_lit g N C B A l [1, 2, 2, 4, 4, 8] _ _ w2 rfl rfl hs2 hc2 hl hB hN (by decide) (by decide)).mono ?_
    rintro e w3 ⟨x, rfl, hx, hs3, ho3⟩
    have HX : Hid (DrS w g N C A (.returned (.int .i64 x)) w3) := Lib.hid ⟨x, rfl, by simp at hx; omega, by simp at hx; omega, hs3, HO.out.trans ho3⟩
    clear hx hs3 ho3
    go_wp2_with fail
    go_ret
    exact HX.out

theorem pw_le (n : Int) : Fo.pw n ≤ 3 := by unfold Fo.pw; split <;> (try split) <;> (try split) <;> omega
def DrW (w : World) (g N C : Nat) (A : Option Addr) (e : Ending) (w' : World) : Prop := ∃ (a b : Int) (t : ByteArray), e = .returned (.tuple #[.int .i64 a, .int .i64 b, .string t]) ∧ -1 ≤ a ∧ a ≤ 16 ∧ -1 ≤ b ∧ b ≤ 16 ∧ t.size ≤ 7 ∧ Src w' g A N C ∧ Only g (g + 1) w w'

set_option maxRecDepth 100000 in
set_option maxHeartbeats 4000000 in
theorem draw_any (g N C B : Nat) (A : Option Addr) (l : List Int) (w : World) (hs : Src w g A N C) (hc : Rd U w B A N l) (hl : inByte l) (hB : B ≤ g) (hN : N ≤ 1048576) :
    Calls Try.prog 84 #[.pointer (some ⟨g, 0, none⟩)] w fun e w' => DrW w g N C A e w' := by
  obtain ⟨i0, hi0, hz0, hz1, hz2⟩ := info_parts infoUD
  have hlt := hs.lt
  go_enter Try.func84, Try.ntmps84
  go_wp2_with fail
  refine (side_draw g N C B A l _ hs hc hl hB hN).mono ?_
  rintro e w1 ⟨a, rfl, a1, a2, hs1, ho1⟩
  have hb1 : Below g w w1 := ho1.below (Nat.le_refl _) (by omega)
  have hc1 := hc.below hb1 hB
  go_wp2_with fail
  refine (side_draw g N C B A l _ hs1 hc1 hl hB hN).mono ?_
  rintro e w2 ⟨b, rfl, b1, b2, hs2, ho2⟩
  have hO2 := ho1.trans ho2
  have hz2' := hO2.size
  obtain ⟨p, hp⟩ : ∃ p, p = Fo.pw a := ⟨_, rfl⟩
  obtain ⟨q, hq⟩ : ∃ q, q = Fo.pw b := ⟨_, rfl⟩
  have hp3 : p ≤ 3 := by rw [hp]; exact pw_le a
  have hq3 : q ≤ 3 := by rw [hq]; exact pw_le b
  have pa : ∀ W, Calls Try.prog 104 #[.int .i64 a] W fun e w' => e = .returned (.tuple #[.int .i64 (p : Int), .bool (Fo.side a)]) ∧ W = w' := fun W => by rw [hp]; exact power_any a W
  have pb : ∀ W, Calls Try.prog 104 #[.int .i64 b] W fun e w' => e = .returned (.tuple #[.int .i64 (q : Int), .bool (Fo.side b)]) ∧ W = w' := fun W => by rw [hq]; exact power_any b W
  generalize Fo.side a = sa at pa
  generalize Fo.side b = sb at pb
  clear hp hq hs1 hc1 ho1 ho2 hb1 hs
  go_wp2_with fail
  refine (pa _).mono ?_
  rintro e _ ⟨rfl, rfl⟩
  go_wp2_with fail
  refine (pb _).mono ?_
  rintro e _ ⟨rfl, rfl⟩
  have hl0 := (Own.lit0 U w2 5).mono (lo' := w.heap.size) hz2' (Nat.le_refl _)
  have hs0 : Src (w2.alloc (.cells #[] 5)) g A N C := hs2.below ((Below.refl w2.heap.size w2).alloc (Nat.le_refl _) _) (by omega)
  have ho0 : Only g (g + 1) w (w2.alloc (.cells #[] 5)) := hO2.andNew (hi' := w2.heap.size + 1) (Only.of_below ((Below.refl w2.heap.size w2).alloc (Nat.le_refl _) _) _ _)
  clear pa pb hs2 hO2
  go_wp2_with fail
  go_loopw [7, 9, 11] (fun u v o wr => ∃ (p q m b3 o3 c3 : Nat) (L : List Int), u = .int .i64 (p : Int) ∧ v = .int .i64 (q : Int) ∧ o = .slice (some ⟨b3, o3, none⟩) m c3 ∧ p + q + m ≤ 6 ∧ Own U wr w.heap.size wr.heap.size 5 (.slice (some ⟨b3, o3, none⟩) m c3) L ∧ Src wr g A N C ∧ Only g (g + 1) w wr) (fun u v _ _ => (intOf u).toNat + (intOf v).toNat)
  case atStart => exact ⟨p, q, 0, _, _, _, [], rfl, rfl, rfl, by omega, hl0.mono (Nat.le_refl _) (by simp), hs0, ho0⟩
  case round =>
    clear hl0 hs0 ho0 hp3 hq3
    obtain ⟨p, q, m, b3, o3, c3, L, rfl, rfl, rfl, hpm, ho, hsr, hO⟩ := hrel
    have hzr := hO.size
    have hbr : Below g w wr := hO.below (Nat.le_refl _) (by omega)
    have hcr := hc.below hbr hB
    by_cases hk : 0 < p + q
    · have e0 : IntKind.i64.wrap ((p : Int) + q) = (p : Int) + q := IntWalk.i64_in _ (by omega)
      have hk' : (0 : Int) < (p : Int) + q := by omega
      go_wp2_with fail
      refine (l01Next_any g N C B A l _ _ hsr hcr hl hB hN (by omega)).mono ?_
      rintro e w3 ⟨v3, rfl, hv30, hv31, hv32, hs3, ho3⟩
      have hvb : v3 < (p : Int) + q := hv31 (by omega)
      have hz3 := ho3.size
      have hO3 := hO.trans ho3
      have hc3' := hc.below (hO3.below (Nat.le_refl _) (by omega)) hB
      have hw3 := (ho.only ho3 (.inr (by omega))).mono (Nat.le_refl _) hz3
      clear hv31 hv32 ho3 hsr hcr hbr hO ho
      by_cases hvp : v3 < (p : Int)
      · obtain ⟨p', rfl⟩ : ∃ p', p = p' + 1 := ⟨p - 1, by omega⟩
        have e1 : IntKind.i64.wrap (((p' + 1 : Nat) : Int) - 1) = (p' : Int) := by rw [IntWalk.i64_in _ (by omega)]; omega
        go_wp2_with fail
        refine (l01Next_any g N C B A l _ _ hs3 hc3' hl hB hN (by omega)).mono ?_
        rintro e w4 ⟨v4, rfl, hv40, hv41, _, hs4, ho4⟩
        have hv42 : v4 < 2 := hv41 (by omega)
        have hz4 := ho4.size
        have HO4 := Lib.hid (hO3.trans ho4)
        have hw4 := (hw3.only ho4 (.inr (by omega))).mono (Nat.le_refl _) hz4
        clear hv41 ho4 hs3 hc3' hO3 hw3
        obtain ⟨i, rfl⟩ : ∃ i : Nat, v4 = (i : Int) := ⟨v4.toNat, by omega⟩
        obtain ⟨ch, hch⟩ := str_get ⟨#[76, 82]⟩ i (by show i < 2; omega)
        have hix := index_str ⟨#[76, 82]⟩ i ch hch
        clear hch
        go_wp2_with (at_builtin; refine wp_push (enc := U) _ rfl _ _ 22 rfl 5 i0 _ 1 Try.underlying22 hi0 hz0 hz1 hz2 rfl (some ⟨b3, o3, none⟩) m c3 _ _ _ rfl hw4 (ch.toNat : Int) rfl rfl (by omega) (by omega) (by omega) ?_; intro A5 c5 w5 ho5 hm5)
        obtain ⟨b5, o5, _, rfl, _, _, _⟩ := ho5.rd.at_ (k := 0) (by omega)
        go_roundw
        case rel => exact ⟨p', q, m + 1, _, _, _, _, rfl, rfl, rfl, by omega, ho5, hs4.only hm5 (.inl hlt), HO4.out.andNew hm5⟩
        case measure => simp [intOf] <;> omega
      · obtain ⟨q', rfl⟩ : ∃ q', q = q' + 1 := ⟨q - 1, by omega⟩
        have e1 : IntKind.i64.wrap (((q' + 1 : Nat) : Int) - 1) = (q' : Int) := by rw [IntWalk.i64_in _ (by omega)]; omega
        go_wp2_with fail
        refine (l01Next_any g N C B A l _ _ hs3 hc3' hl hB hN (by omega)).mono ?_
        rintro e w4 ⟨v4, rfl, hv40, hv41, _, hs4, ho4⟩
        have hv42 : v4 < 2 := hv41 (by omega)
        have hz4 := ho4.size
        have HO4 := Lib.hid (hO3.trans ho4)
        have hw4 := (hw3.only ho4 (.inr (by omega))).mono (Nat.le_refl _) hz4
        clear hv41 ho4 hs3 hc3' hO3 hw3
        obtain ⟨i, rfl⟩ : ∃ i : Nat, v4 = (i : Int) := ⟨v4.toNat, by omega⟩
        obtain ⟨ch, hch⟩ := str_get ⟨#[84, 66]⟩ i (by show i < 2; omega)
        have hix := index_str ⟨#[84, 66]⟩ i ch hch
        clear hch
        go_wp2_with (at_builtin; refine wp_push (enc := U) _ rfl _ _ 22 rfl 5 i0 _ 1 Try.underlying22 hi0 hz0 hz1 hz2 rfl (some ⟨b3, o3, none⟩) m c3 _ _ _ rfl hw4 (ch.toNat : Int) rfl rfl (by omega) (by omega) (by omega) ?_; intro A5 c5 w5 ho5 hm5)
        obtain ⟨b5, o5, _, rfl, _, _, _⟩ := ho5.rd.at_ (k := 0) (by omega)
        go_roundw
        case rel => exact ⟨p, q', m + 1, _, _, _, _, rfl, rfl, rfl, by omega, ho5, hs4.only hm5 (.inl hlt), HO4.out.andNew hm5⟩
        case measure => simp [intOf] <;> omega
    · obtain rfl : p = 0 := by omega
      obtain rfl : q = 0 := by omega
      go_wp2_with fail
      refine (l01Next_any g N C B A l _ _ hsr hcr hl hB hN (by omega)).mono ?_
      rintro e w5 ⟨v5, rfl, hv50, hv51, _, hs5, ho5⟩
      obtain ⟨t, ht, hcv⟩ := run_row w5 b3 o3 m c3 _ _ L (ho.only ho5 (.inr (by omega)))
      have hcv1 : (convert 22 9 (.slice (some ⟨b3, o3, none⟩) m c3)).run Try.prog w5.drew = .ok (.string t) w5.drew := hcv 1
      clear hcv
      have HD : Hid (∀ (u : ByteArray) (k : Nat), u.size ≤ 7 → DrW w g N C A (.returned (.tuple #[.int .i64 a, .int .i64 b, .string u])) (w5.drewN k)) := Lib.hid fun u k hu => ⟨a, b, u, rfl, a1, a2, b1, b2, hu, hs5.q (Q.drewN w5 k), (hO.trans ho5).drewN k⟩
      have hm6 : t.size ≤ 6 := by omega
      have hcat : ¬ 9223372036854775807 < t.size + 1 := by omega
      clear ht hs5 ho5 hO ho hsr
      by_cases h0 : v5 = 0
      · subst h0
        go_wp2_with fail
        go_region_law (fail)
        all_goals
          go_wp2_with fail
          go_ret3
          exact HD.out _ 1 (by rw [ByteArray.size_append]; show _ + 1 ≤ 7; omega)
      · by_cases h1 : v5 = 1
        · subst h1
          go_wp2_with fail
          go_ret3
          exact HD.out _ 0 (by decide)
        · go_wp2_with fail
          go_region_law (fail)
          all_goals
            go_wp2_with fail
            go_ret3
            exact HD.out _ 1 (by omega)
end Go.Proofs.Ytnfnmdeiaihgnaa

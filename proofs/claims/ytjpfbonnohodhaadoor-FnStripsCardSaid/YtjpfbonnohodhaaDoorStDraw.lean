/- Contract of the draw of folds: l03Draw, DrawCreasesOf. -/
import Derived.Test.YtjpfbonnohodhaaDoorSrc
import Derived.Test.YtjpfbonnohodhaaDoorShelf
import Derived.Test.YtjpfbonnohodhaaDoorStr
import Derived.Test.YtjpfbonnohodhaaDoorBld2
import Derived.BigRegion
namespace Go.Proofs.YtjpfbonnohodhaaDoor
open Go.RowKit Go.Shelf

theorem Only.andNew {w w' w'' : World} {lo hi hi' : Nat} (h : Only lo hi w w') (h' : Only w.heap.size hi' w' w'') : Only lo hi w w'' :=
  ⟨h'.os.trans h.os, h'.tape.trans h.tape, h'.output.trans h.output, Nat.le_trans h.size h'.size, fun k hk hne => (h'.block k (by have := h.size; omega) (by omega)).trans (h.block k hk hne)⟩
theorem push_size (L : List Int) : ∀ s : ByteArray, (L.foldl (fun r n => r.push (UInt8.ofNat n.toNat)) s).size = s.size + L.length := by
  induction L with
  | nil => intro s; rfl
  | cons a L ih => intro s; rw [List.foldl_cons, ih, ByteArray.size_push, List.length_cons]; omega
theorem run_row (w : World) (b o m c lo hi : Nat) (L : List Int) (h : Own U w lo hi 5 (.slice (some ⟨b, o, none⟩) m c) L) :
    ∃ t : ByteArray, t.size = m ∧ (convert 22 9 (.slice (some ⟨b, o, none⟩) m c)).run Tryd.prog w = .ok (.string t) w := by
  have hl : L.length = m := h.rd.1
  subst hl
  have hc := run_loadCells_list (P := Tryd.prog) w ⟨b, o, none⟩ (L.map U) (fun j v hj => by
    have hj' : j < L.length := by
      have := (List.getElem?_eq_some_iff.1 hj).1
      simpa using this
    obtain ⟨b', o', x', hA, _, hx, hc⟩ := h.rd.at_ hj'
    injection hA with hA
    injection hA with h1 h2 _
    subst h1 h2
    rw [List.getElem?_map, hx] at hj
    obtain rfl : U x' = v := Option.some.inj hj
    have : (Addr.add ⟨b, o, none⟩ j) = ⟨b, o + j, none⟩ := by
      unfold Addr.add
      by_cases h0 : j = 0
      · subst h0; rfl
      · rw [if_neg h0]
    rw [this]
    exact hc)
  simp only [List.length_map] at hc
  refine ⟨_, ?_, (run_convert_bytes_string w _ _ _ _ _ c Tryd.underlying22 Tryd.underlying5 Tryd.underlying9).trans (run_bytesToString w _ _ c L hc)⟩
  rw [push_size]
  simp

def DrF (w : World) (g N C : Nat) (A : Option Addr) (e : Ending) (w' : World) : Prop := ∃ t : ByteArray, e = .returned (.string t) ∧ t.size ≤ 7 ∧ Src w' g A N C ∧ Only g (g + 1) w w'

set_option maxRecDepth 100000 in
set_option maxHeartbeats 2000000 in
theorem l03Draw_any (g N C B : Nat) (A : Option Addr) (l : List Int) (w : World) (hs : Src w g A N C) (hc : Rd U w B A N l) (hl : inByte l) (hB : B ≤ g) (hN : N ≤ 1048576) :
    Calls Tryd.prog 32 #[.pointer (some ⟨g, 0, none⟩)] w fun e w' => DrF w g N C A e w' := by
  obtain ⟨i0, hi0, hz0, hz1, hz2⟩ := info_parts infoU
  have hlt := hs.lt
  have hl0 := Own.lit0 U w 5
  have hs0 : Src (w.alloc (.cells #[] 5)) g A N C := hs.below ((Below.refl w.heap.size w).alloc (Nat.le_refl _) _) hlt
  have hc0 : Rd U (w.alloc (.cells #[] 5)) B A N l := hc.below ((Below.refl w.heap.size w).alloc (Nat.le_refl _) _) (by omega)
  have ho0 : Only g (g + 1) w (w.alloc (.cells #[] 5)) := (Only.refl g (g + 1) w).andNew (hi' := w.heap.size + 1) (Only.of_below ((Below.refl w.heap.size w).alloc (Nat.le_refl _) _) _ _)
  have hzz : (w.alloc (.cells #[] 5)).heap.size = w.heap.size + 1 := by simp
  go_enter Tryd.func32, Tryd.ntmps32
  go_wp2_with fail
  refine (l01Next_any g N C B A l _ _ hs0 hc0 hl hB hN (by omega)).mono ?_
  rintro e w2 ⟨v, rfl, hv0, hv1, _, hs2, ho2⟩
  have hv6 : v < 7 := hv1 (by omega)
  have hO2 := ho0.trans ho2
  have hy2 := ho2.size
  have hl2 := (hl0.only ho2 (.inr (by omega))).mono (Nat.le_refl _) (show w.heap.size + 1 ≤ w2.heap.size by omega)
  clear hv1 hs0 hc0 ho0 hl0
  go_wp2_with fail
  go_loopw [3, 4] (fun o n wr => ∃ (k m : Nat) (b3 o3 c3 : Nat) (L : List Int), o = .slice (some ⟨b3, o3, none⟩) m c3 ∧ n = .int .i64 (k : Int) ∧ k + m ≤ 6 ∧ Own U wr w.heap.size wr.heap.size 5 (.slice (some ⟨b3, o3, none⟩) m c3) L ∧ Src wr g A N C ∧ Only g (g + 1) w wr) (fun _ n _ => (intOf n).toNat)
  case atStart => exact ⟨v.toNat, 0, _, _, _, [], rfl, by congr 1; omega, by omega, hl2, hs2, hO2⟩
  case round =>
    clear hl2 hs2 hO2 ho2
    obtain ⟨k, m, b3, o3, c3, L, rfl, rfl, hkm, ho, hsr, hO⟩ := hrel
    have hzr := hO.size
    have hbr : Below g w wr := hO.below (Nat.le_refl _) (by omega)
    have hcr := hc.below hbr hB
    by_cases hk : 0 < k
    · obtain ⟨q, rfl⟩ : ∃ q, k = q + 1 := ⟨k - 1, by omega⟩
      have e1 : IntKind.i64.wrap (((q + 1 : Nat) : Int) - 1) = (q : Int) := by rw [IntWalk.i64_in _ (by omega)]; omega
      go_wp2_with fail
      refine (l01Next_any g N C B A l _ _ hsr hcr hl hB hN (by omega)).mono ?_
      rintro e w3 ⟨v3, rfl, hv30, hv31, _, hs3, ho3⟩
      have hv32 : v3 < 2 := hv31 (by omega)
      have hz3 := ho3.size
      have HO3 := Lib.hid (hO.trans ho3)
      have hw3 := (ho.only ho3 (.inr (by omega))).mono (Nat.le_refl _) hz3
      clear hv31 ho3 hsr hcr hbr hO ho
      obtain ⟨i, rfl⟩ : ∃ i : Nat, v3 = (i : Int) := ⟨v3.toNat, by omega⟩
      obtain ⟨ch, hch⟩ := str_get ⟨#[76, 82]⟩ i (by show i < 2; omega)
      have hix := index_str ⟨#[76, 82]⟩ i ch hch
      clear hch
      go_wp2_with (at_builtin; refine wp_push (enc := U) _ rfl _ _ 22 rfl 5 i0 _ 1 Tryd.underlying22 hi0 hz0 hz1 hz2 rfl (some ⟨b3, o3, none⟩) m c3 _ _ _ rfl hw3 (ch.toNat : Int) rfl rfl (by omega) (by omega) (by omega) ?_; intro A4 c4 w4 ho4 hm4)
      obtain ⟨b4, o4, _, rfl, _, _, _⟩ := ho4.rd.at_ (k := 0) (by omega)
      go_roundw
      case rel => exact ⟨q, m + 1, _, _, _, _, rfl, rfl, by omega, ho4, hs3.only hm4 (.inl hlt), HO3.out.andNew hm4⟩
      case measure => simp [intOf]
    · obtain rfl : k = 0 := by omega
      go_wp2_with fail
      refine (l01Next_any g N C B A l _ _ hsr hcr hl hB hN (by omega)).mono ?_
      rintro e w5 ⟨v5, rfl, hv50, hv51, _, hs5, ho5⟩
      obtain ⟨t, ht, hcv⟩ := run_row w5 b3 o3 m c3 _ _ L (ho.only ho5 (.inr (by omega)))
      have HD : Hid (∀ u : ByteArray, u.size ≤ 7 → DrF w g N C A (.returned (.string u)) w5) := fun u hu => ⟨u, rfl, hu, hs5, hO.trans ho5⟩
      have hm6 : t.size ≤ 6 := by omega
      clear ht hs5 ho5 hO ho hsr
      go_wp2_with fail
      · go_ret
        exact HD.out _ (by rw [ByteArray.size_append]; show _ + 1 ≤ 7; omega)
      · go_ret
        exact HD.out _ (by decide)
      · go_ret
        exact HD.out _ (by omega)
end Go.Proofs.YtjpfbonnohodhaaDoor

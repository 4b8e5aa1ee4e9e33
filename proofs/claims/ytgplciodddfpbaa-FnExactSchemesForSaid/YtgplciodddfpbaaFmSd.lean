/- slices.DeleteFunc over an own row of texts, by the closure of the program's SchemesFor. -/
import Derived.Test.YtgplciodddfpbaaFmSg
import Derived.Lib.SliceRun
namespace Go.Proofs.Ytgplciodddfpbaa
open Go.RowKit

theorem own_clear {lo hi g n c : Nat} : ∀ (cnt o : Nat) (w : World) (L : List (List UInt8)), Own Tv w lo hi 9 (.slice (some ⟨g, 0, none⟩) n c) L →
    ∃ L', Own Tv (w.setCells g o (List.replicate cnt (Tv []))) lo hi 9 (.slice (some ⟨g, 0, none⟩) n c) L' ∧ Only lo hi w (w.setCells g o (List.replicate cnt (Tv []))) ∧ L'.take o = L.take o := by
  intro cnt
  induction cnt with
  | zero => intro o w L h; exact ⟨L, h, Only.refl _ _ _, rfl⟩
  | succ cnt ih =>
    intro o w L h
    obtain ⟨h1, h2⟩ := h.set_ (k := o) []
    obtain ⟨L', k1, k2, k3⟩ := ih (o + 1) _ _ h1
    refine ⟨L', k1, h2.trans k2, ?_⟩
    have := congrArg (List.take o) k3
    rw [List.take_take, List.take_take, Nat.min_eq_left (by omega)] at this
    rw [this, List.take_set_of_le (Nat.le_refl _)]
theorem own_cut {w : World} {lo hi g n c i : Nat} {L : List (List UInt8)} (h : Own Tv w lo hi 9 (.slice (some ⟨g, 0, none⟩) n c) L) (hi' : i ≤ n) : Own Tv w lo hi 9 (.slice (some ⟨g, 0, none⟩) i c) (L.take i) := by
  have hl : L.length = n := h.rd.1
  rcases h.1.2 with ⟨hn1, _⟩ | ⟨g', cap, cur, hv, hb, hg, hnc, hcm, hcs, htk⟩
  · cases hn1
  · injection hv with hv1 hv2 hv3
    injection hv1 with hv1
    injection hv1 with hv1 _ _
    subst hv1 hv3
    have hti : (L.take i).length = i := by rw [List.length_take, hl]; omega
    refine ⟨⟨by simp, .inr ⟨g, c, cur, by rw [hti], hb, hg, by omega, hcm, hcs, ?_⟩⟩, fun k hk => h.2 k (by simpa [Value.ownBlock] using hk)⟩
    have h2 := congrArg (List.take i) htk
    rw [List.take_take] at h2
    rw [List.map_take, hti]
    simp only [Nat.mul_one] at h2 ⊢
    rw [← h2, Nat.min_eq_left (by omega)]
set_option maxRecDepth 100000 in
set_option maxHeartbeats 4000000 in
theorem deleteFunc_any (p : List UInt8 → Bool) (g gs n c lo hi : Nat) (L : List (List UInt8)) (w : World) (h : Own Tv w lo hi 9 (.slice (some ⟨gs, 0, none⟩) n c) L) (hhi : hi ≤ w.heap.size) (hn : n ≤ 4096)
    (HF : ∀ V x, Only lo hi w V → x ∈ L → Calls Try.prog 73 #[Tv x, .pointer (some ⟨g, 0, none⟩)] V fun e w' => e = .returned (.bool (p x)) ∧ Below V.heap.size V w') :
    Calls Try.prog 74 #[.slice (some ⟨gs, 0, none⟩) n c, .func (.func 73) #[] #[.pointer (some ⟨g, 0, none⟩)]] w fun e w' =>
      ∃ m, e = .returned (.slice (some ⟨gs, 0, none⟩) m c) ∧ m ≤ n ∧ Own Tv w' lo hi 9 (.slice (some ⟨gs, 0, none⟩) m c) (L.filter (fun x => !p x)) ∧ Only lo hi w w' := by
  have HL : Hid (L.length = n) := Lib.hid h.rd.1
  have HFF := Lib.hid HF
  have hnc : n ≤ c := by
    obtain ⟨A', c', hv, hl⟩ := h.form
    injection hv with _ h2 h3
    omega
  have HIX := indexFunc_any p g (some ⟨gs, 0, none⟩) n c hi L w h.rd hhi hn (fun V x hV hx => HF V x (Only.of_below hV lo hi) hx)
  clear HF
  go_enter Try.func74, Try.ntmps74
  go_wp2_with fail
  refine HIX.mono ?_
  rintro e w1 ⟨(⟨k, x, rfl, hk, hx, hp, hq⟩ | ⟨rfl, hq⟩), hb1⟩
  rotate_left
  · have ho1 := h.below hb1 hhi
    have HE : Hid (L.filter (fun x => !p x) = L) := Lib.hid (List.filter_eq_self.2 fun y hy => by rw [hq y hy]; rfl)
    have HB1 := Lib.hid (Only.of_below hb1 lo hi)
    clear hq HIX hb1
    go_wp2_with fail
    go_ret
    exact ⟨n, rfl, Nat.le_refl _, by rw [HE.out]; exact ho1, HB1.out⟩
  · have ho1 := h.below hb1 hhi
    have HS1 : Hid (L.take k = (L.take (k + 1)).filter (fun x => !p x)) := Lib.hid (by
      rw [filter_next (fun x => !p x) L k x hx, List.filter_eq_self.2 (fun y hy => by rw [hq y hy]; rfl)]
      simp [hp])
    have HB1 := Lib.hid (Only.of_below hb1 lo hi)
    have hkk : (k : Int) ≠ -1 := by omega
    have hkk' : ((k : Int) == -1) = false := beq_eq_false_iff_ne.2 hkk
    have e1 : IntKind.i64.wrap ((k : Int) + 1) = (k : Int) + 1 := IntWalk.i64_in _ (by omega)
    clear hq HIX hx hp hb1
    go_wp2_with fail
    go_loopw [5, 6, 7] (fun a b _ wr => ∃ (i j : Nat) (M : List (List UInt8)), i < j ∧ j ≤ n ∧ a = .int .i64 i ∧ b = .int .i64 j ∧ Own Tv wr lo hi 9 (.slice (some ⟨gs, 0, none⟩) n c) M ∧ Hid (M.take i = (L.take j).filter (fun x => !p x) ∧ M.drop j = L.drop j) ∧ Hid (Only lo hi w wr)) (fun _ b _ _ => n - (intOf b).toNat)
    case atStart => exact ⟨k, k + 1, L, by omega, by omega, rfl, by go_num, ho1, Lib.hid ⟨HS1.out, rfl⟩, HB1⟩
    case round =>
      clear ho1
      obtain ⟨i, j, M, hij, hj, rfl, rfl, ho, HM, HO⟩ := hrel
      have hz := HO.out.size
      by_cases hlt : j < n
      · obtain ⟨g1, y, hg1, _, _, _, hy, cy, fy⟩ := ho.at_ hlt
        injection hg1 with hg1
        injection hg1 with hg1 _ _
        subst hg1
        obtain ⟨g2, y2, hg2, _, _, _, _, cy2, fy2⟩ := ho.at_ (show i < n by omega)
        injection hg2 with hg2
        injection hg2 with hg2 _ _
        subst hg2
        have hyL : L[j]? = some y := by
          have h1 := congrArg (fun l => l[0]?) HM.out.2
          simp only [List.getElem?_drop, Nat.add_zero] at h1
          rw [← h1]; exact hy
        have HY := Lib.hid hyL
        have hcl := HFF.out wr y HO.out (List.mem_of_getElem? hyL)
        have HNX := Lib.hid (filter_next (fun x => !p x) L j y hyL)
        obtain ⟨r, hr⟩ : ∃ r, p y = r := ⟨_, rfl⟩
        rw [hr] at hcl
        have HRr := Lib.hid hr
        clear hy hyL hr
        go_wp2_with fail
        refine hcl.mono ?_
        rintro e w2 ⟨rfl, hb2⟩
        have ho2 := ho.below hb2 (by omega)
        have HO2 := Lib.hid (HO.out.trans (Only.of_below hb2 lo hi))
        obtain ⟨g3, y3, hg3, _, _, _, _, cy3, fy3⟩ := ho2.at_ (show i < n by omega)
        injection hg3 with hg3
        injection hg3 with hg3 _ _
        subst hg3
        have HDR : Hid (M.drop (j + 1) = L.drop (j + 1)) := Lib.hid (by
          have := congrArg (List.drop 1) HM.out.2
          simpa [List.drop_drop] using this)
        have hml : Hid (M.length = n) := Lib.hid ho2.rd.1
        clear hcl hb2 cy fy cy2 fy2 ho
        cases r
        · obtain ⟨S1, S2⟩ := ho2.set_ (k := i) y
          have HO3 := Lib.hid (HO2.out.trans S2)
          have HM3 : Hid ((M.set i y).take (i + 1) = (L.take (j + 1)).filter (fun x => !p x) ∧ (M.set i y).drop (j + 1) = L.drop (j + 1)) := Lib.hid (by
            constructor
            · rw [HNX.out, HRr.out, ← HM.out.1, List.take_add_one, List.getElem?_set_self (by rw [hml.out]; omega), List.take_set_of_le (Nat.le_refl _)]
              simp
            · rw [List.drop_set_of_lt (by omega)]; exact HDR.out)
          have HS1' := Lib.hid S1
          have e4 : IntKind.i64.wrap ((i : Int) + 1) = (i : Int) + 1 := IntWalk.i64_in _ (by omega)
          clear S1 S2 ho2
          go_wp2_with fail
          go_roundw
          case rel => exact ⟨i + 1, j + 1, _, by omega, by omega, by go_num, by go_num, HS1'.out, HM3, HO3⟩
          case measure => simp [intOf]; omega
        · have HM3 : Hid (M.take i = (L.take (j + 1)).filter (fun x => !p x) ∧ M.drop (j + 1) = L.drop (j + 1)) := Lib.hid ⟨by rw [HNX.out, HRr.out, HM.out.1]; simp, HDR.out⟩
          go_wp2_with fail
          go_roundw
          case rel => exact ⟨i, j + 1, M, by omega, by omega, rfl, by go_num, ho2, HM3, HO2⟩
          case measure => simp [intOf]; omega
      · obtain rfl : j = n := by omega
        have HEQ : Hid (M.take i = L.filter (fun x => !p x)) := Lib.hid (by rw [HM.out.1, List.take_of_length_le (Nat.le_of_eq HL.out)])
        have zs : ∀ V, (zeroValue 9).run Try.prog V = .ok (Tv []) V := fun V => Try.zeroValue9 V
        have hcl : ∀ q, q < j - i → (wr.cell? ⟨gs, i + q, none⟩).isSome = true ∧ wr.frozen? ⟨gs, i + q, none⟩ = false := fun q hq => by
          obtain ⟨g3, y3, hg3, _, _, _, _, cy3, fy3⟩ := ho.at_ (show i + q < j by omega)
          injection hg3 with hg3
          injection hg3 with hg3 _ _
          subst hg3
          exact ⟨by rw [cy3]; rfl, fy3⟩
        have hclr : ∀ ty, (Builtin.clear_ #[42] ty #[.slice (some ⟨gs, i, none⟩) (j - i) (c - i)]).run Try.prog wr = .ok (.tuple #[]) (wr.setCells gs i (List.replicate (j - i) (Tv []))) := fun ty =>
          Lib.run_clear_slice wr 42 9 ty (Tv []) Try.underlying42 zs rfl rfl gs i (j - i) (c - i) (by omega) (fun q hq => (hcl q hq).1) (fun q hq => (hcl q hq).2)
        obtain ⟨L', k1, k2, k3⟩ := own_clear (j - i) i wr M ho
        have HO9 := Lib.hid (HO.out.trans k2)
        have hcut := own_cut k1 (show i ≤ j by omega)
        rw [k3, HEQ.out] at hcut
        have HCUT := Lib.hid hcut
        have hij' : (i : Int) ≤ (j : Int) := by omega
        have hic : (i : Int) ≤ (c : Int) := by omega
        have hij2 : i ≤ j := by omega
        have hic2 : i ≤ c := by omega
        clear hcl zs k1 k2 k3 hcut ho
        go_wp2_with fail
        go_ret
        exact ⟨i, rfl, by omega, HCUT.out, HO9.out⟩
end Go.Proofs.Ytgplciodddfpbaa

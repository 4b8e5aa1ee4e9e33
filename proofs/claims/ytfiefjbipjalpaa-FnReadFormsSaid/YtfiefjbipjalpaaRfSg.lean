/- The contract of SchemesFor, the program's; both over names of their answers. -/
import Derived.Test.YtfiefjbipjalpaaRfSf
import Derived.Test.YtfiefjbipjalpaaFmRd
import Derived.Lib.SliceRun
namespace Go.Proofs.Ytfiefjbipjalpaa
open Go.RowKit

theorem wrong_any (a b : Int) (A1 A2 A3 : Option Addr) (n1 n2 n3 c1 c2 c3 g B : Nat) (F G H : List Int) (s : ByteArray) (r : Bool) (w : World)
    (hg : FBx w g ⟨a, b, A1, n1, c1, A2, n2, c2, A3, n3, c3⟩) (h : RF w B ⟨a, b, A1, n1, c1, A2, n2, c2, A3, n3, c3⟩ F G H) (hB : B ≤ w.heap.size) (hok : Fm.ok a b F G H) (hsc : Fo.scheme a b s.data.toList = true)
    (hr : Fm.right a F G H s.data.toList = r) :
    Calls Try.prog 67 #[.string s, .pointer (some ⟨g, 0, none⟩)] w fun e w' => e = .returned (.bool (!r)) ∧ Below w.heap.size w w' := by
  have hc := isRight_any a b A1 A2 A3 n1 n2 n3 c1 c2 c3 g B F G H s r w hg h hB hok hsc hr
  clear hr
  cases r
  · go_enter Try.func67, Try.ntmps67
    go_wp2_with fail
    refine hc.mono ?_
    rintro e w1 ⟨rfl, hb⟩
    clear hc
    go_wp2_with fail
    go_ret
    exact ⟨rfl, hb⟩
  · go_enter Try.func67, Try.ntmps67
    go_wp2_with fail
    refine hc.mono ?_
    rintro e w1 ⟨rfl, hb⟩
    clear hc
    go_wp2_with fail
    go_ret
    exact ⟨rfl, hb⟩
set_option maxRecDepth 100000 in
set_option maxHeartbeats 4000000 in
theorem indexFunc_any (p : List UInt8 → Bool) (g : Nat) (A : Option Addr) (n c B : Nat) (L : List (List UInt8)) (w : World) (h : Rd Tv w B A n L) (hB : B ≤ w.heap.size) (hn : n ≤ 4096)
    (HF : ∀ V x, Below w.heap.size w V → x ∈ L → Calls Try.prog 67 #[Tv x, .pointer (some ⟨g, 0, none⟩)] V fun e w' => e = .returned (.bool (p x)) ∧ Below V.heap.size V w') :
    Calls Try.prog 107 #[.slice A n c, .func (.func 67) #[] #[.pointer (some ⟨g, 0, none⟩)]] w fun e w' =>
      ((∃ (k : Nat) (x : List UInt8), e = .returned (.int .i64 (k : Int)) ∧ k < n ∧ L[k]? = some x ∧ p x = true ∧ (∀ y ∈ L.take k, p y = false)) ∨ (e = .returned (.int .i64 (-1)) ∧ ∀ y ∈ L, p y = false)) ∧ Below w.heap.size w w' := by
  have HL : Hid (L.length = n) := Lib.hid h.1
  have HFF := Lib.hid HF
  clear HF
  go_enter Try.func107, Try.ntmps107
  go_wp2_with fail
  go_loopw [5, 8] (fun _ i wr => ∃ k : Nat, k ≤ n ∧ i = .int .i64 k ∧ Hid (∀ y ∈ L.take k, p y = false) ∧ Hid (Below w.heap.size w wr)) (fun _ i _ => n - (intOf i).toNat)
  case atStart => exact ⟨0, Nat.zero_le _, rfl, Lib.hid (by simp), Lib.hid (Below.refl _ _)⟩
  case round =>
    obtain ⟨k, hk, rfl, HN, HB⟩ := hrel
    have hz := HB.out.size
    by_cases hlt : k < n
    · obtain ⟨bb, oo, x, rfl, hbB, hx, hc⟩ := (h.below HB.out hB).at_ hlt
      have HX := Lib.hid hx
      have hcl := HFF.out wr x HB.out (List.mem_of_getElem? hx)
      obtain ⟨r, hr⟩ : ∃ r, p x = r := ⟨_, rfl⟩
      rw [hr] at hcl
      have HRr := Lib.hid hr
      clear hx hr
      go_wp2_with fail
      refine hcl.mono ?_
      rintro e w1 ⟨rfl, hb1⟩
      have HB1 := Lib.hid (HB.out.trans (hb1.mono hz))
      clear hcl hb1
      cases r
      · go_wp2_with fail
        go_roundw
        case rel =>
          refine ⟨k + 1, by omega, by go_num, Lib.hid ?_, HB1⟩
          rw [take_next L k x HX.out]
          intro y hy
          rcases List.mem_append.1 hy with hy | hy
          · exact HN.out y hy
          · rw [List.mem_singleton.1 hy]; exact HRr.out
        case measure => simp [intOf]; omega
      · go_wp2_with fail
        go_ret
        exact ⟨.inl ⟨k, x, rfl, hlt, HX.out, HRr.out, HN.out⟩, HB1.out⟩
    · obtain rfl : k = n := by omega
      have HA : Hid (∀ y ∈ L, p y = false) := Lib.hid (by have := HN.out; rwa [List.take_of_length_le (Nat.le_of_eq HL.out)] at this)
      go_wp2_with fail
      go_ret
      exact ⟨.inr ⟨rfl, HA.out⟩, HB.out⟩
end Go.Proofs.Ytfiefjbipjalpaa

namespace Go.Proofs.Ytfiefjbipjalpaa
open Go.RowKit

theorem own_clear {lo hi g n c : Nat} : ∀ (cnt o : Nat) (w : World) (L : List (List UInt8)), Own Tv w lo hi 9 (.slice (some ⟨g, 0, none⟩) n c) L →
    ∃ L', Own Tv (w.setCells g o (List.replicate cnt (Tv []))) lo hi 9 (.slice (some ⟨g, 0, none⟩) n c) L' ∧ Only lo hi w (w.setCells g o (List.replicate cnt (Tv []))) ∧ L'.take o = L.take o := by
  intro cnt
  induction cnt with
  | zero => intro o w L h; exact ⟨L, h, Only.refl _ _ _, rfl⟩
  | succ cnt ih =>
    intro o w L h
    obtain ⟨h1, h2⟩ := h.set_ (k := o) []
    obtain ⟨L', k1, k2, k3⟩ := ih (o + 1) _ _ h1
    refine ⟨L', k1, h2.trans k2, ?_⟩
    have := congrArg (List.take o) k3
    rw [List.take_take, List.take_take, Nat.min_eq_left (by omega)] at this
    rw [this, List.take_set_of_le (Nat.le_refl _)]
theorem own_cut {w : World} {lo hi g n c i : Nat} {L : List (List UInt8)} (h : Own Tv w lo hi 9 (.slice (some ⟨g, 0, none⟩) n c) L) (hi' : i ≤ n) : Own Tv w lo hi 9 (.slice (some ⟨g, 0, none⟩) i c) (L.take i) := by
  have hl : L.length = n := h.rd.1
  rcases h.1.2 with ⟨hn1, _⟩ | ⟨g', cap, cur, hv, hb, hg, hnc, hcm, hcs, htk⟩
  · cases hn1
  · injection hv with hv1 hv2 hv3
    injection hv1 with hv1
    injection hv1 with hv1 _ _
    subst hv1 hv3
    have hti : (L.take i).length = i := by rw [List.length_take, hl]; omega
    refine ⟨⟨by simp, .inr ⟨g, c, cur, by rw [hti], hb, hg, by omega, hcm, hcs, ?_⟩⟩, fun k hk => h.2 k (by simpa [Value.ownBlock] using hk)⟩
    have h2 := congrArg (List.take i) htk
    rw [List.take_take] at h2
    rw [List.map_take, hti]
    simp only [Nat.mul_one] at h2 ⊢
    rw [← h2, Nat.min_eq_left (by omega)]
set_option maxRecDepth 100000 in
set_option maxHeartbeats 4000000 in
theorem deleteFunc_any (p : List UInt8 → Bool) (g gs n c lo hi : Nat) (L : List (List UInt8)) (w : World) (h : Own Tv w lo hi 9 (.slice (some ⟨gs, 0, none⟩) n c) L) (hhi : hi ≤ w.heap.size) (hn : n ≤ 4096)
    (HF : ∀ V x, Only lo hi w V → x ∈ L → Calls Try.prog 67 #[Tv x, .pointer (some ⟨g, 0, none⟩)] V fun e w' => e = .returned (.bool (p x)) ∧ Below V.heap.size V w') :
    Calls Try.prog 68 #[.slice (some ⟨gs, 0, none⟩) n c, .func (.func 67) #[] #[.pointer (some ⟨g, 0, none⟩)]] w fun e w' =>
      ∃ m, e = .returned (.slice (some ⟨gs, 0, none⟩) m c) ∧ m ≤ n ∧ Own Tv w' lo hi 9 (.slice (some ⟨gs, 0, none⟩) m c) (L.filter (fun x => !p x)) ∧ Only lo hi w w' := by
  have HL : Hid (L.length = n) := Lib.hid h.rd.1
  have HFF := Lib.hid HF
  have hnc : n ≤ c := by
    obtain ⟨A', c', hv, hl⟩ := h.form
    injection hv with _ h2 h3
    omega
  have HIX := indexFunc_any p g (some ⟨gs, 0, none⟩) n c hi L w h.rd hhi hn (fun V x hV hx => HF V x (Only.of_below hV lo hi) hx)
  clear HF
  go_enter Try.func68, Try.ntmps68
  go_wp2_with fail
  refine HIX.mono ?_
  rintro e w1 ⟨(⟨k, x, rfl, hk, hx, hp, hq⟩ | ⟨rfl, hq⟩), hb1⟩
  rotate_left
  · have ho1 := h.below hb1 hhi
    have HE : Hid (L.filter (fun x => !p x) = L) := Lib.hid (List.filter_eq_self.2 fun y hy => by rw [hq y hy]; rfl)
    have HB1 := Lib.hid (Only.of_below hb1 lo hi)
    clear hq HIX hb1
    go_wp2_with fail
    go_ret
    exact ⟨n, rfl, Nat.le_refl _, by rw [HE.out]; exact ho1, HB1.out⟩
  · have ho1 := h.below hb1 hhi
    have HS1 : Hid (L.take k = (L.take (k + 1)).filter (fun x => !p x)) := Lib.hid (by
      rw [filter_next (fun x => !p x) L k x hx, List.filter_eq_self.2 (fun y hy => by rw [hq y hy]; rfl)]
      simp [hp])
    have HB1 := Lib.hid (Only.of_below hb1 lo hi)
    have hkk : (k : Int) ≠ -1 := by omega
    have hkk' : ((k : Int) == -1) = false := beq_eq_false_iff_ne.2 hkk
    have e1 : IntKind.i64.wrap ((k : Int) + 1) = (k : Int) + 1 := IntWalk.i64_in _ (by omega)
    clear hq HIX hx hp hb1
    go_wp2_with fail
    go_loopw [5, 6, 7] (fun a b _ wr => ∃ (i j : Nat) (M : List (List UInt8)), i < j ∧ j ≤ n ∧ a = .int .i64 i ∧ b = .int .i64 j ∧ Own Tv wr lo hi 9 (.slice (some ⟨gs, 0, none⟩) n c) M ∧ Hid (M.take i = (L.take j).filter (fun x => !p x) ∧ M.drop j = L.drop j) ∧ Hid (Only lo hi w wr)) (fun _ b _ _ => n - (intOf b).toNat)
    case atStart => exact ⟨k, k + 1, L, by omega, by omega, rfl, by go_num, ho1, Lib.hid ⟨HS1.out, rfl⟩, HB1⟩
    case round =>
      clear ho1
      obtain ⟨i, j, M, hij, hj, rfl, rfl, ho, HM, HO⟩ := hrel
      have hz := HO.out.size
      by_cases hlt : j < n
      · obtain ⟨g1, y, hg1, _, _, _, hy, cy, fy⟩ := ho.at_ hlt
        injection hg1 with hg1
        injection hg1 with hg1 _ _
        subst hg1
        obtain ⟨g2, y2, hg2, _, _, _, _, cy2, fy2⟩ := ho.at_ (show i < n by omega)
        injection hg2 with hg2
        injection hg2 with hg2 _ _
        subst hg2
        have hyL : L[j]? = some y := by
          have h1 := congrArg (fun l => l[0]?) HM.out.2
          simp only [List.getElem?_drop, Nat.add_zero] at h1
          rw [← h1]; exact hy
        have HY := Lib.hid hyL
        have hcl := HFF.out wr y HO.out (List.mem_of_getElem? hyL)
        have HNX := Lib.hid (filter_next (fun x => !p x) L j y hyL)
        obtain ⟨r, hr⟩ : ∃ r, p y = r := ⟨_, rfl⟩
        rw [hr] at hcl
        have HRr := Lib.hid hr
        clear hy hyL hr
        go_wp2_with fail
        refine hcl.mono ?_
        rintro e w2 ⟨rfl, hb2⟩
        have ho2 := ho.below hb2 (by omega)
        have HO2 := Lib.hid (HO.out.trans (Only.of_below hb2 lo hi))
        obtain ⟨g3, y3, hg3, _, _, _, _, cy3, fy3⟩ := ho2.at_ (show i < n by omega)
        injection hg3 with hg3
        injection hg3 with hg3 _ _
        subst hg3
        have HDR : Hid (M.drop (j + 1) = L.drop (j + 1)) := Lib.hid (by
          have := congrArg (List.drop 1) HM.out.2
          simpa [List.drop_drop] using this)
        have hml : Hid (M.length = n) := Lib.hid ho2.rd.1
        clear hcl hb2 cy fy cy2 fy2 ho
        cases r
        · obtain ⟨S1, S2⟩ := ho2.set_ (k := i) y
          have HO3 := Lib.hid (HO2.out.trans S2)
          have HM3 : Hid ((M.set i y).take (i + 1) = (L.take (j + 1)).filter (fun x => !p x) ∧ (M.set i y).drop (j + 1) = L.drop (j + 1)) := Lib.hid (by
            constructor
            · rw [HNX.out, HRr.out, ← HM.out.1, List.take_add_one, List.getElem?_set_self (by rw [hml.out]; omega), List.take_set_of_le (Nat.le_refl _)]
              simp
            · rw [List.drop_set_of_lt (by omega)]; exact HDR.out)
          have HS1' := Lib.hid S1
          have e4 : IntKind.i64.wrap ((i : Int) + 1) = (i : Int) + 1 := IntWalk.i64_in _ (by omega)
          clear S1 S2 ho2
          go_wp2_with fail
          go_roundw
          case rel => exact ⟨i + 1, j + 1, _, by omega, by omega, by go_num, by go_num, HS1'.out, HM3, HO3⟩
          case measure => simp [intOf]; omega
        · have HM3 : Hid (M.take i = (L.take (j + 1)).filter (fun x => !p x) ∧ M.drop (j + 1) = L.drop (j + 1)) := Lib.hid ⟨by rw [HNX.out, HRr.out, HM.out.1]; simp, HDR.out⟩
          go_wp2_with fail
          go_roundw
          case rel => exact ⟨i, j + 1, M, by omega, by omega, rfl, by go_num, ho2, HM3, HO2⟩
          case measure => simp [intOf]; omega
      · obtain rfl : j = n := by omega
        have HEQ : Hid (M.take i = L.filter (fun x => !p x)) := Lib.hid (by rw [HM.out.1, List.take_of_length_le (Nat.le_of_eq HL.out)])
        have zs : ∀ V, (zeroValue 9).run Try.prog V = .ok (Tv []) V := fun V => Try.zeroValue9 V
        have hcl : ∀ q, q < j - i → (wr.cell? ⟨gs, i + q, none⟩).isSome = true ∧ wr.frozen? ⟨gs, i + q, none⟩ = false := fun q hq => by
          obtain ⟨g3, y3, hg3, _, _, _, _, cy3, fy3⟩ := ho.at_ (show i + q < j by omega)
          injection hg3 with hg3
          injection hg3 with hg3 _ _
          subst hg3
          exact ⟨by rw [cy3]; rfl, fy3⟩
        have hclr : ∀ ty, (Builtin.clear_ #[34] ty #[.slice (some ⟨gs, i, none⟩) (j - i) (c - i)]).run Try.prog wr = .ok (.tuple #[]) (wr.setCells gs i (List.replicate (j - i) (Tv []))) := fun ty =>
          Lib.run_clear_slice wr 34 9 ty (Tv []) Try.underlying34 zs rfl rfl gs i (j - i) (c - i) (by omega) (fun q hq => (hcl q hq).1) (fun q hq => (hcl q hq).2)
        obtain ⟨L', k1, k2, k3⟩ := own_clear (j - i) i wr M ho
        have HO9 := Lib.hid (HO.out.trans k2)
        have hcut := own_cut k1 (show i ≤ j by omega)
        rw [k3, HEQ.out] at hcut
        have HCUT := Lib.hid hcut
        have hij' : (i : Int) ≤ (j : Int) := by omega
        have hic : (i : Int) ≤ (c : Int) := by omega
        have hij2 : i ≤ j := by omega
        have hic2 : i ≤ c := by omega
        clear hcl zs k1 k2 k3 hcut ho
        go_wp2_with fail
        go_ret
        exact ⟨i, rfl, by omega, HCUT.out, HO9.out⟩
end Go.Proofs.Ytfiefjbipjalpaa

namespace Go.Proofs.Ytfiefjbipjalpaa
open Go.RowKit

set_option maxRecDepth 100000 in
set_option maxHeartbeats 4000000 in
theorem deleteFunc0_any (p : List UInt8 → Bool) (g c : Nat) (A : Option Addr) (w : World) :
    Calls Try.prog 68 #[.slice A 0 c, .func (.func 67) #[] #[.pointer (some ⟨g, 0, none⟩)]] w fun e w' => e = .returned (.slice A 0 c) ∧ Below w.heap.size w w' := by
  have HIX := indexFunc_any p g A 0 c 0 [] w ⟨rfl, fun h => absurd h (by omega)⟩ (Nat.zero_le _) (by omega) (fun V x _ hx => by cases hx)
  go_enter Try.func68, Try.ntmps68
  go_wp2_with fail
  refine HIX.mono ?_
  rintro e w1 ⟨(⟨k, x, rfl, hk, hx, hp, hq⟩ | ⟨rfl, hq⟩), hb1⟩
  · omega
  · clear hq HIX
    go_wp2_with fail
    go_ret
    exact ⟨rfl, hb1⟩
set_option maxRecDepth 100000 in
set_option maxHeartbeats 8000000 in
theorem implSf_any (f : Fv) (a b : Int) (ha : f.a = a) (hb : f.b = b) (B : Nat) (F G H : List Int) (w : World) (h : RF w B f F G H) (hB : B ≤ w.heap.size) (hn : f.le 1048576) (hi64 : i64s F) (hi65 : i64s G) :
    Calls Try.prog 22 #[f.v] w fun e w' => SC w (Fm.sfR a b F G H) (Fm.sfC a b F G H) e w' := by
  obtain ⟨a', b', A1, n1, c1, A2, n2, c2, A3, n3, c3⟩ := f
  simp only at ha hb
  subst ha hb
  have HNN := Lib.hid hn
  have HI1 := Lib.hid hi64
  have HI2 := Lib.hid hi65
  clear hn hi64 hi65
  go_enter Try.func22, Try.ntmps22
  go_wp2_with fail
  generalize hW : w.alloc (.cells (Fv.cs ⟨a', b', A1, n1, c1, A2, n2, c2, A3, n3, c3⟩) 26) = W0
  have bF : FBx W0 w.heap.size ⟨a', b', A1, n1, c1, A2, n2, c2, A3, n3, c3⟩ := by rw [← hW]; exact Blk.new _ _ rfl
  have hB0 : Below w.heap.size w W0 := by rw [← hW]; exact below_alloc _ _
  have hz0' : W0.heap.size = w.heap.size + 1 := by rw [← hW]; simp
  have hr0 := h.below hB0 hB
  clear hW
  refine (implIsForm_any ⟨a', b', A1, n1, c1, A2, n2, c2, A3, n3, c3⟩ B F G H W0 hr0 (by omega) HNN.out HI1.out HI2.out).mono ?_
  rintro e w1 ⟨rfl, hb1⟩
  have z1 := hb1.size
  have hB1 := hB0.trans (hb1.mono (by omega))
  have bF1 := bF.below hb1 (by omega)
  have hr1 := hr0.below hb1 (by omega)
  clear bF hB0 hr0 hb1
  simp only
  cases hok : Fm.okB a' b' F G H
  · have HR : Hid (Fm.sfR a' b' F G H = []) := Lib.hid (by unfold Fm.sfR; rw [if_neg (by rw [hok]; simp)])
    have HC : Hid (Fm.sfC a' b' F G H = 1) := Lib.hid (by unfold Fm.sfC; rw [if_neg (by rw [hok]; simp)])
    clear hok
    go_wp2_with fail
    exact bodyPost_ret (v := .tuple #[.slice none 0 0, .int .i64 1]) (by simp [results, Try.results22, go_sem]) rfl (SC.nil_ HR.out HC.out hB1)
  have HOK := Lib.hid (Fm.okB_ok hok)
  have HS : Hid (Fo.sheet a' b' = true) := Lib.hid HOK.out.1
  have HSO : Hid (soC a' b' = 0) := Lib.hid (by unfold soC; rw [if_pos HS.out])
  have HR : Hid (Fm.sfR a' b' F G H = (soR a' b').filter (fun s => Fm.right a' F G H s)) := Lib.hid (by unfold Fm.sfR; rw [if_pos hok])
  have HC : Hid (Fm.sfC a' b' F G H = 0) := Lib.hid (by unfold Fm.sfC; rw [if_pos hok])
  have HRR := Lib.hid hr1
  obtain ⟨q0, q1, q2, q3, q4⟩ := bF1.lcell
  simp only at q0 q1 q2 q3 q4
  clear hok hr1
  go_wp2_with fail
  refine (implSo_any a' b' w1).mono ?_
  rintro e w2 ⟨AL, m, cL, rfl, oL, hm, hb2⟩
  rw [HSO.out]
  have z2 := hb2.size
  have bF2 := bF1.below hb2 (by omega)
  have hr2 := HRR.out.below hb2 (by omega)
  have HB2 := Lib.hid (hB1.trans (hb2.mono (by omega)))
  have hp : (fun x => !(!Fm.right a' F G H x)) = (fun x => Fm.right a' F G H x) := by funext x; simp
  have HF : ∀ V x, Only w1.heap.size w2.heap.size w2 V → x ∈ soR a' b' → Calls Try.prog 67 #[Tv x, .pointer (some ⟨w.heap.size, 0, none⟩)] V fun e w' => e = .returned (.bool (!Fm.right a' F G H x)) ∧ Below V.heap.size V w' := fun V x hV hx => by
    obtain ⟨k, hk⟩ := List.mem_iff_getElem?.1 hx
    have hsc := (so_scheme HSO.out hk).1
    exact wrong_any a' b' A1 A2 A3 n1 n2 n3 c1 c2 c3 w.heap.size B F G H ⟨x.toArray⟩ (Fm.right a' F G H x) V (bF2.only hV (.inl (by omega))) (hr2.only hV (by omega) (by omega)) (by have := hV.size; omega) HOK.out hsc rfl
  by_cases hm0 : m = 0
  · subst hm0
    have hnil : soR a' b' = [] := List.eq_nil_of_length_eq_zero oL.rd.1
    have HD := deleteFunc0_any (fun x => !Fm.right a' F G H x) w.heap.size cL AL w2
    have HRN : Hid (Fm.sfR a' b' F G H = []) := Lib.hid (by rw [HR.out, hnil]; rfl)
    rw [hnil] at oL
    have HOL := Lib.hid oL
    clear q0 q1 q2 q3 q4 bF1 bF2 hb2 HF hp hr2 hnil oL
    go_wp2_with fail
    refine HD.mono ?_
    rintro e w3 ⟨rfl, hb3⟩
    have HB3 := Lib.hid (HB2.out.trans (hb3.mono (by omega)))
    have HO3 := Lib.hid (HOL.out.below hb3 (Nat.le_refl _))
    have z3 := hb3.size
    clear HD hb3
    go_wp2_with fail
    exact bodyPost_ret (v := .tuple #[.slice AL 0 cL, .int .i64 0]) (by simp [results, Try.results22, go_sem]) rfl (SC.mk_ HRN.out HC.out HO3.out (by omega) (by omega) (by omega) HB3.out)
  · obtain ⟨gs, x0, hgs, _, _, _, _, _, _⟩ := oL.at_ (show 0 < m by omega)
    subst hgs
    have HD := deleteFunc_any (fun x => !Fm.right a' F G H x) w.heap.size gs m cL w1.heap.size w2.heap.size (soR a' b') w2 oL (Nat.le_refl _) hm HF
    rw [hp] at HD
    clear q0 q1 q2 q3 q4 bF1 bF2 hb2 HF hp hr2 oL
    go_wp2_with fail
    refine HD.mono ?_
    rintro e w3 ⟨m', rfl, hm', ho3, hO3⟩
    have HB3 := Lib.hid (HB2.out.trans (hO3.below (by omega) (by omega)))
    have HO3 := Lib.hid ho3
    have z3 := hO3.size
    clear HD ho3 hO3
    go_wp2_with fail
    exact bodyPost_ret (v := .tuple #[.slice (some ⟨gs, 0, none⟩) m' cL, .int .i64 0]) (by simp [results, Try.results22, go_sem]) rfl (SC.mk_ HR.out HC.out HO3.out (by omega) (by omega) (by omega) HB3.out)
end Go.Proofs.Ytfiefjbipjalpaa

namespace Go.Proofs.Ytfiefjbipjalpaa
open Go.RowKit
theorem specSf_v (f : Fv) (a b : Int) (ha : f.a = a) (hb : f.b = b) (B : Nat) (F G H : List Int) (C : Int) (R : List (List UInt8)) (hC : Fm.sfC a b F G H = C) (hR : Fm.sfR a b F G H = R) (w : World) (h : RF w B f F G H) (hB : B ≤ w.heap.size) (hn : f.le 1048576) (hi64 : i64s F) (hi65 : i64s G) :
    Calls Try.prog 23 #[f.v] w fun e w' => SC w R C e w' := by
  subst hC hR
  exact specSf_any f a b ha hb B F G H w h hB hn hi64 hi65
theorem implSf_v (f : Fv) (a b : Int) (ha : f.a = a) (hb : f.b = b) (B : Nat) (F G H : List Int) (C : Int) (R : List (List UInt8)) (hC : Fm.sfC a b F G H = C) (hR : Fm.sfR a b F G H = R) (w : World) (h : RF w B f F G H) (hB : B ≤ w.heap.size) (hn : f.le 1048576) (hi64 : i64s F) (hi65 : i64s G) :
    Calls Try.prog 22 #[f.v] w fun e w' => SC w R C e w' := by
  subst hC hR
  exact implSf_any f a b ha hb B F G H w h hB hn hi64 hi65
end Go.Proofs.Ytfiefjbipjalpaa

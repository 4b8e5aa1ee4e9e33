/- Contract of the model's BestPlan. Contract of the model's l12Split. Contract of the model's l12Count. Contracts of the model's PlanCounts, PlanValue and PlanWaste. Contracts of the model's PlanValue and PlanWaste. -/
import Derived.Test.YtbhofhobnbhhhaaDoorBcPn
import Derived.Test.YtbhofhobnbhhhaaDoorBcSm
import Derived.Test.YtbhofhobnbhhhaaDoorReadSpec
import Derived.Deep.RegionHeld3
import Derived.OwnWalk
import Derived.Test.YtbhofhobnbhhhaaDoorBcCm
import Derived.Laws.MakeOwn
namespace Go.Proofs.YtbhofhobnbhhhaaDoor
open Go.RowKit
set_option linter.unusedVariables false

/-- The text of the best plan of a sheet whose sides are whole numbers, or none. -/
def Bc.BpR (w h : Int) (l : List Kd) (s : ByteArray) : Prop := (Bc.code w h l = 0 ∧ Bc.BP l w.toNat h.toNat s.data.toList) ∨ (Bc.code w h l ≠ 0 ∧ s = ⟨#[]⟩)
theorem bytes_extB {a b : ByteArray} (h : a.data.toList = b.data.toList) : a = b := by
  obtain ⟨⟨x⟩⟩ := a
  obtain ⟨⟨y⟩⟩ := b
  simp at h
  rw [h]
theorem Bc.BpR.same {w h : Int} {l : List Kd} {s t : ByteArray} (hs : BpR w h l s) (ht : BpR w h l t) : s = t := by
  rcases hs with ⟨h0, h1⟩ | ⟨h0, h1⟩
  · rcases ht with ⟨_, h2⟩ | ⟨h3, _⟩
    · exact bytes_extB (h1.same h2)
    · exact absurd h0 h3
  · rcases ht with ⟨h3, _⟩ | ⟨_, h2⟩
    · exact absurd h3 h0
    · rw [h1, h2]
/-- A string of such a kind, and a code. -/
def StrC (P : ByteArray → Prop) (C : Int) (w : World) (e : Ending) (w' : World) : Prop := ∃ s : ByteArray, e = .returned (.tuple #[.string s, .int .i64 C]) ∧ P s ∧ Below w.heap.size w w'
theorem StrC.mk_ {P : ByteArray → Prop} {C C' : Int} {w w' : World} {s : ByteArray} (h : P s) (hC : C = C') (hb : Below w.heap.size w w') : StrC P C w (.returned (.tuple #[.string s, .int .i64 C'])) w' := by subst hC; exact ⟨s, rfl, h, hb⟩
theorem tabR_of {w : World} {lo hi W0 H0 c2 : Nat} {A2 : Option Addr} {l : List Kd} {hs : List HB} (ho : Own HB.v w lo hi 37 (.slice A2 (W0 + 1) c2) hs) (hr : TbR w lo hi l H0 (W0 + 1) hs) : TabR w hi A2 W0 H0 l := by
  intro j k hj hk
  obtain ⟨g0, ⟨qa, qn, qc⟩, rfl, _, hg, _, hq, cq, _⟩ := ho.at_ (k := j) (by omega)
  have o1 : Own I w lo hi 2 (.slice qa qn qc) (Bc.tRow l j (H0 + 1)) := hr j _ (by omega) hq
  obtain rfl : qn = H0 + 1 := by have h1 := o1.rd.1; rw [Bc.tRow_len] at h1; exact h1.symm
  obtain ⟨g1, v, rfl, _, hg1, _, hv, cv, _⟩ := o1.at_ (k := k) (by omega)
  rw [Bc.tRow_at (by omega)] at hv
  injection hv with hv
  subst hv
  refine ⟨g0, 0, qc, g1, 0, rfl, hg, hg1, ?_, ?_⟩
  · rw [Nat.zero_add]; exact cq
  · rw [Nat.zero_add]; exact cv
set_option maxRecDepth 100000 in
set_option maxHeartbeats 4000000 in
theorem specBp_any (w0 h0 : Int) (A : Option Addr) (n c B : Nat) (l : List Kd) (C : Int) (w : World) (h : RdS Kd.S w B A n l) (hB : B ≤ w.heap.size) (hn : n ≤ 1048577) (hC : Bc.code w0 h0 l = C) :
    Calls Tryd.prog 14 #[.int .i64 w0, .int .i64 h0, .slice A n c] w fun e w' => StrC (Bc.BpR w0 h0 l) C w e w' := by
  have hco := specKc_any w0 h0 A n c B l C w h hB hn hC
  by_cases hc0 : C = 0
  · subst hc0
    obtain ⟨hok, hos⟩ := Bc.code0 hC
    have hs := Bc.okS_iff.1 hos
    have HC := Lib.hid hC
    obtain ⟨W, rfl⟩ : ∃ W : Nat, w0 = (W : Int) := ⟨w0.toNat, by omega⟩
    obtain ⟨H, rfl⟩ : ∃ H : Nat, h0 = (H : Int) := ⟨h0.toNat, by omega⟩
    have htb := fun W' (hW' : RdS Kd.S W' B A n l) (hz : B ≤ W'.heap.size) => specTb_any W H A n c B l W' hW' hz hok (by omega) (by omega)
    have hs' : (1 ≤ W ∧ W ≤ 40) ∧ (1 ≤ H ∧ H ≤ 40) := by omega
    have HOK := Lib.hid hok
    clear hC hok hos hs
    go_enter Tryd.func14, Tryd.ntmps14
    go_wp2_with fail
    refine hco.mono ?_
    rintro e w1 ⟨rfl, hb1⟩
    have z1 := hb1.size
    clear hco
    go_wp2_with fail
    refine (htb _ (h.below hb1 hB) (by omega)).mono ?_
    rintro e w2 ⟨A2, c2, hs2, rfl, ho, hr, hb2⟩
    have z2 := hb2.size
    have HB := Lib.hid (hb1.trans (hb2.mono z1))
    have htab := tabR_of ho hr
    have hB2 : B ≤ w2.heap.size := by omega
    have hrd := (h.below HB.out hB).more (B' := w2.heap.size) hB2
    have hpn := specPn_any W H A2 c2 A n c w2.heap.size l HOK.out (by omega) (by omega) (W + H) W H w2 (Nat.le_refl _) (by omega) (Nat.le_refl _) (by omega) (Nat.le_refl _) hrd (Nat.le_refl _) htab
    clear ho hr hb2 htb htab hrd
    go_wp2_with fail
    refine hpn.mono ?_
    rintro e w3 ⟨s, rfl, HP, hb3⟩
    have HPP : Hid (Bc.BpR (W : Int) (H : Int) l s) := Lib.hid (.inl ⟨HC.out, HP⟩)
    have HB3 := Lib.hid (HB.out.trans (hb3.mono (Nat.le_trans z1 z2)))
    clear hpn HP hb3
    go_wp2_with fail
    go_ret2
    exact StrC.mk_ HPP.out rfl HB3.out
  · have hc0' : (C == 0) = false := by simpa using hc0
    have HPP : Hid (Bc.BpR w0 h0 l ⟨#[]⟩) := Lib.hid (.inr ⟨by rw [hC]; exact hc0, rfl⟩)
    clear hC
    go_enter Tryd.func14, Tryd.ntmps14
    go_wp2_with fail
    refine hco.mono ?_
    rintro e w1 ⟨rfl, hb1⟩
    go_wp2_with fail
    go_ret2
    exact StrC.mk_ HPP.out rfl hb1
end Go.Proofs.YtbhofhobnbhhhaaDoor
namespace Go.Proofs.YtbhofhobnbhhhaaDoor
open Go.RowKit
set_option linter.unusedVariables false

def SplW (s : ByteArray) (w : World) (e : Ending) (w' : World) : Prop := ∃ (n : Int) (a b : ByteArray) (ok : Bool), e = .returned (.tuple #[.int .i64 n, .string a, .string b, .bool ok]) ∧ Bc.SplR s n a b ok ∧ Below w.heap.size w w'
theorem SplW.mk_ {s : ByteArray} {w w' : World} {n : Int} {a b : ByteArray} {ok : Bool} (h : Bc.SplR s n a b ok) (hb : Below w.heap.size w w') : SplW s w (.returned (.tuple #[.int .i64 n, .string a, .string b, .bool ok])) w' := ⟨n, a, b, ok, rfl, h, hb⟩
theorem Bc.SplR.no {s : ByteArray} {n : Int} {a b : ByteArray} (h : ∀ (c : UInt8) (x : Nat) (a' b' : List UInt8), x < 10000000000 → Bal a' → Bal b' → s.data.toList ≠ cutL c x a' b') : SplR s n a b false := .inr ⟨rfl, h⟩
theorem four_results {fn : Func} {t u v x : Tmp} (h : fn.results = #[.tmp t, .tmp u, .tmp v, .tmp x]) (tmps : Array Value) (P : Program) (w : World) : (results fn tmps).run P w = .ok (.tuple #[tmps.getD t undef, tmps.getD u undef, tmps.getD v undef, tmps.getD x undef]) w := by
  simp [results, h]
theorem bytes_part (s : ByteArray) (i j : Nat) (h : j ≤ s.size) : (s.extract i j).data.toList = (s.data.toList.take j).drop i := by rw [← part_bytes s i j h]
theorem u40 {c : UInt8} (h : c.toNat = 40) : c = 40 := by
  apply UInt8.toNat_inj.1
  rw [h]
  rfl
set_option maxRecDepth 100000 in
set_option maxHeartbeats 8000000 in
theorem specSl_any (s : ByteArray) (w : World) (hs : s.size ≤ 1048576) (h0 : 1 ≤ s.size) (hc0 : s.data.toList[0]? ≠ some 40) :
    Calls Tryd.prog 84 #[.string s] w fun e w' => SplW s w e w' := by
  have HC0 := Lib.hid hc0
  have HLEN := Lib.hid (toList_len s)
  clear hc0
  go_enter Tryd.func84, Tryd.ntmps84
  go_wp2_with fail
  go_loop [6] (fun i => ∃ j : Nat, j ≤ s.size ∧ i = .int .i64 j ∧ Hid (∀ i, i < j → s.data.toList[i]? ≠ some 40)) (fun i => s.size - (intOf i).toNat)
  case atStart => exact ⟨0, Nat.zero_le _, rfl, Lib.hid fun i hi => by omega⟩
  case round =>
    obtain ⟨j, hj, rfl, HF⟩ := hrel
    by_cases hlt : j < s.size
    · have hltI : (j : Int) < s.size := by omega
      obtain ⟨c, hc⟩ := str_get s j hlt
      have hix := index_str s j c hc
      by_cases hc40 : c = 40
      · subst hc40
        have hix2 : ∀ W, (Instr.index 9 (.string s) (.int .i64 (j : Int))).run Tryd.prog W = .ok (.int .u8 40) W := hix
        have h1j : 1 ≤ j := by
          rcases Nat.eq_zero_or_pos j with h | h
          · subst h; exact absurd hc HC0.out
          · exact h
        have HJ := Lib.hid hc
        have hne : ¬ ((j : Int) = (s.size : Int)) := by omega
        have hneB : ((j : Int) == (s.size : Int)) = false := by simpa using hne
        obtain ⟨ds, hds⟩ : ∃ ds, ds = s.extract 1 j := ⟨_, rfl⟩
        have hsl : ∀ W, (Instr.slice 9 (.string s) (some (.int .i64 1)) (some (.int .i64 (j : Int))) none).run Tryd.prog W = .ok (.string ds) W := fun W => by
          rw [run_slice_string_if W _ _ _ _ _ _ Tryd.underlying9, if_pos ⟨by omega, by omega⟩, if_pos ⟨by omega, by omega⟩, hds]
          rfl
        have HDS : Hid (ds.data.toList = (s.data.toList.take j).drop 1) := Lib.hid (by rw [hds, ← part_bytes s 1 j hj])
        have hdg := fun W => l01Digits_any ds W
        obtain ⟨e, he⟩ : ∃ e, Bc.close s.data.toList j = e := ⟨_, rfl⟩
        have hcl := fun W => specCl_any s j e W hs hj he
        have HE := Lib.hid he
        clear hc hix hds he
        go_wp2_with fail
        refine (hdg _).mono ?_
        rintro e1 w1 ⟨x, b, rfl, hD, hb1⟩
        have HD := Lib.hid hD
        have HB1 := Lib.hid hb1
        have HCUT : Hid (∀ (c : UInt8) (x : Nat) (a b : List UInt8), s.data.toList = Bc.cutL c x a b → j = 1 + (Lib.decDigits x).length) := Lib.hid fun c x a b hL => Bc.cut_at hL HJ.out h1j HF.out
        clear hD hb1 hdg HF
        have hcl1 := hcl w1
        go_wp2_with fail
        refine hcl1.mono ?_
        rintro e2 _ ⟨rfl, rfl⟩
        cases b
        · have HN : Hid (∀ (c : UInt8) (x : Nat) (a' b' : List UInt8), x < 10000000000 → Bc.Bal a' → Bc.Bal b' → s.data.toList ≠ Bc.cutL c x a' b') := Lib.hid fun c y a b hy _ _ hL => by
            have h1 := Bc.cut_digits hL (HCUT.out _ _ _ _ hL)
            rw [← HDS.out] at h1
            exact HD.out.hasnt y hy ((dec_eq _ _).2 h1)
          clear HD
          go_wp2_with fail
          ((try simp only [Exit.inBlock, Exit.then]); refine bodyPost_ret (four_results rfl _ _ _) rfl ?_)
          exact SplW.mk_ (Bc.SplR.no HN.out) HB1.out
        obtain ⟨y, rfl, hy10, hdy⟩ := HD.out.has
        have HDY := Lib.hid ((dec_eq _ _).1 hdy)
        have HY10 := Lib.hid hy10
        clear HD hdy
        have HBADX : Hid (∀ (c : UInt8) (x : Nat) (a b : List UInt8), s.data.toList = Bc.cutL c x a b → x = y) := Lib.hid fun c x a b hL => by
          have h1 := Bc.cut_digits hL (HCUT.out _ _ _ _ hL)
          rw [← HDS.out, HDY.out] at h1
          have h2 := congrArg val h1
          rw [val_decDigits, val_decDigits] at h2
          exact h2.symm
        by_cases he0 : e < 0
        · have HN : Hid (∀ (c : UInt8) (x : Nat) (a' b' : List UInt8), x < 10000000000 → Bc.Bal a' → Bc.Bal b' → s.data.toList ≠ Bc.cutL c x a' b') := Lib.hid fun c y a b _ ha _ hL => by
            have h1 := Bc.cut_close hL (HCUT.out _ _ _ _ hL) ha
            rw [HE.out] at h1
            omega
          go_wp2_with fail
          ((try simp only [Exit.inBlock, Exit.then]); refine bodyPost_ret (four_results rfl _ _ _) rfl ?_)
          exact SplW.mk_ (Bc.SplR.no HN.out) HB1.out
        obtain ⟨i, hi, h41⟩ := Bc.close_hit HJ.out HE.out (by omega)
        have hi41 := (List.getElem?_eq_some_iff.1 h41).1
        rw [HLEN.out] at hi41
        have H41 := Lib.hid h41
        have HEI : Hid (∀ (c : UInt8) (x : Nat) (a b : List UInt8), Bc.Bal a → s.data.toList = Bc.cutL c x a b → a.length = i) := Lib.hid fun c x a b ha hL => by
          have h1 := Bc.cut_close hL (HCUT.out _ _ _ _ hL) ha
          rw [HE.out, hi] at h1
          omega
        obtain ⟨E, hE⟩ : ∃ E : Nat, j + 1 + i = E := ⟨_, rfl⟩
        have HEE := Lib.hid hE
        rw [hE] at hi hi41
        clear h41 hE HE hcl1
        subst hi
        have e3 : IntKind.i64.wrap ((E : Int) + 1) = (E : Int) + 1 := IntWalk.i64_in _ (by omega)
        by_cases hEn : s.size ≤ E + 1
        · have HN : Hid (∀ (c : UInt8) (x : Nat) (a' b' : List UInt8), x < 10000000000 → Bc.Bal a' → Bc.Bal b' → s.data.toList ≠ Bc.cutL c x a' b') := Lib.hid fun c y a b _ ha _ hL => by
            have h1 := HEI.out _ _ _ _ ha hL
            have h2 := Bc.cut_len hL (HCUT.out _ _ _ _ hL)
            rw [HLEN.out] at h2
            have := HEE.out
            omega
          have g1 : (s.size : Int) ≤ (E : Int) + 1 := by omega
          go_wp2_with fail
          ((try simp only [Exit.inBlock, Exit.then]); refine bodyPost_ret (four_results rfl _ _ _) rfl ?_)
          exact SplW.mk_ (Bc.SplR.no HN.out) HB1.out
        have g1 : ¬ (s.size : Int) ≤ (E : Int) + 1 := by omega
        obtain ⟨d, hd⟩ := str_get s (E + 1) (by omega)
        have hixd : ∀ W, (Instr.index 9 (.string s) (.int .i64 ((E : Int) + 1))).run Tryd.prog W = .ok (.int .u8 (d.toNat : Int)) W := index_str s (E + 1) d hd
        by_cases hd40 : d = 40
        rotate_left
        · have hcn : ¬ d.toNat = 40 := fun h => hd40 (u40 h)
          have hcnI : ¬ ((d.toNat : Int) = 40) := by omega
          have hcnB : ((d.toNat : Int) == 40) = false := by simpa using hcnI
          have hcnC : ((d.toNat : Int) != 40) = true := by simpa using hcnI
          have HN : Hid (∀ (c : UInt8) (x : Nat) (a' b' : List UInt8), x < 10000000000 → Bc.Bal a' → Bc.Bal b' → s.data.toList ≠ Bc.cutL c x a' b') := Lib.hid fun c y a b _ ha _ hL => by
            have h1 := HEI.out _ _ _ _ ha hL
            have h2 := Bc.cut_open2 hL (HCUT.out _ _ _ _ hL)
            rw [h1, show j + 2 + i = E + 1 from by have := HEE.out; omega, hd] at h2
            injection h2 with h2
            exact hd40 h2
          clear hd
          go_wp2_with fail
          ((try simp only [Exit.inBlock, Exit.then]); refine bodyPost_ret (four_results rfl _ _ _) rfl ?_)
          exact SplW.mk_ (Bc.SplR.no HN.out) HB1.out
        subst hd40
        have hix3 : ∀ W, (Instr.index 9 (.string s) (.int .i64 ((E : Int) + 1))).run Tryd.prog W = .ok (.int .u8 40) W := hixd
        have H40 := Lib.hid hd
        obtain ⟨q, hq⟩ : ∃ q, Bc.close s.data.toList (E + 1) = q := ⟨_, rfl⟩
        have hcl2 : ∀ W, Calls Tryd.prog 100 #[.string s, .int .i64 ((E : Int) + 1)] W fun e w' => e = .returned (.int .i64 q) ∧ W = w' := fun W => specCl_any s (E + 1) q W hs (by omega) hq
        have HQ := Lib.hid hq
        have hcl3 := hcl2 w1
        have es : IntKind.i64.wrap ((s.size : Int) - 1) = (s.size : Int) - 1 := IntWalk.i64_in _ (by omega)
        clear hd hq hixd hcl
        by_cases hql : q = (s.size : Int) - 1
        rotate_left
        · have hqB : (q != (s.size : Int) - 1) = true := by simpa using hql
          have HN : Hid (∀ (c : UInt8) (x : Nat) (a' b' : List UInt8), x < 10000000000 → Bc.Bal a' → Bc.Bal b' → s.data.toList ≠ Bc.cutL c x a' b') := Lib.hid fun c y a b _ ha hb hL => by
            have h1 := HEI.out _ _ _ _ ha hL
            have h2 := Bc.cut_close2 hL (HCUT.out _ _ _ _ hL) hb
            have h3 := Bc.cut_len hL (HCUT.out _ _ _ _ hL)
            rw [HLEN.out] at h3
            rw [h1, show j + 2 + i = E + 1 from by have := HEE.out; omega, HQ.out] at h2
            omega
          go_wp2_with fail
          refine hcl3.mono ?_
          rintro e2 _ ⟨rfl, rfl⟩
          go_wp2_with fail
          ((try simp only [Exit.inBlock, Exit.then]); refine bodyPost_ret (four_results rfl _ _ _) rfl ?_)
          exact SplW.mk_ (Bc.SplR.no HN.out) HB1.out
        obtain ⟨k, hk, h41'⟩ := Bc.close_hit H40.out HQ.out (by omega)
        have HSZ : Hid (s.size = j + 4 + i + k) := Lib.hid (by have := HEE.out; omega)
        have hEk : E + 2 + k + 1 = s.size := by omega
        have HFOUND : Hid (∃ c, s.data.toList = Bc.cutL c y ((s.data.toList.take (j + 1 + i)).drop (j + 1)) ((s.data.toList.take (j + 3 + i + k)).drop (j + 3 + i))) := Lib.hid (by
          have q1 : j + 1 + i + 1 = j + 2 + i := by omega
          have q2 : j + 1 + i + 1 + 1 + k = j + 3 + i + k := by omega
          have g2 := H40.out
          rw [← HEE.out, q1] at g2
          have g3 := h41'
          rw [← HEE.out, q2] at g3
          exact Bc.cut_found h1j HJ.out (by rw [← HDS.out, HDY.out]) H41.out g2 g3 (by rw [HLEN.out]; exact HSZ.out))
        obtain ⟨sa, hsa⟩ : ∃ sa, sa = s.extract (j + 1) E := ⟨_, rfl⟩
        obtain ⟨sb, hsb⟩ : ∃ sb, sb = s.extract (E + 2) (E + 2 + k) := ⟨_, rfl⟩
        have HSA : Hid (sa.data.toList = (s.data.toList.take (j + 1 + i)).drop (j + 1)) := Lib.hid (by rw [hsa, bytes_part s (j + 1) E (by omega), HEE.out])
        have HSB : Hid (sb.data.toList = (s.data.toList.take (j + 3 + i + k)).drop (j + 3 + i)) := Lib.hid (by
          rw [hsb, bytes_part s (E + 2) (E + 2 + k) (by omega)]
          have := HEE.out
          rw [show E + 2 + k = j + 3 + i + k from by omega, show E + 2 = j + 3 + i from by omega])
        have HSP : Hid (Bc.SplR s (y : Int) sa sb true) := Lib.hid (.inl ⟨rfl, by
          obtain ⟨c, hc⟩ := HFOUND.out
          refine ⟨c, y, rfl, HY10.out, by rw [HSA.out, HSB.out]; exact hc, fun c' x' a' b' ha hb hL => ?_⟩
          have hx := HBADX.out _ _ _ _ hL
          have hla := HEI.out _ _ _ _ ha hL
          subst hx
          have hlb := Bc.cut_len hL (HCUT.out _ _ _ _ hL)
          rw [HLEN.out] at hlb
          have hE := HEE.out
          have e1 := Bc.cut_drop hL (HCUT.out _ _ _ _ hL)
          have e2 := Bc.cut_drop hc (HCUT.out _ _ _ _ hc)
          rw [e1] at e2
          injection e2 with _ e2
          have hl1 : ((s.data.toList.take (j + 1 + i)).drop (j + 1)).length = i := by rw [List.length_drop, List.length_take, HLEN.out]; omega
          obtain ⟨e3, e4⟩ := List.append_inj e2 (by rw [hla, hl1])
          injection e4 with _ e4
          injection e4 with _ e4
          have hl2 : ((s.data.toList.take (j + 3 + i + k)).drop (j + 3 + i)).length = k := by rw [List.length_drop, List.length_take, HLEN.out]; omega
          obtain ⟨e5, _⟩ := List.append_inj e4 (by rw [hl2]; omega)
          exact ⟨rfl, by rw [e3, HSA.out], by rw [e5, HSB.out]⟩⟩)
        have ej : IntKind.i64.wrap ((j : Int) + 1) = (j : Int) + 1 := IntWalk.i64_in _ (by omega)
        have eE : IntKind.i64.wrap ((E : Int) + 2) = (E : Int) + 2 := IntWalk.i64_in _ (by omega)
        have hjE : j + 1 ≤ E := by have := HEE.out; omega
        have hsl1 : ∀ W, (Instr.slice 9 (.string s) (some (.int .i64 ((j : Int) + 1))) (some (.int .i64 (E : Int))) none).run Tryd.prog W = .ok (.string sa) W := fun W => by
          rw [run_slice_string_if W _ _ _ _ _ _ Tryd.underlying9, if_pos ⟨by omega, by omega⟩, if_pos ⟨by omega, by omega⟩, hsa]
          rfl
        have hsl2 : ∀ W, (Instr.slice 9 (.string s) (some (.int .i64 ((E : Int) + 2))) (some (.int .i64 ((s.size : Int) - 1))) none).run Tryd.prog W = .ok (.string sb) W := fun W => by
          rw [run_slice_string_if W _ _ _ _ _ _ Tryd.underlying9, if_pos ⟨by omega, by omega⟩, if_pos ⟨by omega, by omega⟩, hsb]
          have q1 : ((E : Int) + 2).toNat = E + 2 := by omega
          have q2 : ((s.size : Int) - 1).toNat = E + 2 + k := by omega
          rw [q1, q2]
        clear h41' hsa hsb hk HFOUND
        subst hql
        go_wp2_with fail
        refine hcl3.mono ?_
        rintro e2 _ ⟨rfl, rfl⟩
        go_wp2_with fail
        go_quiet (fail)
        all_goals
          go_wp2_with fail
          ((try simp only [Exit.inBlock, Exit.then]); refine bodyPost_ret (four_results rfl _ _ _) rfl ?_)
          exact SplW.mk_ HSP.out (below_drewN' HB1.out _)
      · have hcn : ¬ c.toNat = 40 := fun h => hc40 (u40 h)
        have hcnI : ¬ ((c.toNat : Int) = 40) := by omega
        have HF2 : Hid (∀ i, i < j + 1 → s.data.toList[i]? ≠ some 40) := Lib.hid fun i hi he => by
          rcases Nat.lt_or_ge i j with h | h
          · exact HF.out i h he
          · obtain rfl : i = j := by omega
            rw [hc] at he
            injection he with he
            exact hc40 he
        clear hc
        go_wp2_with fail
        go_round
        case rel => exact ⟨j + 1, by omega, by go_num, HF2⟩
        case measure => simp [intOf]; omega
    · obtain rfl : j = s.size := by omega
      have HN : Hid (∀ (c : UInt8) (x : Nat) (a' b' : List UInt8), x < 10000000000 → Bc.Bal a' → Bc.Bal b' → s.data.toList ≠ Bc.cutL c x a' b') := Lib.hid fun c x a b _ _ _ hL => by
        have hat : s.data.toList[1 + (Lib.decDigits x).length]? = some 40 := by
          have h := Bc.cut_drop hL rfl
          have e := congrArg (fun l : List UInt8 => l[0]?) h
          simpa using e
        have hlt := (List.getElem?_eq_some_iff.1 hat).1
        rw [HLEN.out] at hlt
        exact HF.out _ hlt hat
      go_wp2_with fail
      ((try simp only [Exit.inBlock, Exit.then]); refine bodyPost_ret (four_results rfl _ _ _) rfl ?_)
      exact SplW.mk_ (Bc.SplR.no HN.out) (Below.refl _ _)
end Go.Proofs.YtbhofhobnbhhhaaDoor
namespace Go.Proofs.YtbhofhobnbhhhaaDoor
open Go.RowKit
set_option linter.unusedVariables false

def CtE (l : List Kd) (W H : Nat) (s : ByteArray) (M : Int) (cs : List Int) (lo hi : Nat) (v : Value) (w : World) (e : Ending) (w' : World) : Prop :=
  ∃ (b : Bool) (cs' : List Int), e = .returned (.bool b) ∧ Bc.CtP l W H s.data.toList M cs cs' b ∧ Own I w' lo hi 2 v cs' ∧ Only lo hi w w'
theorem CtE.mk_ {l : List Kd} {W H : Nat} {s : ByteArray} {M : Int} {cs cs' : List Int} {lo hi : Nat} {v : Value} {w w' : World} {b : Bool} (h : Bc.CtP l W H s.data.toList M cs cs' b) (ho : Own I w' lo hi 2 v cs') (hb : Only lo hi w w') :
    CtE l W H s M cs lo hi v w (.returned (.bool b)) w' := ⟨b, cs', rfl, h, ho, hb⟩
theorem str_neB {t s : ByteArray} (h : ¬ t = s) : (t.toList == s.toList) = false := by
  rw [beq_eq_false_iff_ne, ByteArray.toList_eq, ByteArray.toList_eq]
  intro e
  exact h (bytes_extB e)
set_option maxRecDepth 100000 in
set_option maxHeartbeats 8000000 in
theorem specCt_any (A : Option Addr) (n c B lo hi cc : Nat) (l : List Kd) (cA : Option Addr) (hok : Bc.okL l = true) (hlo : B ≤ lo) : ∀ (f W H : Nat) (s : ByteArray) (cs : List Int) (w : World) (M : Int), W + H ≤ f → 1 ≤ W → W ≤ 40 → 1 ≤ H → H ≤ 40 → s.size ≤ 1048576 → RdS Kd.S w B A n l → Own I w lo hi 2 (.slice cA n cc) cs → lo ≤ hi → hi ≤ w.heap.size → (∀ x ∈ cs, 0 ≤ x ∧ x ≤ M) → M + (W : Int) * H ≤ 100000 →
    Calls Tryd.prog 63 #[.int .i64 W, .int .i64 H, .slice A n c, .string s, .slice cA n cc] w fun e w' => CtE l W H s M cs lo hi (.slice cA n cc) w e w' := by
  intro f
  induction f with
  | zero => intro W H s cs w M h1 h2; omega
  | succ f ih =>
    intro W H s cs w M hf hW1 hW2 hH1 hH2 hs hr ho hlh hhi hM hMW
    have IH := Lib.hid ih
    have HOK := Lib.hid (Bc.okL_iff.1 hok)
    have HL := Lib.hid hr.1
    have hn6 : n ≤ 6 := by have := (HOK.out).2; have := HL.out; omega
    have HN6 : Hid (l.length ≤ 6) := Lib.hid HOK.out.2.2
    have HCB := Lib.hid hM
    have hWH : (1 : Int) ≤ (W : Int) * H := by
      have := Int.mul_le_mul (a := 1) (b := 1) (c := (W : Int)) (d := (H : Int)) (by omega) (by omega) (by omega) (by omega)
      omega
    have HBD0 : Hid (∀ x ∈ cs, 0 ≤ x ∧ x ≤ M + (W : Int) * H) := Lib.hid fun x hx => by have := HCB.out x hx; omega
    have HO := Lib.hid ho
    have HRD := Lib.hid hr
    have HOB := Lib.hid (Only.refl lo hi w)
    clear ih hM ho
    by_cases h46 : s = ⟨#[46]⟩
    · subst h46
      have HCP : Hid (Bc.CtP l W H (⟨#[46]⟩ : ByteArray).data.toList M cs cs true) := Lib.hid ⟨fun _ => ⟨[], Bc.PL.dot W H, rfl⟩, fun h => by simp at h, HBD0.out⟩
      go_enter Tryd.func63, Tryd.ntmps63
      go_wp2_with fail
      go_ret
      exact CtE.mk_ HCP.out HO.out HOB.out
    have hneP : ¬ (s.toList = [46]) := fun e => h46 (bytes_extB (by rw [← ByteArray.toList_eq, e]))
    have hne : (s.toList == [46]) = false := by simpa using hneP
    by_cases hs1 : s.size = 1
    · have hs1I : (s.size : Int) = 1 := by omega
      obtain ⟨d, hd⟩ := str_get s 0 (by omega)
      have hix : ∀ W', (Instr.index 9 (.string s) (.int .i64 0)).run Tryd.prog W' = .ok (.int .u8 (d.toNat : Int)) W' := index_str s 0 d hd
      have HD : Hid (s.data.toList = [d]) := Lib.hid (by
        have h1 := toList_len s
        rw [hs1] at h1
        obtain ⟨y, hy⟩ := List.length_eq_one_iff.1 h1
        rw [hy] at hd ⊢
        simp at hd
        rw [hd])
      have HD46 : Hid (d ≠ 46) := Lib.hid fun e => h46 (bytes_extB (by rw [HD.out, e]))
      have hdl : d.toNat < 256 := d.toNat_lt
      have ek : IntKind.i64.wrap ((d.toNat : Int) - 97) = (d.toNat : Int) - 97 := IntWalk.i64_in _ (by omega)
      have en : IntKind.i64.wrap ((n : Int) - 1) = (n : Int) - 1 := IntWalk.i64_in _ (by omega)
      have HNL := Lib.hid (fun (h : ∀ k x, l[k]? = some x → d.toNat = 97 + k → ¬ (x.w ≤ (W : Int) ∧ x.h ≤ (H : Int))) => Bc.no_letter (W := W) (H := H) HN6.out HD46.out h)
      clear hd
      by_cases hk : 0 ≤ (d.toNat : Int) - 97 ∧ (d.toNat : Int) - 97 ≤ (n : Int) - 1
      rotate_left
      · have hin := l01In_no ((d.toNat : Int) - 97) 0 ((n : Int) - 1) w (by omega)
        have HCP : Hid (Bc.CtP l W H s.data.toList M cs cs false) := Lib.hid ⟨fun h => by simp at h, fun _ => by
          rw [HD.out]
          refine HNL.out fun k x hx he => ?_
          have h1 := (List.getElem?_eq_some_iff.1 hx).1
          rw [HL.out] at h1
          omega, HBD0.out⟩
        clear hk
        go_enter Tryd.func63, Tryd.ntmps63
        go_wp2_with fail
        refine hin.mono ?_
        rintro e _ ⟨rfl, rfl⟩
        go_wp2_with fail
        go_ret
        exact CtE.mk_ HCP.out HO.out HOB.out
      obtain ⟨k, hkk⟩ : ∃ k : Nat, d.toNat = 97 + k := ⟨d.toNat - 97, by omega⟩
      have hin := l01In_yes ((d.toNat : Int) - 97) 0 ((n : Int) - 1) w hk.1 hk.2
      have hkn : k < n := by omega
      have hkI : (k : Int) < (n : Int) := by omega
      have ek2 : IntKind.i64.wrap ((d.toNat : Int) - 97) = (k : Int) := ek.trans (by omega)
      rw [show (d.toNat : Int) - 97 = (k : Int) from by omega] at hin
      have HDL : Hid (d = Bc.ltr k) := Lib.hid (by
        apply UInt8.toNat_inj.1
        rw [Bc.ltr_nat (by omega), hkk])
      obtain ⟨b2, o2, y, rfl, hbB, hy, y0, y1, y2⟩ := hr.at_Kd hkn
      have HY := Lib.hid hy
      have HONE : Hid (∀ k' x', l[k']? = some x' → d.toNat = 97 + k' → x' = y) := Lib.hid fun k' x' hx' he => by
        obtain rfl : k' = k := by omega
        rw [hy] at hx'
        injection hx' with hx'
        exact hx'.symm
      clear hy hk hkk ek
      by_cases hw : (W : Int) < y.w
      · have HCP : Hid (Bc.CtP l W H s.data.toList M cs cs false) := Lib.hid ⟨fun h => by simp at h, fun _ => by
          rw [HD.out]
          refine HNL.out fun k x hx he => ?_
          have := HONE.out k x hx he
          subst this
          omega, HBD0.out⟩
        go_enter Tryd.func63, Tryd.ntmps63
        go_wp2_with fail
        refine hin.mono ?_
        rintro e _ ⟨rfl, rfl⟩
        go_wp2_with fail
        go_ret
        exact CtE.mk_ HCP.out HO.out HOB.out
      by_cases hh : (H : Int) < y.h
      · have HCP : Hid (Bc.CtP l W H s.data.toList M cs cs false) := Lib.hid ⟨fun h => by simp at h, fun _ => by
          rw [HD.out]
          refine HNL.out fun k x hx he => ?_
          have := HONE.out k x hx he
          subst this
          omega, HBD0.out⟩
        go_enter Tryd.func63, Tryd.ntmps63
        go_wp2_with fail
        refine hin.mono ?_
        rintro e _ ⟨rfl, rfl⟩
        go_wp2_with fail
        go_ret
        exact CtE.mk_ HCP.out HO.out HOB.out
      obtain ⟨g, z, rfl, _, _, _, hz, cz, fz⟩ := HO.out.at_ (k := k) hkn
      have HZ := Lib.hid hz
      have hzb := HCB.out z (List.mem_of_getElem? hz)
      have ez : IntKind.i64.wrap (z + 1) = z + 1 := IntWalk.i64_in _ (by omega)
      have hst := HO.out.set_ (k := k) (z + 1)
      have HST := Lib.hid hst
      have HCP : Hid (Bc.CtP l W H s.data.toList M cs (cs.set k (z + 1)) true) := Lib.hid ⟨fun _ => ⟨[k], by
          rw [HD.out, HDL.out]
          exact Bc.PL.one W H k y HY.out (by omega) (by omega), by
          show _ = cs.set k (cs.getD k 0 + 1)
          rw [List.getD_eq_getElem?_getD, HZ.out]
          rfl⟩, fun h => by simp at h, fun u hu => by
          rcases List.mem_or_eq_of_mem_set hu with h | h
          · exact HBD0.out u h
          · omega⟩
      clear hst hz hzb
      go_enter Tryd.func63, Tryd.ntmps63
      go_wp2_with fail
      refine hin.mono ?_
      rintro e _ ⟨rfl, rfl⟩
      go_wp2_with fail
      go_ret
      exact CtE.mk_ HCP.out HST.out.1 HST.out.2
    have hs1I : ¬ ((s.size : Int) = 1) := by omega
    have HS1 : Hid (s.data.toList.length ≠ 1) := Lib.hid (by rw [toList_len]; exact hs1)
    by_cases hs0 : s.size = 0
    · have he : s = ⟨#[]⟩ := by
        apply bytes_extB
        have h1 := toList_len s
        rw [hs0] at h1
        rw [List.eq_nil_of_length_eq_zero h1]
      have HCP : Hid (Bc.CtP l W H s.data.toList M cs cs false) := Lib.hid ⟨fun h => by simp at h, fun _ => Bc.no_head HS1.out (by rw [he]; simp) (by rw [he]; simp), HBD0.out⟩
      subst he
      clear hs0 hs1 hs1I
      go_enter Tryd.func63, Tryd.ntmps63
      go_wp2_with fail
      go_ret
      exact CtE.mk_ HCP.out HO.out HOB.out
    have hnee : ¬ s = ⟨#[]⟩ := fun e => hs0 (by rw [e]; rfl)
    have hneeP : ¬ (s.toList = []) := fun e => hnee (bytes_extB (by rw [← ByteArray.toList_eq, e]))
    have hnee2 : (s.toList == []) = false := by simpa using hneeP
    obtain ⟨d, hd⟩ := str_get s 0 (by omega)
    have hix : ∀ W', (Instr.index 9 (.string s) (.int .i64 0)).run Tryd.prog W' = .ok (.int .u8 (d.toNat : Int)) W' := index_str s 0 d hd
    have HD := Lib.hid hd
    have hspos : (0 : Int) < (s.size : Int) := by omega
    by_cases hdd : d.toNat = 124 ∨ d.toNat = 45
    rotate_left
    · have g1 : ¬ ((d.toNat : Int) = 124) := by omega
      have g2 : ¬ ((d.toNat : Int) = 45) := by omega
      have g1B : ((d.toNat : Int) != 124) = true := by simpa using g1
      have g2B : ((d.toNat : Int) != 45) = true := by simpa using g2
      have HCP : Hid (Bc.CtP l W H s.data.toList M cs cs false) := Lib.hid ⟨fun h => by simp at h, fun _ => Bc.no_head HS1.out (by rw [HD.out]; intro e; injection e with e; rw [e] at hdd; exact hdd (.inl rfl)) (by rw [HD.out]; intro e; injection e with e; rw [e] at hdd; exact hdd (.inr rfl)), HBD0.out⟩
      clear hd
      go_enter Tryd.func63, Tryd.ntmps63
      go_wp2_with fail
      go_ret
      exact CtE.mk_ HCP.out HO.out HOB.out
    have hsp := specSl_any s w hs (by omega) (by rw [HD.out]; intro e; injection e with e; rw [e] at hdd; rcases hdd with h | h <;> exact absurd h (by decide))
    have eW : IntKind.i64.wrap ((W : Int) - 1) = (W : Int) - 1 := IntWalk.i64_in _ (by omega)
    have eH : IntKind.i64.wrap ((H : Int) - 1) = (H : Int) - 1 := IntWalk.i64_in _ (by omega)
    rcases hdd with hdd | hdd
    · rw [hdd] at hix
      have HCC : Hid (s.data.toList[0]? = some 124) := Lib.hid (by rw [HD.out]; congr 1; apply UInt8.toNat_inj.1; rw [hdd]; rfl)
      clear hd hdd
      go_enter Tryd.func63, Tryd.ntmps63
      go_wp2_with fail
      refine hsp.mono ?_
      rintro e w2 ⟨x0, sa, sb, ok, rfl, hsr, hb2⟩
      have z2 := hb2.size
      have HM2 := Lib.hid (Only.of_below hb2 lo hi)
      have HRD2 := Lib.hid (HRD.out.below hb2 (by omega))
      have HO2 := Lib.hid (HO.out.below hb2 (by omega))
      have HSR := Lib.hid hsr
      clear hsr hb2 hsp
      cases ok
      · have HCP : Hid (Bc.CtP l W H s.data.toList M cs cs false) := Lib.hid ⟨fun h => by simp at h, fun _ => by
          rcases HSR.out with ⟨h, _⟩ | ⟨_, h⟩
          · simp at h
          · exact Bc.no_split HN6.out hW2 hH2 HS1.out h, HBD0.out⟩
        go_wp2_with fail
        go_ret
        exact CtE.mk_ HCP.out HO2.out HM2.out
      obtain ⟨cx, x, hx0, hx10, HCUT0, HUQ0⟩ : ∃ (c : UInt8) (x : Nat), x0 = (x : Int) ∧ x < 10000000000 ∧ s.data.toList = Bc.cutL c x sa.data.toList sb.data.toList ∧ ∀ (c' : UInt8) (x' : Nat) (a' b' : List UInt8), Bc.Bal a' → Bc.Bal b' → s.data.toList = Bc.cutL c' x' a' b' → x' = x ∧ a' = sa.data.toList ∧ b' = sb.data.toList := by
        rcases HSR.out with ⟨_, h⟩ | ⟨h, _⟩
        · exact h
        · simp at h
      have HUQ := Lib.hid HUQ0
      have HCUT : Hid (s.data.toList = Bc.cutL 124 x sa.data.toList sb.data.toList) := Lib.hid (by
        have h1 := HCC.out
        rw [HCUT0, Bc.cut_head] at h1
        injection h1 with h1
        rw [HCUT0, h1])
      have hla : sa.size ≤ 1048576 := by
        have h1 := (Bc.cut_parts_len cx x sa.data.toList sb.data.toList).1
        rw [← HCUT0, toList_len, toList_len] at h1
        omega
      have hlb : sb.size ≤ 1048576 := by
        have h1 := (Bc.cut_parts_len cx x sa.data.toList sb.data.toList).2
        rw [← HCUT0, toList_len, toList_len] at h1
        omega
      subst hx0
      clear HUQ0 HCUT0 HSR
      have HOF : Hid (∀ p, Bc.PL l W H s.data.toList p → 1 ≤ x ∧ x < W ∧ ∃ p1 p2, Bc.PL l x H sa.data.toList p1 ∧ Bc.PL l (W - x) H sb.data.toList p2 ∧ p = p1 ++ p2) := Lib.hid fun p hp => hp.of_ver HN6.out HS1.out HCC.out HUQ.out
      by_cases hx : 1 ≤ (x : Int) ∧ (x : Int) ≤ (W : Int) - 1
      rotate_left
      · have hin := fun W' => l01In_no (x : Int) 1 ((W : Int) - 1) W' (by omega)
        have HN : Hid (∀ p, ¬ Bc.PL l W H s.data.toList p) := Lib.hid fun p hp => by
          have := HOF.out p hp
          omega
        have HCP : Hid (Bc.CtP l W H s.data.toList M cs cs false) := Lib.hid ⟨fun h => by simp at h, fun _ => HN.out, HBD0.out⟩
        have hin2 := hin w2
        clear hin
        go_wp2_with fail
        refine hin2.mono ?_
        rintro e _ ⟨rfl, rfl⟩
        go_wp2_with fail
        go_ret
        exact CtE.mk_ HCP.out HO2.out HM2.out
      have hin2 := l01In_yes (x : Int) 1 ((W : Int) - 1) w2 hx.1 hx.2
      obtain ⟨m, hm⟩ : ∃ m : Nat, m + x = W := ⟨W - x, by omega⟩
      have em : IntKind.i64.wrap ((W : Int) - (x : Int)) = (m : Int) := by rw [show (m : Int) = (W : Int) - (x : Int) from by omega]; exact IntWalk.i64_in _ (by omega)
      have hsp := Bc.area_split x W H (by omega)
      rw [show W - x = m from by omega] at hsp
      have hp1 := Int.mul_nonneg (a := (x : Int)) (b := (H : Int)) (by omega) (by omega)
      have hp2 := Int.mul_nonneg (a := (m : Int)) (b := (H : Int)) (by omega) (by omega)
      have hc1 := IH.out x H sa cs w2 M (by omega) (by omega) (by omega) (by omega) (by omega) (by omega) HRD2.out HO2.out (by omega) (by omega) HCB.out (by omega)
      have hx1 : 1 ≤ x := by omega
      have hx2 : x < W := by omega
      clear hx
      go_wp2_with fail
      refine hin2.mono ?_
      rintro e _ ⟨rfl, rfl⟩
      go_wp2_with fail
      refine hc1.mono ?_
      rintro e w3 ⟨b1, cs1, rfl, hcp1, ho3, hm3⟩
      have z3 : w.heap.size ≤ w3.heap.size := Nat.le_trans z2 hm3.size
      have HM3 := Lib.hid (HM2.out.trans hm3)
      have HRD3 := Lib.hid (HRD2.out.only hm3 (by omega) (by omega))
      have HO3 := Lib.hid ho3
      have HCP1 := Lib.hid hcp1
      clear ho3 hm3 hcp1 hc1
      cases b1
      · have HCP : Hid (Bc.CtP l W H s.data.toList M cs cs1 false) := Lib.hid ⟨fun h => by simp at h, fun _ p hp => by
          obtain ⟨_, _, p1, p2, h1, _, _⟩ := HOF.out p hp
          exact HCP1.out.no rfl p1 h1, fun z hz => by have := HCP1.out.bd z hz; omega⟩
        go_wp2_with fail
        go_ret
        exact CtE.mk_ HCP.out HO3.out HM3.out
      have hc2 := IH.out m H sb cs1 w3 (M + ((x : Int) * H)) (by omega) (by omega) (by omega) (by omega) (by omega) (by omega) HRD3.out HO3.out (by omega) (by omega) HCP1.out.bd (by omega)
      go_wp2_with fail
      refine hc2.mono ?_
      rintro e w4 ⟨b2, cs2, rfl, hcp2, ho4, hm4⟩
      have HM4 := Lib.hid (HM3.out.trans hm4)
      have HO4 := Lib.hid ho4
      have HCP2 := Lib.hid hcp2
      have HCP : Hid (Bc.CtP l W H s.data.toList M cs cs2 b2) := Lib.hid ⟨fun h => by
          obtain ⟨p1, h1, e1⟩ := HCP1.out.yes rfl
          obtain ⟨p2, h2, e2⟩ := HCP2.out.yes h
          refine ⟨p1 ++ p2, ?_, by rw [e2, e1, Bc.addP_append]⟩
          rw [HCUT.out]
          exact Bc.PL.ver W H x _ _ p1 p2 (by omega) (by omega) h1 (by rw [show W - x = m from by omega]; exact h2), fun h p hp => by
          obtain ⟨_, _, p1, p2, _, h2, _⟩ := HOF.out p hp
          rw [show W - x = m from by omega] at h2
          exact HCP2.out.no h p2 h2, fun z hz => by have := HCP2.out.bd z hz; omega⟩
      clear ho4 hm4 hcp2 hc2
      go_wp2_with fail
      go_ret
      exact CtE.mk_ HCP.out HO4.out HM4.out
    · rw [hdd] at hix
      have HCC : Hid (s.data.toList[0]? = some 45) := Lib.hid (by rw [HD.out]; congr 1; apply UInt8.toNat_inj.1; rw [hdd]; rfl)
      clear hd hdd
      go_enter Tryd.func63, Tryd.ntmps63
      go_wp2_with fail
      refine hsp.mono ?_
      rintro e w2 ⟨x0, sa, sb, ok, rfl, hsr, hb2⟩
      have z2 := hb2.size
      have HM2 := Lib.hid (Only.of_below hb2 lo hi)
      have HRD2 := Lib.hid (HRD.out.below hb2 (by omega))
      have HO2 := Lib.hid (HO.out.below hb2 (by omega))
      have HSR := Lib.hid hsr
      clear hsr hb2 hsp
      cases ok
      · have HCP : Hid (Bc.CtP l W H s.data.toList M cs cs false) := Lib.hid ⟨fun h => by simp at h, fun _ => by
          rcases HSR.out with ⟨h, _⟩ | ⟨_, h⟩
          · simp at h
          · exact Bc.no_split HN6.out hW2 hH2 HS1.out h, HBD0.out⟩
        go_wp2_with fail
        go_ret
        exact CtE.mk_ HCP.out HO2.out HM2.out
      obtain ⟨cx, x, hx0, hx10, HCUT0, HUQ0⟩ : ∃ (c : UInt8) (x : Nat), x0 = (x : Int) ∧ x < 10000000000 ∧ s.data.toList = Bc.cutL c x sa.data.toList sb.data.toList ∧ ∀ (c' : UInt8) (x' : Nat) (a' b' : List UInt8), Bc.Bal a' → Bc.Bal b' → s.data.toList = Bc.cutL c' x' a' b' → x' = x ∧ a' = sa.data.toList ∧ b' = sb.data.toList := by
        rcases HSR.out with ⟨_, h⟩ | ⟨h, _⟩
        · exact h
        · simp at h
      have HUQ := Lib.hid HUQ0
      have HCUT : Hid (s.data.toList = Bc.cutL 45 x sa.data.toList sb.data.toList) := Lib.hid (by
        have h1 := HCC.out
        rw [HCUT0, Bc.cut_head] at h1
        injection h1 with h1
        rw [HCUT0, h1])
      have hla : sa.size ≤ 1048576 := by
        have h1 := (Bc.cut_parts_len cx x sa.data.toList sb.data.toList).1
        rw [← HCUT0, toList_len, toList_len] at h1
        omega
      have hlb : sb.size ≤ 1048576 := by
        have h1 := (Bc.cut_parts_len cx x sa.data.toList sb.data.toList).2
        rw [← HCUT0, toList_len, toList_len] at h1
        omega
      subst hx0
      clear HUQ0 HCUT0 HSR
      have HOF : Hid (∀ p, Bc.PL l W H s.data.toList p → 1 ≤ x ∧ x < H ∧ ∃ p1 p2, Bc.PL l W x sa.data.toList p1 ∧ Bc.PL l W (H - x) sb.data.toList p2 ∧ p = p1 ++ p2) := Lib.hid fun p hp => hp.of_hor HN6.out HS1.out HCC.out HUQ.out
      by_cases hx : 1 ≤ (x : Int) ∧ (x : Int) ≤ (H : Int) - 1
      rotate_left
      · have hin := fun W' => l01In_no (x : Int) 1 ((H : Int) - 1) W' (by omega)
        have HN : Hid (∀ p, ¬ Bc.PL l W H s.data.toList p) := Lib.hid fun p hp => by
          have := HOF.out p hp
          omega
        have HCP : Hid (Bc.CtP l W H s.data.toList M cs cs false) := Lib.hid ⟨fun h => by simp at h, fun _ => HN.out, HBD0.out⟩
        have hin2 := hin w2
        clear hin
        go_wp2_with fail
        refine hin2.mono ?_
        rintro e _ ⟨rfl, rfl⟩
        go_wp2_with fail
        go_ret
        exact CtE.mk_ HCP.out HO2.out HM2.out
      have hin2 := l01In_yes (x : Int) 1 ((H : Int) - 1) w2 hx.1 hx.2
      obtain ⟨m, hm⟩ : ∃ m : Nat, m + x = H := ⟨H - x, by omega⟩
      have em : IntKind.i64.wrap ((H : Int) - (x : Int)) = (m : Int) := by rw [show (m : Int) = (H : Int) - (x : Int) from by omega]; exact IntWalk.i64_in _ (by omega)
      have hsp := Bc.area_split' x W H (by omega)
      rw [show H - x = m from by omega] at hsp
      have hp1 := Int.mul_nonneg (a := (W : Int)) (b := (x : Int)) (by omega) (by omega)
      have hp2 := Int.mul_nonneg (a := (W : Int)) (b := (m : Int)) (by omega) (by omega)
      have hc1 := IH.out W x sa cs w2 M (by omega) (by omega) (by omega) (by omega) (by omega) (by omega) HRD2.out HO2.out (by omega) (by omega) HCB.out (by omega)
      have hx1 : 1 ≤ x := by omega
      have hx2 : x < H := by omega
      clear hx
      go_wp2_with fail
      refine hin2.mono ?_
      rintro e _ ⟨rfl, rfl⟩
      go_wp2_with fail
      refine hc1.mono ?_
      rintro e w3 ⟨b1, cs1, rfl, hcp1, ho3, hm3⟩
      have z3 : w.heap.size ≤ w3.heap.size := Nat.le_trans z2 hm3.size
      have HM3 := Lib.hid (HM2.out.trans hm3)
      have HRD3 := Lib.hid (HRD2.out.only hm3 (by omega) (by omega))
      have HO3 := Lib.hid ho3
      have HCP1 := Lib.hid hcp1
      clear ho3 hm3 hcp1 hc1
      cases b1
      · have HCP : Hid (Bc.CtP l W H s.data.toList M cs cs1 false) := Lib.hid ⟨fun h => by simp at h, fun _ p hp => by
          obtain ⟨_, _, p1, p2, h1, _, _⟩ := HOF.out p hp
          exact HCP1.out.no rfl p1 h1, fun z hz => by have := HCP1.out.bd z hz; omega⟩
        go_wp2_with fail
        go_ret
        exact CtE.mk_ HCP.out HO3.out HM3.out
      have hc2 := IH.out W m sb cs1 w3 (M + ((W : Int) * x)) (by omega) (by omega) (by omega) (by omega) (by omega) (by omega) HRD3.out HO3.out (by omega) (by omega) HCP1.out.bd (by omega)
      go_wp2_with fail
      refine hc2.mono ?_
      rintro e w4 ⟨b2, cs2, rfl, hcp2, ho4, hm4⟩
      have HM4 := Lib.hid (HM3.out.trans hm4)
      have HO4 := Lib.hid ho4
      have HCP2 := Lib.hid hcp2
      have HCP : Hid (Bc.CtP l W H s.data.toList M cs cs2 b2) := Lib.hid ⟨fun h => by
          obtain ⟨p1, h1, e1⟩ := HCP1.out.yes rfl
          obtain ⟨p2, h2, e2⟩ := HCP2.out.yes h
          refine ⟨p1 ++ p2, ?_, by rw [e2, e1, Bc.addP_append]⟩
          rw [HCUT.out]
          exact Bc.PL.hor W H x _ _ p1 p2 (by omega) (by omega) h1 (by rw [show H - x = m from by omega]; exact h2), fun h p hp => by
          obtain ⟨_, _, p1, p2, _, h2, _⟩ := HOF.out p hp
          rw [show H - x = m from by omega] at h2
          exact HCP2.out.no h p2 h2, fun z hz => by have := HCP2.out.bd z hz; omega⟩
      clear ho4 hm4 hcp2 hc2
      go_wp2_with fail
      go_ret
      exact CtE.mk_ HCP.out HO4.out HM4.out
end Go.Proofs.YtbhofhobnbhhhaaDoor
namespace Go.Proofs.YtbhofhobnbhhhaaDoor
open Go.RowKit
set_option linter.unusedVariables false

namespace Bc
/-- The counts of a plan, or the code of what is none. -/
def PcR (w h : Int) (l : List Kd) (s : List UInt8) (cs : List Int) (C : Int) : Prop :=
  (code w h l ≠ 0 ∧ cs = [] ∧ C = code w h l) ∨
  (code w h l = 0 ∧ C = 0 ∧ ∃ p, PL l w.toNat h.toNat s p ∧ cs = addP (List.replicate l.length 0) p) ∨
  (code w h l = 0 ∧ C = 6 ∧ cs = [] ∧ ∀ p, ¬ PL l w.toNat h.toNat s p)
theorem PcR.same {w h : Int} {l : List Kd} {s : List UInt8} {cs ds : List Int} {C D : Int} (a : PcR w h l s cs C) (b : PcR w h l s ds D) : cs = ds ∧ C = D := by
  rcases a with ⟨a0, a1, a2⟩ | ⟨a0, a1, p, a2, a3⟩ | ⟨a0, a1, a2, a3⟩
  · rcases b with ⟨b0, b1, b2⟩ | ⟨b0, b1, q, b2, b3⟩ | ⟨b0, b1, b2, b3⟩
    · exact ⟨by rw [a1, b1], by rw [a2, b2]⟩
    · exact absurd b0 a0
    · exact absurd b0 a0
  · rcases b with ⟨b0, b1, b2⟩ | ⟨b0, b1, q, b2, b3⟩ | ⟨b0, b1, b2, b3⟩
    · exact absurd a0 b0
    · have hk := (okL_iff.1 (code0 a0).1).2.2
      exact ⟨by rw [a3, b3, a2.same hk b2], by rw [a1, b1]⟩
    · exact absurd a2 (b3 p)
  · rcases b with ⟨b0, b1, b2⟩ | ⟨b0, b1, q, b2, b3⟩ | ⟨b0, b1, b2, b3⟩
    · exact absurd a0 b0
    · exact absurd b2 (a3 q)
    · exact ⟨by rw [a2, b2], by rw [a1, b1]⟩
/-- What counts are worth, and the area that they cover. -/
def sumV : List Kd → List Int → Int
  | k :: l, c :: cs => c * k.v + sumV l cs
  | _, _ => 0
def sumA : List Kd → List Int → Int
  | k :: l, c :: cs => c * k.w * k.h + sumA l cs
  | _, _ => 0
theorem sumV_snoc {l : List Kd} {cs : List Int} (k : Kd) (c : Int) (h : l.length = cs.length) : sumV (l ++ [k]) (cs ++ [c]) = sumV l cs + c * k.v := by
  induction l generalizing cs with
  | nil =>
    obtain rfl := List.eq_nil_of_length_eq_zero h.symm
    simp [sumV]
  | cons x l ih =>
    cases cs with
    | nil => simp at h
    | cons y cs => simp only [List.cons_append, sumV, ih (by simpa using h)]; omega
theorem sumA_snoc {l : List Kd} {cs : List Int} (k : Kd) (c : Int) (h : l.length = cs.length) : sumA (l ++ [k]) (cs ++ [c]) = sumA l cs + c * k.w * k.h := by
  induction l generalizing cs with
  | nil =>
    obtain rfl := List.eq_nil_of_length_eq_zero h.symm
    simp [sumA]
  | cons x l ih =>
    cases cs with
    | nil => simp at h
    | cons y cs => simp only [List.cons_append, sumA, ih (by simpa using h)]; omega
theorem sumV_nil (l : List Kd) : sumV l [] = 0 := by cases l <;> rfl
theorem sumA_nil (l : List Kd) : sumA l [] = 0 := by cases l <;> rfl
theorem sumV_more {l : List Kd} {cs : List Int} {k : Nat} (h1 : k < l.length) (h2 : k < cs.length) : sumV l (cs.set k (cs.getD k 0 + 1)) = sumV l cs + (l.getD k Kd.zero).v := by
  induction l generalizing cs k with
  | nil => simp at h1
  | cons x l ih =>
    cases cs with
    | nil => simp at h2
    | cons y cs =>
      cases k with
      | zero => simp only [List.set_cons_zero, List.getD_cons_zero, sumV, Int.add_mul]; omega
      | succ k =>
        have := ih (cs := cs) (k := k) (by simpa using h1) (by simpa using h2)
        simp only [List.set_cons_succ, List.getD_cons_succ, sumV]
        omega
theorem sumA_more {l : List Kd} {cs : List Int} {k : Nat} (h1 : k < l.length) (h2 : k < cs.length) : sumA l (cs.set k (cs.getD k 0 + 1)) = sumA l cs + (l.getD k Kd.zero).w * (l.getD k Kd.zero).h := by
  induction l generalizing cs k with
  | nil => simp at h1
  | cons x l ih =>
    cases cs with
    | nil => simp at h2
    | cons y cs =>
      cases k with
      | zero => simp only [List.set_cons_zero, List.getD_cons_zero, sumA, Int.add_mul, Int.one_mul]; omega
      | succ k =>
        have := ih (cs := cs) (k := k) (by simpa using h1) (by simpa using h2)
        simp only [List.set_cons_succ, List.getD_cons_succ, sumA]
        omega
theorem sum_addP {l : List Kd} (p : List Nat) : ∀ cs : List Int, cs.length = l.length → (∀ k ∈ p, k < l.length) → sumV l (addP cs p) = sumV l cs + worth l p ∧ sumA l (addP cs p) = sumA l cs + area l p := by
  induction p with
  | nil => intro cs _ _; exact ⟨(Int.add_zero _).symm, (Int.add_zero _).symm⟩
  | cons k p ih =>
    intro cs hl hk
    have h1 := hk k (by simp)
    obtain ⟨h2, h3⟩ := ih (cs.set k (cs.getD k 0 + 1)) (by rw [List.length_set]; exact hl) fun j hj => hk j (by simp [hj])
    have e1 : worth l (k :: p) = (l.getD k Kd.zero).v + worth l p := rfl
    have e2 : area l (k :: p) = (l.getD k Kd.zero).w * (l.getD k Kd.zero).h + area l p := rfl
    have e3 : addP cs (k :: p) = addP (cs.set k (cs.getD k 0 + 1)) p := rfl
    rw [e1, e2, e3, h2, h3, sumV_more h1 (by omega), sumA_more h1 (by omega)]
    omega
theorem sum_zero (l : List Kd) : ∀ n : Nat, sumV l (List.replicate n 0) = 0 ∧ sumA l (List.replicate n 0) = 0 := by
  induction l with
  | nil => intro n; cases n <;> exact ⟨rfl, rfl⟩
  | cons k l ih =>
    intro n
    cases n with
    | zero => exact ⟨rfl, rfl⟩
    | succ n =>
      have := ih n
      simp only [List.replicate_succ, sumV, sumA, Int.zero_mul]
      omega
/-- All that is known of a plan's counts. -/
theorem PcR.facts {w h : Int} {l : List Kd} {s : List UInt8} {cs : List Int} (a : PcR w h l s cs 0) : cs.length = l.length ∧ (0 ≤ sumV l cs ∧ sumV l cs ≤ V l w.toNat h.toNat) ∧ (0 ≤ sumA l cs ∧ sumA l cs ≤ w * h) := by
  rcases a with ⟨a0, a1, a2⟩ | ⟨a0, a1, p, a2, a3⟩ | ⟨a0, a1, a2, a3⟩
  · exact absurd a2.symm a0
  · obtain ⟨hok, hos⟩ := code0 a0
    have hs := okS_iff.1 hos
    obtain ⟨h1, h2, h3, h4⟩ := a2.facts (okL_iff.1 hok).1 (by omega) (by omega)
    have h5 := sum_addP p (List.replicate l.length 0) (by simp) h4
    have h6 := sum_zero l l.length
    have h7 : ((w.toNat : Int)) * (h.toNat : Int) = w * h := by rw [Int.toNat_of_nonneg (by omega), Int.toNat_of_nonneg (by omega)]
    subst a3
    refine ⟨by rw [addP_len]; simp, by omega, by omega⟩
  · omega
/-- The value and the waste that are told. -/
def pwR (w h : Int) (l : List Kd) (cs : List Int) (C : Int) : Int := if C = 0 then w * h - sumA l cs else 0
theorem take_kd (l : List Kd) (k : Nat) (x : Kd) (hx : l[k]? = some x) : l.take (k + 1) = l.take k ++ [x] := by
  rw [List.take_add_one, hx]
  rfl
end Bc
def PcE (w0 h0 : Int) (l : List Kd) (s : List UInt8) (w : World) (e : Ending) (w' : World) : Prop := ∃ (cs : List Int) (C : Int), Bc.PcR w0 h0 l s cs C ∧ (∀ x ∈ cs, 0 ≤ x ∧ x ≤ 1600) ∧ LC w cs C e w'
theorem PcE.mk_ {w0 h0 : Int} {l : List Kd} {s : List UInt8} {cs : List Int} {C : Int} {w w' : World} {e : Ending} (h : Bc.PcR w0 h0 l s cs C) (hb : ∀ x ∈ cs, 0 ≤ x ∧ x ≤ 1600) (hl : LC w cs C e w') : PcE w0 h0 l s w e w' := ⟨cs, C, h, hb, hl⟩
set_option maxRecDepth 100000 in
set_option maxHeartbeats 4000000 in
theorem specPnc_any (w0 h0 : Int) (A : Option Addr) (n c B : Nat) (l : List Kd) (s : ByteArray) (w : World) (h : RdS Kd.S w B A n l) (hB : B ≤ w.heap.size) (hn : n ≤ 1048577) (hs : s.size ≤ 1048576) :
    Calls Tryd.prog 27 #[.int .i64 w0, .int .i64 h0, .slice A n c, .string s] w fun e w' => PcE w0 h0 l s.data.toList w e w' := by
  obtain ⟨i0, hi0, hz0, hz1, hz2⟩ := info_parts infoI
  obtain ⟨C, hC⟩ : ∃ C, Bc.code w0 h0 l = C := ⟨_, rfl⟩
  have hco := specKc_any w0 h0 A n c B l C w h hB hn hC
  by_cases hc0 : C = 0
  · subst hc0
    obtain ⟨hok, hos⟩ := Bc.code0 hC
    have hss := Bc.okS_iff.1 hos
    have HC := Lib.hid hC
    have HOK := Lib.hid hok
    have HL := Lib.hid h.1
    have hn6 : n ≤ 6 := by have := (Bc.okL_iff.1 hok).2; have := HL.out; omega
    obtain ⟨W, rfl⟩ : ∃ W : Nat, w0 = (W : Int) := ⟨w0.toNat, by omega⟩
    obtain ⟨H, rfl⟩ : ∃ H : Nat, h0 = (H : Int) := ⟨h0.toNat, by omega⟩
    have hs' : (1 ≤ W ∧ W ≤ 40) ∧ (1 ≤ H ∧ H ≤ 40) := by omega
    have hWH : (W : Int) * H ≤ 1600 := by
      have := Int.mul_le_mul (a := (W : Int)) (b := (H : Int)) (c := 40) (d := 40) (by omega) (by omega) (by omega) (by omega)
      omega
    have hml : n ≤ maxLen := by unfold maxLen; omega
    clear hC hok hos hss
    go_enter Tryd.func27, Tryd.ntmps27
    go_wp2_with fail
    refine hco.mono ?_
    rintro e w1 ⟨rfl, hb1⟩
    have z1 := hb1.size
    clear hco
    go_wp2_with (at_make; refine wpList_make_full _ rfl _ _ 37 rfl w1.heap.size 2 i0 (.int .i64 0) 1 Tryd.underlying37 hi0 hz0 hz1 .i64 .i64 _ _ n rfl rfl rfl rfl (by rw [hz2]; omega) hml (by simp) ?_; intro w2 hown2 hg2; have hb2 := (Below.refl w1.heap.size w1).grown hg2 (Nat.le_refl _) (by simp); have hown : Own I w2 w1.heap.size (w1.heap.size + 1) 2 (.slice (some ⟨w1.heap.size, 0, none⟩) n n) (List.replicate n 0) := (by
      refine ⟨?_, fun k hk => by simp [Value.ownBlock] at hk; omega⟩
      have hz9 : (Value.int IntKind.i64 0).cells = #[.int .i64 0] := rfl
      rw [hz9, toList_madeCells_one] at hown2
      simpa using hown2); have hs2 : w1.heap.size + 1 ≤ w2.heap.size := (by have := hown.lt w1.heap.size rfl; omega); have hbw := hb1.trans (hb2.mono z1); have hct := specCt_any A n c B w1.heap.size (w1.heap.size + 1) n l (some ⟨w1.heap.size, 0, none⟩) HOK.out (by omega) (W + H) W H s (List.replicate n 0) w2 0 (Nat.le_refl _) (by omega) (by omega) (by omega) (by omega) hs (h.below hbw hB) hown (by omega) (by omega) (fun x hx => by rw [List.eq_of_mem_replicate hx]; omega) (by omega); have HBW := Lib.hid hbw; clear hown2 hg2 hown hb2 hbw)
    refine hct.mono ?_
    rintro e w3 ⟨b, cs, rfl, hcp, ho3, hm3⟩
    have HCP := Lib.hid hcp
    have HO3 : Hid (Own I w3 w.heap.size w3.heap.size 2 (.slice (some ⟨w1.heap.size, 0, none⟩) n n) cs) := Lib.hid (ho3.mono (by omega) (by have := hm3.size; omega))
    have HB3 := Lib.hid (HBW.out.trans (hm3.below (B := w.heap.size) (by omega) (by omega)))
    clear hcp ho3 hm3 hct
    cases b
    · have HR : Hid (Bc.PcR (W : Int) (H : Int) l s.data.toList [] 6) := Lib.hid (.inr (.inr ⟨HC.out, rfl, rfl, fun p hp => HCP.out.no rfl p hp⟩))
      go_wp2_with fail
      go_ret2
      exact PcE.mk_ HR.out (by simp) (LC.nil_ rfl rfl HB3.out)
    · have HR : Hid (Bc.PcR (W : Int) (H : Int) l s.data.toList cs 0) := Lib.hid (.inr (.inl ⟨HC.out, rfl, by
        obtain ⟨p, hp, e⟩ := HCP.out.yes rfl
        exact ⟨p, hp, by rw [e, HL.out]⟩⟩))
      have HBD : Hid (∀ x ∈ cs, 0 ≤ x ∧ x ≤ 1600) := Lib.hid fun x hx => by have := HCP.out.bd x hx; omega
      go_wp2_with fail
      go_ret2
      exact PcE.mk_ HR.out HBD.out (LC.mk_ rfl rfl HO3.out (Nat.le_refl _) (Nat.le_refl _) (by omega) HB3.out)
  · have hcB : (C != 0) = true := by simpa using hc0
    have HR : Hid (Bc.PcR w0 h0 l s.data.toList [] C) := Lib.hid (.inl ⟨by rw [hC]; exact hc0, rfl, hC.symm⟩)
    clear hC
    go_enter Tryd.func27, Tryd.ntmps27
    go_wp2_with fail
    refine hco.mono ?_
    rintro e w1 ⟨rfl, hb1⟩
    clear hco
    go_wp2_with fail
    go_ret2
    exact PcE.mk_ HR.out (by simp) (LC.nil_ rfl rfl hb1)
/-- A number and a code that go with the counts of a plan. -/
def PvE (R : List Int → Int → Int) (w0 h0 : Int) (l : List Kd) (s : List UInt8) (w : World) (e : Ending) (w' : World) : Prop := ∃ (cs : List Int) (C : Int), Bc.PcR w0 h0 l s cs C ∧ e = .returned (.tuple #[.int .i64 (R cs C), .int .i64 C]) ∧ Below w.heap.size w w'
theorem PvE.mk_ {R : List Int → Int → Int} {w0 h0 : Int} {l : List Kd} {s : List UInt8} {cs : List Int} {C x : Int} {w w' : World} (h : Bc.PcR w0 h0 l s cs C) (hx : R cs C = x) (hb : Below w.heap.size w w') : PvE R w0 h0 l s w (.returned (.tuple #[.int .i64 x, .int .i64 C])) w' := by subst hx; exact ⟨cs, C, h, rfl, hb⟩
theorem PcR_len {w0 h0 : Int} {l : List Kd} {s : List UInt8} {cs : List Int} {C : Int} (h : Bc.PcR w0 h0 l s cs C) : (cs = [] ∧ C ≠ 0) ∨ (C = 0 ∧ cs.length = l.length ∧ Bc.okL l = true ∧ Bc.okS w0 h0 = true) := by
  rcases h with ⟨a0, a1, a2⟩ | ⟨a0, a1, p, a2, a3⟩ | ⟨a0, a1, a2, a3⟩
  · exact .inl ⟨a1, by rw [a2]; exact a0⟩
  · obtain ⟨hok, hos⟩ := Bc.code0 a0
    refine .inr ⟨a1, ?_, hok, hos⟩
    subst a3
    rw [Bc.addP_len]
    simp
  · exact .inl ⟨a2, by rw [a1]; decide⟩
end Go.Proofs.YtbhofhobnbhhhaaDoor
namespace Go.Proofs.YtbhofhobnbhhhaaDoor
open Go.RowKit
set_option linter.unusedVariables false

abbrev Bc.pvR (l : List Kd) : List Int → Int → Int := fun cs _ => Bc.sumV l cs
theorem Bc.mul_kd {c a b : Int} (hc : 0 ≤ c ∧ c ≤ 1600) (ha : 1 ≤ a ∧ a ≤ 40) (hb : 1 ≤ b ∧ b ≤ 40) : (0 ≤ c * a ∧ c * a ≤ 64000) ∧ (0 ≤ c * a * b ∧ c * a * b ≤ 2560000) := by
  have h1 := Int.mul_nonneg (a := c) (b := a) (by omega) (by omega)
  have h2 := Int.mul_le_mul (a := c) (b := a) (c := 1600) (d := 40) (by omega) (by omega) (by omega) (by omega)
  have h3 := Int.mul_nonneg (a := c * a) (b := b) (by omega) (by omega)
  have h4 := Int.mul_le_mul (a := c * a) (b := b) (c := 64000) (d := 40) (by omega) (by omega) (by omega) (by omega)
  omega
theorem Bc.mul_kv {c a : Int} (hc : 0 ≤ c ∧ c ≤ 1600) (ha : 0 ≤ a ∧ a ≤ 1000) : 0 ≤ c * a ∧ c * a ≤ 1600000 := by
  have h1 := Int.mul_nonneg (a := c) (b := a) (by omega) (by omega)
  have h2 := Int.mul_le_mul (a := c) (b := a) (c := 1600) (d := 1000) (by omega) (by omega) (by omega) (by omega)
  omega
set_option maxRecDepth 100000 in
set_option maxHeartbeats 4000000 in
theorem specPv_any (w0 h0 : Int) (A : Option Addr) (n c B : Nat) (l : List Kd) (s : ByteArray) (w : World) (h : RdS Kd.S w B A n l) (hB : B ≤ w.heap.size) (hn : n ≤ 1048577) (hs : s.size ≤ 1048576) :
    Calls Tryd.prog 25 #[.int .i64 w0, .int .i64 h0, .slice A n c, .string s] w fun e w' => PvE (Bc.pvR l) w0 h0 l s.data.toList w e w' := by
  have hpc := specPnc_any w0 h0 A n c B l s w h hB hn hs
  have HRD := Lib.hid h
  go_enter Tryd.func25, Tryd.ntmps25
  go_wp2_with fail
  refine hpc.mono ?_
  rintro e w1 ⟨cs, C, hpr, hbd, A3, n3, c3, rfl, ho3, hn3, hb3⟩
  have HPR := Lib.hid hpr
  have HBD := Lib.hid hbd
  have HL3 := Lib.hid ho3.rd.1
  have HR3 := Lib.hid ho3.rd
  have HB3 := Lib.hid hb3
  have HRD3 := Lib.hid (HRD.out.below hb3 hB)
  have HZ3 := Lib.hid hb3.size
  have hn36 : n3 ≤ 6 := by
    have := HL3.out
    rcases PcR_len hpr with ⟨h1, _⟩ | ⟨_, h1, hok, _⟩
    · rw [h1] at this; simp at this; omega
    · have h2 := (Bc.okL_iff.1 hok).2.2
      omega
  clear hpr hbd ho3 hb3 hpc
  go_wp2_with fail
  go_loopw [12, 13] (fun t i wr => ∃ (k : Nat) (v : Int), k ≤ n3 ∧ i = .int .i64 k ∧ t = .int .i64 v ∧ (0 ≤ v ∧ v ≤ 1600000 * k) ∧ Hid (Bc.sumV (l.take k) (cs.take k) = v) ∧ Q w1 wr) (fun _ i _ => n3 - (intOf i).toNat)
  case atStart => exact ⟨0, 0, Nat.zero_le _, rfl, rfl, by omega, Lib.hid (by simp [Bc.sumV]), Q.refl _⟩
  case round =>
    obtain ⟨k, v, hk, rfl, rfl, hv, HV, hqq⟩ := hrel
    by_cases hlt : k < n3
    · obtain ⟨hC0, hcl, hok, hos⟩ : C = 0 ∧ cs.length = l.length ∧ Bc.okL l = true ∧ Bc.okS w0 h0 = true := by
        rcases PcR_len HPR.out with ⟨h1, _⟩ | h1
        · have := HL3.out; rw [h1] at this; simp at this; omega
        · exact h1
      have hkn : k < n := by have := HL3.out; have := HRD3.out.1; omega
      have hknI : (k : Int) < (n : Int) := by omega
      have hltI : (k : Int) < (n3 : Int) := by omega
      obtain ⟨b1, o1, x, rfl, _, hx, cx⟩ := (HR3.out.q hqq).at_ hlt
      obtain ⟨b2, o2, y, rfl, hbB, hy, y0, y1, y2⟩ := (HRD3.out.q hqq).at_Kd hkn
      have hxb := HBD.out x (List.mem_of_getElem? hx)
      have hyb := Bc.okK_iff.1 ((Bc.okL_iff.1 hok).1 y (List.mem_of_getElem? hy))
      obtain ⟨z, hz⟩ : ∃ z, x * y.v = z := ⟨_, rfl⟩
      have hzb := Bc.mul_kv hxb hyb.2.2
      rw [hz] at hzb
      have e1 : IntKind.i64.wrap (x * y.v) = z := by rw [hz]; exact IntWalk.i64_in _ (by omega)
      have e2 : IntKind.i64.wrap (v + z) = v + z := IntWalk.i64_in _ (by omega)
      have HV2 : Hid (Bc.sumV (l.take (k + 1)) (cs.take (k + 1)) = v + z) := Lib.hid (by
        rw [Bc.take_kd l k y hy, List.take_add_one, hx]
        show Bc.sumV (l.take k ++ [y]) (cs.take k ++ [x]) = v + z
        rw [Bc.sumV_snoc y x (by rw [List.length_take, List.length_take, hcl]), HV.out, hz])
      clear hx hy hxb hyb hz hok hos hcl hC0
      go_wp2_with fail
      go_quiet (fail)
      go_wp2_with fail
      go_roundw
      case rel => exact ⟨k + 1, v + z, by omega, by go_num, rfl, by omega, HV2, hqq.more _⟩
      case measure => simp [intOf]; omega
    · obtain rfl : k = n3 := by omega
      have HE : Hid (Bc.pvR l cs C = v) := Lib.hid (by
        have h1 := HV.out
        rw [List.take_of_length_le (Nat.le_of_eq HL3.out)] at h1
        show Bc.sumV l cs = v
        rcases PcR_len HPR.out with ⟨h2, _⟩ | ⟨_, h2, _, _⟩
        · subst h2
          rw [Bc.sumV_nil] at h1 ⊢
          exact h1
        · rw [List.take_of_length_le (by rw [← h2]; exact Nat.le_of_eq HL3.out)] at h1
          exact h1)
      have HBB := Lib.hid (HB3.out.trans (hqq.below _ |>.mono HZ3.out))
      go_wp2_with fail
      go_ret2
      exact PvE.mk_ HPR.out HE.out HBB.out
set_option maxRecDepth 100000 in
set_option maxHeartbeats 4000000 in
theorem specPw_any (w0 h0 : Int) (A : Option Addr) (n c B : Nat) (l : List Kd) (s : ByteArray) (w : World) (h : RdS Kd.S w B A n l) (hB : B ≤ w.heap.size) (hn : n ≤ 1048577) (hs : s.size ≤ 1048576) :
    Calls Tryd.prog 29 #[.int .i64 w0, .int .i64 h0, .slice A n c, .string s] w fun e w' => PvE (Bc.pwR w0 h0 l) w0 h0 l s.data.toList w e w' := by
  have hpc := specPnc_any w0 h0 A n c B l s w h hB hn hs
  have HRD := Lib.hid h
  go_enter Tryd.func29, Tryd.ntmps29
  go_wp2_with fail
  refine hpc.mono ?_
  rintro e w1 ⟨cs, C, hpr, hbd, A3, n3, c3, rfl, ho3, hn3, hb3⟩
  have HPR := Lib.hid hpr
  have HBD := Lib.hid hbd
  have HL3 := Lib.hid ho3.rd.1
  have HR3 := Lib.hid ho3.rd
  have HB3 := Lib.hid hb3
  have HRD3 := Lib.hid (HRD.out.below hb3 hB)
  have HZ3 := Lib.hid hb3.size
  by_cases hc0 : C = 0
  rotate_left
  · have hcB : (C != 0) = true := by simpa using hc0
    have HE : Hid (Bc.pwR w0 h0 l cs C = 0) := Lib.hid (if_neg hc0)
    clear hpr hbd ho3 hb3 hpc
    go_wp2_with fail
    go_ret2
    exact PvE.mk_ HPR.out HE.out HB3.out
  subst hc0
  obtain ⟨hcl, hok, hos⟩ : cs.length = l.length ∧ Bc.okL l = true ∧ Bc.okS w0 h0 = true := by
    rcases PcR_len hpr with ⟨_, h1⟩ | h1
    · exact absurd rfl h1
    · exact h1.2
  have HCL := Lib.hid hcl
  have HOK := Lib.hid (Bc.okL_iff.1 hok)
  have hss := Bc.okS_iff.1 hos
  obtain ⟨F, hF⟩ : ∃ F, w0 * h0 = F := ⟨_, rfl⟩
  have hFb : 0 ≤ F ∧ F ≤ 1600 := by
    have h1 := Int.mul_nonneg (a := w0) (b := h0) (by omega) (by omega)
    have h2 := Int.mul_le_mul (a := w0) (b := h0) (c := 40) (d := 40) (by omega) (by omega) (by omega) (by omega)
    omega
  have eF : IntKind.i64.wrap (w0 * h0) = F := by rw [hF]; exact IntWalk.i64_in _ (by omega)
  have HF := Lib.hid hF
  have hn36 : n3 ≤ 6 := by
    have := HL3.out
    have h2 := HOK.out.2.2
    omega
  clear hpr hbd ho3 hb3 hpc hcl hok hos hss hF
  go_wp2_with fail
  go_loopw [12, 13] (fun t i wr => ∃ (k : Nat) (v : Int), k ≤ n3 ∧ i = .int .i64 k ∧ t = .int .i64 v ∧ (v ≤ 1600 ∧ -2560000 * k ≤ v) ∧ Hid (F - Bc.sumA (l.take k) (cs.take k) = v) ∧ Q w1 wr) (fun _ i _ => n3 - (intOf i).toNat)
  case atStart => exact ⟨0, F, Nat.zero_le _, rfl, rfl, by omega, Lib.hid (by simp [Bc.sumA]), Q.refl _⟩
  case round =>
    obtain ⟨k, v, hk, rfl, rfl, hv, HV, hqq⟩ := hrel
    by_cases hlt : k < n3
    · have hkn : k < n := by have := HL3.out; have := HRD3.out.1; have := HCL.out; omega
      have hknI : (k : Int) < (n : Int) := by omega
      have hltI : (k : Int) < (n3 : Int) := by omega
      obtain ⟨b1, o1, x, rfl, _, hx, cx⟩ := (HR3.out.q hqq).at_ hlt
      obtain ⟨b2, o2, y, rfl, hbB, hy, y0, y1, y2⟩ := (HRD3.out.q hqq).at_Kd hkn
      have hxb := HBD.out x (List.mem_of_getElem? hx)
      have hyb := Bc.okK_iff.1 (HOK.out.1 y (List.mem_of_getElem? hy))
      obtain ⟨u, hu⟩ : ∃ u, x * y.w = u := ⟨_, rfl⟩
      obtain ⟨z, hz⟩ : ∃ z, u * y.h = z := ⟨_, rfl⟩
      have hzb := Bc.mul_kd hxb hyb.1 hyb.2.1
      rw [hu, hz] at hzb
      have e0 : IntKind.i64.wrap (x * y.w) = u := by rw [hu]; exact IntWalk.i64_in _ (by omega)
      have e1 : IntKind.i64.wrap (u * y.h) = z := by rw [hz]; exact IntWalk.i64_in _ (by omega)
      have e2 : IntKind.i64.wrap (v - z) = v - z := IntWalk.i64_in _ (by omega)
      have HV2 : Hid (F - Bc.sumA (l.take (k + 1)) (cs.take (k + 1)) = v - z) := Lib.hid (by
        rw [Bc.take_kd l k y hy, List.take_add_one, hx]
        show F - Bc.sumA (l.take k ++ [y]) (cs.take k ++ [x]) = v - z
        rw [Bc.sumA_snoc y x (by rw [List.length_take, List.length_take, HCL.out]), hu, hz]
        have := HV.out
        omega)
      clear hx hy hxb hyb hu hz
      go_wp2_with fail
      go_quiet (fail)
      go_wp2_with fail
      go_roundw
      case rel => exact ⟨k + 1, v - z, by omega, by go_num, rfl, by omega, HV2, hqq.more _⟩
      case measure => simp [intOf]; omega
    · obtain rfl : k = n3 := by omega
      have HE : Hid (Bc.pwR w0 h0 l cs 0 = v) := Lib.hid (by
        have h1 := HV.out
        rw [List.take_of_length_le (Nat.le_of_eq HL3.out), List.take_of_length_le (by rw [← HCL.out]; exact Nat.le_of_eq HL3.out)] at h1
        unfold Bc.pwR
        rw [if_pos rfl, HF.out]
        exact h1)
      have HBB := Lib.hid (HB3.out.trans (hqq.below _ |>.mono HZ3.out))
      go_wp2_with fail
      go_ret2
      exact PvE.mk_ HPR.out HE.out HBB.out
end Go.Proofs.YtbhofhobnbhhhaaDoor

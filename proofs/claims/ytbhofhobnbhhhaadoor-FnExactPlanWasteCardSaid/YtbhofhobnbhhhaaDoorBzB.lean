/- The program's BestPlan. The program's reader of plans: what it requires, and a character. The program's reader of plans: a number. The program's reader of plans: a plan in brackets. The program's reader of plans: a plan. The program's counts of a plan: its reader under a deferred recover. The program's PlanCounts, PlanValue, PlanWaste. -/
import Derived.Test.YtbhofhobnbhhhaaDoorBpPn
import Derived.Test.YtbhofhobnbhhhaaDoorBzA
import Derived.Test.YtbhofhobnbhhhaaDoorBcCm
import Derived.Test.YtbhofhobnbhhhaaDoorReadImpl
import Derived.Test.YtbhofhobnbhhhaaDoorReadMath2
import Derived.WalkLawsBesides
import Derived.Deep.RegionWith
import Derived.Deep.RegionLaw
import Derived.Deep.RegionHeld3
import Derived.Test.YtbhofhobnbhhhaaDoorBcBv
import Derived.Defers
import Derived.Recover
namespace Go.Proofs.YtbhofhobnbhhhaaDoor
open Go.RowKit
set_option linter.unusedVariables false

set_option maxRecDepth 100000 in
set_option maxHeartbeats 4000000 in
theorem implBp_any (w0 h0 : Int) (A : Option Addr) (n c B : Nat) (l : List Kd) (C : Int) (w : World) (htab : Lib.TabIs Tryd.prog w "internal/strconv.uint64pow10" .u64 Lib.pow10Tab) (h : RdS Kd.S w B A n l) (hB : B ≤ w.heap.size) (hn : n ≤ 1048577) (hc : n ≤ c) (b1 : Bc.i64 w0) (b2 : Bc.i64 h0) (hC : Bc.code w0 h0 l = C) :
    Calls Tryd.prog 13 #[.int .i64 w0, .int .i64 h0, .slice A n c] w fun e w' => StrC (Bc.BpR w0 h0 l) C w e w' := by
  have hco := checkCut_any w0 h0 A n c B l C w h hB hn hc hC
  have hgp := tabIs_lt htab gPow
  clear b1 b2
  by_cases hc0 : C = 0
  · subst hc0
    obtain ⟨hok, hos⟩ := Bc.code0 hC
    have HC := Lib.hid hC
    have hs := Bc.okS_iff.1 hos
    obtain ⟨W, rfl⟩ : ∃ W : Nat, w0 = (W : Int) := ⟨w0.toNat, by omega⟩
    obtain ⟨H, rfl⟩ : ∃ H : Nat, h0 = (H : Int) := ⟨h0.toNat, by omega⟩
    have hs' : (1 ≤ W ∧ W ≤ 40) ∧ (1 ≤ H ∧ H ≤ 40) := by omega
    have HOK := Lib.hid hok
    clear hC hok hos hs
    go_enter Tryd.func13, Tryd.ntmps13
    go_wp2_with fail
    refine hco.mono ?_
    rintro e w1 ⟨rfl, hb1⟩
    have z1 := hb1.size
    clear hco
    have BX := Lib.hid (Blk.new (w := w1) (g := w1.heap.size) #[.int .i64 (W : Int), .int .i64 (H : Int)] 67 rfl)
    have HB1 := Lib.hid (hb1.trans ((below_new9 w1 (.cells #[.int .i64 (W : Int), .int .i64 (H : Int)] 67)).mono z1))
    have zA : (w1.alloc (.cells #[.int .i64 (W : Int), .int .i64 (H : Int)] 67)).heap.size = w1.heap.size + 1 := by simp
    go_wp2_with fail
    generalize w1.alloc (.cells #[.int .i64 (W : Int), .int .i64 (H : Int)] 67) = w2 at BX HB1 zA ⊢
    have hus := usages_un A n c B l W H w2.drew (h.below (below_drewN' HB1.out 1) hB) (by show B ≤ w2.heap.size; omega) HOK.out hs'.1 hs'.2
    have x0 := BX.out.cell 0 (v := .int .i64 (W : Int)) rfl
    have x1 := BX.out.cell 1 (v := .int .i64 (H : Int)) rfl
    have l1 : w1.heap.size < w2.heap.size := by omega
    have hD2 : Below w.heap.size w w2.drew := below_drewN' HB1.out 1
    have z2 : w.heap.size ≤ w2.heap.size := by omega
    go_region_law (first
        | (go_simp; go_at_call 51; refine (plan_un (plan12_any G cs l W H HOK.out hU.out hs'.1.2 hs'.2.2 (W + H) W H _ (Nat.le_refl _) hs'.1.1 (Nat.le_refl _) hs'.2.1 (Nat.le_refl _) hT5.out ht5)).mono ?_; rintro e' w6 ⟨s, rfl, HP, hbkB⟩)
        | (go_simp; go_at_call 50; refine hus.mono ?_; rintro e' w5 ⟨G, cs, rfl, hT, hG, hU_, hbkA⟩; have hU := Lib.hid hU_; have hT5 := Lib.hid hT; have zG := szD12 hbkA; have hB5 := hD2.trans (hbkA.mono (show w.heap.size ≤ w2.drew.heap.size from z2)); have ht5 := tabIs_below htab hB5 gPow hgp; have y0 : w5.cell? ⟨w1.heap.size, 0, none⟩ = some (.int .i64 (W : Int)) := (hbkA.cell (by exact l1)).trans x0; have y1 : w5.cell? ⟨w1.heap.size, 1, none⟩ = some (.int .i64 (H : Int)) := (hbkA.cell (by exact l1)).trans x1; clear hT hU_))
    all_goals
      have HBF := Lib.hid (hB5.trans (hbkB.mono hB5.size))
      have HPF : Hid (Bc.BpR (W : Int) (H : Int) l s) := Lib.hid (.inl ⟨HC.out, HP⟩)
      clear hbkA hbkB hB5 HP hD2
      go_wp2_with fail
      go_ret2
      exact StrC.mk_ HPF.out rfl HBF.out
  · have hc0' : (C != 0) = true := by simpa using hc0
    have HPP : Hid (Bc.BpR w0 h0 l ⟨#[]⟩) := Lib.hid (.inr ⟨by rw [hC]; exact hc0, rfl⟩)
    clear hC
    go_enter Tryd.func13, Tryd.ntmps13
    go_wp2_with fail
    refine hco.mono ?_
    rintro e w1 ⟨rfl, hb1⟩
    go_wp2_with fail
    go_ret2
    exact StrC.mk_ HPP.out rfl hb1
end Go.Proofs.YtbhofhobnbhhhaaDoor
namespace Go.Proofs.YtbhofhobnbhhhaaDoor
open Go.RowKit
set_option linter.unusedVariables false

/-- The panic of what is no plan. -/
def PC12 : List PanicEntry := [{ v := .iface 139 (.agg #[]), recovered := false }]
theorem req_yes (w : World) : Calls Tryd.prog 83 #[.bool true] w fun e w' => e = .returned (.tuple #[]) ∧ w' = w := by
  go_enter Tryd.func83, Tryd.ntmps83
  go_wp2_with fail
  go_end0
  exact ⟨rfl, rfl⟩
theorem req_no (w : World) : Calls Tryd.prog 83 #[.bool false] w fun e w' => e = .panicked PC12 ∧ w' = w := by
  go_enter Tryd.func83, Tryd.ntmps83
  go_wp2_with fail
  exact ⟨rfl, rfl, rfl⟩
theorem str_size {s : ByteArray} {x : UInt8} {t : List UInt8} (h : s.data.toList = x :: t) : s.size = t.length + 1 := by
  show s.data.toList.length = _
  rw [h]
  rfl
theorem str_ne0 {s : ByteArray} (h : 0 < s.size) : ¬ s.toList = [] := fun e => by
  have h2 : s.data.toList.length = 0 := by rw [← Lib.toList_data, e]; rfl
  have h3 : s.data.toList.length = s.size := rfl
  omega
theorem str_eq0 {s : ByteArray} (h : s.size = 0) : s.toList = [] := by
  rw [Lib.toList_data]
  exact List.eq_nil_of_length_eq_zero h
/-- Nothing is left. -/
theorem mark_no (g : Nat) (K cv : Value) (s : ByteArray) (w : World) (hb : Blk w g #[K, .string s, cv] 117) (h0 : s.size = 0) :
    Calls Tryd.prog 95 #[.pointer (some ⟨g, 0, none⟩)] w fun e w' => e = .panicked PC12 ∧ w' = w := by
  have c1 := hb.cell 1 (v := .string s) rfl
  have e0 := str_eq0 h0
  have hr := fun W => req_no W
  clear h0
  go_enter Tryd.func95, Tryd.ntmps95
  go_wp2_with fail
  refine (hr _).mono ?_
  rintro e w1 ⟨rfl, rfl⟩
  exact ⟨rfl, rfl, rfl⟩
theorem mark_yes (g : Nat) (K cv : Value) (s r : ByteArray) (x : UInt8) (w : World) (hb : Blk w g #[K, .string s, cv] 117) (h : s.data.toList = x :: r.data.toList) :
    Calls Tryd.prog 95 #[.pointer (some ⟨g, 0, none⟩)] w fun e w' => e = .returned (.string ⟨#[x]⟩) ∧ w' = w.setCell ⟨g, 1, none⟩ (.string r) := by
  have c1 := hb.cell 1 (v := .string s) rfl
  have f1 := hb.free 1
  have hsz := str_size h
  have hne := str_ne0 (s := s) (by omega)
  have hneb : (s.toList != []) = true := by simpa using hne
  have hneb2 : (s.toList == []) = false := by simpa using hne
  have h1 : ∀ W, (Instr.slice 9 (.string s) none (some (.int .i64 1)) none).run Tryd.prog W = .ok (.string ⟨#[x]⟩) W := fun W => by
    rw [run_slice_string_to_if W _ _ _ _ Tryd.underlying9, if_pos ⟨by omega, by omega⟩]
    congr 2
    apply bytes_extB
    simp [h]
  have h2 : ∀ W, (Instr.slice 9 (.string s) (some (.int .i64 1)) none none).run Tryd.prog W = .ok (.string r) W := fun W => by
    rw [run_slice_string_from_if W _ _ _ _ Tryd.underlying9, if_pos ⟨by omega, by omega⟩]
    congr 2
    apply bytes_extB
    rw [show Int.toNat 1 = 1 from rfl, Lib.extract_to_end, h]
    rfl
  have hr := fun W => req_yes W
  clear hsz h
  go_enter Tryd.func95, Tryd.ntmps95
  go_wp2_with fail
  refine (hr _).mono ?_
  rintro e w1 ⟨rfl, rfl⟩
  go_wp2_with fail
  go_ret
  exact ⟨rfl, rfl⟩
end Go.Proofs.YtbhofhobnbhhhaaDoor
namespace Go.Proofs.YtbhofhobnbhhhaaDoor
open Go.RowKit
set_option linter.unusedVariables false

namespace Bc
def NumOk (L : List UInt8) (M n : Nat) (R : List UInt8) : Prop := L = Lib.decDigits n ++ R ∧ 1 ≤ n ∧ n ≤ M ∧ (R = [] ∨ ∃ r, R = 40 :: r)
def NumBad (L : List UInt8) (M : Nat) : Prop := ∀ x r, 1 ≤ x → x ≤ M → L ≠ Lib.decDigits x ++ 40 :: r
/-- What stands ahead of the first opening bracket. -/
def HeadR (L p R : List UInt8) : Prop := L = p ++ R ∧ (40 : UInt8) ∉ p ∧ (R = [] ∨ ∃ r, R = 40 :: r)
theorem index_none (l : List UInt8) (m : UInt8) (h : m ∉ l) : Lib.index l [m] = -1 := by
  induction l with
  | nil => simp [Lib.index]
  | cons c l ih =>
    rw [List.mem_cons, not_or] at h
    have hp : List.isPrefixOf [m] (c :: l) = false := by
      simp [List.isPrefixOf]
      exact h.1
    rw [Lib.index, hp, ih h.2]
    rfl
theorem cut_none (l : List UInt8) (m : UInt8) (h : m ∉ l) : (Lib.cut l [m]).1 = l := by
  unfold Lib.cut
  rw [index_none l m h, if_neg (by omega)]
theorem split40 (L : List UInt8) : (40 : UInt8) ∉ L ∨ ∃ l r, (40 : UInt8) ∉ l ∧ L = l ++ 40 :: r := by
  induction L with
  | nil => exact .inl (by simp)
  | cons c L ih =>
    by_cases hc : c = 40
    · exact .inr ⟨[], L, by simp, by rw [hc]; rfl⟩
    · rcases ih with h | ⟨l, r, h1, h2⟩
      · exact .inl (by rw [List.mem_cons, not_or]; exact ⟨fun e => hc e.symm, h⟩)
      · exact .inr ⟨c :: l, r, by rw [List.mem_cons, not_or]; exact ⟨fun e => hc e.symm, h1⟩, by rw [h2]; rfl⟩
theorem head_cut (L : List UInt8) : ∃ R, HeadR L (Lib.cut L [40]).1 R := by
  rcases split40 L with h | ⟨l, r, h1, h2⟩
  · exact ⟨[], by rw [cut_none _ _ h, List.append_nil], by rw [cut_none _ _ h]; exact h, .inl rfl⟩
  · subst h2
    rw [cut_mark l r 40 h1]
    exact ⟨40 :: r, rfl, h1, .inr ⟨r, rfl⟩⟩
theorem digits_no40 (n : Nat) : (40 : UInt8) ∉ Lib.decDigits n := fun hm => by
  have := decDigits_digs n _ hm
  unfold isDig at this
  exact absurd this.1 (by decide)
theorem HeadR.same {L p R r : List UInt8} {x : Nat} (h : HeadR L p R) (e : L = Lib.decDigits x ++ 40 :: r) : p = Lib.decDigits x := by
  obtain ⟨h1, h2, h3 | ⟨r', h3⟩⟩ := h
  · subst h3
    rw [List.append_nil] at h1
    rw [← h1, e] at h2
    exact absurd (by simp) h2
  · subst h3
    exact (part_eq h2 (digits_no40 x) (h1.symm.trans e)).1
theorem HeadR.ok {L p R : List UInt8} {n M : Nat} (h : HeadR L p R) (hp : p = Lib.decDigits n) (h1 : 1 ≤ n) (h2 : n ≤ M) : NumOk L M n R := ⟨by rw [h.1, hp], h1, h2, h.2.2⟩
theorem HeadR.bad {L p R : List UInt8} {M : Nat} (h : HeadR L p R) (hp : ∀ x, 1 ≤ x → x ≤ M → p ≠ Lib.decDigits x) : NumBad L M := fun x r h1 h2 e => hp x h1 h2 (h.same e)
end Bc
theorem cut40_any (s p : ByteArray) (w : World) (h : Lb w) (hs : s.size ≤ 1048576) (hp : p = ⟨(Lib.cut s.data.toList [40]).1.toArray⟩) :
    Calls Tryd.prog 113 #[.string s, .string ⟨#[40]⟩] w fun e w' => ∃ q b, e = .returned (.tuple #[.string p, .string q, .bool b]) ∧ Below w.heap.size w w' := by
  obtain ⟨m, hm⟩ := h.ml
  refine (Any.strings_Cut { Tryd.laysM145 with } s ⟨#[40]⟩ m w (by omega) hm).mono fun e w' h => ?_
  obtain ⟨he, k, rfl⟩ := h
  subst hp
  exact ⟨_, _, he, below_drewN' (Below.refl _ _) k⟩
def NumE (g : Nat) (s : ByteArray) (M : Nat) (w : World) (e : Ending) (w' : World) : Prop :=
  (∃ (n : Nat) (r : ByteArray) (w5 : World), Bc.NumOk s.data.toList M n r.data.toList ∧ e = .returned (.int .i64 (n : Int)) ∧ Below w.heap.size w w5 ∧ w' = w5.setCell ⟨g, 1, none⟩ (.string r)) ∨ (Bc.NumBad s.data.toList M ∧ e = .panicked PC12 ∧ Below w.heap.size w w')
theorem NumE.ok_ {g M n : Nat} {s r : ByteArray} {w w5 : World} (h : Bc.NumOk s.data.toList M n r.data.toList) (hb : Below w.heap.size w w5) : NumE g s M w (.returned (.int .i64 (n : Int))) (w5.setCell ⟨g, 1, none⟩ (.string r)) := .inl ⟨n, r, w5, h, rfl, hb, rfl⟩
theorem NumE.bad_ {g M : Nat} {s : ByteArray} {w w' : World} (h : Bc.NumBad s.data.toList M) (hb : Below w.heap.size w w') : NumE g s M w (.panicked PC12) w' := .inr ⟨h, rfl, hb⟩
theorem dec_reads12 {x : Int} (h0 : 0 ≤ x) (h1 : x ≤ 20000) : Lib.atoiAll (dec x.toNat).data.toList = .ok x := by
  have hl := decDigits_len x.toNat (by omega)
  rw [dec_data, atoi_digs _ (decDigits_ne _) (by omega) (decDigits_digs _), val_decDigits]
  congr 1
  omega
theorem dec_ne {x : Nat} {p : ByteArray} (hx : x ≤ 40) (hv : ∀ v, Lib.atoiAll p.data.toList ≠ .ok v) : p.data.toList ≠ Lib.decDigits x := fun e => by
  have h := dec_reads12 (x := (x : Int)) (by omega) (by omega)
  rw [dec_data] at h
  exact hv x (by rw [e]; simpa using h)
theorem dec_val {x : Nat} {v : Int} {p : ByteArray} (hx : x ≤ 40) (hv : Lib.atoiAll p.data.toList = .ok v) (e : p.data.toList = Lib.decDigits x) : v = x := by
  have h := dec_reads12 (x := (x : Int)) (by omega) (by omega)
  rw [dec_data] at h
  have h2 : Lib.atoiAll (Lib.decDigits x) = .ok (x : Int) := by simpa using h
  rw [e, h2] at hv
  injection hv with hv
  exact hv.symm
set_option maxRecDepth 100000 in
set_option maxHeartbeats 4000000 in
theorem number_any (g : Nat) (K cv : Value) (s : ByteArray) (M : Nat) (w : World) (hb : Blk w g #[K, .string s, cv] 117) (hL : Lb w) (hs : s.size ≤ 1048576) (hM : M ≤ 40) :
    Calls Tryd.prog 96 #[.pointer (some ⟨g, 0, none⟩), .int .i64 (M : Int)] w fun e w' => NumE g s M w e w' := by
  obtain ⟨p, hp⟩ : ∃ p : ByteArray, p = ⟨(Lib.cut s.data.toList [40]).1.toArray⟩ := ⟨_, rfl⟩
  obtain ⟨R, hR⟩ := Bc.head_cut s.data.toList
  have hpl : (Lib.cut s.data.toList [40]).1 = p.data.toList := by rw [hp]
  rw [hpl] at hR
  have HR := Lib.hid hR
  have hps : p.size ≤ s.size := by
    have h1 := congrArg List.length hR.1
    rw [List.length_append] at h1
    have h2 : s.data.toList.length = s.size := rfl
    have h3 : p.data.toList.length = p.size := rfl
    omega
  have hcut := cut40_any s p w hL hs hp
  have HL := Lib.hid hL
  have HB := Lib.hid hb
  have hgl := hb.lt
  have c1 := hb.cell 1 (v := .string s) rfl
  have HP : Hid (∀ W, Lb W → Calls Tryd.prog 91 #[.string p, .int .i64 10, .int .i64 64] W (ParE (Lib.atoiAll p.data.toList) W)) := Lib.hid fun W hW => parse_any p W hW (by omega)
  obtain ⟨r, hr⟩ : ∃ r, r = s.extract p.size s.size := ⟨_, rfl⟩
  have HRR : Hid (r.data.toList = R) := Lib.hid (by
    rw [hr, Lib.extract_to_end, hR.1]
    exact List.drop_left' rfl)
  have hsl : ∀ W, (Instr.slice 9 (.string s) (some (.int .i64 (p.size : Int))) none none).run Tryd.prog W = .ok (.string r) W := fun W => by
    rw [run_slice_string_from_if W _ _ _ _ Tryd.underlying9, if_pos ⟨by omega, by omega⟩, hr]
    rfl
  have hno := req_no
  have hyes := req_yes
  clear hp hR hpl hr hb hL
  go_enter Tryd.func96, Tryd.ntmps96
  go_wp2_with fail
  refine hcut.mono ?_
  rintro e w1 ⟨q, b, rfl, hb1⟩
  have HL1 := Lib.hid (HL.out.below hb1)
  go_wp2_with fail
  refine (HP.out _ HL1.out).mono ?_
  rintro e w2 (⟨v, hv, rfl, hb2⟩ | ⟨hv, x, t, i, rfl, hb2⟩)
  · have HL2 := Lib.hid (HL1.out.below hb2)
    have HBB := Lib.hid (hb1.trans (hb2.mono hb1.size))
    have HV := Lib.hid hv
    clear hb1 hb2 hv
    by_cases h1 : 1 ≤ v
    · by_cases h2 : v ≤ (M : Int)
      · obtain ⟨n, rfl⟩ : ∃ n : Nat, v = (n : Int) := ⟨v.toNat, by omega⟩
        have hft := fmt_int (n : Int) w2 (by omega) (by omega) HL2.out.tab
        obtain ⟨D, hD⟩ : ∃ D, D = dec n := ⟨_, rfl⟩
        have HD := Lib.hid hD
        rw [show ((n : Int)).toNat = n by omega, ← hD] at hft
        clear hD
        by_cases he : D = p
        · have HN : Hid (Bc.NumOk s.data.toList M n r.data.toList) := Lib.hid (by rw [HRR.out]; exact HR.out.ok (by rw [← he, HD.out]; rfl) (by omega) (by omega))
          have heB : (D.toList == p.toList) = true := by rw [he]; simp
          have heP : D.toList = p.toList := by rw [he]
          go_wp2_with fail
          refine hft.mono ?_
          rintro e w3 ⟨rfl, hb3⟩
          have HB3 := Lib.hid (HBB.out.trans (hb3.mono HBB.out.size))
          clear hb3
          go_wp2_with fail
          refine (hyes _).mono ?_
          rintro e w4 ⟨rfl, rfl⟩
          have B4 := HB.out.below HB3.out hgl
          have d1 := B4.cell 1 (v := .string s) rfl
          have f1 := B4.free 1
          clear B4
          go_wp2_with fail
          go_ret
          exact NumE.ok_ HN.out HB3.out
        · have HN : Hid (Bc.NumBad s.data.toList M) := Lib.hid (HR.out.bad fun x x1 x2 e => by
            have hv := dec_val (by omega) HV.out e
            obtain rfl : n = x := by omega
            exact he (by rw [HD.out]; exact (bytes_extB (by rw [dec_data]; exact e.symm))))
          have heB : (D.toList == p.toList) = false := by
            rw [beq_eq_false_iff_ne, ByteArray.toList_eq, ByteArray.toList_eq]
            intro h9
            exact he (ByteArray.ext (Array.toList_inj.mp h9))
          have heP : ¬ D.toList = p.toList := by simpa using heB
          go_wp2_with fail
          refine hft.mono ?_
          rintro e w3 ⟨rfl, hb3⟩
          have HB3 := Lib.hid (HBB.out.trans (hb3.mono HBB.out.size))
          clear hb3
          go_wp2_with fail
          refine (hno _).mono ?_
          rintro e w4 ⟨rfl, rfl⟩
          exact ⟨rfl, NumE.bad_ HN.out HB3.out⟩
      · have HN : Hid (Bc.NumBad s.data.toList M) := Lib.hid (HR.out.bad fun x x1 x2 e => by
          have hv := dec_val (by omega) HV.out e
          omega)
        have h2F : (v ≤ (M : Int)) = False := eq_false h2
        go_wp2_with fail
        refine (hno _).mono ?_
        rintro e w4 ⟨rfl, rfl⟩
        exact ⟨rfl, NumE.bad_ HN.out HBB.out⟩
    · have HN : Hid (Bc.NumBad s.data.toList M) := Lib.hid (HR.out.bad fun x x1 x2 e => by
        have hv := dec_val (by omega) HV.out e
        omega)
      have h1F : (1 ≤ v) = False := eq_false h1
      go_wp2_with fail
      refine (hno _).mono ?_
      rintro e w4 ⟨rfl, rfl⟩
      exact ⟨rfl, NumE.bad_ HN.out HBB.out⟩
  · have HN : Hid (Bc.NumBad s.data.toList M) := Lib.hid (HR.out.bad fun x x1 x2 => dec_ne (by omega) hv)
    have HBB := Lib.hid (hb1.trans (hb2.mono hb1.size))
    clear hb1 hb2 hv
    go_wp2_with fail
    refine (hno _).mono ?_
    rintro e w4 ⟨rfl, rfl⟩
    exact ⟨rfl, NumE.bad_ HN.out HBB.out⟩
end Go.Proofs.YtbhofhobnbhhhaaDoor
namespace Go.Proofs.YtbhofhobnbhhhaaDoor
open Go.RowKit
set_option linter.unusedVariables false

/-- The blocks of the library's variables lie below B. -/
structure LbB (B : Nat) : Prop where
  g1 : 3 < B
  g2 : 0 < B
  g3 : 1 < B
  g4 : 2 < B
theorem Lb.bd {w : World} (h : Lb w) : LbB w.heap.size := by
  obtain ⟨m, hm⟩ := h.ml
  obtain ⟨t1, p1, h1⟩ := h.sx
  obtain ⟨t2, p2, h2⟩ := h.rg
  exact ⟨h.lt, by simpa [addr_block] using World.block_lt_of_cell? w _ hm, by simpa [addr_block] using World.block_lt_of_cell? w _ h1, by simpa [addr_block] using World.block_lt_of_cell? w _ h2⟩
theorem Lb.to {w w' : World} {B : Nat} (h : Lb w) (hb : Below B w w') (hB : LbB B) : Lb w' :=
  ⟨tabIs_below h.tab hb gPow hB.g1, h.ml.imp fun _ h => (hb.cell hB.g2).trans h, h.sx.imp fun _ h => h.imp fun _ h => (hb.cell hB.g3).trans h, h.rg.imp fun _ h => h.imp fun _ h => (hb.cell hB.g4).trans h⟩
theorem LbB.mono {B B' : Nat} (h : LbB B) (hB : B ≤ B') : LbB B' := ⟨Nat.lt_of_lt_of_le h.g1 hB, Nat.lt_of_lt_of_le h.g2 hB, Nat.lt_of_lt_of_le h.g3 hB, Nat.lt_of_lt_of_le h.g4 hB⟩
/-- From w to V nothing has turned but the blocks g and gc, and new ones have come. -/
structure KG (g gc : Nat) (w V : World) : Prop where
  os : V.os = w.os
  tape : V.tape = w.tape
  output : V.output = w.output
  size : w.heap.size ≤ V.heap.size
  block : ∀ k, k < w.heap.size → k ≠ g → k ≠ gc → V.heap[k]? = w.heap[k]?
/-- The reader: its box and its counts. -/
structure RdM (A : Option Addr) (n c g gc : Nat) (s : ByteArray) (cs : List Int) (V : World) : Prop where
  b : Blk V g #[.slice A n c, .string s, .slice (some ⟨gc, 0, none⟩) n n] 117
  o : Own I V gc (gc + 1) 2 (.slice (some ⟨gc, 0, none⟩) n n) cs
section
variable {A : Option Addr} {n c g gc B : Nat} {s : ByteArray} {cs : List Int} {w V V' : World} {l : List Kd}
theorem KG.refl (g gc : Nat) (w : World) : KG g gc w w := ⟨rfl, rfl, rfl, Nat.le_refl _, fun _ _ _ _ => rfl⟩
theorem KG.trans (h : KG g gc w V) (k : KG g gc V V') : KG g gc w V' :=
  ⟨k.os.trans h.os, k.tape.trans h.tape, k.output.trans h.output, Nat.le_trans h.size k.size, fun i hi h1 h2 => (k.block i (Nat.lt_of_lt_of_le hi h.size) h1 h2).trans (h.block i hi h1 h2)⟩
theorem KG.of_below (h : Below w.heap.size w V) : KG g gc w V := ⟨h.os, h.tape, h.output, h.size, fun k hk _ _ => h.block k hk⟩
theorem KG.more (h : KG g gc w V) (hb : Below V.heap.size V V') : KG g gc w V' := h.trans (KG.of_below hb)
theorem KG.setg (h : KG g gc w V) (i : Nat) (v : Value) : KG g gc w (V.setCell ⟨g, i, none⟩ v) :=
  h.trans ⟨rfl, rfl, rfl, by simp, fun k _ h1 _ => heap_setCell_other V ⟨g, i, none⟩ k v h1⟩
theorem KG.setc (h : KG g gc w V) (i : Nat) (v : Value) : KG g gc w (V.setCell ⟨gc, i, none⟩ v) :=
  h.trans ⟨rfl, rfl, rfl, by simp, fun k _ _ h2 => heap_setCell_other V ⟨gc, i, none⟩ k v h2⟩
theorem KG.setx (h : KG g gc w V) (q i : Nat) (v : Value) (hq : w.heap.size ≤ q) : KG g gc w (V.setCell ⟨q, i, none⟩ v) :=
  ⟨h.os, h.tape, h.output, by have := h.size; simpa using this, fun k hk h1 h2 => (heap_setCell_other V ⟨q, i, none⟩ k v (show k ≠ q by omega)).trans (h.block k hk h1 h2)⟩
theorem KG.below (h : KG g gc w V) (h1 : B ≤ g) (h2 : B ≤ gc) (h3 : B ≤ w.heap.size) : Below B w V := ⟨h.os, h.tape, h.output, h.size, fun k hk => h.block k (by omega) (by omega) (by omega)⟩
theorem KG.blk (h : KG g gc w V) {q : Nat} {cells : Array Value} {ty : TypeId} (hb : Blk w q cells ty) (h1 : q ≠ g) (h2 : q ≠ gc) : Blk V q cells ty := (h.block q hb.lt h1 h2).trans hb
theorem RdM.below (h : RdM A n c g gc s cs V) (hb : Below V.heap.size V V') : RdM A n c g gc s cs V' :=
  ⟨h.b.below hb h.b.lt, h.o.keep fun q hq => hb.block q (h.o.lt q hq).2.2⟩
theorem RdM.rest (h : RdM A n c g gc s cs V) (r : ByteArray) (hne : g ≠ gc) : RdM A n c g gc r cs (V.setCell ⟨g, 1, none⟩ (.string r)) :=
  ⟨h.b.set 1 (.string r), h.o.keep fun q hq => by
    have := h.o.lt q hq
    exact heap_setCell_other V ⟨g, 1, none⟩ q _ (show q ≠ g by omega)⟩
theorem RdM.setx (h : RdM A n c g gc s cs V) (q i : Nat) (v : Value) (h1 : g ≠ q) (h2 : gc ≠ q) : RdM A n c g gc s cs (V.setCell ⟨q, i, none⟩ v) :=
  ⟨h.b.other _ _ (show g ≠ q from h1), h.o.keep fun q' hq => by
    have := h.o.lt q' hq
    exact heap_setCell_other V ⟨q, i, none⟩ q' _ (show q' ≠ q by omega)⟩
theorem RdM.count (h : RdM A n c g gc s cs V) (k : Nat) (x : Int) (hne : g ≠ gc) : RdM A n c g gc s (cs.set k x) (V.setCell ⟨gc, k, none⟩ (.int .i64 x)) :=
  ⟨h.b.other _ _ (show g ≠ gc from hne), (h.o.set_ (k := k) x).1⟩
theorem RdM.clt (h : RdM A n c g gc s cs V) : gc < V.heap.size := (h.o.lt gc rfl).2.2
end
/-- How a plan is taken off the rest of a text; PRE says what it stands in. -/
def PlE (ks : List Kd) (W H : Nat) (PRE : List UInt8 → List UInt8 → List UInt8) (A : Option Addr) (n c g gc : Nat) (s : ByteArray) (cs : List Int) (w : World) (e : Ending) (w' : World) : Prop :=
  (∃ (s1 : List UInt8) (r : ByteArray) (p : List Nat), s.data.toList = PRE s1 r.data.toList ∧ Bc.PL ks W H s1 p ∧ e = .returned (.tuple #[]) ∧ RdM A n c g gc r (Bc.addP cs p) w' ∧ KG g gc w w') ∨
  ((∀ (s1 t : List UInt8) (p : List Nat), Bc.PL ks W H s1 p → s.data.toList ≠ PRE s1 t) ∧ e = .panicked PC12 ∧ KG g gc w w')
abbrev preP (a t : List UInt8) : List UInt8 := a ++ t
abbrev preB (a t : List UInt8) : List UInt8 := 40 :: (a ++ 41 :: t)
section
variable {ks : List Kd} {W H : Nat} {PRE : List UInt8 → List UInt8 → List UInt8} {A : Option Addr} {n c g gc : Nat} {s : ByteArray} {cs : List Int} {w w' : World}
theorem PlE.ok_ {s1 : List UInt8} {r : ByteArray} {p : List Nat} (h1 : s.data.toList = PRE s1 r.data.toList) (h2 : Bc.PL ks W H s1 p) (h3 : RdM A n c g gc r (Bc.addP cs p) w') (h4 : KG g gc w w') : PlE ks W H PRE A n c g gc s cs w (.returned (.tuple #[])) w' := .inl ⟨s1, r, p, h1, h2, rfl, h3, h4⟩
theorem PlE.bad_ (h1 : ∀ (s1 t : List UInt8) (p : List Nat), Bc.PL ks W H s1 p → s.data.toList ≠ PRE s1 t) (h2 : KG g gc w w') : PlE ks W H PRE A n c g gc s cs w (.panicked PC12) w' := .inr ⟨h1, rfl, h2⟩
end
theorem byte_str (x : UInt8) (r : List UInt8) : ∃ b : ByteArray, b.data.toList = r := ⟨⟨r.toArray⟩, by simp⟩
set_option maxRecDepth 100000 in
set_option maxHeartbeats 4000000 in
theorem bracketed_any (ks : List Kd) (hk : ks.length ≤ 6) (W H : Nat) (A : Option Addr) (n c g gc : Nat) (s : ByteArray) (cs : List Int) (V : World) (h : RdM A n c g gc s cs V) (hne : g ≠ gc) (hs : s.size ≤ 1048576)
    (hpl : ∀ (r : ByteArray) (V' : World), r.size ≤ 1048576 → RdM A n c g gc r cs V' → KG g gc V V' → Calls Tryd.prog 82 #[.pointer (some ⟨g, 0, none⟩), .agg #[.int .i64 (W : Int), .int .i64 (H : Int)]] V' fun e w' => PlE ks W H preP A n c g gc r cs V' e w') :
    Calls Tryd.prog 97 #[.pointer (some ⟨g, 0, none⟩), .agg #[.int .i64 (W : Int), .int .i64 (H : Int)]] V fun e w' => PlE ks W H preB A n c g gc s cs V e w' := by
  have K0 : KG g gc V (V.alloc (.cells #[.int .i64 (W : Int), .int .i64 (H : Int)] 67)) := KG.of_below (below_new9 V _)
  have M0 := h.below (below_new9 V (.cells #[.int .i64 (W : Int), .int .i64 (H : Int)] 67))
  have BX := Blk.new (w := V) (g := V.heap.size) #[.int .i64 (W : Int), .int .i64 (H : Int)] 67 rfl
  have hgV := h.b.lt
  have hno := req_no
  have hyes := req_yes
  rcases hL : s.data.toList with _ | ⟨x, t⟩
  · have hmk := mark_no g _ _ s _ M0.b (by show s.data.toList.length = 0; rw [hL]; rfl)
    have HM := Lib.hid K0
    have HN : Hid (∀ (s1 t : List UInt8) (p : List Nat), Bc.PL ks W H s1 p → s.data.toList ≠ preB s1 t) := Lib.hid fun s1 t p _ e => by rw [hL] at e; cases e
    clear hL M0 BX h K0
    go_enter Tryd.func97, Tryd.ntmps97
    go_wp2_with fail
    refine hmk.mono ?_
    rintro e w1 ⟨rfl, rfl⟩
    exact ⟨rfl, PlE.bad_ HN.out HM.out⟩
  · obtain ⟨r, hr⟩ := byte_str x t
    have hmk := mark_yes g _ _ s r x _ M0.b (by rw [hL, hr])
    have M1 := M0.rest r hne
    have HL := Lib.hid hL
    have HR := Lib.hid hr
    have hrs : r.size ≤ 1048576 := by
      have e1 : s.size = (x :: t).length := by rw [← hL]; rfl
      have e2 : r.size = t.length := by rw [← hr]; rfl
      simp at e1
      omega
    have B1 := BX.other ⟨g, 1, none⟩ (.string r) (show V.heap.size ≠ g by omega)
    have HM1 := Lib.hid M1
    have HX := Lib.hid B1
    have HK1 := Lib.hid (K0.setg 1 (.string r))
    clear hL M0 BX h hr B1 M1 K0
    by_cases hx : x = 40
    · subst hx
      go_enter Tryd.func97, Tryd.ntmps97
      go_wp2_with fail
      refine hmk.mono ?_
      rintro e w1 ⟨rfl, hw1⟩
      have M1 := HM1.out
      have X1 := HX.out
      have K1 := HK1.out
      rw [← hw1] at M1 X1 K1
      have x0 := X1.cell 0 (v := .int .i64 (W : Int)) rfl
      have x1 := X1.cell 1 (v := .int .i64 (H : Int)) rfl
      have hp := hpl r w1 hrs M1 K1
      have HKK := Lib.hid K1
      clear hw1 HM1 HX HK1 hmk M1 X1 K1 hpl
      go_wp2_with fail
      refine (hyes _).mono ?_
      rintro e _ ⟨rfl, rfl⟩
      go_wp2_with fail
      refine hp.mono ?_
      rintro e w2 (⟨s1, r2, p, hs1, hP, rfl, M2, k2⟩ | ⟨hbad, rfl, hO⟩)
      · have HK2 := Lib.hid (HKK.out.trans k2)
        have HP := Lib.hid hP
        clear k2
        have HS1 := Lib.hid hs1
        have hpre : Hid (∀ (s1' t' : List UInt8) (p' : List Nat), Bc.PL ks W H s1' p' → s.data.toList = preB s1' t' → r2.data.toList = 41 :: t') := Lib.hid fun s1' t' p' hp' e => by
          rw [HL.out] at e
          injection e with _ e
          have e2 : s1 ++ r2.data.toList = s1' ++ 41 :: t' := by rw [← e, ← HR.out]; exact HS1.out.symm
          exact (Bc.PL.pre hk HP.out hp' e2).2
        rcases hL2 : r2.data.toList with _ | ⟨y, t2⟩
        · have hmk := mark_no g _ _ r2 w2 M2.b (by show r2.data.toList.length = 0; rw [hL2]; rfl)
          have HM := HK2
          have HN : Hid (∀ (s1 t : List UInt8) (p : List Nat), Bc.PL ks W H s1 p → s.data.toList ≠ preB s1 t) := Lib.hid fun s1' t' p' hp' e => by
            have h9 := hpre.out s1' t' p' hp' e
            rw [hL2] at h9
            cases h9
          clear hL2 M2 hs1 hP
          go_wp2_with fail
          refine hmk.mono ?_
          rintro e _ ⟨rfl, rfl⟩
          exact ⟨rfl, PlE.bad_ HN.out HM.out⟩
        · obtain ⟨r3, hr3⟩ := byte_str y t2
          have hmk := mark_yes g _ _ r2 r3 y w2 M2.b (by rw [hL2, hr3])
          have HM3 := Lib.hid (M2.rest r3 hne)
          have HK3 := Lib.hid (HK2.out.setg 1 (.string r3))
          by_cases hy : y = 41
          · subst hy
            have HF : Hid (s.data.toList = preB s1 r3.data.toList) := Lib.hid (by
              rw [HL.out, ← HR.out, hr3]
              show (40 : UInt8) :: r.data.toList = 40 :: (s1 ++ 41 :: t2)
              rw [← hL2]
              exact congrArg _ HS1.out)
            clear hL2 M2 hs1 hP hr3
            go_wp2_with fail
            refine hmk.mono ?_
            rintro e w3 ⟨rfl, hw3⟩
            have M3 := HM3.out
            have K3 := HK3.out
            rw [← hw3] at M3 K3
            clear hw3 HM3 HK3 hmk
            go_wp2_with fail
            refine (hyes _).mono ?_
            rintro e _ ⟨rfl, rfl⟩
            go_wp2_with fail
            go_end0
            exact PlE.ok_ HF.out HP.out M3 K3
          · have HN : Hid (∀ (s1 t : List UInt8) (p : List Nat), Bc.PL ks W H s1 p → s.data.toList ≠ preB s1 t) := Lib.hid fun s1' t' p' hp' e => by
              have h9 := hpre.out s1' t' p' hp' e
              rw [hL2] at h9
              injection h9 with h9 _
              exact hy h9
            have hyB : (y == 41) = false := by simpa using hy
            clear hL2 M2 hs1 hP hr3
            go_wp2_with fail
            refine hmk.mono ?_
            rintro e w3 ⟨rfl, hw3⟩
            have M3 := HM3.out
            have K3 := HK3.out
            rw [← hw3] at M3 K3
            clear hw3 HM3 HK3 hmk
            go_wp2_with fail
            refine (hno _).mono ?_
            rintro e _ ⟨rfl, rfl⟩
            exact ⟨rfl, PlE.bad_ HN.out K3⟩
      · have HN : Hid (∀ (s1 t : List UInt8) (p : List Nat), Bc.PL ks W H s1 p → s.data.toList ≠ preB s1 t) := Lib.hid fun s1' t' p' hp' e => by
          rw [HL.out] at e
          injection e with _ e
          exact hbad s1' (41 :: t') p' hp' (by rw [HR.out, e])
        exact ⟨rfl, PlE.bad_ HN.out (HKK.out.trans hO)⟩
    · have HN : Hid (∀ (s1 t : List UInt8) (p : List Nat), Bc.PL ks W H s1 p → s.data.toList ≠ preB s1 t) := Lib.hid fun s1' t' p' hp' e => by
        rw [HL.out] at e
        injection e with e _
        exact hx e
      have hxB : (x == 40) = false := by simpa using hx
      go_enter Tryd.func97, Tryd.ntmps97
      go_wp2_with fail
      refine hmk.mono ?_
      rintro e w1 ⟨rfl, hw1⟩
      have K1 := HK1.out
      rw [← hw1] at K1
      clear hw1 HM1 HX HK1 hmk hpl
      go_wp2_with fail
      refine (hno _).mono ?_
      rintro e _ ⟨rfl, rfl⟩
      exact ⟨rfl, PlE.bad_ HN.out K1⟩
end Go.Proofs.YtbhofhobnbhhhaaDoor
namespace Go.Proofs.YtbhofhobnbhhhaaDoor
open Go.RowKit
set_option linter.unusedVariables false

/-- A way that has come to its end inside a region. -/
theorem stopH {P : Program} {S : World → Prop} {G : Prop} (h : G) (_ : ∀ K' : Act → World → Prop, Shut (∀ a w, S w → (S w → wpAnyH P .any #[] (fun _ _ _ => True) S 0 #[] a w) → K' a w) → K' { tmps := #[], defers := [] } default) : G := h
theorem abc_index : ∀ n : Fin 7, ∀ x : Fin 256, (Lib.indexByte (([97, 98, 99, 100, 101, 102] : List UInt8).take n.val) (UInt8.ofNat x.val) = -1 ∧ (x.val < 97 ∨ 97 + n.val ≤ x.val)) ∨ (97 ≤ x.val ∧ x.val < 97 + n.val ∧ Lib.indexByte (([97, 98, 99, 100, 101, 102] : List UInt8).take n.val) (UInt8.ofNat x.val) = ((x.val - 97 : Nat) : Int)) := by decide +kernel
/-- Which letter of the first n ones. -/
theorem abc_at (n : Nat) (hn : n ≤ 6) (x : UInt8) : (Lib.indexByte (([97, 98, 99, 100, 101, 102] : List UInt8).take n) x = -1 ∧ ∀ k, k < n → x ≠ Bc.ltr k) ∨ ∃ k, k < n ∧ x = Bc.ltr k ∧ Lib.indexByte (([97, 98, 99, 100, 101, 102] : List UInt8).take n) x = (k : Int) := by
  have h := abc_index ⟨n, by omega⟩ ⟨x.toNat, x.toNat_lt⟩
  simp only [UInt8.ofNat_toNat] at h
  rcases h with ⟨h1, h2⟩ | ⟨h1, h2, h3⟩
  · refine .inl ⟨h1, fun k hk e => ?_⟩
    have := Bc.ltr_nat (k := k) (by omega)
    rw [← e] at this
    omega
  · refine .inr ⟨x.toNat - 97, by omega, ?_, h3⟩
    apply UInt8.toNat_inj.1
    rw [Bc.ltr_nat (by omega)]
    omega
theorem addP_bd (p : List Nat) : ∀ (cs : List Int) (M : Int), 0 ≤ M → (∀ x ∈ cs, 0 ≤ x ∧ x ≤ M) → ∀ x ∈ Bc.addP cs p, 0 ≤ x ∧ x ≤ M + p.length := by
  induction p with
  | nil => intro cs M _ h x hx; have := h x hx; simp; omega
  | cons k p ih =>
    intro cs M hM h x hx
    have hh := ih (cs.set k (cs.getD k 0 + 1)) (M + 1) (by omega) (fun y hy => by
      rcases List.mem_or_eq_of_mem_set hy with hy | rfl
      · have := h y hy; omega
      · by_cases hk : k < cs.length
        · have := h _ (List.getElem_mem hk)
          rw [List.getD_eq_getElem?_getD, List.getElem?_eq_getElem hk]
          simp
          omega
        · rw [List.getD_eq_getElem?_getD, List.getElem?_eq_none (by omega)]
          simp
          omega) x hx
    simp only [List.length_cons]
    omega
theorem Bc.NumOk.same {L R : List UInt8} {M n x : Nat} {r : List UInt8} (h : Bc.NumOk L M n R) (e : L = Lib.decDigits x ++ 40 :: r) : n = x ∧ R = 40 :: r := by
  obtain ⟨h1, _, _, h2 | ⟨q, h2⟩⟩ := h
  · subst h2
    rw [List.append_nil] at h1
    exact absurd (show (40 : UInt8) ∈ Lib.decDigits n by rw [← h1, e]; simp) (Bc.digits_no40 n)
  · subst h2
    obtain ⟨h3, h4⟩ := Bc.digits_same (h1.symm.trans e)
    exact ⟨h3, by rw [h4]⟩
/-- What stands behind the first plan in brackets. -/
theorem pre_step {ks : List Kd} (hk : ks.length ≤ 6) {W H : Nat} {s1 a R t u : List UInt8} {p q : List Nat} (h1 : Bc.PL ks W H s1 p) (h2 : Bc.PL ks W H a q) (e1 : R = preB s1 t) (e2 : R = 40 :: (a ++ 41 :: 40 :: u)) : t = 40 :: u := by
  have e := e1.symm.trans e2
  injection e with _ e
  exact (Bc.bal_same (h1.bal hk) (h2.bal hk) e).2
set_option maxRecDepth 100000 in
set_option maxHeartbeats 8000000 in
theorem planRd_any (ks : List Kd) (hok : Bc.okL ks = true) (A : Option Addr) (n c g gc B BL : Nat) (hB1 : B ≤ g) (hB2 : B ≤ gc) (hLB : LbB BL) (hL1 : BL ≤ g) (hL2 : BL ≤ gc) (hne : g ≠ gc) : ∀ (f W H : Nat) (s : ByteArray) (cs : List Int) (V : World), W + H ≤ f → 1 ≤ W → W ≤ 40 → 1 ≤ H → H ≤ 40 → s.size ≤ 1048576 → (∀ x ∈ cs, 0 ≤ x ∧ x ≤ 1000000 - (W : Int) * H) → RdM A n c g gc s cs V → RdS Kd.S V B A n ks → B ≤ V.heap.size → Lb V → BL ≤ V.heap.size →
    Calls Tryd.prog 82 #[.pointer (some ⟨g, 0, none⟩), .agg #[.int .i64 (W : Int), .int .i64 (H : Int)]] V fun e w' => PlE ks W H preP A n c g gc s cs V e w' := by
  have HOK := Lib.hid (Bc.okL_iff.1 hok)
  have hk6 := HOK.out.2.2
  intro f
  induction f with
  | zero => intro W H s cs V h1 h2; omega
  | succ f ih =>
    intro W H s cs V hf hw1 hw2 hh1 hh2 hs hcs h hr hBV hL hBL
    have IH := Lib.hid ih
    have HCS := Lib.hid hcs
    have HR0 := Lib.hid hr
    have HL0 := Lib.hid hL
    have hn : n ≤ 6 := by have := hr.1; omega
    have HN := Lib.hid hr.1
    have M0 := h.below (below_new9 V (.cells #[.int .i64 (W : Int), .int .i64 (H : Int)] 67))
    have BX := Blk.new (w := V) (g := V.heap.size) #[.int .i64 (W : Int), .int .i64 (H : Int)] 67 rfl
    have K0 : KG g gc V (V.alloc (.cells #[.int .i64 (W : Int), .int .i64 (H : Int)] 67)) := KG.of_below (below_new9 V _)
    have hgV := h.b.lt
    have hcV := h.clt
    have hno := req_no
    have hyes := req_yes
    clear ih hcs hr hL
    rcases hL : s.data.toList with _ | ⟨x, t⟩
    · have hmk := mark_no g _ _ s _ M0.b (by show s.data.toList.length = 0; rw [hL]; rfl)
      have HM := Lib.hid K0
      have HNO : Hid (∀ (s1 t : List UInt8) (p : List Nat), Bc.PL ks W H s1 p → s.data.toList ≠ preP s1 t) := Lib.hid fun s1 t p hp e => by
        rw [hL] at e
        rcases hp.heads hk6 with ⟨rfl, _⟩ | ⟨k, y, _, _, _, rfl, _⟩ | ⟨y, a, b, p1, p2, rfl, _⟩ | ⟨y, a, b, p1, p2, rfl, _⟩ <;> cases e
      clear hL M0 BX h K0
      go_enter Tryd.func82, Tryd.ntmps82
      go_wp2_with fail
      refine hmk.mono ?_
      rintro e w1 ⟨rfl, rfl⟩
      exact ⟨rfl, PlE.bad_ HNO.out HM.out⟩
    · obtain ⟨r, hr⟩ := byte_str x t
      have hmk := mark_yes g _ _ s r x _ M0.b (by rw [hL, hr])
      have M1 := M0.rest r hne
      have HL := Lib.hid hL
      have HR := Lib.hid hr
      have hrs : r.size ≤ 1048576 := by
        have e1 : s.size = (x :: t).length := by rw [← hL]; rfl
        have e2 : r.size = t.length := by rw [← hr]; rfl
        simp at e1
        omega
      have B1 := BX.other ⟨g, 1, none⟩ (.string r) (show V.heap.size ≠ g by omega)
      have HM1 := Lib.hid M1
      have HX := Lib.hid B1
      have HK1 := Lib.hid (K0.setg 1 (.string r))
      clear hL M0 BX h hr B1 M1 K0
      go_enter Tryd.func82, Tryd.ntmps82
      go_wp2_with fail
      refine hmk.mono ?_
      rintro e w1 ⟨rfl, hw1⟩
      have M1 := HM1.out
      have X1 := HX.out
      have K1 := HK1.out
      rw [← hw1] at M1 X1 K1
      have HM1 := Lib.hid M1
      have HX := Lib.hid X1
      have HK1 := Lib.hid K1
      have hzV := K1.size
      have lX := X1.lt
      have HR1 := Lib.hid (HR0.out.below (K1.below hB1 hB2 hBV) (Nat.le_refl _))
      have HL1 := Lib.hid (HL0.out.to (K1.below hL1 hL2 hBL) hLB)
      clear hw1 hmk M1 X1 K1
      by_cases x46 : x = 46
      · subst x46
        go_wp2_with fail
        go_end0
        exact PlE.ok_ (s1 := [46]) (p := []) (by rw [HL.out, ← HR.out]; rfl) (Bc.PL.dot W H) HM1.out HK1.out
      have b46 : (x == 46) = false := by simpa using x46
      by_cases x124 : x = 124
      · subst x124
        obtain ⟨M, hM⟩ : ∃ M, M + 1 = W := ⟨W - 1, by omega⟩
        have eM : IntKind.i64.wrap ((W : Int) - 1) = (M : Int) := by rw [show (M : Int) = (W : Int) - 1 by omega]; exact IntWalk.i64_in _ (by omega)
        have hdv := fun V' => divided_any V.heap.size 0 false 0 V'
        obtain ⟨C, hC⟩ : ∃ C, C = w1.heap.size := ⟨_, rfl⟩
        have HCE := Lib.hid hC
        have hCA : Blk (w1.alloc (.cells #[.int .i64 0, .bool false, .int .i64 0] 76)) C #[.int .i64 0, .bool false, .int .i64 0] 76 := Blk.new _ _ hC
        have hnA := below_new9 w1 (.cells #[.int .i64 0, .bool false, .int .i64 0] 76)
        have hXA := HX.out.alloc (.cells #[.int .i64 0, .bool false, .int .i64 0] 76)
        have hMA := HM1.out.below hnA
        have hKA := HK1.out.more hnA
        have hgC : g < C := by have := HM1.out.b.lt; omega
        have hcC : gc < C := by have := HM1.out.clt; omega
        have hXC : V.heap.size < C := by omega
        have hzA : C < (w1.alloc (.cells #[.int .i64 0, .bool false, .int .i64 0] 76)).heap.size := hCA.lt
        have c0 := hCA.cell 0 (v := .int .i64 0) rfl
        have c1 := hCA.cell 1 (v := .bool false) rfl
        have c2 := hCA.cell 2 (v := .int .i64 0) rfl
        have HCA := Lib.hid hCA
        have HXA := Lib.hid hXA
        have HMA := Lib.hid hMA
        have HKA := Lib.hid hKA
        clear hnA hCA hXA hMA hKA hC
        go_wp2_with fail
        rw [← HCE.out]
        refine (hdv _).mono ?_
        rintro e w3 ⟨rfl, hb3⟩
        have HC3 := Lib.hid (HCA.out.below hb3 HCA.out.lt)
        have HX3 := Lib.hid (HXA.out.below hb3 HXA.out.lt)
        have HM3 := Lib.hid (HMA.out.below hb3)
        have HK3 := Lib.hid (HKA.out.more hb3)
        have HL3 := Lib.hid (HL0.out.to (HK3.out.below hL1 hL2 hBL) hLB)
        have x30 := HX3.out.cell 0 (v := .int .i64 (W : Int)) rfl
        have hnm := number_any g _ _ r M w3 HM3.out.b HL3.out hrs (by omega)
        clear hb3 c0 c1 c2 HCA HXA HMA HKA hdv
        go_wp2_with fail
        refine hnm.mono ?_
        rintro e w4 (⟨m, r2, w5, hN, rfl, hb5, hw4⟩ | ⟨hbad, rfl, hb5⟩)
        · have HN := Lib.hid hN
          have hm1 := hN.2.1
          have hm2 := hN.2.2.1
          obtain ⟨q, hq⟩ : ∃ q, q + m = W := ⟨W - m, by omega⟩
          have hr2 : r2.size ≤ 1048576 := by
            have h9 := congrArg List.length hN.1
            rw [List.length_append] at h9
            have h8 : r.data.toList.length = r.size := rfl
            have h7 : r2.data.toList.length = r2.size := rfl
            omega
          have M4 := (HM3.out.below hb5).rest r2 hne
          have C4 := (HC3.out.below hb5 HC3.out.lt).other ⟨g, 1, none⟩ (.string r2) (show C ≠ g by omega)
          have X4 := (HX3.out.below hb5 HX3.out.lt).other ⟨g, 1, none⟩ (.string r2) (show V.heap.size ≠ g by omega)
          have K4 := (HK3.out.more hb5).setg 1 (.string r2)
          rw [← hw4] at M4 C4 X4 K4
          have d2 := C4.cell 2 (v := .int .i64 0) rfl
          have f2 := C4.free 2
          have C5 : Blk (w4.setCell ⟨C, 2, none⟩ (.int .i64 (m : Int))) C _ _ := C4.set 2 (.int .i64 (m : Int))
          have X5 : Blk (w4.setCell ⟨C, 2, none⟩ (.int .i64 (m : Int))) V.heap.size _ _ := X4.other ⟨C, 2, none⟩ (.int .i64 (m : Int)) (show V.heap.size ≠ C by omega)
          have HM5 := Lib.hid (M4.setx C 2 (.int .i64 (m : Int)) (by omega) (by omega))
          have HK5 := Lib.hid (K4.setx C 2 (.int .i64 (m : Int)) (by omega))
          have c50 := C5.cell 0 (v := .int .i64 0) rfl
          have c51 := C5.cell 1 (v := .bool false) rfl
          have c52 := C5.cell 2 (v := .int .i64 (m : Int)) rfl
          have x50 := X5.cell 0 (v := .int .i64 (W : Int)) rfl
          have x51 := X5.cell 1 (v := .int .i64 (H : Int)) rfl
          have hpa := fun V' => partsV_any W H m q V' ⟨hw1, hw2⟩ ⟨hh1, hh2⟩ hm1 (by omega) hq
          clear hN hb5 hw4 M4 C4 X4 K4 C5 X5 hnm
          go_wp2_with fail
          refine (hpa _).mono ?_
          rintro e w6 ⟨rfl, hb6⟩
          have HM6 := Lib.hid (HM5.out.below hb6)
          have HK6 := Lib.hid (HK5.out.more hb6)
          clear hb6 d2 f2 c50 c51 c52 x50 x51 hpa
          obtain ⟨F, hF⟩ : ∃ F, F = w6.heap.size + 1 := ⟨_, rfl⟩
          have HFE := Lib.hid hF
          have hgF : g < F := by have := HM6.out.b.lt; omega
          have hcF : gc < F := by have := HM6.out.clt; omega
          have hn7 : Below w6.heap.size w6 ((w6.alloc (.cells #[.int .i64 (m : Int), .int .i64 (H : Int)] 67)).alloc (.cells #[.int .i64 (q : Int), .int .i64 (H : Int)] 67)) := (below_new9 w6 _).alloc (by simp) _
          have HF7 : Hid (Blk ((w6.alloc (.cells #[.int .i64 (m : Int), .int .i64 (H : Int)] 67)).alloc (.cells #[.int .i64 (q : Int), .int .i64 (H : Int)] 67)) F #[.int .i64 (q : Int), .int .i64 (H : Int)] 67) := Lib.hid (Blk.new _ _ (by simp [hF]))
          have HM7 := Lib.hid (HM6.out.below hn7)
          have HK7 := Lib.hid (HK6.out.more hn7)
          clear hn7 hF
          go_wp2_with fail
          rw [← HFE.out]
          generalize ((w6.alloc (.cells #[.int .i64 (m : Int), .int .i64 (H : Int)] 67)).alloc (.cells #[.int .i64 (q : Int), .int .i64 (H : Int)] 67)) = w7 at HF7 HM7 HK7 ⊢
          have HR7 := Lib.hid (HR0.out.below (HK7.out.below hB1 hB2 hBV) (Nat.le_refl _))
          have HL7 := Lib.hid (HL0.out.to (HK7.out.below hL1 hL2 hBL) hLB)
          have z7 := HK7.out.size
          have hWH : (W : Int) * H ≤ 1600 := by
            have := Int.mul_le_mul (a := (W : Int)) (b := (H : Int)) (c := 40) (d := 40) (by omega) (by omega) (by omega) (by omega)
            omega
          have hsplit := Bc.area_split m W H (by omega)
          have hpos1 : (0 : Int) ≤ (m : Int) * H := Int.mul_nonneg (by omega) (by omega)
          have hpos2 : (0 : Int) ≤ ((W - m : Nat) : Int) * ((H : Nat) : Int) := Int.mul_nonneg (by omega) (by omega)
          refine (bracketed_any ks hk6 m H A n c g gc r2 cs w7 HM7.out hne hr2 (fun r' V' hr' hR' hK' => IH.out m H r' cs V' (by omega) (by omega) (by omega) (by omega) (by omega) hr' (fun y hy => by have := HCS.out y hy; omega) hR' (HR7.out.below (hK'.below hB1 hB2 (by omega)) (Nat.le_refl _)) (by have := hK'.size; omega) (HL7.out.to (hK'.below hL1 hL2 (by omega)) hLB) (by have := hK'.size; omega))).mono ?_
          rintro e w8 (⟨s1, r3, p1, hs1, hP1, rfl, M8, k8⟩ | ⟨hbad, rfl, k8⟩)
          · have HS1 := Lib.hid hs1
            have HP1 := Lib.hid hP1
            have HM8 := Lib.hid M8
            have HK8 := Lib.hid (HK7.out.trans k8)
            have B8 := k8.blk HF7.out (by omega) (by omega)
            have b0 := B8.cell 0 (v := .int .i64 (q : Int)) rfl
            have b1 := B8.cell 1 (v := .int .i64 (H : Int)) rfl
            have hr3 : r3.size ≤ 1048576 := by
              have h9 := congrArg List.length hs1
              simp only [List.length_cons, List.length_append] at h9
              have h8 : r2.data.toList.length = r2.size := rfl
              have h7 : r3.data.toList.length = r3.size := rfl
              omega
            have HR8 := Lib.hid (HR0.out.below (HK8.out.below hB1 hB2 hBV) (Nat.le_refl _))
            have HL8 := Lib.hid (HL0.out.to (HK8.out.below hL1 hL2 hBL) hLB)
            have z8 := HK8.out.size
            have hl1 := (hP1.facts HOK.out.1 (by omega) (by omega)).2.2.1
            have hl2 : (p1.length : Int) ≤ (m : Int) * H := by
              have : ((m * H : Nat) : Int) = (m : Int) * H := Int.natCast_mul _ _
              omega
            have hb2 := addP_bd p1 cs (1000000 - (W : Int) * H) (by omega) HCS.out
            have hqd : ((q : Int)) * H = ((W - m : Nat) : Int) * ((H : Nat) : Int) := by rw [show q = W - m by omega, show H = H by omega]
            have hbr := bracketed_any ks hk6 q H A n c g gc r3 (Bc.addP cs p1) w8 HM8.out hne hr3 (fun r' V' hr' hR' hK' => IH.out q H r' (Bc.addP cs p1) V' (by omega) (by omega) (by omega) (by omega) (by omega) hr' (fun y hy => by have := hb2 y hy; omega) hR' (HR8.out.below (hK'.below hB1 hB2 (by omega)) (Nat.le_refl _)) (by have := hK'.size; omega) (HL8.out.to (hK'.below hL1 hL2 (by omega)) hLB) (by have := hK'.size; omega))
            clear hs1 hP1 M8 k8 B8 hl1 hl2 hb2 hqd hsplit hpos1 hpos2
            go_wp2_with fail
            refine hbr.mono ?_
            rintro e w9 (⟨s2, r4, p2, hs2, hP2, rfl, M9, k9⟩ | ⟨hbad, rfl, k9⟩)
            · have HFIN : Hid (s.data.toList = preP (Bc.cutL 124 m s1 s2) r4.data.toList) := Lib.hid (by
                show _ = Bc.cutL 124 m s1 s2 ++ r4.data.toList
                rw [Bc.cut_rest, HL.out, ← HR.out, HN.out.1, HS1.out, hs2])
              have HPF : Hid (Bc.PL ks W H (Bc.cutL 124 m s1 s2) (p1 ++ p2)) := Lib.hid (Bc.PL.ver W H m s1 s2 p1 p2 hm1 (by omega) HP1.out (by rw [show W - m = q by omega]; exact hP2))
              have HMF : Hid (RdM A n c g gc r4 (Bc.addP cs (p1 ++ p2)) w9) := Lib.hid (by rw [Bc.addP_append]; exact M9)
              have HKF := Lib.hid (HK8.out.trans k9)
              clear hs2 hP2 M9 k9
              go_wp2_with fail
              go_end0
              exact PlE.ok_ HFIN.out HPF.out HMF.out HKF.out
            · have HBAD : Hid (∀ (s1 t : List UInt8) (p : List Nat), Bc.PL ks W H s1 p → s.data.toList ≠ preP s1 t) := Lib.hid fun s1' t' p hp e => by
                rw [HL.out] at e
                rcases hp.heads hk6 with ⟨rfl, _⟩ | ⟨k, y, hy, _, _, rfl, _⟩ | ⟨y, a, b, p1', p2', rfl, y1, y2, ha, hb, _⟩ | ⟨y, a, b, p1', p2', rfl, y1, y2, ha, hb, _⟩
                · (injection e with e _; exact absurd e (by decide))
                · injection e with e _; exact (Bc.ltr_ne hk6 hy).2.1 e.symm
                · (simp only [preP, Bc.cut_rest] at e; injection e with _ e; have e9 := HN.out.same (by rw [HR.out]; exact e); obtain ⟨rfl, e10⟩ := e9; have e11 := pre_step hk6 HP1.out ha HS1.out e10; exact hbad b t' p2' (by rw [show q = W - m by omega]; exact hb) e11)
                · (simp only [preP, Bc.cut_rest] at e; injection e with e _; exact absurd e (by decide))
              exact ⟨rfl, PlE.bad_ HBAD.out (HK8.out.trans k9)⟩
          · have HBAD : Hid (∀ (s1 t : List UInt8) (p : List Nat), Bc.PL ks W H s1 p → s.data.toList ≠ preP s1 t) := Lib.hid fun s1' t' p hp e => by
              rw [HL.out] at e
              rcases hp.heads hk6 with ⟨rfl, _⟩ | ⟨k, y, hy, _, _, rfl, _⟩ | ⟨y, a, b, p1', p2', rfl, y1, y2, ha, hb, _⟩ | ⟨y, a, b, p1', p2', rfl, y1, y2, ha, hb, _⟩
              · (injection e with e _; exact absurd e (by decide))
              · injection e with e _; exact (Bc.ltr_ne hk6 hy).2.1 e.symm
              · (simp only [preP, Bc.cut_rest] at e; injection e with _ e; have e9 := HN.out.same (by rw [HR.out]; exact e); obtain ⟨rfl, e10⟩ := e9; exact hbad a (40 :: (b ++ 41 :: t')) p1' ha e10)
              · (simp only [preP, Bc.cut_rest] at e; injection e with e _; exact absurd e (by decide))
            exact ⟨rfl, PlE.bad_ HBAD.out (HK7.out.trans k8)⟩
        · have HBAD : Hid (∀ (s1 t : List UInt8) (p : List Nat), Bc.PL ks W H s1 p → s.data.toList ≠ preP s1 t) := Lib.hid fun s1' t' p hp e => by
            rw [HL.out] at e
            rcases hp.heads hk6 with ⟨rfl, _⟩ | ⟨k, y, hy, _, _, rfl, _⟩ | ⟨y, a, b, p1', p2', rfl, y1, y2, ha, hb, _⟩ | ⟨y, a, b, p1', p2', rfl, y1, y2, ha, hb, _⟩
            · (injection e with e _; exact absurd e (by decide))
            · injection e with e _; exact (Bc.ltr_ne hk6 hy).2.1 e.symm
            · (simp only [preP, Bc.cut_rest] at e; injection e with _ e; exact hbad y _ y1 (by omega) (by rw [HR.out]; exact e))
            · (simp only [preP, Bc.cut_rest] at e; injection e with e _; exact absurd e (by decide))
          exact ⟨rfl, PlE.bad_ HBAD.out (HK3.out.more hb5)⟩
      have b124 : (x == 124) = false := by simpa using x124
      by_cases x45 : x = 45
      · subst x45
        obtain ⟨M, hM⟩ : ∃ M, M + 1 = H := ⟨H - 1, by omega⟩
        have eM : IntKind.i64.wrap ((H : Int) - 1) = (M : Int) := by rw [show (M : Int) = (H : Int) - 1 by omega]; exact IntWalk.i64_in _ (by omega)
        have hdv := fun V' => divided_any V.heap.size 0 true 0 V'
        obtain ⟨C, hC⟩ : ∃ C, C = w1.heap.size := ⟨_, rfl⟩
        have HCE := Lib.hid hC
        have hCA : Blk (w1.alloc (.cells #[.int .i64 0, .bool true, .int .i64 0] 76)) C #[.int .i64 0, .bool true, .int .i64 0] 76 := Blk.new _ _ hC
        have hnA := below_new9 w1 (.cells #[.int .i64 0, .bool true, .int .i64 0] 76)
        have hXA := HX.out.alloc (.cells #[.int .i64 0, .bool true, .int .i64 0] 76)
        have hMA := HM1.out.below hnA
        have hKA := HK1.out.more hnA
        have hgC : g < C := by have := HM1.out.b.lt; omega
        have hcC : gc < C := by have := HM1.out.clt; omega
        have hXC : V.heap.size < C := by omega
        have hzA : C < (w1.alloc (.cells #[.int .i64 0, .bool true, .int .i64 0] 76)).heap.size := hCA.lt
        have c0 := hCA.cell 0 (v := .int .i64 0) rfl
        have c1 := hCA.cell 1 (v := .bool true) rfl
        have c2 := hCA.cell 2 (v := .int .i64 0) rfl
        have HCA := Lib.hid hCA
        have HXA := Lib.hid hXA
        have HMA := Lib.hid hMA
        have HKA := Lib.hid hKA
        clear hnA hCA hXA hMA hKA hC
        go_wp2_with fail
        rw [← HCE.out]
        refine (hdv _).mono ?_
        rintro e w3 ⟨rfl, hb3⟩
        have HC3 := Lib.hid (HCA.out.below hb3 HCA.out.lt)
        have HX3 := Lib.hid (HXA.out.below hb3 HXA.out.lt)
        have HM3 := Lib.hid (HMA.out.below hb3)
        have HK3 := Lib.hid (HKA.out.more hb3)
        have HL3 := Lib.hid (HL0.out.to (HK3.out.below hL1 hL2 hBL) hLB)
        have x30 := HX3.out.cell 1 (v := .int .i64 (H : Int)) rfl
        have hnm := number_any g _ _ r M w3 HM3.out.b HL3.out hrs (by omega)
        clear hb3 c0 c1 c2 HCA HXA HMA HKA hdv
        go_wp2_with fail
        refine hnm.mono ?_
        rintro e w4 (⟨m, r2, w5, hN, rfl, hb5, hw4⟩ | ⟨hbad, rfl, hb5⟩)
        · have HN := Lib.hid hN
          have hm1 := hN.2.1
          have hm2 := hN.2.2.1
          obtain ⟨q, hq⟩ : ∃ q, q + m = H := ⟨H - m, by omega⟩
          have hr2 : r2.size ≤ 1048576 := by
            have h9 := congrArg List.length hN.1
            rw [List.length_append] at h9
            have h8 : r.data.toList.length = r.size := rfl
            have h7 : r2.data.toList.length = r2.size := rfl
            omega
          have M4 := (HM3.out.below hb5).rest r2 hne
          have C4 := (HC3.out.below hb5 HC3.out.lt).other ⟨g, 1, none⟩ (.string r2) (show C ≠ g by omega)
          have X4 := (HX3.out.below hb5 HX3.out.lt).other ⟨g, 1, none⟩ (.string r2) (show V.heap.size ≠ g by omega)
          have K4 := (HK3.out.more hb5).setg 1 (.string r2)
          rw [← hw4] at M4 C4 X4 K4
          have d2 := C4.cell 2 (v := .int .i64 0) rfl
          have f2 := C4.free 2
          have C5 : Blk (w4.setCell ⟨C, 2, none⟩ (.int .i64 (m : Int))) C _ _ := C4.set 2 (.int .i64 (m : Int))
          have X5 : Blk (w4.setCell ⟨C, 2, none⟩ (.int .i64 (m : Int))) V.heap.size _ _ := X4.other ⟨C, 2, none⟩ (.int .i64 (m : Int)) (show V.heap.size ≠ C by omega)
          have HM5 := Lib.hid (M4.setx C 2 (.int .i64 (m : Int)) (by omega) (by omega))
          have HK5 := Lib.hid (K4.setx C 2 (.int .i64 (m : Int)) (by omega))
          have c50 := C5.cell 0 (v := .int .i64 0) rfl
          have c51 := C5.cell 1 (v := .bool true) rfl
          have c52 := C5.cell 2 (v := .int .i64 (m : Int)) rfl
          have x50 := X5.cell 0 (v := .int .i64 (W : Int)) rfl
          have x51 := X5.cell 1 (v := .int .i64 (H : Int)) rfl
          have hpa := fun V' => partsH_any W H m q V' ⟨hw1, hw2⟩ ⟨hh1, hh2⟩ hm1 (by omega) hq
          clear hN hb5 hw4 M4 C4 X4 K4 C5 X5 hnm
          go_wp2_with fail
          refine (hpa _).mono ?_
          rintro e w6 ⟨rfl, hb6⟩
          have HM6 := Lib.hid (HM5.out.below hb6)
          have HK6 := Lib.hid (HK5.out.more hb6)
          clear hb6 d2 f2 c50 c51 c52 x50 x51 hpa
          obtain ⟨F, hF⟩ : ∃ F, F = w6.heap.size + 1 := ⟨_, rfl⟩
          have HFE := Lib.hid hF
          have hgF : g < F := by have := HM6.out.b.lt; omega
          have hcF : gc < F := by have := HM6.out.clt; omega
          have hn7 : Below w6.heap.size w6 ((w6.alloc (.cells #[.int .i64 (W : Int), .int .i64 (m : Int)] 67)).alloc (.cells #[.int .i64 (W : Int), .int .i64 (q : Int)] 67)) := (below_new9 w6 _).alloc (by simp) _
          have HF7 : Hid (Blk ((w6.alloc (.cells #[.int .i64 (W : Int), .int .i64 (m : Int)] 67)).alloc (.cells #[.int .i64 (W : Int), .int .i64 (q : Int)] 67)) F #[.int .i64 (W : Int), .int .i64 (q : Int)] 67) := Lib.hid (Blk.new _ _ (by simp [hF]))
          have HM7 := Lib.hid (HM6.out.below hn7)
          have HK7 := Lib.hid (HK6.out.more hn7)
          clear hn7 hF
          go_wp2_with fail
          rw [← HFE.out]
          generalize ((w6.alloc (.cells #[.int .i64 (W : Int), .int .i64 (m : Int)] 67)).alloc (.cells #[.int .i64 (W : Int), .int .i64 (q : Int)] 67)) = w7 at HF7 HM7 HK7 ⊢
          have HR7 := Lib.hid (HR0.out.below (HK7.out.below hB1 hB2 hBV) (Nat.le_refl _))
          have HL7 := Lib.hid (HL0.out.to (HK7.out.below hL1 hL2 hBL) hLB)
          have z7 := HK7.out.size
          have hWH : (W : Int) * H ≤ 1600 := by
            have := Int.mul_le_mul (a := (W : Int)) (b := (H : Int)) (c := 40) (d := 40) (by omega) (by omega) (by omega) (by omega)
            omega
          have hsplit := Bc.area_split' m W H (by omega)
          have hpos1 : (0 : Int) ≤ (W : Int) * m := Int.mul_nonneg (by omega) (by omega)
          have hpos2 : (0 : Int) ≤ ((W : Nat) : Int) * ((H - m : Nat) : Int) := Int.mul_nonneg (by omega) (by omega)
          refine (bracketed_any ks hk6 W m A n c g gc r2 cs w7 HM7.out hne hr2 (fun r' V' hr' hR' hK' => IH.out W m r' cs V' (by omega) (by omega) (by omega) (by omega) (by omega) hr' (fun y hy => by have := HCS.out y hy; omega) hR' (HR7.out.below (hK'.below hB1 hB2 (by omega)) (Nat.le_refl _)) (by have := hK'.size; omega) (HL7.out.to (hK'.below hL1 hL2 (by omega)) hLB) (by have := hK'.size; omega))).mono ?_
          rintro e w8 (⟨s1, r3, p1, hs1, hP1, rfl, M8, k8⟩ | ⟨hbad, rfl, k8⟩)
          · have HS1 := Lib.hid hs1
            have HP1 := Lib.hid hP1
            have HM8 := Lib.hid M8
            have HK8 := Lib.hid (HK7.out.trans k8)
            have B8 := k8.blk HF7.out (by omega) (by omega)
            have b0 := B8.cell 0 (v := .int .i64 (W : Int)) rfl
            have b1 := B8.cell 1 (v := .int .i64 (q : Int)) rfl
            have hr3 : r3.size ≤ 1048576 := by
              have h9 := congrArg List.length hs1
              simp only [List.length_cons, List.length_append] at h9
              have h8 : r2.data.toList.length = r2.size := rfl
              have h7 : r3.data.toList.length = r3.size := rfl
              omega
            have HR8 := Lib.hid (HR0.out.below (HK8.out.below hB1 hB2 hBV) (Nat.le_refl _))
            have HL8 := Lib.hid (HL0.out.to (HK8.out.below hL1 hL2 hBL) hLB)
            have z8 := HK8.out.size
            have hl1 := (hP1.facts HOK.out.1 (by omega) (by omega)).2.2.1
            have hl2 : (p1.length : Int) ≤ (W : Int) * m := by
              have : ((W * m : Nat) : Int) = (W : Int) * m := Int.natCast_mul _ _
              omega
            have hb2 := addP_bd p1 cs (1000000 - (W : Int) * H) (by omega) HCS.out
            have hqd : ((W : Int)) * q = ((W : Nat) : Int) * ((H - m : Nat) : Int) := by rw [show W = W by omega, show q = H - m by omega]
            have hbr := bracketed_any ks hk6 W q A n c g gc r3 (Bc.addP cs p1) w8 HM8.out hne hr3 (fun r' V' hr' hR' hK' => IH.out W q r' (Bc.addP cs p1) V' (by omega) (by omega) (by omega) (by omega) (by omega) hr' (fun y hy => by have := hb2 y hy; omega) hR' (HR8.out.below (hK'.below hB1 hB2 (by omega)) (Nat.le_refl _)) (by have := hK'.size; omega) (HL8.out.to (hK'.below hL1 hL2 (by omega)) hLB) (by have := hK'.size; omega))
            clear hs1 hP1 M8 k8 B8 hl1 hl2 hb2 hqd hsplit hpos1 hpos2
            go_wp2_with fail
            refine hbr.mono ?_
            rintro e w9 (⟨s2, r4, p2, hs2, hP2, rfl, M9, k9⟩ | ⟨hbad, rfl, k9⟩)
            · have HFIN : Hid (s.data.toList = preP (Bc.cutL 45 m s1 s2) r4.data.toList) := Lib.hid (by
                show _ = Bc.cutL 45 m s1 s2 ++ r4.data.toList
                rw [Bc.cut_rest, HL.out, ← HR.out, HN.out.1, HS1.out, hs2])
              have HPF : Hid (Bc.PL ks W H (Bc.cutL 45 m s1 s2) (p1 ++ p2)) := Lib.hid (Bc.PL.hor W H m s1 s2 p1 p2 hm1 (by omega) HP1.out (by rw [show H - m = q by omega]; exact hP2))
              have HMF : Hid (RdM A n c g gc r4 (Bc.addP cs (p1 ++ p2)) w9) := Lib.hid (by rw [Bc.addP_append]; exact M9)
              have HKF := Lib.hid (HK8.out.trans k9)
              clear hs2 hP2 M9 k9
              go_wp2_with fail
              go_end0
              exact PlE.ok_ HFIN.out HPF.out HMF.out HKF.out
            · have HBAD : Hid (∀ (s1 t : List UInt8) (p : List Nat), Bc.PL ks W H s1 p → s.data.toList ≠ preP s1 t) := Lib.hid fun s1' t' p hp e => by
                rw [HL.out] at e
                rcases hp.heads hk6 with ⟨rfl, _⟩ | ⟨k, y, hy, _, _, rfl, _⟩ | ⟨y, a, b, p1', p2', rfl, y1, y2, ha, hb, _⟩ | ⟨y, a, b, p1', p2', rfl, y1, y2, ha, hb, _⟩
                · (injection e with e _; exact absurd e (by decide))
                · injection e with e _; exact (Bc.ltr_ne hk6 hy).2.2 e.symm
                · (simp only [preP, Bc.cut_rest] at e; injection e with e _; exact absurd e (by decide))
                · (simp only [preP, Bc.cut_rest] at e; injection e with _ e; have e9 := HN.out.same (by rw [HR.out]; exact e); obtain ⟨rfl, e10⟩ := e9; have e11 := pre_step hk6 HP1.out ha HS1.out e10; exact hbad b t' p2' (by rw [show q = H - m by omega]; exact hb) e11)
              exact ⟨rfl, PlE.bad_ HBAD.out (HK8.out.trans k9)⟩
          · have HBAD : Hid (∀ (s1 t : List UInt8) (p : List Nat), Bc.PL ks W H s1 p → s.data.toList ≠ preP s1 t) := Lib.hid fun s1' t' p hp e => by
              rw [HL.out] at e
              rcases hp.heads hk6 with ⟨rfl, _⟩ | ⟨k, y, hy, _, _, rfl, _⟩ | ⟨y, a, b, p1', p2', rfl, y1, y2, ha, hb, _⟩ | ⟨y, a, b, p1', p2', rfl, y1, y2, ha, hb, _⟩
              · (injection e with e _; exact absurd e (by decide))
              · injection e with e _; exact (Bc.ltr_ne hk6 hy).2.2 e.symm
              · (simp only [preP, Bc.cut_rest] at e; injection e with e _; exact absurd e (by decide))
              · (simp only [preP, Bc.cut_rest] at e; injection e with _ e; have e9 := HN.out.same (by rw [HR.out]; exact e); obtain ⟨rfl, e10⟩ := e9; exact hbad a (40 :: (b ++ 41 :: t')) p1' ha e10)
            exact ⟨rfl, PlE.bad_ HBAD.out (HK7.out.trans k8)⟩
        · have HBAD : Hid (∀ (s1 t : List UInt8) (p : List Nat), Bc.PL ks W H s1 p → s.data.toList ≠ preP s1 t) := Lib.hid fun s1' t' p hp e => by
            rw [HL.out] at e
            rcases hp.heads hk6 with ⟨rfl, _⟩ | ⟨k, y, hy, _, _, rfl, _⟩ | ⟨y, a, b, p1', p2', rfl, y1, y2, ha, hb, _⟩ | ⟨y, a, b, p1', p2', rfl, y1, y2, ha, hb, _⟩
            · (injection e with e _; exact absurd e (by decide))
            · injection e with e _; exact (Bc.ltr_ne hk6 hy).2.2 e.symm
            · (simp only [preP, Bc.cut_rest] at e; injection e with e _; exact absurd e (by decide))
            · (simp only [preP, Bc.cut_rest] at e; injection e with _ e; exact hbad y _ y1 (by omega) (by rw [HR.out]; exact e))
          exact ⟨rfl, PlE.bad_ HBAD.out (HK3.out.more hb5)⟩
      have b45 : (x == 45) = false := by simpa using x45
      obtain ⟨P, hP⟩ : ∃ P : ByteArray, P = (⟨#[97, 98, 99, 100, 101, 102]⟩ : ByteArray).extract 0 n := ⟨_, rfl⟩
      have hPd : P.data.toList = ([97, 98, 99, 100, 101, 102] : List UInt8).take n := by
        rw [hP]
        simp
      have hsl : ∀ W', (Instr.slice 9 (.string ⟨#[97, 98, 99, 100, 101, 102]⟩) none (some (.int .i64 (n : Int))) none).run Tryd.prog W' = .ok (.string P) W' := fun W' => by
        have hs6 : (⟨#[97, 98, 99, 100, 101, 102]⟩ : ByteArray).size = 6 := rfl
        rw [run_slice_string_to_if W' _ _ _ _ Tryd.underlying9, if_pos ⟨by omega, by omega⟩, hP]
        rfl
      have hix := fun W' => Tryd.strings_Index_one P x W'
      rw [hPd] at hix
      have k0 := HM1.out.b.cell 0 (v := .slice A n c) rfl
      clear hP hPd
      rcases abc_at n hn x with ⟨hi, hno_⟩ | ⟨k, hkn, hxk, hi⟩
      · rw [hi] at hix
        have HBAD : Hid (∀ (s1 t : List UInt8) (p : List Nat), Bc.PL ks W H s1 p → s.data.toList ≠ preP s1 t) := Lib.hid fun s1 t' p hp e => by
          rw [HL.out] at e
          rcases hp.heads hk6 with ⟨rfl, _⟩ | ⟨k, y, hy, _, _, rfl, _⟩ | ⟨y, a, b, p1, p2, rfl, _⟩ | ⟨y, a, b, p1, p2, rfl, _⟩
          · injection e with e _; exact x46 e
          · injection e with e _
            have h1 := (List.getElem?_eq_some_iff.1 hy).1
            exact hno_ k (by rw [← HN.out]; exact h1) e
          · injection e with e _; exact x124 e
          · injection e with e _; exact x45 e
        clear hno_ hi
        go_wp2_with fail
        refine (hix _).mono ?_
        rintro e w2 ⟨rfl, rfl⟩
        go_wp2_with fail
        have HKD := Lib.hid (HK1.out.more (below_drewN' (Below.refl _ _) 1))
        refine wp_region_any (by kernel_rfl) ?_
        change wpAny _ _ _ _ _ _ _ (World.drew _)
        refine wpAny_take (i := 0) (v := ?_) rfl (by kernel_rfl) (by kernel_rfl) (by kernel_rfl) (fun _ _ _ h => h) (Or.inl ⟨by kernel_rfl, ?_⟩) ?_
        rotate_left
        · (intro w; go_simp; first | done | with_reducible rfl)
        refine wpAny_take (i := 1) (v := ?_) rfl (by kernel_rfl) (by kernel_rfl) (by kernel_rfl) (fun _ _ _ h => h) (Or.inl ⟨by kernel_rfl, ?_⟩) ?_
        rotate_left
        · (intro w; go_simp; first | done | with_reducible rfl)
        refine wpAny_take (i := 2) (v := ?_) rfl (by kernel_rfl) (by kernel_rfl) (by kernel_rfl) (fun _ _ _ h => h) (Or.inl ⟨by kernel_rfl, ?_⟩) ?_
        rotate_left
        · (intro w; go_simp; first | done | with_reducible rfl)
        refine wpAny_take (i := 3) (v := undef) rfl (by kernel_rfl) (by kernel_rfl) (by kernel_rfl) (fun _ _ _ h => h) (Or.inr ⟨by kernel_rfl, rfl⟩) ?_
        refine wpAny_take (i := 4) (v := undef) rfl (by kernel_rfl) (by kernel_rfl) (by kernel_rfl) (fun _ _ _ h => h) (Or.inr ⟨by kernel_rfl, rfl⟩) ?_
        refine wpAny_take (i := 5) (v := undef) rfl (by kernel_rfl) (by kernel_rfl) (by kernel_rfl) (fun _ _ _ h => h) (Or.inr ⟨by kernel_rfl, rfl⟩) ?_
        refine wpAny_take (i := 6) (v := undef) rfl (by kernel_rfl) (by kernel_rfl) (by kernel_rfl) (fun _ _ _ h => h) (Or.inr ⟨by kernel_rfl, rfl⟩) ?_
        refine wpAny_take (i := 7) (v := undef) rfl (by kernel_rfl) (by kernel_rfl) (by kernel_rfl) (fun _ _ _ h => h) (Or.inr ⟨by kernel_rfl, rfl⟩) ?_
        refine wpAny_take (i := 8) (v := undef) rfl (by kernel_rfl) (by kernel_rfl) (by kernel_rfl) (fun _ _ _ h => h) (Or.inr ⟨by kernel_rfl, rfl⟩) ?_
        refine wpAny_take (i := 9) (v := undef) rfl (by kernel_rfl) (by kernel_rfl) (by kernel_rfl) (fun _ _ _ h => h) (Or.inr ⟨by kernel_rfl, rfl⟩) ?_
        refine wpAny_take (i := 10) (v := undef) rfl (by kernel_rfl) (by kernel_rfl) (by kernel_rfl) (fun _ _ _ h => h) (Or.inr ⟨by kernel_rfl, rfl⟩) ?_
        refine wpAny_take (i := 11) (v := undef) rfl (by kernel_rfl) (by kernel_rfl) (by kernel_rfl) (fun _ _ _ h => h) (Or.inr ⟨by kernel_rfl, rfl⟩) ?_
        refine wpAny_take (i := 12) (v := ?_) rfl (by kernel_rfl) (by kernel_rfl) (by kernel_rfl) (fun _ _ _ h => h) (Or.inl ⟨by kernel_rfl, ?_⟩) ?_
        rotate_left
        · (intro w; go_simp; first | done | with_reducible rfl)
        refine wpAny_ready (rs := [13]) (by kernel_rfl) (by simp) ?_
        refine AllReady.cons rfl (fun K hK => ?_) AllReady.nil
        rw [if_pos (by kernel_rfl)]
        go_simp
        refine (hno _).mono ?_
        rintro e w3 ⟨rfl, rfl⟩
        exact ⟨rfl, PlE.bad_ HBAD.out HKD.out⟩
      · have hkI : (k : Int) < (n : Int) := by omega
        have hk0 : (0 : Int) ≤ (k : Int) := by omega
        have hk0B : ¬ (k : Int) < 0 := by omega
        obtain ⟨kb, ko, y, rfl, hkb, hy, y0, y1, y2⟩ := HR1.out.at_Kd hkn
        have HY := Lib.hid hy
        have lkb : kb < w1.heap.size := by have := HK1.out.size; omega
        have xx0 := HX.out.cell 0 (v := .int .i64 (W : Int)) rfl
        have xx1 := HX.out.cell 1 (v := .int .i64 (H : Int)) rfl
        have lg := HM1.out.b.lt
        obtain ⟨d, hd⟩ : ∃ d, decide (y.w ≤ (W : Int) ∧ y.h ≤ (H : Int)) = d := ⟨_, rfl⟩
        have hft := fun V' => fits_any y ⟨(W : Int), (H : Int)⟩ d V' hd
        have HD := Lib.hid hd
        have HXK := Lib.hid hxk
        rw [hi] at hix
        clear hy hd hi hxk
        cases d
        · have HBAD : Hid (∀ (s1 t : List UInt8) (p : List Nat), Bc.PL ks W H s1 p → s.data.toList ≠ preP s1 t) := Lib.hid fun s1 t' p hp e => by
            rw [HL.out] at e
            rcases hp.heads hk6 with ⟨rfl, _⟩ | ⟨k', y', hy', f1, f2, rfl, _⟩ | ⟨y, a, b, p1, p2, rfl, _⟩ | ⟨y, a, b, p1, p2, rfl, _⟩
            · injection e with e _; exact x46 e
            · injection e with e _
              have h1 := (List.getElem?_eq_some_iff.1 hy').1
              have a1 := Bc.ltr_nat (k := k') (by omega)
              have a2 := Bc.ltr_nat (k := k) (by omega)
              rw [← e, HXK.out] at a1
              obtain rfl : k = k' := by omega
              have h3 := HY.out.symm.trans hy'
              injection h3 with h3
              subst h3
              exact of_decide_eq_false HD.out ⟨f1, f2⟩
            · injection e with e _; exact x124 e
            · injection e with e _; exact x45 e
          go_wp2_with fail
          refine (hix _).mono ?_
          rintro e w2 ⟨rfl, rfl⟩
          have hD2 : Below w2.heap.size w2 w2.drew := below_drewN' (Below.refl _ _) 1
          go_wp2_with fail
          refine wp_region_held_drew (S := (fun V' => V'.cell? ⟨g, 0, none⟩ = some (.slice (some ⟨kb, ko, none⟩) n c) ∧ V'.cell? ⟨kb, ko + k * 3, none⟩ = some (.int .i64 y.w) ∧ V'.cell? ⟨kb, ko + k * 3 + 1, none⟩ = some (.int .i64 y.h) ∧ V'.cell? ⟨kb, ko + k * 3 + 2, none⟩ = some (.int .i64 y.v) ∧ V'.cell? ⟨V.heap.size, 0, none⟩ = some (.int .i64 (W : Int)) ∧ V'.cell? ⟨V.heap.size, 1, none⟩ = some (.int .i64 (H : Int)))) (by kernel_rfl) ⟨k0, y0, y1, y2, xx0, xx1⟩ (fun hHeld => ?_)
          refine wpAnyH_take (i := 0) (v := ?_) rfl (by kernel_rfl) (by kernel_rfl) (by kernel_rfl) (fun _ _ _ h => h) (Or.inl ⟨by kernel_rfl, ?_⟩) (by assumption) ?_
          rotate_left
          · (intro w hSw; obtain ⟨s0, s1, s2, s3, s4, s5⟩ := hSw; go_simp; first | done | with_reducible rfl)
          refine wpAnyH_take (i := 1) (v := ?_) rfl (by kernel_rfl) (by kernel_rfl) (by kernel_rfl) (fun _ _ _ h => h) (Or.inl ⟨by kernel_rfl, ?_⟩) (by assumption) ?_
          rotate_left
          · (intro w hSw; obtain ⟨s0, s1, s2, s3, s4, s5⟩ := hSw; go_simp; first | done | with_reducible rfl)
          refine wpAnyH_take (i := 2) (v := ?_) rfl (by kernel_rfl) (by kernel_rfl) (by kernel_rfl) (fun _ _ _ h => h) (Or.inl ⟨by kernel_rfl, ?_⟩) (by assumption) ?_
          rotate_left
          · (intro w hSw; obtain ⟨s0, s1, s2, s3, s4, s5⟩ := hSw; go_simp; first | done | with_reducible rfl)
          refine wpAnyH_take (i := 3) (v := ?_) rfl (by kernel_rfl) (by kernel_rfl) (by kernel_rfl) (fun _ _ _ h => h) (Or.inl ⟨by kernel_rfl, ?_⟩) (by assumption) ?_
          rotate_left
          · (intro w hSw; obtain ⟨s0, s1, s2, s3, s4, s5⟩ := hSw; go_simp; first | done | with_reducible rfl)
          refine wpAnyH_take (i := 4) (v := ?_) rfl (by kernel_rfl) (by kernel_rfl) (by kernel_rfl) (fun _ _ _ h => h) (Or.inl ⟨by kernel_rfl, ?_⟩) (by assumption) ?_
          rotate_left
          · (intro w hSw; obtain ⟨s0, s1, s2, s3, s4, s5⟩ := hSw; go_simp; first | done | with_reducible rfl)
          refine wpAnyH_take (i := 5) (v := ?_) rfl (by kernel_rfl) (by kernel_rfl) (by kernel_rfl) (fun _ _ _ h => h) (Or.inl ⟨by kernel_rfl, ?_⟩) (by assumption) ?_
          rotate_left
          · (intro w hSw; obtain ⟨s0, s1, s2, s3, s4, s5⟩ := hSw; go_simp; first | done | with_reducible rfl)
          refine wpAnyH_take (i := 6) (v := ?_) rfl (by kernel_rfl) (by kernel_rfl) (by kernel_rfl) (fun _ _ _ h => h) (Or.inl ⟨by kernel_rfl, ?_⟩) (by assumption) ?_
          rotate_left
          · (intro w hSw; obtain ⟨s0, s1, s2, s3, s4, s5⟩ := hSw; go_simp; first | done | with_reducible rfl)
          refine wpAnyH_take (i := 7) (v := ?_) rfl (by kernel_rfl) (by kernel_rfl) (by kernel_rfl) (fun _ _ _ h => h) (Or.inl ⟨by kernel_rfl, ?_⟩) (by assumption) ?_
          rotate_left
          · (intro w hSw; obtain ⟨s0, s1, s2, s3, s4, s5⟩ := hSw; go_simp; first | done | with_reducible rfl)
          refine wpAnyH_take (i := 8) (v := ?_) rfl (by kernel_rfl) (by kernel_rfl) (by kernel_rfl) (fun _ _ _ h => h) (Or.inl ⟨by kernel_rfl, ?_⟩) (by assumption) ?_
          rotate_left
          · (intro w hSw; obtain ⟨s0, s1, s2, s3, s4, s5⟩ := hSw; go_simp; first | done | with_reducible rfl)
          refine wpAnyH_take (i := 9) (v := ?_) rfl (by kernel_rfl) (by kernel_rfl) (by kernel_rfl) (fun _ _ _ h => h) (Or.inl ⟨by kernel_rfl, ?_⟩) (by assumption) ?_
          rotate_left
          · (intro w hSw; obtain ⟨s0, s1, s2, s3, s4, s5⟩ := hSw; go_simp; first | done | with_reducible rfl)
          refine wpAnyH_take (i := 10) (v := ?_) rfl (by kernel_rfl) (by kernel_rfl) (by kernel_rfl) (fun _ _ _ h => h) (Or.inl ⟨by kernel_rfl, ?_⟩) (by assumption) ?_
          rotate_left
          · (intro w hSw; obtain ⟨s0, s1, s2, s3, s4, s5⟩ := hSw; go_simp; first | done | with_reducible rfl)
          refine wpAnyH_ready (rs := [11]) (by kernel_rfl) (by simp) ?_
          refine AllReadyH.cons rfl (fun K hK => ?_) AllReadyH.nil
          rw [if_pos (by kernel_rfl)]
          go_simp
          refine (hft _).mono ?_
          rintro e w3 ⟨rfl, hbk⟩
          refine hK.out _ _ ⟨(hbk.cell (show g < w2.heap.size from lg)).trans k0, (hbk.cell (show kb < w2.heap.size from lkb)).trans y0, (hbk.cell (show kb < w2.heap.size from lkb)).trans y1, (hbk.cell (show kb < w2.heap.size from lkb)).trans y2, (hbk.cell (show V.heap.size < w2.heap.size from lX)).trans xx0, (hbk.cell (show V.heap.size < w2.heap.size from lX)).trans xx1⟩ (fun hHeld2 => ?_)
          have hK3 := HK1.out.more (hD2.trans (hbk.mono (szD12' w2)))
          refine wpAnyH_take (i := 12) (v := ?_) rfl (by kernel_rfl) (by kernel_rfl) (by kernel_rfl) (fun _ _ _ h => h) (Or.inl ⟨by kernel_rfl, ?_⟩) (by assumption) ?_
          rotate_left
          · (intro w hSw; obtain ⟨s0, s1, s2, s3, s4, s5⟩ := hSw; go_simp; first | done | with_reducible rfl)
          refine wpAnyH_ready (rs := [13]) (by kernel_rfl) (by simp) ?_
          refine AllReadyH.cons rfl (fun K' hK' => ?_) AllReadyH.nil
          rw [if_pos (by kernel_rfl)]
          go_simp
          refine (hno _).mono ?_
          rintro e w4 ⟨rfl, rfl⟩
          exact ⟨rfl, PlE.bad_ HBAD.out hK3⟩
        · have o0 := HM1.out.o
          have hkl : k < cs.length := by have := o0.rd.1; omega
          obtain ⟨gq, z, hq1, _, _, _, hz, cz, fz⟩ := o0.at_ (k := k) hkn
          injection hq1 with hq1
          injection hq1 with hq1 _ _
          subst hq1
          have HZ := Lib.hid hz
          have hzb := HCS.out z (List.mem_of_getElem? hz)
          have hWH : (0 : Int) ≤ (W : Int) * H := Int.mul_nonneg (by omega) (by omega)
          have ez : IntKind.i64.wrap (z + 1) = z + 1 := IntWalk.i64_in _ (by omega)
          have HCT : Hid (cs.set k (z + 1) = Bc.addP cs [k]) := Lib.hid (by
            show _ = cs.set k (cs.getD k 0 + 1)
            rw [List.getD_eq_getElem?_getD, hz]
            rfl)
          have hsf := HD.out
          have hP : Hid (Bc.PL ks W H [Bc.ltr k] [k]) := Lib.hid (Bc.PL.one W H k y HY.out (of_decide_eq_true HD.out).1 (of_decide_eq_true HD.out).2)
          clear o0 hz cz fz hsf
          go_wp2_with fail
          refine (hix _).mono ?_
          rintro e w2 ⟨rfl, rfl⟩
          have hD2 : Below w2.heap.size w2 w2.drew := below_drewN' (Below.refl _ _) 1
          go_wp2_with fail
          go_region_held3 (fun V' => V'.cell? ⟨g, 0, none⟩ = some (.slice (some ⟨kb, ko, none⟩) n c) ∧ V'.cell? ⟨kb, ko + k * 3, none⟩ = some (.int .i64 y.w) ∧ V'.cell? ⟨kb, ko + k * 3 + 1, none⟩ = some (.int .i64 y.h) ∧ V'.cell? ⟨kb, ko + k * 3 + 2, none⟩ = some (.int .i64 y.v) ∧ V'.cell? ⟨V.heap.size, 0, none⟩ = some (.int .i64 (W : Int)) ∧ V'.cell? ⟨V.heap.size, 1, none⟩ = some (.int .i64 (H : Int)))
            (first | go_keep | (refine ⟨?_, ?_, ?_, ?_, ?_, ?_⟩ <;> (first | go_keep | (rw [hbk.cell (by first | omega | (simp; done) | (simp; omega))]; first | assumption | go_keep))))
            (first
              | (go_at_call 92; with_reducible refine (hft _).mono ?_; rintro e' w3 ⟨rfl, hbk⟩; have hb3 := hD2.trans (hbk.mono (szD12' w2)))
              | (go_at_call 83; with_reducible refine (hyes _).mono ?_; rintro e' w4 ⟨rfl, rfl⟩))
          have M4 := HM1.out.below hb3
          have K4 := HK1.out.more hb3
          have g2 := M4.b.cell 2 (v := .slice (some ⟨gc, 0, none⟩) n n) rfl
          obtain ⟨gq, z', hq1, _, _, _, hz', cz, fz⟩ := M4.o.at_ (k := k) hkn
          injection hq1 with hq1
          injection hq1 with hq1 _ _
          subst hq1
          obtain rfl : z = z' := by have h9 := HZ.out.symm.trans hz'; injection h9
          have HMF : Hid (RdM (some ⟨kb, ko, none⟩) n c g gc r (Bc.addP cs [k]) _) := Lib.hid (by rw [← HCT.out]; exact M4.count k (z + 1) hne)
          have HKF := Lib.hid (K4.setc k (.int .i64 (z + 1)))
          have HSF : Hid (s.data.toList = preP [Bc.ltr k] r.data.toList) := Lib.hid (by rw [HL.out, ← HR.out, HXK.out]; rfl)
          clear M4 K4 hz' hb3 hbk
          go_wp2_with fail
          go_end0
          exact PlE.ok_ HSF.out hP.out HMF.out HKF.out
end Go.Proofs.YtbhofhobnbhhhaaDoor
namespace Go.Proofs.YtbhofhobnbhhhaaDoor
open Go.RowKit
set_option linter.unusedVariables false

theorem catch_no (p : Addr) (x : Value) (u : TypeId) (pv : Value) (older : List PanicEntry) (w : World) (hc : w.cell? p = some x) (hz : w.frozen? p = false) :
    CallsD Tryd.prog 81 #[.pointer (some p)] (.panicking ({ v := .iface u pv, recovered := false } :: older)) w fun e u' w' =>
      e = .returned (.tuple #[]) ∧ u' = .panicking ({ v := .iface u pv, recovered := true } :: older) ∧ w' = w.setCell p (.bool false) := by
  have hnil : ∀ W : World, (binOp BinOp.eql 20 (.iface u pv) .nilIface).run Tryd.prog W = .ok (.bool false) W := fun _ => by kernel_rfl
  refine callsD_of_wpS Tryd.func81 rfl fun c₀ cs hu => ?_
  apply wpS_region
  simp [wpOpsS, go_sem, recoverD, hu, Tryd.ntmps81, hc, hz, hnil, bodyPostS, results, Tryd.results81]
theorem catch_ok (p : Addr) (x : Value) (w : World) (hc : w.cell? p = some x) (hz : w.frozen? p = false) :
    CallsD Tryd.prog 81 #[.pointer (some p)] .returning w fun e u' w' => e = .returned (.tuple #[]) ∧ u' = .returning ∧ w' = w.setCell p (.bool true) := by
  have hnil : ∀ W : World, (binOp BinOp.eql 20 .nilIface .nilIface).run Tryd.prog W = .ok (.bool true) W := fun _ => by kernel_rfl
  refine callsD_of_wpS Tryd.func81 rfl fun c₀ cs hu => ?_
  apply wpS_region
  simp [wpOpsS, go_sem, recoverD, hu, Tryd.ntmps81, hc, hz, hnil, bodyPostS, results, Tryd.results81]
  cases c₀
  simp at hu
  rw [hu]
theorem own_tight {V : World} {lo hi n c gc : Nat} {l : List Int} (h : Own I V lo hi 2 (.slice (some ⟨gc, 0, none⟩) n c) l) : Own I V gc (gc + 1) 2 (.slice (some ⟨gc, 0, none⟩) n c) l := by
  refine ⟨⟨h.1.1, ?_⟩, fun k hk => by simp [Value.ownBlock] at hk; omega⟩
  rcases h.1.2 with hn | ⟨g, cap, cur, hv, hb, r⟩
  · exact .inl hn
  · injection hv with hA hn_ hc_
    injection hA with hA
    injection hA with hA _ _
    subst hA
    exact .inr ⟨gc, cap, cur, by rw [hn_, hc_], Nat.le_refl _, r⟩
theorem below_setK12 {B : Nat} {w W : World} {g' i : Nat} {v : Value} (h : Below B w W) (hb : B ≤ g') : Below B w (W.setCell ⟨g', i, none⟩ v) := below_set9 h hb
/-- What countsOf hands back: the counts of a plan, or nil where there is none. -/
def CoE (ks : List Kd) (W H : Nat) (s : ByteArray) (w : World) (e : Ending) (w' : World) : Prop :=
  (∃ (gc n : Nat) (p : List Nat), Bc.PL ks W H s.data.toList p ∧ n = ks.length ∧ e = .returned (.tuple #[.slice (some ⟨gc, 0, none⟩) n n, .bool true]) ∧ Own I w' w.heap.size w'.heap.size 2 (.slice (some ⟨gc, 0, none⟩) n n) (Bc.addP (List.replicate n 0) p) ∧ Below w.heap.size w w') ∨
  ((∀ p, ¬ Bc.PL ks W H s.data.toList p) ∧ e = .returned (.tuple #[.slice none 0 0, .bool false]) ∧ Below w.heap.size w w')
theorem CoE.ok_ {ks : List Kd} {W H : Nat} {s : ByteArray} {w w' : World} {gc n : Nat} {p : List Nat} (h1 : Bc.PL ks W H s.data.toList p) (h2 : n = ks.length) (h3 : Own I w' w.heap.size w'.heap.size 2 (.slice (some ⟨gc, 0, none⟩) n n) (Bc.addP (List.replicate n 0) p)) (h4 : Below w.heap.size w w') : CoE ks W H s w (.returned (.tuple #[.slice (some ⟨gc, 0, none⟩) n n, .bool true])) w' := .inl ⟨gc, n, p, h1, h2, rfl, h3, h4⟩
theorem CoE.bad_ {ks : List Kd} {W H : Nat} {s : ByteArray} {w w' : World} (h1 : ∀ p, ¬ Bc.PL ks W H s.data.toList p) (h4 : Below w.heap.size w w') : CoE ks W H s w (.returned (.tuple #[.slice none 0 0, .bool false])) w' := .inr ⟨h1, rfl, h4⟩
set_option maxRecDepth 100000 in
set_option maxHeartbeats 4000000 in
theorem countsOf_any (ks : List Kd) (hok : Bc.okL ks = true) (W H : Nat) (A : Option Addr) (n c B : Nat) (s : ByteArray) (w : World) (hr : RdS Kd.S w B A n ks) (hB : B ≤ w.heap.size) (hL : Lb w) (hs : s.size ≤ 1048576) (hW : 1 ≤ W ∧ W ≤ 40) (hH : 1 ≤ H ∧ H ≤ 40) :
    Calls Tryd.prog 62 #[.slice A n c, .agg #[.int .i64 (W : Int), .int .i64 (H : Int)], .string s] w fun e w' => CoE ks W H s w e w' := by
  have hmf : ∀ (fn : Fn) (first cap : Array Value) (w : World), (Instr.makeFunc fn first cap).run Tryd.prog w = .ok (.func fn first cap) w := fun _ _ _ _ => rfl
  obtain ⟨i0, hi0, hz0_, hz1, hz2⟩ := info_parts infoI
  have HOKK := Lib.hid hok
  have HOK := Lib.hid (Bc.okL_iff.1 hok)
  have hk6 := HOK.out.2.2
  have hn : n ≤ 6 := by have := hr.1; omega
  have HLEN := Lib.hid hr.1
  have hno := req_no
  have hyes := req_yes
  have HLB := hL.bd
  have hrep : ∀ x ∈ List.replicate n (0 : Int), 0 ≤ x ∧ x ≤ 1000000 - (W : Int) * H := fun x hx => by
    have := Int.mul_le_mul (a := (W : Int)) (b := (H : Int)) (c := 40) (d := 40) (by omega) (by omega) (by omega) (by omega)
    rw [List.eq_of_mem_replicate hx]
    omega
  have sb0 : Blk ((w.alloc (.cells #[.int .i64 (W : Int), .int .i64 (H : Int)] 67)).alloc (.cells #[.bool false] 4)) w.heap.size #[.int .i64 (W : Int), .int .i64 (H : Int)] 67 := (Blk.new _ _ rfl).alloc _
  have ok0 : Blk ((w.alloc (.cells #[.int .i64 (W : Int), .int .i64 (H : Int)] 67)).alloc (.cells #[.bool false] 4)) (w.heap.size + 1) #[.bool false] 4 := Blk.new _ _ (by simp)
  have hb0 : Below w.heap.size w ((w.alloc (.cells #[.int .i64 (W : Int), .int .i64 (H : Int)] 67)).alloc (.cells #[.bool false] 4)) := (below_new9 w _).alloc (by simp) _
  have hz0 : ((w.alloc (.cells #[.int .i64 (W : Int), .int .i64 (H : Int)] 67)).alloc (.cells #[.bool false] 4)).heap.size = w.heap.size + 2 := by simp
  have HSB := Lib.hid sb0
  have HOKB := Lib.hid ok0
  have HB0 := Lib.hid hb0
  have HZ0 := Lib.hid hz0
  have HREP := Lib.hid hrep
  have HR := Lib.hid hr
  have HLL := Lib.hid hL
  clear sb0 ok0 hb0 hz0 hrep hr hL
  go_enter_defers Tryd.func62, Tryd.ntmps62
  go_wp2_with (at_make; refine wp_fresh _ rfl _ _ 37 rfl 2 i0 (0 : Int) 8 Tryd.underlying37 hi0 hz0_ hz1 hz2 rfl .i64 .i64 _ _ n rfl rfl rfl rfl (by omega) (by omega) ?_; intro gc w2 ho2 hb2; have SB2 := (HSB.out.below hb2 HSB.out.lt).alloc (.cells #[.slice A n c, .string s, .slice (some ⟨gc, 0, none⟩) n n] 117); have p0 := SB2.cell 0 (v := .int .i64 (W : Int)) rfl; have p1 := SB2.cell 1 (v := .int .i64 (H : Int)) rfl; have HO2 := Lib.hid ho2; have HB2 := Lib.hid hb2; clear ho2 hb2 SB2)
  have hz2 : w.heap.size + 2 ≤ w2.heap.size := by have h9 := HB2.out.size; rw [HZ0.out] at h9; exact h9
  have hgl := HO2.out.lt gc rfl
  rw [HZ0.out] at hgl
  have hB2 : Below w.heap.size w w2 := HB0.out.trans (HB2.out.mono HB0.out.size)
  have hB3 : Below w.heap.size w (w2.alloc (.cells #[.slice A n c, .string s, .slice (some ⟨gc, 0, none⟩) n n] 117)) := hB2.alloc (by omega) _
  have OK3 : Blk (w2.alloc (.cells #[.slice A n c, .string s, .slice (some ⟨gc, 0, none⟩) n n] 117)) (w.heap.size + 1) #[.bool false] 4 := (HOKB.out.below HB2.out HOKB.out.lt).alloc _
  have M3 : RdM A n c w2.heap.size gc s (List.replicate n 0) (w2.alloc (.cells #[.slice A n c, .string s, .slice (some ⟨gc, 0, none⟩) n n] 117)) := ⟨Blk.new _ _ rfl, (own_tight HO2.out).alloc _⟩
  have h3 : w.heap.size < (w2.alloc (.cells #[.slice A n c, .string s, .slice (some ⟨gc, 0, none⟩) n n] 117)).heap.size := by simp; omega
  generalize (w2.alloc (.cells #[.slice A n c, .string s, .slice (some ⟨gc, 0, none⟩) n n] 117)) = w3 at hB3 OK3 M3 p0 p1 h3 ⊢
  have hpl := planRd_any ks HOKK.out A n c w2.heap.size gc B w.heap.size (by omega) (by omega) HLB (by omega) (by omega) (by omega) (W + H) W H s (List.replicate n 0) w3 (Nat.le_refl _) hW.1 hW.2 hH.1 hH.2 hs HREP.out M3 (HR.out.below hB3 hB) (by omega) (HLL.out.below hB3) (by omega)
  have HOK3 := Lib.hid OK3
  have HB3 := Lib.hid hB3
  clear OK3 M3 hB3 hB2
  refine hpl.mono ?_
  rintro e w4 (⟨s1, r, p, hs1, hP, rfl, M4, k4⟩ | ⟨hbad, rfl, k4⟩)
  · have OK4 := Lib.hid (k4.blk HOK3.out (by omega) (by omega))
    have HB4 := Lib.hid (HB3.out.trans (k4.below (B := w.heap.size) (by omega) (by omega) (by omega)))
    have HS1 := Lib.hid hs1
    have HP := Lib.hid hP
    have c1 := M4.b.cell 1 (v := .string r) rfl
    have c2 := M4.b.cell 2 (v := .slice (some ⟨gc, 0, none⟩) n n) rfl
    have hsz4 := k4.size
    have HM4 := Lib.hid M4
    clear hs1 hP M4 k4 hpl
    by_cases hr0 : r.size = 0
    · have e0 := str_eq0 hr0
      have e0B : (r.toList == []) = true := by rw [e0]; rfl
      have HPF : Hid (Bc.PL ks W H s.data.toList p) := Lib.hid (by
        have h9 : r.data.toList = [] := List.eq_nil_of_length_eq_zero hr0
        rw [HS1.out, h9]
        show Bc.PL ks W H (s1 ++ []) p
        rw [List.append_nil]
        exact HP.out)
      have d0 := OK4.out.cell 0 (v := .bool false) rfl
      have f0 := OK4.out.free 0
      have OK5 := Lib.hid (OK4.out.set 0 (.bool true))
      have d5 := OK5.out.cell 0 (v := .bool true) rfl
      have f5 := OK5.out.free 0
      go_wp2_with fail
      refine (hyes _).mono ?_
      rintro e w5 ⟨rfl, rfl⟩
      go_wp2_with fail
      refine leaves_cons (f := 81) (args := #[.pointer (some ⟨w.heap.size + 1, 0, none⟩)]) (by simp) (by simp [go_sem]) ?_
      refine (catch_ok ⟨w.heap.size + 1, 0, none⟩ (.bool true) _ d5 f5).mono ?_
      rintro e u' w'' ⟨rfl, rfl, rfl⟩
      have x0 := (OK5.out.set 0 (.bool true)).cell 0 (v := .bool true) rfl
      have HBF := Lib.hid (below_setK12 (below_setK12 HB4.out (g' := w.heap.size + 1) (i := 0) (v := .bool true) (by omega)) (g' := w.heap.size + 1) (i := 0) (v := .bool true) (by omega))
      have HOF := Lib.hid (((HM4.out.setx (w.heap.size + 1) 0 (.bool true) (by omega) (by omega)).setx (w.heap.size + 1) 0 (.bool true) (by omega) (by omega)).o.mono (lo' := w.heap.size) (hi' := ((w5.setCell ⟨w.heap.size + 1, 0, none⟩ (.bool true)).setCell ⟨w.heap.size + 1, 0, none⟩ (.bool true)).heap.size) (by omega) (by have := HM4.out.clt; simp; omega))
      simp [Leaves, settle, results, Tryd.results62, go_sem, x0]
      exact CoE.ok_ HPF.out HLEN.out.symm HOF.out HBF.out
    · have hr1 := str_ne0 (s := r) (by omega)
      have hr1B : (r.toList == []) = false := by simpa using hr1
      have HBAD : Hid (∀ p, ¬ Bc.PL ks W H s.data.toList p) := Lib.hid fun p' hp' => by
        have h9 := (Bc.PL.pre hk6 hp' HP.out (t := []) (by rw [List.append_nil]; exact HS1.out)).2
        have h8 : r.data.toList.length = r.size := rfl
        rw [← h9] at h8
        simp at h8
        omega
      go_wp2_with fail
      refine (hno _).mono ?_
      rintro e w5 ⟨rfl, rfl⟩
      unfold PC12
      refine leaves_cons (f := 81) (args := #[.pointer (some ⟨w.heap.size + 1, 0, none⟩)]) (by simp) (by simp [go_sem]) ?_
      refine (catch_no ⟨w.heap.size + 1, 0, none⟩ (.bool false) _ _ [] _ (OK4.out.cell 0 rfl) (OK4.out.free 0)).mono ?_
      rintro e u' w'' ⟨rfl, rfl, rfl⟩
      have x0 := (OK4.out.set 0 (.bool false)).cell 0 (v := .bool false) rfl
      have HBF := Lib.hid (below_setK12 HB4.out (g' := w.heap.size + 1) (i := 0) (v := .bool false) (by omega))
      simp [Leaves, settle, results, Tryd.results62, go_sem, x0]
      exact CoE.bad_ HBAD.out HBF.out
  · have OK4 := Lib.hid (k4.blk HOK3.out (by omega) (by omega))
    have HB4 := Lib.hid (HB3.out.trans (k4.below (B := w.heap.size) (by omega) (by omega) (by omega)))
    have HBAD : Hid (∀ p, ¬ Bc.PL ks W H s.data.toList p) := Lib.hid fun p' hp' => hbad s.data.toList [] p' hp' (by show _ = s.data.toList ++ []; rw [List.append_nil])
    clear k4 hpl hbad
    unfold PC12
    refine leaves_cons (f := 81) (args := #[.pointer (some ⟨w.heap.size + 1, 0, none⟩)]) (by simp) (by simp [go_sem]) ?_
    refine (catch_no ⟨w.heap.size + 1, 0, none⟩ (.bool false) _ _ [] _ (OK4.out.cell 0 rfl) (OK4.out.free 0)).mono ?_
    rintro e u' w'' ⟨rfl, rfl, rfl⟩
    have x0 := (OK4.out.set 0 (.bool false)).cell 0 (v := .bool false) rfl
    have HBF := Lib.hid (below_setK12 HB4.out (g' := w.heap.size + 1) (i := 0) (v := .bool false) (by omega))
    simp [Leaves, settle, results, Tryd.results62, go_sem, x0]
    exact CoE.bad_ HBAD.out HBF.out
end Go.Proofs.YtbhofhobnbhhhaaDoor
namespace Go.Proofs.YtbhofhobnbhhhaaDoor
open Go.RowKit
set_option linter.unusedVariables false

def PcF (w0 h0 : Int) (l : List Kd) (s : List UInt8) (w : World) (e : Ending) (w' : World) : Prop := ∃ (cs : List Int) (C : Int), Bc.PcR w0 h0 l s cs C ∧ LC w cs C e w'
set_option maxRecDepth 100000 in
set_option maxHeartbeats 4000000 in
theorem implPce_any (w0 h0 : Int) (A : Option Addr) (n c B : Nat) (l : List Kd) (s : ByteArray) (w : World) (hLb : Lb w) (h : RdS Kd.S w B A n l) (hB : B ≤ w.heap.size) (hn : n ≤ 1048577) (hc : n ≤ c) (hs : s.size ≤ 1048576) :
    Calls Tryd.prog 26 #[.int .i64 w0, .int .i64 h0, .slice A n c, .string s] w fun e w' => PcE w0 h0 l s.data.toList w e w' := by
  obtain ⟨C, hC⟩ : ∃ C, Bc.code w0 h0 l = C := ⟨_, rfl⟩
  have hco := checkCut_any w0 h0 A n c B l C w h hB hn hc hC
  by_cases hc0 : C = 0
  · subst hc0
    obtain ⟨hok, hos⟩ := Bc.code0 hC
    have hss := Bc.okS_iff.1 hos
    have HC := Lib.hid hC
    have HOK := Lib.hid hok
    have HL := Lib.hid h.1
    obtain ⟨W, rfl⟩ : ∃ W : Nat, w0 = (W : Int) := ⟨w0.toNat, by omega⟩
    obtain ⟨H, rfl⟩ : ∃ H : Nat, h0 = (H : Int) := ⟨h0.toNat, by omega⟩
    have hs' : (1 ≤ W ∧ W ≤ 40) ∧ (1 ≤ H ∧ H ≤ 40) := by omega
    have hct := fun V hV hR hz => countsOf_any l HOK.out W H A n c B s V hR hz hV hs hs'.1 hs'.2
    clear hC hok hos hss
    go_enter Tryd.func26, Tryd.ntmps26
    go_wp2_with fail
    refine hco.mono ?_
    rintro e w1 ⟨rfl, hb1⟩
    have z1 := hb1.size
    clear hco
    go_wp2_with fail
    refine (hct w1 (hLb.below hb1) (h.below hb1 hB) (by omega)).mono ?_
    rintro e w3 (⟨gc, n3, p, hP, rfl, rfl, ho, hb3⟩ | ⟨hbad, rfl, hb3⟩)
    · have hf := hP.facts (Bc.okL_iff.1 HOK.out).1 (by omega) (by omega)
      have HR : Hid (Bc.PcR (W : Int) (H : Int) l s.data.toList (Bc.addP (List.replicate l.length 0) p) 0) := Lib.hid (.inr (.inl ⟨HC.out, rfl, p, hP, rfl⟩))
      have HBD : Hid (∀ x ∈ Bc.addP (List.replicate l.length (0 : Int)) p, 0 ≤ x ∧ x ≤ 1600) := Lib.hid fun x hx => by
        have h1 := addP_bd p (List.replicate l.length 0) 0 (by omega) (fun y hy => by rw [List.eq_of_mem_replicate hy]; omega) x hx
        have h2 := hf.2.2.1
        have h3 : W * H ≤ 40 * 40 := Nat.mul_le_mul hs'.1.2 hs'.2.2
        omega
      have HO := Lib.hid ho
      have HB := Lib.hid (hb1.trans (hb3.mono z1))
      have hl6 := (Bc.okL_iff.1 HOK.out).2.2
      clear ho hb3 hP hf hct
      go_wp2_with fail
      go_ret2
      exact PcE.mk_ HR.out HBD.out (LC.mk_ rfl rfl HO.out z1 (Nat.le_refl _) (by omega) HB.out)
    · have HR : Hid (Bc.PcR (W : Int) (H : Int) l s.data.toList [] 6) := Lib.hid (.inr (.inr ⟨HC.out, rfl, rfl, fun p hp => hbad p hp⟩))
      have HB := Lib.hid (hb1.trans (hb3.mono z1))
      clear hb3 hct hbad
      go_wp2_with fail
      go_ret2
      exact PcE.mk_ HR.out (by simp) (LC.nil_ rfl rfl HB.out)
  · have hcB : (C != 0) = true := by simpa using hc0
    have HR : Hid (Bc.PcR w0 h0 l s.data.toList [] C) := Lib.hid (.inl ⟨by rw [hC]; exact hc0, rfl, hC.symm⟩)
    clear hC
    go_enter Tryd.func26, Tryd.ntmps26
    go_wp2_with fail
    refine hco.mono ?_
    rintro e w1 ⟨rfl, hb1⟩
    clear hco
    go_wp2_with fail
    go_ret2
    exact PcE.mk_ HR.out (by simp) (LC.nil_ rfl rfl hb1)
theorem implPnc_any (w0 h0 : Int) (A : Option Addr) (n c B : Nat) (l : List Kd) (s : ByteArray) (w : World) (hLb : Lb w) (h : RdS Kd.S w B A n l) (hB : B ≤ w.heap.size) (hn : n ≤ 1048577) (hc : n ≤ c) (b1 : Bc.i64 w0) (b2 : Bc.i64 h0) (hs : s.size ≤ 1048576) :
    Calls Tryd.prog 26 #[.int .i64 w0, .int .i64 h0, .slice A n c, .string s] w fun e w' => PcF w0 h0 l s.data.toList w e w' :=
  (implPce_any w0 h0 A n c B l s w hLb h hB hn hc hs).mono fun e w' ⟨cs, C, h1, _, h3⟩ => ⟨cs, C, h1, h3⟩
set_option maxRecDepth 100000 in
set_option maxHeartbeats 4000000 in
theorem implPv_any (w0 h0 : Int) (A : Option Addr) (n c B : Nat) (l : List Kd) (s : ByteArray) (w : World) (hLb : Lb w) (h : RdS Kd.S w B A n l) (hB : B ≤ w.heap.size) (hn : n ≤ 1048577) (hc : n ≤ c) (b1 : Bc.i64 w0) (b2 : Bc.i64 h0) (hs : s.size ≤ 1048576) :
    Calls Tryd.prog 23 #[.int .i64 w0, .int .i64 h0, .slice A n c, .string s] w fun e w' => PvE (Bc.pvR l) w0 h0 l s.data.toList w e w' := by
  have hpc := implPce_any w0 h0 A n c B l s w hLb h hB hn hc hs
  have HRD := Lib.hid h
  clear hLb b1 b2
  go_enter Tryd.func23, Tryd.ntmps23
  go_wp2_with fail
  refine hpc.mono ?_
  rintro e w1 ⟨cs, C, hpr, hbd, A3, n3, c3, rfl, ho3, hn3, hb3⟩
  have HPR := Lib.hid hpr
  have HBD := Lib.hid hbd
  have HL3 := Lib.hid ho3.rd.1
  have HR3 := Lib.hid ho3.rd
  have HB3 := Lib.hid hb3
  have HRD3 := Lib.hid (HRD.out.below hb3 hB)
  have HZ3 := Lib.hid hb3.size
  by_cases hc0 : C = 0
  rotate_left
  · have hcB : (C != 0) = true := by simpa using hc0
    have HE : Hid (Bc.pvR l cs C = 0) := Lib.hid (by
      rcases PcR_len hpr with ⟨h2, _⟩ | ⟨h2, _⟩
      · subst h2; exact Bc.sumV_nil l
      · exact absurd h2 hc0)
    clear hpr hbd ho3 hb3 hpc
    go_wp2_with fail
    go_ret2
    exact PvE.mk_ HPR.out HE.out HB3.out
  subst hc0
  obtain ⟨hcl, hok, hos⟩ : cs.length = l.length ∧ Bc.okL l = true ∧ Bc.okS w0 h0 = true := by
    rcases PcR_len hpr with ⟨_, h1⟩ | h1
    · exact absurd rfl h1
    · exact h1.2
  have HCL := Lib.hid hcl
  have HOK := Lib.hid (Bc.okL_iff.1 hok)
  have hn36 : n3 ≤ 6 := by
    have := HL3.out
    have h2 := HOK.out.2.2
    omega
  clear hpr hbd ho3 hb3 hpc hcl hok hos
  go_wp2_with fail
  go_loop [12, 28] (fun t i => ∃ (k : Nat) (v : Int), k ≤ n3 ∧ i = .int .i64 k ∧ t = .int .i64 v ∧ (0 ≤ v ∧ v ≤ 1600000 * k) ∧ Hid (Bc.sumV (l.take k) (cs.take k) = v)) (fun _ i => n3 - (intOf i).toNat)
  case atStart => exact ⟨0, 0, Nat.zero_le _, rfl, rfl, by omega, Lib.hid (by simp [Bc.sumV])⟩
  case round =>
    obtain ⟨k, v, hk, rfl, rfl, hv, HV⟩ := hrel
    by_cases hlt : k < n3
    · have hkn : k < n := by have := HL3.out; have := HRD3.out.1; have := HCL.out; omega
      have hknI : (k : Int) < (n : Int) := by omega
      have hltI : (k : Int) < (n3 : Int) := by omega
      obtain ⟨b1, o1, x, rfl, _, hx, cx⟩ := HR3.out.at_ hlt
      obtain ⟨b2, o2, y, rfl, hbB, hy, y0, y1, y2⟩ := HRD3.out.at_Kd hkn
      have hxb := HBD.out x (List.mem_of_getElem? hx)
      have hyb := Bc.okK_iff.1 (HOK.out.1 y (List.mem_of_getElem? hy))
      obtain ⟨z, hz⟩ : ∃ z, x * y.v = z := ⟨_, rfl⟩
      have hzb := Bc.mul_kv hxb hyb.2.2
      rw [hz] at hzb
      have e1 : IntKind.i64.wrap (x * y.v) = z := by rw [hz]; exact IntWalk.i64_in _ (by omega)
      have e2 : IntKind.i64.wrap (v + z) = v + z := IntWalk.i64_in _ (by omega)
      have HV2 : Hid (Bc.sumV (l.take (k + 1)) (cs.take (k + 1)) = v + z) := Lib.hid (by
        rw [Bc.take_kd l k y hy, List.take_add_one, hx]
        show Bc.sumV (l.take k ++ [y]) (cs.take k ++ [x]) = v + z
        rw [Bc.sumV_snoc y x (by rw [List.length_take, List.length_take, HCL.out]), HV.out, hz])
      clear hx hy hxb hyb hz
      go_wp2_with fail
      go_round
      case rel => exact ⟨k + 1, v + z, by omega, by go_num, rfl, by omega, HV2⟩
      case measure => simp [intOf]; omega
    · obtain rfl : k = n3 := by omega
      have HE : Hid (Bc.pvR l cs 0 = v) := Lib.hid (by
        have h1 := HV.out
        rw [List.take_of_length_le (Nat.le_of_eq HL3.out), List.take_of_length_le (by rw [← HCL.out]; exact Nat.le_of_eq HL3.out)] at h1
        exact h1)
      go_wp2_with fail
      go_ret2
      exact PvE.mk_ HPR.out HE.out HB3.out
set_option maxRecDepth 100000 in
set_option maxHeartbeats 4000000 in
theorem implPw_any (w0 h0 : Int) (A : Option Addr) (n c B : Nat) (l : List Kd) (s : ByteArray) (w : World) (hLb : Lb w) (h : RdS Kd.S w B A n l) (hB : B ≤ w.heap.size) (hn : n ≤ 1048577) (hc : n ≤ c) (b1 : Bc.i64 w0) (b2 : Bc.i64 h0) (hs : s.size ≤ 1048576) :
    Calls Tryd.prog 28 #[.int .i64 w0, .int .i64 h0, .slice A n c, .string s] w fun e w' => PvE (Bc.pwR w0 h0 l) w0 h0 l s.data.toList w e w' := by
  have hpc := implPce_any w0 h0 A n c B l s w hLb h hB hn hc hs
  have HRD := Lib.hid h
  clear hLb b1 b2
  go_enter Tryd.func28, Tryd.ntmps28
  go_wp2_with fail
  refine hpc.mono ?_
  rintro e w1 ⟨cs, C, hpr, hbd, A3, n3, c3, rfl, ho3, hn3, hb3⟩
  have HPR := Lib.hid hpr
  have HBD := Lib.hid hbd
  have HL3 := Lib.hid ho3.rd.1
  have HR3 := Lib.hid ho3.rd
  have HB3 := Lib.hid hb3
  have HRD3 := Lib.hid (HRD.out.below hb3 hB)
  have HZ3 := Lib.hid hb3.size
  by_cases hc0 : C = 0
  rotate_left
  · have hcB : (C != 0) = true := by simpa using hc0
    have HE : Hid (Bc.pwR w0 h0 l cs C = 0) := Lib.hid (if_neg hc0)
    clear hpr hbd ho3 hb3 hpc
    go_wp2_with fail
    go_ret2
    exact PvE.mk_ HPR.out HE.out HB3.out
  subst hc0
  obtain ⟨hcl, hok, hos⟩ : cs.length = l.length ∧ Bc.okL l = true ∧ Bc.okS w0 h0 = true := by
    rcases PcR_len hpr with ⟨_, h1⟩ | h1
    · exact absurd rfl h1
    · exact h1.2
  have HCL := Lib.hid hcl
  have HOK := Lib.hid (Bc.okL_iff.1 hok)
  have hss := Bc.okS_iff.1 hos
  obtain ⟨F, hF⟩ : ∃ F, w0 * h0 = F := ⟨_, rfl⟩
  have hFb : 0 ≤ F ∧ F ≤ 1600 := by
    have h1 := Int.mul_nonneg (a := w0) (b := h0) (by omega) (by omega)
    have h2 := Int.mul_le_mul (a := w0) (b := h0) (c := 40) (d := 40) (by omega) (by omega) (by omega) (by omega)
    omega
  have eF : IntKind.i64.wrap (w0 * h0) = F := by rw [hF]; exact IntWalk.i64_in _ (by omega)
  have HF := Lib.hid hF
  have hn36 : n3 ≤ 6 := by
    have := HL3.out
    have h2 := HOK.out.2.2
    omega
  have hzB : B ≤ w1.heap.size := by have := HZ3.out; omega
  clear hpr hbd ho3 hb3 hpc hcl hok hos hss hF
  go_wp2_with fail
  go_loopw [12, 31] (fun t i wr => ∃ (k : Nat) (v : Int), k ≤ n3 ∧ i = .int .i64 k ∧ t = .int .i64 v ∧ (v ≤ 1600 ∧ -2560000 * k ≤ v) ∧ Hid (F - Bc.sumA (l.take k) (cs.take k) = v) ∧ Below w1.heap.size w1 wr) (fun _ i _ => n3 - (intOf i).toNat)
  case atStart => exact ⟨0, F, Nat.zero_le _, rfl, rfl, by omega, Lib.hid (by simp [Bc.sumA]), Below.refl _ _⟩
  case round =>
    obtain ⟨k, v, hk, rfl, rfl, hv, HV, hqq⟩ := hrel
    by_cases hlt : k < n3
    · have hkn : k < n := by have := HL3.out; have := HRD3.out.1; have := HCL.out; omega
      have hknI : (k : Int) < (n : Int) := by omega
      have hltI : (k : Int) < (n3 : Int) := by omega
      obtain ⟨b1, o1, x, rfl, _, hx, cx⟩ := (HR3.out.below hqq (Nat.le_refl _)).at_ hlt
      obtain ⟨b2, o2, y, rfl, hbB, hy, y0, y1, y2⟩ := (HRD3.out.below hqq hzB).at_Kd hkn
      have hxb := HBD.out x (List.mem_of_getElem? hx)
      have hyk := HOK.out.1 y (List.mem_of_getElem? hy)
      have hyb := Bc.okK_iff.1 hyk
      obtain ⟨a, ha⟩ : ∃ a, y.w * y.h = a := ⟨_, rfl⟩
      have har := fun V => kArea_any y a V hyk ha
      obtain ⟨z, hz⟩ : ∃ z, x * a = z := ⟨_, rfl⟩
      have hxz : x * y.w * y.h = z := by rw [← hz, ← ha, Int.mul_assoc]
      have hzb := (Bc.mul_kd hxb hyb.1 hyb.2.1).2
      rw [hxz] at hzb
      have e1 : IntKind.i64.wrap (x * a) = z := by rw [hz]; exact IntWalk.i64_in _ (by omega)
      have e2 : IntKind.i64.wrap (v - z) = v - z := IntWalk.i64_in _ (by omega)
      have HV2 : Hid (F - Bc.sumA (l.take (k + 1)) (cs.take (k + 1)) = v - z) := Lib.hid (by
        rw [Bc.take_kd l k y hy, List.take_add_one, hx]
        show F - Bc.sumA (l.take k ++ [y]) (cs.take k ++ [x]) = v - z
        rw [Bc.sumA_snoc y x (by rw [List.length_take, List.length_take, HCL.out]), hxz]
        have := HV.out
        omega)
      clear hx hy hxb hyk hyb ha hz hxz
      go_wp2_with fail
      refine (har _).mono ?_
      rintro e w5 ⟨rfl, hb5⟩
      have HB5 := Lib.hid (hqq.trans (hb5.mono hqq.size))
      clear hb5 har
      go_wp2_with fail
      go_roundw
      case rel => exact ⟨k + 1, v - z, by omega, by go_num, rfl, by omega, HV2, HB5.out⟩
      case measure => simp [intOf]; omega
    · obtain rfl : k = n3 := by omega
      have HE : Hid (Bc.pwR w0 h0 l cs 0 = v) := Lib.hid (by
        have h1 := HV.out
        rw [List.take_of_length_le (Nat.le_of_eq HL3.out), List.take_of_length_le (by rw [← HCL.out]; exact Nat.le_of_eq HL3.out)] at h1
        unfold Bc.pwR
        rw [if_pos rfl, HF.out]
        exact h1)
      have HBB := Lib.hid (HB3.out.trans (hqq.mono HZ3.out))
      go_wp2_with fail
      go_ret2
      exact PvE.mk_ HPR.out HE.out HBB.out
end Go.Proofs.YtbhofhobnbhhhaaDoor

/- The cost of a gang that is divided: the model's l11Cost and DividedCost. -/
import Derived.Test.YtilfmnffdloneaaGaPc
import Derived.Test.YtilfmnffdloneaaOrd2
import Derived.Test.YtilfmnffdloneaaPush
namespace Go.Proofs.Ytilfmnffdloneaa
open Go.RowKit
set_option linter.unusedVariables false

def Ga.rises : List Int → Bool
  | a :: b :: t => decide (a < b) && Ga.rises (b :: t)
  | _ => true
theorem Ga.rises_at : ∀ (L : List Int) (k : Nat) (x y : Int), L[k]? = some x → L[k + 1]? = some y → Ga.rises (L.drop k) = (decide (x < y) && Ga.rises (L.drop (k + 1))) := by
  intro L k x y hx hy
  have h1 : k < L.length := (List.getElem?_eq_some_iff.1 hx).1
  have h2 : k + 1 < L.length := (List.getElem?_eq_some_iff.1 hy).1
  have e1 : L.drop k = x :: L.drop (k + 1) := by
    rw [List.drop_eq_getElem_cons h1]
    congr 1
    exact (List.getElem?_eq_some_iff.1 hx).2
  have e2 : L.drop (k + 1) = y :: L.drop (k + 1 + 1) := by
    rw [List.drop_eq_getElem_cons h2]
    congr 1
    exact (List.getElem?_eq_some_iff.1 hy).2
  rw [e1, e2]
  rfl
theorem Ga.rises_end (L : List Int) (k : Nat) (h : L.length ≤ k + 1) : Ga.rises (L.drop k) = true := by
  have : (L.drop k).length ≤ 1 := by rw [List.length_drop]; omega
  match hq : L.drop k with
  | [] => rfl
  | [_] => rfl
  | _ :: _ :: _ => rw [hq] at this; simp at this

set_option maxHeartbeats 1000000 in
theorem gaRises_any (A : Option Addr) (n c B : Nat) (L : List Int) (b : Bool) (w : World) (h : Rd I w B A n L) (hn : n ≤ 1048576) (hb : Ga.rises L = b) :
    Calls Try.prog 62 #[.slice A n c] w fun e w' => e = .returned (.bool b) ∧ Q w w' := by
  have HL : Hid (L.length = n) := h.1
  have HB := Lib.hid hb
  clear hb
  go_enter Try.func62, Try.ntmps62
  go_wp2
  go_loopw [3] (fun i wr => ∃ k : Nat, k ≤ n ∧ i = .int .i64 ((k : Int) + 1) ∧ Hid (Ga.rises L = Ga.rises (L.drop k)) ∧ Q w wr) (fun i _ => n + 1 - (intOf i).toNat)
  case atStart => exact ⟨0, Nat.zero_le _, rfl, Lib.hid rfl, Q.refl _⟩
  case round =>
    obtain ⟨k, hk, rfl, HC, hq⟩ := hrel
    have h := h.q hq
    by_cases hlt : k + 1 < n
    · obtain ⟨b1, o1, x, rfl, hbB, hx, hc⟩ := h.at_ (show k < n by omega)
      obtain ⟨b2, o2, y, e2, _, hy, hc2⟩ := h.at_ hlt
      injection e2 with e2
      injection e2 with e2 e3 _
      subst e2 e3
      have HS : Hid (Ga.rises (L.drop k) = (decide (x < y) && Ga.rises (L.drop (k + 1)))) := Lib.hid (Ga.rises_at L k x y hx hy)
      clear hx hy
      have hlt' : (k : Int) + 1 < (n : Int) := by omega
      have e1 : IntKind.i64.wrap ((k : Int) + 1 - 1) = (k : Int) := by rw [IntWalk.i64_in _ (by omega)]; omega
      have e4 : IntKind.i64.wrap ((k : Int) + 1 + 1) = (k : Int) + 1 + 1 := IntWalk.i64_in _ (by omega)
      obtain ⟨j, hj⟩ : ∃ j : Nat, j = k + 1 := ⟨_, rfl⟩
      have hji : (k : Int) + 1 = (j : Int) := by omega
      rw [← hj] at hc2
      have hjn : j < n := by omega
      have hkn : k < n := by omega
      rw [hji] at e1 e4 hlt' ⊢
      have HJ := Lib.hid hj
      have HJI := Lib.hid hji
      clear hj hji hlt
      by_cases hxy : x < y
      · go_wp2
        go_quiet (fail)
        go_wp2
        go_roundw
        case rel => exact ⟨k + 1, by have := HJ.out; omega, by rw [← HJI.out]; congr 1, Lib.hid (by rw [HC.out, HS.out]; simp [hxy]), hq.more _⟩
        case measure => simp [intOf]; have := HJ.out; omega
      · have hxy' : y ≤ x := by omega
        have HF : Hid (false = b) := Lib.hid (by rw [← HB.out, HC.out, HS.out]; simp [hxy])
        go_wp2
        go_quiet (fail)
        go_wp2
        go_ret
        exact ⟨ret_b HF.out, hq.more _⟩
    · have hlt' : (n : Int) ≤ (k : Int) + 1 := by omega
      have HF : Hid (true = b) := Lib.hid (by rw [← HB.out, HC.out, Ga.rises_end L k (by have := HL.out; omega)])
      go_wp2
      go_ret
      exact ⟨ret_b HF.out, hq⟩


namespace Ga
/-- The quantities of the jobs of a list, and of all others, of the first k jobs. -/
def sel (f q : List Int) (k : Nat) : List Int := ((List.range k).filter fun i : Nat => decide ((i : Int) ∈ f)).map fun i => q.getD i 0
def oth (f q : List Int) (k : Nat) : List Int := ((List.range k).filter fun i : Nat => !decide ((i : Int) ∈ f)).map fun i => q.getD i 0
theorem sel_next (f q : List Int) (k : Nat) : sel f q (k + 1) = sel f q k ++ if (k : Int) ∈ f then [q.getD k 0] else [] := by
  unfold sel
  rw [List.range_succ, List.filter_append, List.map_append]
  by_cases h : (k : Int) ∈ f
  · rw [if_pos h]
    simp [h]
  · rw [if_neg h]
    simp [h]
theorem oth_next (f q : List Int) (k : Nat) : oth f q (k + 1) = oth f q k ++ if (k : Int) ∈ f then [] else [q.getD k 0] := by
  unfold oth
  rw [List.range_succ, List.filter_append, List.map_append]
  by_cases h : (k : Int) ∈ f
  · rw [if_pos h]
    simp [h]
  · rw [if_neg h]
    simp [h]
theorem sel_len (f q : List Int) (k : Nat) : (sel f q k).length + (oth f q k).length = k := by
  induction k with
  | zero => rfl
  | succ k ih =>
    rw [sel_next, oth_next, List.length_append, List.length_append]
    split <;> simp <;> omega
theorem sel_mem {f q : List Int} {k : Nat} (hk : k ≤ q.length) : ∀ x ∈ sel f q k, x ∈ q := by
  intro x hx
  obtain ⟨i, hi, rfl⟩ := List.mem_map.1 hx
  have h1 := List.mem_range.1 (List.mem_filter.1 hi).1
  rw [List.getD_eq_getElem?_getD, List.getElem?_eq_getElem (by omega)]
  exact List.getElem_mem _
theorem oth_mem {f q : List Int} {k : Nat} (hk : k ≤ q.length) : ∀ x ∈ oth f q k, x ∈ q := by
  intro x hx
  obtain ⟨i, hi, rfl⟩ := List.mem_map.1 hx
  have h1 := List.mem_range.1 (List.mem_filter.1 hi).1
  rw [List.getD_eq_getElem?_getD, List.getElem?_eq_getElem (by omega)]
  exact List.getElem_mem _
/-- The cost of a gang that is divided. -/
def cost (sl : Int) (q f : List Int) (z : Int) : Int := least sl (sel f q q.length) + z + if (oth f q q.length).length = 0 then 0 else least sl (oth f q q.length) + z
/-- The lists that divide. -/
def isF (n : Nat) (f : List Int) : Bool := decide (1 ≤ f.length) && (rises f && (wi 6 0 ((n : Int) - 1) f && decide (f.getD 0 0 = 0)))
def dcB (q f : List Int) (z : Int) : Bool := decide (0 ≤ z ∧ z ≤ 1000000) && isF q.length f
def dcC (sl : Int) (q f : List Int) (z : Int) : Int := code sl q (dcB q f z)
def dcR (sl : Int) (q f : List Int) (z : Int) : Int := if dcC sl q f z = 0 then cost sl q f z else 0
end Ga
/-- Two rows have no block in common. -/
def AptG (u v : Value) : Prop := ∀ g, u.ownBlock = some g → v.ownBlock ≠ some g
theorem AptG.symm {u v : Value} (h : AptG u v) : AptG v u := fun g hv hu => h g hu hv
theorem AptG.push {α : Type} {enc : α → Value} {w w' : World} {lo hi : Nat} {e : TypeId} {u u' v : Value} {l : List α} (h : Own enc w lo hi e v l) (ha : AptG u v) (hk : Kept w w' u u') : Own enc w' lo hi e v l ∧ AptG u' v :=
  ⟨h.keep fun g hg => (hk g (h.lt g hg).2.2 fun e => ha g e hg).1, fun g hu hv => (hk g (h.lt g hv).2.2 fun e => ha g e hv).2 hu⟩
set_option maxRecDepth 100000 in
set_option maxHeartbeats 8000000 in
theorem specGaCo_any (sl z : Int) (A1 A2 : Option Addr) (n1 c1 B1 n2 c2 B2 : Nat) (q f : List Int) (R : Int) (w : World) (h1 : Rd I w B1 A1 n1 q) (h2 : Rd I w B2 A2 n2 f) (hB1 : B1 ≤ w.heap.size) (hB2 : B2 ≤ w.heap.size) (hn2 : n2 ≤ 1048576) (hT : Ga.okG sl q = true) (hz : 0 ≤ z ∧ z ≤ 1000000) (hR : Ga.cost sl q f z = R) :
    Calls Try.prog 58 #[.int .i64 sl, .slice A1 n1 c1, .slice A2 n2 c2, .int .i64 z] w fun e w' => e = .returned (.int .i64 R) ∧ Below w.heap.size w w' := by
  obtain ⟨i0, hi0, hz0, hz1, hz2⟩ := info_parts infoI
  have HL1 : Hid (q.length = n1) := Lib.hid h1.1
  have hgg := Ga.okG_iff.1 hT
  have hn6 : n1 ≤ 6 := by rw [← h1.1]; exact hgg.2.2.2.1
  have HQ := Lib.hid hgg.2.2.2.2
  have HSL : Hid ((n1 : Int) ≤ sl) := Lib.hid (by rw [← h1.1]; exact hgg.2.2.1)
  have HR := Lib.hid hR
  have HZ := Lib.hid hz
  have hoa : Own I ((w.alloc (.cells #[] 2)).alloc (.cells #[] 2)) w.heap.size (w.heap.size + 2) 2 (.slice (some ⟨w.heap.size, 0, none⟩) 0 0) ([] : List Int) := ((Own.lit0 I w 2).alloc _).mono (Nat.le_refl _) (by omega)
  have hob : Own I ((w.alloc (.cells #[] 2)).alloc (.cells #[] 2)) w.heap.size (w.heap.size + 2) 2 (.slice (some ⟨w.heap.size + 1, 0, none⟩) 0 0) ([] : List Int) := by
    have h9 := Own.lit0 I (w.alloc (.cells #[] 2)) 2
    have e9 : (w.alloc (.cells #[] 2)).heap.size = w.heap.size + 1 := by simp
    rw [e9] at h9
    exact h9.mono (by omega) (by omega)
  have hb0 : Below w.heap.size w ((w.alloc (.cells #[] 2)).alloc (.cells #[] 2)) := ((Below.refl _ _).alloc (Nat.le_refl _) _).alloc (by simp) _
  have hzz : ((w.alloc (.cells #[] 2)).alloc (.cells #[] 2)).heap.size = w.heap.size + 2 := by simp
  have hap : AptG (.slice (some ⟨w.heap.size, 0, none⟩) 0 0) (.slice (some ⟨w.heap.size + 1, 0, none⟩) 0 0) := fun g hu hv => by
    simp only [Value.ownBlock, Option.some.injEq] at hu hv
    omega
  clear hgg hT hR hz
  go_enter Try.func58, Try.ntmps58
  go_wp2_with fail
  go_loopw [9, 10, 11] (fun a b i wr => ∃ (k : Nat) (Aa : Option Addr) (ma ca : Nat) (Ab : Option Addr) (mb cb : Nat), k ≤ n1 ∧ ma ≤ k ∧ mb ≤ k ∧ i = .int .i64 (k : Int) ∧ a = .slice Aa ma ca ∧ b = .slice Ab mb cb ∧ Own I wr w.heap.size wr.heap.size 2 (.slice Aa ma ca) (Ga.sel f q k) ∧ Own I wr w.heap.size wr.heap.size 2 (.slice Ab mb cb) (Ga.oth f q k) ∧ AptG (.slice Aa ma ca) (.slice Ab mb cb) ∧ Below w.heap.size w wr) (fun _ _ i _ => n1 - (intOf i).toNat)
  case atStart => exact ⟨0, _, _, _, _, _, _, Nat.zero_le _, Nat.le_refl _, Nat.le_refl _, rfl, rfl, rfl, by simpa [Ga.sel] using hoa.mono (Nat.le_refl _) (by omega), by simpa [Ga.oth] using hob.mono (Nat.le_refl _) (by omega), hap, hb0⟩
  case round =>
    clear hoa hob hb0 hzz hap
    obtain ⟨k, Aa, ma, ca, Ab, mb, cb, hk, hma, hmb, rfl, rfl, rfl, ha, hb2, hap, hbw⟩ := hrel
    have hzb := hbw.size
    by_cases hlt : k < n1
    · have hltI : (k : Int) < (n1 : Int) := by omega
      have ek : IntKind.i64.wrap ((k : Int) + 1) = (k : Int) + 1 := IntWalk.i64_in _ (by omega)
      obtain ⟨b1, o1, x, rfl, hb1, hx, cx⟩ := (h1.below hbw hB1).at_ hlt
      have HX2 : Hid (q.getD k 0 = x) := Lib.hid (by rw [List.getD_eq_getElem?_getD, hx]; rfl)
      clear hx
      by_cases hm : (k : Int) ∈ f
      · have hcl := l01Has_yes A2 n2 c2 B2 (k : Int) f wr (h2.below hbw hB2) hn2 hm
        have HS : Hid (Ga.sel f q (k + 1) = Ga.sel f q k ++ [x]) := Lib.hid (by rw [Ga.sel_next, if_pos hm, HX2.out])
        have HO : Hid (Ga.oth f q (k + 1) = Ga.oth f q k) := Lib.hid (by rw [Ga.oth_next, if_pos hm, List.append_nil])
        clear hm
        go_wp2_with fail
        refine hcl.mono ?_
        rintro e _ ⟨rfl, rfl⟩
        go_wp2_with (at_builtin; refine wp_push3 (enc := I) wr rfl _ _ 24 rfl 2 i0 _ 8 Try.underlying24 hi0 hz0 hz1 hz2 rfl Aa ma ca _ _ _ rfl ha x rfl rfl (by omega) (by omega) (by omega) ?_; intro A5 c5 w5 ho5 hm5 hk5; have HP5 := Lib.hid (AptG.push hb2 hap hk5); have HO5 := Lib.hid ho5; have HB5 := Lib.hid (hbw.trans (hm5.below (Nat.le_refl _) hzb)); have hz5 := hm5.size; clear ho5 hm5 hk5)
        go_roundw
        case rel => exact ⟨k + 1, A5, ma + 1, c5, Ab, mb, cb, by omega, by omega, by omega, by go_num, rfl, rfl, by rw [HS.out]; exact HO5.out, by rw [HO.out]; exact HP5.out.1.mono (Nat.le_refl _) hz5, HP5.out.2, HB5.out⟩
        case measure => simp [intOf]; omega
      · have hcl := l01Has_no A2 n2 c2 B2 (k : Int) f wr (h2.below hbw hB2) hn2 hm
        have HS : Hid (Ga.sel f q (k + 1) = Ga.sel f q k) := Lib.hid (by rw [Ga.sel_next, if_neg hm, List.append_nil])
        have HO : Hid (Ga.oth f q (k + 1) = Ga.oth f q k ++ [x]) := Lib.hid (by rw [Ga.oth_next, if_neg hm, HX2.out])
        clear hm
        go_wp2_with fail
        refine hcl.mono ?_
        rintro e _ ⟨rfl, rfl⟩
        go_wp2_with (at_builtin; refine wp_push3 (enc := I) wr rfl _ _ 24 rfl 2 i0 _ 8 Try.underlying24 hi0 hz0 hz1 hz2 rfl Ab mb cb _ _ _ rfl hb2 x rfl rfl (by omega) (by omega) (by omega) ?_; intro A5 c5 w5 ho5 hm5 hk5; have HP5 := Lib.hid (AptG.push ha hap.symm hk5); have HO5 := Lib.hid ho5; have HB5 := Lib.hid (hbw.trans (hm5.below (Nat.le_refl _) hzb)); have hz5 := hm5.size; clear ho5 hm5 hk5)
        go_roundw
        case rel => exact ⟨k + 1, Aa, ma, ca, A5, mb + 1, c5, by omega, by omega, by omega, by go_num, rfl, rfl, by rw [HS.out]; exact HP5.out.1.mono (Nat.le_refl _) hz5, by rw [HO.out]; exact HO5.out, HP5.out.2.symm, HB5.out⟩
        case measure => simp [intOf]; omega
    · obtain rfl : k = n1 := by omega
      have hla := ha.rd.1
      have hlb := hb2.rd.1
      have hsl := Ga.sel_len f q k
      rw [hla, hlb] at hsl
      obtain ⟨x, hx⟩ : ∃ x, Ga.least sl (Ga.sel f q k) = x := ⟨_, rfl⟩
      obtain ⟨y, hy⟩ : ∃ y, Ga.least sl (Ga.oth f q k) = y := ⟨_, rfl⟩
      have hqa : ∀ x ∈ Ga.sel f q k, 1 ≤ x ∧ x ≤ 1000000 := fun x hx => HQ.out x (Ga.sel_mem (by rw [HL1.out]; exact Nat.le_refl _) x hx)
      have hqb : ∀ x ∈ Ga.oth f q k, 1 ≤ x ∧ x ≤ 1000000 := fun x hx => HQ.out x (Ga.oth_mem (by rw [HL1.out]; exact Nat.le_refl _) x hx)
      have hxb := (Ga.least_P (s := sl) hqa (by rw [hla]; have := HSL.out; omega)).1
      have hyb := (Ga.least_P (s := sl) hqb (by rw [hlb]; have := HSL.out; omega)).1
      rw [hx] at hxb
      rw [hy] at hyb
      have hz' := HZ.out
      have e1 : IntKind.i64.wrap (x + z) = x + z := IntWalk.i64_in _ (by omega)
      have e2 : IntKind.i64.wrap (x + z + y) = x + z + y := IntWalk.i64_in _ (by omega)
      have e3 : IntKind.i64.wrap (x + z + y + z) = x + z + y + z := IntWalk.i64_in _ (by omega)
      have hca := specGaL_any sl Aa ma ca wr.heap.size (Ga.sel f q k) x wr ha.rd (Nat.le_refl _) (by omega) hqa (by have := HSL.out; omega) hx
      have hcb := fun W (hW : Below wr.heap.size wr W) => specGaL_any sl Ab mb cb wr.heap.size (Ga.oth f q k) y W (hb2.rd.below hW (Nat.le_refl _)) hW.size (by omega) hqb (by have := HSL.out; omega) hy
      have HCO : Hid (R = x + z + if mb = 0 then 0 else y + z) := Lib.hid (by
        rw [← HR.out]
        unfold Ga.cost
        rw [HL1.out, hx, hy, hlb])
      clear hla hlb hsl hx hy hqa hqb hxb hyb hz' ha hb2
      by_cases hm0 : mb = 0
      · have HE : Hid (x + z = R) := Lib.hid (by rw [HCO.out, if_pos hm0, Int.add_zero])
        subst hm0
        go_wp2_with fail
        refine hca.mono ?_
        rintro e w5 ⟨rfl, hb5⟩
        have HB5 := Lib.hid (hbw.trans (hb5.mono hzb))
        clear hb5 hca hcb
        go_wp2_with fail
        go_ret
        exact ⟨ret_i HE.out, HB5.out⟩
      · have HE : Hid (x + z + y + z = R) := Lib.hid (by rw [HCO.out, if_neg hm0]; omega)
        obtain ⟨m1, rfl⟩ : ∃ m1, mb = m1 + 1 := ⟨mb - 1, by omega⟩
        have hm0I : (0 : Int) < (m1 : Int) + 1 := by omega
        clear hm0
        go_wp2_with fail
        refine hca.mono ?_
        rintro e w5 ⟨rfl, hb5⟩
        have hcb5 := hcb w5 hb5
        have HB5 := Lib.hid (hbw.trans (hb5.mono hzb))
        have hz5 := HB5.out.size
        clear hb5 hca hcb
        go_wp2_with fail
        refine hcb5.mono ?_
        rintro e w6 ⟨rfl, hb6⟩
        have HB6 := Lib.hid (HB5.out.trans (hb6.mono hz5))
        clear hb6 hcb5
        go_wp2_with fail
        go_ret
        exact ⟨ret_i HE.out, HB6.out⟩
end Go.Proofs.Ytilfmnffdloneaa

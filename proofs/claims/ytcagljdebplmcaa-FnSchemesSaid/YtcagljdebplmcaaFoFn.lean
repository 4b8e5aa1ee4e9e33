/- Contracts of FindScheme, the model's and the program's. -/
import Derived.Test.YtcagljdebplmcaaFoEq
import Derived.Test.YtcagljdebplmcaaFoSo
namespace Go.Proofs.Ytcagljdebplmcaa
open Go.RowKit

namespace Fo
theorem sch_mem (n : Nat) : ∀ (a b : Nat) (s t : List UInt8), a + b = n → t ∈ sch s a b → nX t = nX s + a ∧ nY t = nY s + b ∧ (ok s = true → ok t = true) := by
  induction n with
  | zero =>
    intro a b s t h ht
    obtain rfl : a = 0 := by omega
    obtain rfl : b = 0 := by omega
    rw [sch_00] at ht
    obtain rfl := List.mem_singleton.1 ht
    exact ⟨rfl, rfl, id⟩
  | succ n ih =>
    intro a b s t h ht
    have q66 : ∀ a b, a + b = n → t ∈ sch (s ++ [66]) a b → nX t = nX s + a ∧ nY t = nY s + (b + 1) ∧ (ok s = true → ok t = true) := fun a b h ht => by
      obtain ⟨h1, h2, h3⟩ := ih a b _ t h ht
      rw [nX_snoc, if_neg (by decide)] at h1
      rw [nY_snoc, if_neg (by decide)] at h2
      exact ⟨h1, by omega, fun hs => h3 (by rw [ok_snoc, hs]; rfl)⟩
    have q84 : ∀ a b, a + b = n → t ∈ sch (s ++ [84]) a b → nX t = nX s + a ∧ nY t = nY s + (b + 1) ∧ (ok s = true → ok t = true) := fun a b h ht => by
      obtain ⟨h1, h2, h3⟩ := ih a b _ t h ht
      rw [nX_snoc, if_neg (by decide)] at h1
      rw [nY_snoc, if_neg (by decide)] at h2
      exact ⟨h1, by omega, fun hs => h3 (by rw [ok_snoc, hs]; rfl)⟩
    have q76 : ∀ a b, a + b = n → t ∈ sch (s ++ [76]) a b → nX t = nX s + (a + 1) ∧ nY t = nY s + b ∧ (ok s = true → ok t = true) := fun a b h ht => by
      obtain ⟨h1, h2, h3⟩ := ih a b _ t h ht
      rw [nX_snoc, if_pos (by decide)] at h1
      rw [nY_snoc, if_pos (by decide)] at h2
      exact ⟨by omega, h2, fun hs => h3 (by rw [ok_snoc, hs]; rfl)⟩
    have q82 : ∀ a b, a + b = n → t ∈ sch (s ++ [82]) a b → nX t = nX s + (a + 1) ∧ nY t = nY s + b ∧ (ok s = true → ok t = true) := fun a b h ht => by
      obtain ⟨h1, h2, h3⟩ := ih a b _ t h ht
      rw [nX_snoc, if_pos (by decide)] at h1
      rw [nY_snoc, if_pos (by decide)] at h2
      exact ⟨by omega, h2, fun hs => h3 (by rw [ok_snoc, hs]; rfl)⟩
    rcases a with _ | a <;> rcases b with _ | b
    · omega
    · rw [sch_b, List.mem_append] at ht
      rcases ht with ht | ht
      · exact q66 0 b (by omega) ht
      · exact q84 0 b (by omega) ht
    · rw [sch_a, List.mem_append] at ht
      rcases ht with ht | ht
      · exact q76 a 0 (by omega) ht
      · exact q82 a 0 (by omega) ht
    · rw [sch_ab, List.mem_append, List.mem_append, List.mem_append] at ht
      rcases ht with ((ht | ht) | ht) | ht
      · exact q66 (a + 1) b (by omega) ht
      · exact q76 a (b + 1) (by omega) ht
      · exact q82 a (b + 1) (by omega) ht
      · exact q84 (a + 1) b (by omega) ht
theorem sch_scheme {a b : Int} (hs : sheet a b = true) {t : List UInt8} (ht : t ∈ sch [] (pw a) (pw b)) : scheme a b t = true := by
  obtain ⟨h1, h2, h3⟩ := sch_mem _ _ _ [] t rfl ht
  unfold scheme
  rw [hs, h3 rfl]
  have e1 : nX t = pw a := by rw [h1]; show 0 + _ = _; omega
  have e2 : nY t = pw b := by rw [h2]; show 0 + _ = _; omega
  simp [e1, e2]
end Fo

/-- What FindScheme answers. -/
def fnF (lv : List Lv) (L : List (List UInt8)) : Option (List UInt8) := L.find? fun t => smB (LVs t) lv
def fnR (a b : Int) (lv : List Lv) : ByteArray := if Fo.sheet a b = true then (match fnF lv (Fo.sch [] (Fo.pw a) (Fo.pw b)) with | some t => ⟨t.toArray⟩ | none => ⟨#[]⟩) else ⟨#[]⟩
def fnC (a b : Int) (lv : List Lv) : Int := if Fo.sheet a b = true then (match fnF lv (Fo.sch [] (Fo.pw a) (Fo.pw b)) with | some _ => 0 | none => 4) else 1
theorem find_here {lv : List Lv} {L : List (List UInt8)} {k : Nat} {t : List UInt8} (ht : L[k]? = some t) (h : smB (LVs t) lv = true) (hp : fnF lv L = fnF lv (L.drop k)) : fnF lv L = some t := by
  have hlt := (List.getElem?_eq_some_iff.1 ht).1
  rw [hp, List.drop_eq_getElem_cons hlt]
  rw [List.getElem?_eq_getElem hlt] at ht
  injection ht with ht
  unfold fnF
  rw [ht, List.find?_cons, h]
theorem find_next {lv : List Lv} {L : List (List UInt8)} {k : Nat} {t : List UInt8} (ht : L[k]? = some t) (h : smB (LVs t) lv = false) (hp : fnF lv L = fnF lv (L.drop k)) : fnF lv L = fnF lv (L.drop (k + 1)) := by
  have hlt := (List.getElem?_eq_some_iff.1 ht).1
  rw [hp, List.drop_eq_getElem_cons hlt]
  rw [List.getElem?_eq_getElem hlt] at ht
  injection ht with ht
  unfold fnF
  rw [ht, List.find?_cons, h]
theorem find_end {lv : List Lv} {L : List (List UInt8)} {k : Nat} (hk : L.length = k) (hp : fnF lv L = fnF lv (L.drop k)) : fnF lv L = none := by
  rw [hp, List.drop_of_length_le (by omega)]
  rfl

set_option maxRecDepth 100000 in
set_option maxHeartbeats 1000000 in
theorem specFn_any (a b : Int) (A : Option Addr) (n c B : Nat) (lv : List Lv) (w : World) (h : RdV w B A n lv) (hB : B ≤ w.heap.size) :
    Calls Try.prog 34 #[.int .i64 a, .int .i64 b, .slice A n c] w fun e w' => e = .returned (.tuple #[.string (fnR a b lv), .int .i64 (fnC a b lv)]) ∧ Below w.heap.size w w' := by
  by_cases hs : Fo.sheet a b = true
  · obtain ⟨L, hL⟩ : ∃ L, L = Fo.sch [] (Fo.pw a) (Fo.pw b) := ⟨_, rfl⟩
    have HR : Hid (fnR a b lv = match fnF lv L with | some t => ⟨t.toArray⟩ | none => ⟨#[]⟩) := by unfold fnR; rw [if_pos hs, hL]; exact Lib.hid rfl
    have HC : Hid (fnC a b lv = match fnF lv L with | some _ => 0 | none => 4) := by unfold fnC; rw [if_pos hs, hL]; exact Lib.hid rfl
    have HS := Lib.hid hs
    have hall := specAll_any a b w hs
    rw [← hL] at hall
    have HM : Hid (∀ t ∈ L, Fo.scheme a b t = true) := Lib.hid fun t ht => Fo.sch_scheme hs (by rw [← hL]; exact ht)
    clear hs hL
    go_enter Try.func34, Try.ntmps34
    go_wp2_with fail
    refine (specSheet_any a b _).mono ?_
    rintro e _ ⟨rfl, rfl⟩
    rw [HS.out]
    go_wp2_with fail
    refine hall.mono ?_
    rintro e w1 ⟨AL, m, cl, rfl, ho, hm, hb⟩
    have hz := hb.size
    have hrL := ho.rd
    have HL : Hid (L.length = m) := Lib.hid hrL.1
    have h1 := h.below hb hB
    go_wp2_with fail
    go_loopw [9] (fun i wr => ∃ k : Nat, k ≤ m ∧ i = .int .i64 (k : Int) ∧ Hid (fnF lv L = fnF lv (L.drop k)) ∧ Below w1.heap.size w1 wr) (fun i _ => m - (intOf i).toNat)
    case atStart => exact ⟨0, Nat.zero_le _, rfl, Lib.hid rfl, Below.refl _ _⟩
    case round =>
      obtain ⟨k, hk, rfl, HP, hb1⟩ := hrel
      have hz1 := hb1.size
      by_cases hlt : k < m
      · obtain ⟨g, o, t, rfl, hgB, ht, hct⟩ := (hrL.below hb1 (Nat.le_refl _)).at_ hlt
        obtain ⟨ts, hts⟩ : ∃ ts : ByteArray, ts = ⟨t.toArray⟩ := ⟨_, rfl⟩
        have htl : ts.data.toList = t := by rw [hts]
        replace hct : wr.cell? ⟨g, o + k, none⟩ = some (.string ts) := by rw [hts]; exact hct
        have hlv := specLv_any a b ts
        have hsc := HM.out t (List.mem_of_getElem? ht)
        have hlv2 : ∀ W, Calls Try.prog 52 #[.int .i64 a, .int .i64 b, .string ts] W fun e w' => ∃ A n c, e = .returned (.slice A n c) ∧ OwnV w' W.heap.size w'.heap.size (.slice A n c) (LVs t) ∧ n ≤ 64 ∧ Below W.heap.size W w' := fun W => by
          have := hlv W (by rw [htl]; exact hsc)
          rwa [htl] at this
        have HT := Lib.hid (And.intro ht hts)
        have hr2 := h1.below hb1 (by omega)
        clear ht hts htl hlv hsc
        go_wp2_with fail
        refine (hlv2 _).mono ?_
        rintro e w5 ⟨A5, n5, c5, rfl, ho5, hn5, hb5⟩
        have hr5 := hr2.below hb5 (by omega)
        have hct5 : w5.cell? ⟨g, o + k, none⟩ = some (.string ts) := (hb5.cell (p := ⟨g, o + k, none⟩) (by show g < _; omega)).trans hct
        obtain ⟨v, hv⟩ : ∃ v, v = smB (LVs t) lv := ⟨_, rfl⟩
        have HV := Lib.hid hv
        have hsm : ∀ W, RdV W w5.heap.size A5 n5 (LVs t) → RdV W B A n lv → Calls Try.prog 66 #[.slice A5 n5 c5, .slice A n c] W fun e w' => e = .returned (.bool v) ∧ Q W w' := fun W q1 q2 => by rw [hv]; exact same_any _ _ _ _ _ _ _ _ _ _ W q1 q2 (by omega)
        clear hv
        go_wp2_with fail
        refine (hsm _ ho5.rd hr5).mono ?_
        rintro e w6 ⟨rfl, hq⟩
        have hct6 : w6.cell? ⟨g, o + k, none⟩ = some (.string ts) := by obtain ⟨mm, rfl⟩ := hq; exact hct5
        have HB6 := Lib.hid (hb1.trans ((hb5.mono hz1).trans (hq.below _)))
        clear hsm hct hct5 hr5 hr2 hb5 ho5
        cases v
        · have HE := Lib.hid (find_next HT.out.1 HV.out.symm HP.out)
          go_wp2_with fail
          go_roundw
          case rel => exact ⟨k + 1, by omega, by go_num, HE, HB6.out⟩
          case measure => simp [intOf]; omega
        · have hf := find_here HT.out.1 HV.out.symm HP.out
          have HE : Hid (fnR a b lv = ts ∧ fnC a b lv = 0) := Lib.hid ⟨by rw [HR.out, hf, HT.out.2], by rw [HC.out, hf]⟩
          clear hf
          go_wp2_with fail
          go_ret2
          rw [HE.out.1, HE.out.2]
          exact ⟨rfl, hb.trans (HB6.out.mono hz)⟩
      · obtain rfl : k = m := by omega
        have hf := find_end HL.out HP.out
        have HE : Hid (fnR a b lv = ⟨#[]⟩ ∧ fnC a b lv = 4) := Lib.hid ⟨by rw [HR.out, hf], by rw [HC.out, hf]⟩
        clear hf
        go_wp2_with fail
        go_ret2
        rw [HE.out.1, HE.out.2]
        exact ⟨rfl, hb.trans (hb1.mono hz)⟩
  · have HE : Hid (fnR a b lv = ⟨#[]⟩ ∧ fnC a b lv = 1) := Lib.hid ⟨by unfold fnR; rw [if_neg hs], by unfold fnC; rw [if_neg hs]⟩
    have HS : Hid (Fo.sheet a b = false) := Lib.hid (by simpa using hs)
    clear hs
    go_enter Try.func34, Try.ntmps34
    go_wp2_with fail
    refine (specSheet_any a b _).mono ?_
    rintro e _ ⟨rfl, rfl⟩
    rw [HS.out]
    go_wp2_with fail
    go_ret2
    rw [HE.out.1, HE.out.2]
    exact ⟨rfl, Below.refl _ _⟩

set_option maxRecDepth 100000 in
set_option maxHeartbeats 1000000 in
theorem implFn_any (a b : Int) (A : Option Addr) (n c B : Nat) (lv : List Lv) (w : World) (h : RdV w B A n lv) (hB : B ≤ w.heap.size) (hn : n ≤ 1048576) :
    Calls Try.prog 33 #[.int .i64 a, .int .i64 b, .slice A n c] w fun e w' => e = .returned (.tuple #[.string (fnR a b lv), .int .i64 (fnC a b lv)]) ∧ Below w.heap.size w w' := by
  by_cases hs : Fo.sheet a b = true
  · obtain ⟨L, hL⟩ : ∃ L, L = Fo.sch [] (Fo.pw a) (Fo.pw b) := ⟨_, rfl⟩
    have HR : Hid (fnR a b lv = match fnF lv L with | some t => ⟨t.toArray⟩ | none => ⟨#[]⟩) := by unfold fnR; rw [if_pos hs, hL]; exact Lib.hid rfl
    have HC : Hid (fnC a b lv = match fnF lv L with | some _ => 0 | none => 4) := by unfold fnC; rw [if_pos hs, hL]; exact Lib.hid rfl
    have HS := Lib.hid hs
    have hall := implSo_any a b w
    have e1 : soR a b = L := by unfold soR; rw [if_pos hs, hL]
    have e2 : soC a b = 0 := by unfold soC; rw [if_pos hs]
    rw [e1, e2] at hall
    have HM : Hid (∀ t ∈ L, Fo.scheme a b t = true) := Lib.hid fun t ht => Fo.sch_scheme hs (by rw [← hL]; exact ht)
    clear hs hL e1 e2
    go_enter Try.func33, Try.ntmps33
    go_wp2_with fail
    refine hall.mono ?_
    rintro e w1 ⟨AL, m, cl, rfl, ho, hm, hb⟩
    have hz := hb.size
    have hrL := ho.rd
    have HL : Hid (L.length = m) := Lib.hid hrL.1
    have h1 := h.below hb hB
    go_wp2_with fail
    go_loopw [23] (fun i wr => ∃ k : Nat, k ≤ m ∧ i = .int .i64 (k : Int) ∧ Hid (fnF lv L = fnF lv (L.drop k)) ∧ Below w1.heap.size w1 wr) (fun i _ => m - (intOf i).toNat)
    case atStart => exact ⟨0, Nat.zero_le _, rfl, Lib.hid rfl, Below.refl _ _⟩
    case round =>
      obtain ⟨k, hk, rfl, HP, hb1⟩ := hrel
      have hz1 := hb1.size
      by_cases hlt : k < m
      · obtain ⟨g, o, t, rfl, hgB, ht, hct⟩ := (hrL.below hb1 (Nat.le_refl _)).at_ hlt
        obtain ⟨ts, hts⟩ : ∃ ts : ByteArray, ts = ⟨t.toArray⟩ := ⟨_, rfl⟩
        have htl : ts.data.toList = t := by rw [hts]
        replace hct : wr.cell? ⟨g, o + k, none⟩ = some (.string ts) := by rw [hts]; exact hct
        have hsc := HM.out t (List.mem_of_getElem? ht)
        have h6 : ts.size ≤ 6 := by rw [← toList_len, htl]; exact (Fo.scheme_len hsc).1
        have hr2 := h1.below hb1 (by omega)
        obtain ⟨v, hv⟩ : ∃ v, v = smB (LVs t) lv := ⟨_, rfl⟩
        have HV := Lib.hid hv
        have hgv : ∀ W, RdV W B A n lv → B ≤ W.heap.size → Calls Try.prog 65 #[.string ts, .slice A n c] W fun e w' => e = .returned (.bool v) ∧ Below W.heap.size W w' := fun W q1 q2 => by
          rw [hv, ← htl]
          exact gives_any A n c B lv ts W q1 q2 hn h6
        have HT := Lib.hid (And.intro ht hts)
        clear ht hts htl hsc hv h6
        go_wp2_with fail
        refine (hgv _ hr2 (by omega)).mono ?_
        rintro e w6 ⟨rfl, hb5⟩
        have HB6 := Lib.hid (hb1.trans (hb5.mono hz1))
        clear hgv hct hr2 hb5
        cases v
        · have HE := Lib.hid (find_next HT.out.1 HV.out.symm HP.out)
          go_wp2_with fail
          go_roundw
          case rel => exact ⟨k + 1, by omega, by go_num, HE, HB6.out⟩
          case measure => simp [intOf]; omega
        · have hf := find_here HT.out.1 HV.out.symm HP.out
          have HE : Hid (fnR a b lv = ts ∧ fnC a b lv = 0) := Lib.hid ⟨by rw [HR.out, hf, HT.out.2], by rw [HC.out, hf]⟩
          clear hf
          go_wp2_with fail
          go_ret2
          rw [HE.out.1, HE.out.2]
          exact ⟨rfl, hb.trans (HB6.out.mono hz)⟩
      · obtain rfl : k = m := by omega
        have hf := find_end HL.out HP.out
        have HE : Hid (fnR a b lv = ⟨#[]⟩ ∧ fnC a b lv = 4) := Lib.hid ⟨by rw [HR.out, hf], by rw [HC.out, hf]⟩
        clear hf
        go_wp2_with fail
        go_ret2
        rw [HE.out.1, HE.out.2]
        exact ⟨rfl, hb.trans (hb1.mono hz)⟩
  · have HE : Hid (fnR a b lv = ⟨#[]⟩ ∧ fnC a b lv = 1) := Lib.hid ⟨by unfold fnR; rw [if_neg hs], by unfold fnC; rw [if_neg hs]⟩
    have hall := implSo_any a b w
    have e1 : soR a b = [] := by unfold soR; rw [if_neg hs]
    have e2 : soC a b = 1 := by unfold soC; rw [if_neg hs]
    rw [e1, e2] at hall
    clear hs e1 e2
    go_enter Try.func33, Try.ntmps33
    go_wp2_with fail
    refine hall.mono ?_
    rintro e w1 ⟨AL, m, cl, rfl, ho, hm, hb⟩
    go_wp2_with fail
    go_ret2
    rw [HE.out.1, HE.out.2]
    exact ⟨rfl, hb⟩
end Go.Proofs.Ytcagljdebplmcaa

/- Contracts of PageOfLabel, the model's and the program's. -/
import Derived.Test.YtoanopgafihjiaaDoorLblOf
namespace Go.Proofs.YtoanopgafihjiaaDoor
open Go.RowKit Pg Ro

/-- The first of n pages from p on with a label. -/
def fnd (s : Int) (t : ByteArray) : Nat → Int → Option Int
  | 0, _ => none
  | n + 1, p => if labB s p = t then some p else fnd s t n (p + 1)
def poF (r : Bool) (f : Int) (l : List Int) (t : ByteArray) : Option Int := fnd (up r (f + 1)) t (stop r (f + 1) l - 1).toNat 1
def poR (r : Bool) (f : Int) (l : List Int) (t : ByteArray) : Int := if okB f l = true then (poF r f l t).getD 0 else 0
def poC (r : Bool) (f : Int) (l : List Int) (t : ByteArray) : Int := if okB f l = true then (if (poF r f l t).isSome then 0 else 4) else 1
theorem po_found {r : Bool} {f : Int} {l : List Int} {t : ByteArray} {p : Int} (ho : okB f l = true) (h : poF r f l t = some p) : poR r f l t = p ∧ poC r f l t = 0 := by
  unfold poR poC
  rw [if_pos ho, if_pos ho, h]
  exact ⟨rfl, rfl⟩
theorem po_none {r : Bool} {f : Int} {l : List Int} {t : ByteArray} (ho : okB f l = true) (h : poF r f l t = none) : poR r f l t = 0 ∧ poC r f l t = 4 := by
  unfold poR poC
  rw [if_pos ho, if_pos ho, h]
  exact ⟨rfl, rfl⟩
theorem po_bad {r : Bool} {f : Int} {l : List Int} {t : ByteArray} (ho : okB f l = false) : poR r f l t = 0 ∧ poC r f l t = 1 := by
  unfold poR poC
  rw [ho]
  exact ⟨rfl, rfl⟩
/-- The search stands at page p. -/
def FndAt (s e : Int) (t : ByteArray) (p : Int) : Prop := fnd s t (e - 1).toNat 1 = fnd s t (e - p).toNat p
theorem FndAt.start (s e : Int) (t : ByteArray) : FndAt s e t 1 := rfl
theorem FndAt.hit {s e p : Int} {t : ByteArray} (h : FndAt s e t p) (hp : p < e) (ht : labB s p = t) : fnd s t (e - 1).toNat 1 = some p := by
  unfold FndAt at h
  rw [h, show (e - p).toNat = (e - p - 1).toNat + 1 from by omega, fnd, if_pos ht]
theorem FndAt.miss {s e p : Int} {t : ByteArray} (h : FndAt s e t p) (hp : p < e) (ht : ¬ labB s p = t) : FndAt s e t (p + 1) := by
  unfold FndAt at h ⊢
  rw [h, show (e - p).toNat = (e - (p + 1)).toNat + 1 from by omega, fnd, if_neg ht]
theorem FndAt.done {s e : Int} {t : ByteArray} (h : FndAt s e t e) : fnd s t (e - 1).toNat 1 = none := by
  unfold FndAt at h
  rw [h, Int.sub_self]
  rfl
theorem str_ne {t s : ByteArray} (h : ¬ t = s) : (t.toList == s.toList) = false := by
  rw [beq_eq_false_iff_ne, ByteArray.toList_eq, ByteArray.toList_eq]
  intro e
  exact h (by rw [← St_of t, ← St_of s, e])

set_option maxRecDepth 100000 in
set_option maxHeartbeats 2000000 in
theorem specPol_any (f : Int) (A : Option Addr) (n c B : Nat) (r : Bool) (l : List Int) (t : ByteArray) (w : World) (h : Rd I w B A n l) (hB : B ≤ w.heap.size) (hn : n ≤ 1048576) :
    Calls Tryd.prog 15 #[BK f A n c r, .string t] w fun e w' => e = .returned (.tuple #[.int .i64 (poR r f l t), .int .i64 (poC r f l t)]) ∧ Below w.heap.size w w' := by
  have hR0 := h.alloc hB (.cells (BC f A n c r) 26)
  have HL : Hid (l.length = n) := h.1
  by_cases ho : okP f l
  · have HO := Lib.hid (okB_yes ho)
    have HM : Hid (mild f l) := mild_ok ho
    have hn1 : 1 ≤ n := by have := ho.2.1.1; have := HL.out; omega
    have hbd := mild_take HM.out r l.length
    have hge := stop_ge r (f + 1) l (fun c hc => by have := ho.2.2 c hc; omega)
    have hf0 := ho.1.1
    rw [List.take_length] at hbd
    obtain ⟨sp, hsp⟩ : ∃ s, up r (f + 1) = s := ⟨_, rfl⟩
    obtain ⟨ep, hep⟩ : ∃ e, stop r (f + 1) l = e := ⟨_, rfl⟩
    have HF : Hid (poF r f l t = fnd sp t (ep - 1).toNat 1) := by show _ = _; unfold poF; rw [hsp, hep]
    rw [hep] at hbd hge
    obtain ⟨m0, m1⟩ := hbd
    have HSP := Lib.hid hsp
    have HEP := Lib.hid hep
    clear ho hsp hep
    go_enter Tryd.func15, Tryd.ntmps15
    go_wp2_with fail
    refine (specIsBook_is _ _ _ _ _ _ _ _ _ hR0 (by simp; omega) hn HO.out).mono ?_
    rintro e w1 ⟨rfl, hb1⟩
    have a1 := (Blk.new (w := w) (g := w.heap.size) (BC f A n c r) 26 rfl).below hb1 (by simp)
    have a10 := a1.cell 0 (v := .int .i64 f) rfl
    have a11 := a1.cell 1 (v := .slice A n c) rfl
    have a12 := a1.cell 2 (v := .bool r) rfl
    have hB1 : Below w.heap.size w w1 := ((Below.refl w.heap.size w).alloc (Nat.le_refl _) _).trans (hb1.mono (by simp))
    have hz1 := hB1.size
    go_wp2_with fail
    refine (l02Starts_any _ _ _ _ _ _ _ _ (h.below hB1 hB) (by omega) HM.out).mono ?_
    rintro e w2 ⟨A2, n2, c2, rfl, rfl, ho2, hb2⟩
    have hB2 := hB1.trans (hb2.mono hz1)
    have a2 := a1.below hb2 a1.lt
    clear a10 a11 a12 ho2
    rw [HEP.out]
    go_wp2_with fail
    go_loopw [8] (fun i wr => ∃ p : Int, 1 ≤ p ∧ p ≤ ep ∧ i = .int .i64 p ∧ Hid (FndAt sp ep t p) ∧ Below w.heap.size w wr ∧ Blk wr w.heap.size (BC f A n c r) 26) (fun i _ => (ep - intOf i).toNat)
    case atStart => exact ⟨1, by omega, by omega, rfl, FndAt.start _ _ _, hB2, a2⟩
    case round =>
      clear hB2 a2 a1
      obtain ⟨p, hp1, hp2, rfl, hfa, hb, hbl⟩ := hrel
      have a10 := hbl.cell 0 (v := .int .i64 f) rfl
      have a11 := hbl.cell 1 (v := .slice A n c) rfl
      have a12 := hbl.cell 2 (v := .bool r) rfl
      have hzr := hb.size
      by_cases hlt : p < ep
      · obtain ⟨u, hu⟩ : ∃ u, labB sp p = u := ⟨_, rfl⟩
        have HU : Hid (labB (up r (f + 1)) p = u) := by show _ = _; rw [HSP.out, hu]
        by_cases heq : u = t
        · subst heq
          obtain ⟨s1, s2⟩ := po_found HO.out (HF.out.trans (hfa.out.hit hlt hu))
          have S1 := Lib.hid s1
          have S2 := Lib.hid s2
          clear s1 s2 hu
          go_wp2_with fail
          refine (l02Label_any _ _ _ _ _ _ _ _ _ _ (h.below hb hB) (by omega) HM.out hn1 (by omega) (by omega) HU.out).mono ?_
          rintro e w3 ⟨rfl, hb3⟩
          go_wp2_with fail
          go_ret2
          exact ⟨tup_ii S1.out.symm S2.out.symm, hb.trans (hb3.mono hzr)⟩
        · have HN : Hid (FndAt sp ep t (p + 1)) := hfa.out.miss hlt (by rw [hu]; exact heq)
          have hne := str_ne heq
          clear hu heq
          go_wp2_with fail
          refine (l02Label_any _ _ _ _ _ _ _ _ _ _ (h.below hb hB) (by omega) HM.out hn1 (by omega) (by omega) HU.out).mono ?_
          rintro e w3 ⟨rfl, hb3⟩
          go_wp2_with fail
          go_roundw
          case rel => exact ⟨p + 1, by omega, by omega, rfl, HN, hb.trans (hb3.mono hzr), hbl.below hb3 hbl.lt⟩
          case measure => simp [intOf]; omega
      · obtain rfl : p = ep := by omega
        obtain ⟨s1, s2⟩ := po_none HO.out (HF.out.trans hfa.out.done)
        have S1 := Lib.hid s1
        have S2 := Lib.hid s2
        clear s1 s2
        go_wp2_with fail
        go_ret2
        exact ⟨tup_ii S1.out.symm S2.out.symm, hb⟩
  · have HO := Lib.hid (okB_no ho)
    obtain ⟨s1, s2⟩ := po_bad (r := r) (t := t) HO.out
    have S1 := Lib.hid s1
    have S2 := Lib.hid s2
    clear s1 s2 ho
    go_enter Tryd.func15, Tryd.ntmps15
    go_wp2_with fail
    refine (specIsBook_is _ _ _ _ _ _ _ _ _ hR0 (by simp; omega) hn HO.out).mono ?_
    rintro e w1 ⟨rfl, hb1⟩
    go_wp2_with fail
    go_ret2
    exact ⟨tup_ii S1.out.symm S2.out.symm, ((Below.refl w.heap.size w).alloc (Nat.le_refl _) _).trans (hb1.mono (by simp))⟩
end Go.Proofs.YtoanopgafihjiaaDoor

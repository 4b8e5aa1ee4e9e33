/- Contract of the program's ReadLength, over what the standard library's tables and errors hold. -/
import Derived.Test.YtamnhbambklmkaaDoorReadMath2
import Derived.Test.YtamnhbambklmkaaDoorReadSpec
import Derived.Test.YtamnhbambklmkaaDoorL1g
import Derived.Shelf.Strconv.ErrVarParseInt
import Derived.Shelf.Strings.Shaped
import Derived.Lib.AtoiErrMem
namespace Go.Proofs.YtamnhbambklmkaaDoor
open Go.RowKit

/-- What the library's variables hold where ReadLength is called. -/
structure Lb (w : World) : Prop where
  tab : Lib.TabIs Tryd.prog w "internal/strconv.uint64pow10" .u64 Lib.pow10Tab
  ml : ∃ m, w.cell? ⟨1, 0, none⟩ = some (.int .i64 m)
  sx : ∃ t p, w.cell? ⟨2, 0, none⟩ = some (.iface t p)
  rg : ∃ t p, w.cell? ⟨3, 0, none⟩ = some (.iface t p)
theorem Lb.lt {w : World} (h : Lb w) : 0 < w.heap.size := tabIs_lt h.tab gPow
theorem Lb.below {w w' : World} (h : Lb w) (hb : Below w.heap.size w w') : Lb w' :=
  ⟨tabIs_below h.tab hb gPow h.lt, h.ml.imp fun _ h => cell_later hb h, h.sx.imp fun _ h => h.imp fun _ h => cell_later hb h, h.rg.imp fun _ h => h.imp fun _ h => cell_later hb h⟩

theorem cut_any (s p q : ByteArray) (w : World) (h : Lb w) (hs : s.size ≤ 1048576) (hp : p = ⟨(Lib.cut s.data.toList [46]).1.toArray⟩) (hq : q = ⟨(Lib.cut s.data.toList [46]).2.1.toArray⟩) :
    Calls Tryd.prog 18 #[.string s, .string ⟨#[46]⟩] w fun e w' => ∃ b, e = .returned (.tuple #[.string p, .string q, .bool b]) ∧ Below w.heap.size w w' := by
  obtain ⟨m, hm⟩ := h.ml
  refine (Any.strings_Cut { Tryd.laysM145 with } s ⟨#[46]⟩ m w (by omega) hm).mono fun e w' h => ?_
  obtain ⟨he, k, rfl⟩ := h
  subst hp hq
  exact ⟨_, he, below_drewN' (Below.refl _ _) k⟩

/-- How ParseInt ends. -/
def ParE (r : Lib.NumEnd Int) (w : World) (e : Ending) (w' : World) : Prop :=
  (∃ v, r = .ok v ∧ e = .returned (.tuple #[.int .i64 v, .nilIface]) ∧ Below w.heap.size w w') ∨
  ((∀ v, r ≠ .ok v) ∧ ∃ x t p, e = .returned (.tuple #[.int .i64 x, .iface t p]) ∧ Below w.heap.size w w')
theorem parse_any (s : ByteArray) (w : World) (h : Lb w) (hs : s.size ≤ 1048576) :
    Calls Tryd.prog 19 #[.string s, .int .i64 10, .int .i64 64] w (ParE (Lib.atoiAll s.data.toList) w) := by
  obtain ⟨t1, p1, h1⟩ := h.sx
  obtain ⟨t2, p2, h2⟩ := h.rg
  have hB := Lib.parseIntB_64 s.data.toList
  rcases hr : Lib.atoiAll s.data.toList with v | _ | _
  · rw [hr] at hB
    refine (Any.strconv_ParseInt_10_at64_ok Tryd.laysC174 s (by omega) v hB w).mono fun e w' h => ?_
    obtain ⟨he, hw⟩ := h
    refine .inl ⟨v, rfl, he, ?_⟩
    rcases hw with rfl | ⟨t, rfl⟩
    · exact Below.refl _ _
    · exact Lib.bytesWorld_below _ _ _
  · rw [hr] at hB
    refine (Any.strconv_ParseInt_10_at64_syntax Tryd.laysC174 s (by omega) hB _ w h1 (.inr ⟨t1, p1, rfl⟩)).mono fun e w' h => ?_
    obtain ⟨N, he, _, _, hb⟩ := h
    exact .inr ⟨(fun v h => by cases h), _, _, _, he, hb⟩
  · rw [hr] at hB
    refine (Any.strconv_ParseInt_10_at64_range Tryd.laysC174 s (by omega) hB _ w h2 (.inr ⟨t2, p2, rfl⟩)).mono fun e w' h => ?_
    obtain ⟨N, he, _, _, hb⟩ := h
    exact .inr ⟨(fun v h => by cases h), _, _, _, he, hb⟩

set_option maxHeartbeats 1000000 in
theorem implRead_any (s : ByteArray) (w : World) (h : Lb w) (hs : s.size ≤ 1048576) :
    Calls Tryd.prog 9 #[.string s] w (RdE (LenR s) w) := by
  obtain ⟨p, hp⟩ : ∃ p : ByteArray, p = ⟨(Lib.cut s.data.toList [46]).1.toArray⟩ := ⟨_, rfl⟩
  obtain ⟨q, hq⟩ : ∃ q : ByteArray, q = ⟨(Lib.cut s.data.toList [46]).2.1.toArray⟩ := ⟨_, rfl⟩
  have hz : p.size + q.size ≤ s.size := by
    have := cut_len s.data.toList [46]
    rw [toList_len] at this
    have e1 : p.size = (Lib.cut s.data.toList [46]).1.length := by rw [hp]; exact List.size_toArray
    have e2 : q.size = (Lib.cut s.data.toList [46]).2.1.length := by rw [hq]; exact List.size_toArray
    omega
  have hpq : (p ++ q).data.toList = (Lib.cut s.data.toList [46]).1 ++ (Lib.cut s.data.toList [46]).2.1 := by
    rw [hp, hq]
    simp
  have hsum : ¬ p.size + q.size > 9223372036854775807 := by omega
  have HPQ := Lib.hid hpq
  have HC := Lib.hid (fun W (hW : Lb W) => cut_any s p q W hW hs hp hq)
  have HL := Lib.hid h
  have HP : Hid (∀ W, Lb W → Calls Tryd.prog 19 #[.string (p ++ q), .int .i64 10, .int .i64 64] W (ParE (Lib.atoiAll (p ++ q).data.toList) W)) := fun W hW => parse_any (p ++ q) W hW (by rw [ByteArray.size_append]; omega)
  clear hp hq hpq h
  go_enter Tryd.func9, Tryd.ntmps9
  go_wp2_with fail
  refine (HC.out _ HL.out).mono ?_
  rintro e w1 ⟨b, rfl, hb1⟩
  have HL1 := Lib.hid (HL.out.below hb1)
  go_wp2_with fail
  refine (HP.out _ HL1.out).mono ?_
  rintro e w2 (⟨v, hv, rfl, hb2⟩ | ⟨hv, x, t, i, rfl, hb2⟩)
  · have HL2 := Lib.hid (HL1.out.below hb2)
    have hvb := atoi_in _ _ hv
    rw [HPQ.out] at hv
    have hbb := hb1.trans (hb2.mono hb1.size)
    have HV := Lib.hid hv
    clear hv hb1 hb2
    obtain ⟨u, hu⟩ : ∃ u, u = lenText v := ⟨_, rfl⟩
    have HU := Lib.hid hu
    clear hu
    go_wp2_with fail
    refine (implLen_any v _ _ hvb HL2.out.tab gPow HL2.out.lt).mono ?_
    rintro e w3 ⟨rfl, hb3⟩
    rw [← HU.out]
    have hbb2 := hbb.trans (hb3.mono hbb.size)
    by_cases hus : u = s
    · subst hus
      have hD := Lib.hid (LenR.reads HV.out HU.out.symm)
      go_wp2_with fail
      go_ret2
      exact RdE.mk_ hD.out hbb2
    · have hD := Lib.hid (LenR.differs HV.out (fun h => hus (HU.out.trans h)))
      have hne : (u.toList == s.toList) = false := by
        rw [beq_eq_false_iff_ne, ByteArray.toList_eq, ByteArray.toList_eq]
        intro he
        exact hus (ByteArray.ext (Array.toList_inj.mp he))
      go_wp2_with fail
      go_ret2
      exact RdE.mk_ hD.out hbb2
  · have hD := Lib.hid (LenR.err (s := s) (by rw [← HPQ.out]; exact hv))
    have hbb := hb1.trans (hb2.mono hb1.size)
    clear hv hb1 hb2
    go_wp2_with fail
    go_ret2
    exact RdE.mk_ hD.out hbb
end Go.Proofs.YtamnhbambklmkaaDoor

/- Contracts of the program's divisions: their lists, and what they cost. -/
import Derived.Test.YtilfmnffdloneaaGpLr
import Derived.RegionTactic
namespace Go.Proofs.Ytilfmnffdloneaa
open Go.RowKit
set_option linter.unusedVariables false

theorem far_lo {α : Type} {enc : α → Value} {w : World} {lo hi g : Nat} {e : TypeId} {v : Value} {l : List α} (h : Own enc w lo hi e v l) (hg : g < lo) : Far v g := fun e => by have := (h.lt g e).1; omega
theorem below_setG {w w' : World} {B : Nat} (h : Below B w w') (p : Addr) (u : Value) (hp : B ≤ p.block) : Below B w (w'.setCell p u) :=
  ⟨h.os, h.tape, h.output, by simpa using h.size, fun k hk => (heap_setCell_other w' p k u (by omega)).trans (h.block k hk)⟩
theorem Blk.drewG {w : World} {g : Nat} {cs : Array Value} {t : TypeId} (h : Blk w g cs t) : Blk (w.drewN 1) g cs t := h
theorem idx_firstG {L : List Int} {k : Nat} {x : Int} (hx : L[k]? = some x) (h : x ∉ L.take k) : L.idxOf x = k := by
  have hlt : k < L.length := (List.getElem?_eq_some_iff.1 hx).1
  have e : L = L.take k ++ x :: L.drop (k + 1) := by
    have h1 := List.drop_eq_getElem_cons hlt
    have h2 := (List.getElem?_eq_some_iff.1 hx).2
    rw [h2] at h1
    rw [← h1, List.take_append_drop]
  have hl : (L.take k).length = k := by rw [List.length_take]; omega
  rw [e, List.idxOf_append, if_neg h, hl]
  simp
set_option maxRecDepth 100000 in
set_option maxHeartbeats 1000000 in
theorem idxG_any (A : Option Addr) (n c B : Nat) (p : Int) (L : List Int) (w : World) (h : Rd I w B A n L) (hn : n ≤ 1048576) (v : Int) (hv : (if p ∈ L then (L.idxOf p : Int) else -1) = v) :
    Calls Try.prog 100 #[.slice A n c, .int .i64 p] w fun e w' => e = .returned (.int .i64 v) ∧ w = w' := by
  have HL : Hid (L.length = n) := h.1
  have HV := Lib.hid hv
  clear hv
  go_enter Try.func100, Try.ntmps100
  go_wp2
  go_loop [5, 8] (fun _ i => ∃ k : Nat, k ≤ n ∧ i = .int .i64 k ∧ Hid (p ∉ L.take k)) (fun _ i => n - (intOf i).toNat)
  case atStart => exact ⟨0, Nat.zero_le _, rfl, Lib.hid (by simp)⟩
  case round =>
    obtain ⟨k, hk, rfl, HN⟩ := hrel
    by_cases hlt : k < n
    · obtain ⟨b, o, x, rfl, hbB, hx, hc⟩ := h.at_ hlt
      have HX := Lib.hid hx
      clear hx
      by_cases hxp : p = x
      · have HE : Hid ((k : Int) = v) := Lib.hid (by
          have h1 := HX.out
          rw [← hxp] at h1
          rw [← HV.out, if_pos (List.mem_of_getElem? h1), idx_firstG h1 HN.out])
        subst hxp
        go_wp2
        go_ret
        exact ⟨ret_i HE.out, rfl⟩
      · have hne : (p == x) = false := by simpa using hxp
        go_wp2
        go_round
        case rel =>
          refine ⟨k + 1, by omega, by go_num, Lib.hid ?_⟩
          rw [take_nextGa L k x HX.out, List.mem_append]
          rintro (hh | hh)
          · exact HN.out hh
          · exact hxp (List.mem_singleton.1 hh)
        case measure => simp [intOf]; omega
    · obtain rfl : k = n := by omega
      have HE : Hid (-1 = v) := Lib.hid (by
        have h1 := HN.out
        rw [List.take_of_length_le (Nat.le_of_eq HL.out)] at h1
        rw [← HV.out, if_neg h1])
      go_wp2
      go_ret
      exact ⟨ret_i HE.out, rfl⟩
theorem contG_any (A : Option Addr) (n c B : Nat) (p : Int) (L : List Int) (w : World) (h : Rd I w B A n L) (hn : n ≤ 1048576) :
    Calls Try.prog 76 #[.slice A n c, .int .i64 p] w fun e w' => e = .returned (.bool (decide (p ∈ L))) ∧ w = w' := by
  by_cases hm : p ∈ L
  · rw [decide_eq_true hm]
    have hi := idxG_any A n c B p L w h hn (L.idxOf p) (if_pos hm)
    have h0 : (0 : Int) ≤ (L.idxOf p : Int) := by omega
    go_enter Try.func76, Try.ntmps76
    go_wp2_with fail
    refine hi.mono ?_
    rintro e _ ⟨rfl, rfl⟩
    go_wp2_with fail
    go_ret
    exact ⟨rfl, rfl⟩
  · rw [decide_eq_false hm]
    have hi := idxG_any A n c B p L w h hn (-1) (if_neg hm)
    go_enter Try.func76, Try.ntmps76
    go_wp2_with fail
    refine hi.mono ?_
    rintro e _ ⟨rfl, rfl⟩
    go_wp2_with fail
    go_ret
    exact ⟨rfl, rfl⟩
theorem gix0 (r : Int) (Aa Ab : Option Addr) (ma ca mb cb : Nat) (w : World) : (Instr.index 98 (.agg #[.int .i64 r, .slice Aa ma ca, .int .i64 r, .slice Ab mb cb]) (.int .i64 0)).run Try.prog w = .ok (.agg #[.int .i64 r, .slice Aa ma ca]) w := by kernel_rfl
theorem gix1 (r : Int) (Aa Ab : Option Addr) (ma ca mb cb : Nat) (w : World) : (Instr.index 98 (.agg #[.int .i64 r, .slice Aa ma ca, .int .i64 r, .slice Ab mb cb]) (.int .i64 1)).run Try.prog w = .ok (.agg #[.int .i64 r, .slice Ab mb cb]) w := by kernel_rfl
set_option maxRecDepth 100000 in
set_option maxHeartbeats 8000000 in
theorem implGdv_any (r z : Int) (A1 A2 : Option Addr) (n1 c1 B1 n2 c2 B2 : Nat) (q f : List Int) (R : Int) (w : World) (h1 : Rd I w B1 A1 n1 q) (h2 : Rd I w B2 A2 n2 f) (hB1 : B1 ≤ w.heap.size) (hB2 : B2 ≤ w.heap.size) (hn2 : n2 ≤ 1048576) (hT : Ga.okG r q = true) (hz : 0 ≤ z ∧ z ≤ 1000000) (hR : Ga.cost r q f z = R) (hs : 1 ≤ (Ga.sel f q q.length).length) :
    Calls Try.prog 61 #[GV r A1 n1 c1, .slice A2 n2 c2, .int .i64 z] w fun e w' => e = .returned (.int .i64 R) ∧ Below w.heap.size w w' := by
  obtain ⟨i0, hi0, hz0, hz1, hz2⟩ := info_parts infoI
  have hgg := Ga.okG_iff.1 hT
  have hn6 : n1 ≤ 6 := by rw [← h1.1]; exact hgg.2.2.2.1
  have HQ := Lib.hid hgg.2.2.2.2
  have HR1 := Lib.hid hgg.1
  have HS1 := Lib.hid hs
  have HT := Lib.hid hT
  have HR := Lib.hid hR
  have HZ := Lib.hid hz
  have HL1 := Lib.hid h1.1
  have HSL : Hid ((n1 : Int) ≤ r) := Lib.hid (by rw [← h1.1]; exact hgg.2.2.1)
  have hbx : GBx (w.alloc (.cells #[.int .i64 r, .slice A1 n1 c1] 57)) w.heap.size r A1 n1 c1 := Blk.new _ _ rfl
  have k0 := hbx.cell 0 (v := .int .i64 r) rfl
  have k1 := hbx.cell 1 (v := .slice A1 n1 c1) rfl
  have BX0 := Lib.hid ((hbx.alloc (.cells #[.int .i64 r, .slice none 0 0] 57)).alloc (.cells #[.int .i64 r, .slice none 0 0] 57))
  have B1' : GBx ((w.alloc (.cells #[.int .i64 r, .slice A1 n1 c1] 57)).alloc (.cells #[.int .i64 r, .slice none 0 0] 57)) (w.heap.size + 1) r none 0 0 := Blk.new _ _ (by simp)
  have B2' : GBx ((((w.alloc (.cells #[.int .i64 r, .slice A1 n1 c1] 57)).alloc (.cells #[.int .i64 r, .slice none 0 0] 57)).alloc (.cells #[.int .i64 r, .slice none 0 0] 57))) (w.heap.size + 2) r none 0 0 := Blk.new _ _ (by simp)
  have BX1 := Lib.hid (B1'.alloc (.cells #[.int .i64 r, .slice none 0 0] 57))
  have BX2 := Lib.hid B2'
  have HB0 := Lib.hid (((below_newG w (.cells #[.int .i64 r, .slice A1 n1 c1] 57)).alloc (by simp) (.cells #[.int .i64 r, .slice none 0 0] 57)).alloc (by simp; omega) (.cells #[.int .i64 r, .slice none 0 0] 57))
  have HZ0 : Hid ((((w.alloc (.cells #[.int .i64 r, .slice A1 n1 c1] 57)).alloc (.cells #[.int .i64 r, .slice none 0 0] 57)).alloc (.cells #[.int .i64 r, .slice none 0 0] 57)).heap.size = w.heap.size + 3) := Lib.hid (by simp)
  clear hgg hT hR hz hs hbx B1' B2'
  go_enter Try.func61, Try.ntmps61
  go_wp2_with fail
  go_region
  · have hC := Lib.hid (Blk.drewG BX1.out)
    have hO := Lib.hid (Blk.drewG BX2.out)
    have hX := Lib.hid (Blk.drewG BX0.out)
    have hW := Lib.hid (below_drewN' HB0.out 1)
    have hZ : ((((w.alloc (.cells #[.int .i64 r, .slice A1 n1 c1] 57)).alloc (.cells #[.int .i64 r, .slice none 0 0] 57)).alloc (.cells #[.int .i64 r, .slice none 0 0] 57)).drewN 1).heap.size = w.heap.size + 3 := HZ0.out
    change Exit.then _ _ _ _ ((((w.alloc (.cells #[.int .i64 r, .slice A1 n1 c1] 57)).alloc (.cells #[.int .i64 r, .slice none 0 0] 57)).alloc (.cells #[.int .i64 r, .slice none 0 0] 57)).drewN 1)
    generalize (((w.alloc (.cells #[.int .i64 r, .slice A1 n1 c1] 57)).alloc (.cells #[.int .i64 r, .slice none 0 0] 57)).alloc (.cells #[.int .i64 r, .slice none 0 0] 57)).drewN 1 = v at hC hO hX hW hZ
    have k0 := hX.out.cell 0 (v := .int .i64 r) rfl
    have k1 := hX.out.cell 1 (v := .slice A1 n1 c1) rfl
    go_wp2_with fail
    go_loopw [9, 10, 11, 24] (fun _ _ _ i wr => ∃ (k : Nat) (Aa : Option Addr) (ma ca : Nat) (Ab : Option Addr) (mb cb : Nat), k ≤ n1 ∧ ma ≤ k ∧ mb ≤ k ∧ i = .int .i64 (k : Int) ∧ GBx wr w.heap.size r A1 n1 c1 ∧ GBx wr (w.heap.size + 1) r Aa ma ca ∧ GBx wr (w.heap.size + 2) r Ab mb cb ∧ Own I wr (w.heap.size + 3) wr.heap.size 2 (.slice Aa ma ca) (Ga.sel f q k) ∧ Own I wr (w.heap.size + 3) wr.heap.size 2 (.slice Ab mb cb) (Ga.oth f q k) ∧ AptG (.slice Aa ma ca) (.slice Ab mb cb) ∧ Below w.heap.size w wr ∧ w.heap.size + 3 ≤ wr.heap.size) (fun _ _ _ i _ => n1 - (intOf i).toNat)
    case atStart => exact ⟨0, _, _, _, _, _, _, Nat.zero_le _, Nat.le_refl _, Nat.le_refl _, rfl, hX.out, hC.out, hO.out, by simpa [Ga.sel] using Own.nil_, by simpa [Ga.oth] using Own.nil_, fun g hu => by simp [Value.ownBlock] at hu, hW.out, by omega⟩
    case round =>
      clear hC hO hX hW hZ k0 k1
      obtain ⟨k, Aa, ma, ca, Ab, mb, cb, hk, hma, hmb, rfl, hgx, hax, hbx, ha, hb, hap, hbw, hzb⟩ := hrel
      have k0 := hgx.cell 0 (v := .int .i64 r) rfl
      have k1 := hgx.cell 1 (v := .slice A1 n1 c1) rfl
      have p0 := hax.cell 0 (v := .int .i64 r) rfl
      have p1 := hax.cell 1 (v := .slice Aa ma ca) rfl
      have q0 := hbx.cell 0 (v := .int .i64 r) rfl
      have q1 := hbx.cell 1 (v := .slice Ab mb cb) rfl
      by_cases hlt : k < n1
      · have hltI : (k : Int) < (n1 : Int) := by omega
        have ek : IntKind.i64.wrap ((k : Int) + 1) = (k : Int) + 1 := IntWalk.i64_in _ (by omega)
        obtain ⟨b1, o1, x, rfl, hb1, hx, cx⟩ := (h1.below hbw hB1).at_ hlt
        have HX2 : Hid (q.getD k 0 = x) := Lib.hid (by rw [List.getD_eq_getElem?_getD, hx]; rfl)
        clear hx
        by_cases hm : (k : Int) ∈ f
        · have hcl := contG_any A2 n2 c2 B2 (k : Int) f wr (h2.below hbw hB2) hn2
          rw [decide_eq_true hm] at hcl
          have HS : Hid (Ga.sel f q (k + 1) = Ga.sel f q k ++ [x]) := Lib.hid (by rw [Ga.sel_next, if_pos hm, HX2.out])
          have HO : Hid (Ga.oth f q (k + 1) = Ga.oth f q k) := Lib.hid (by rw [Ga.oth_next, if_pos hm, List.append_nil])
          clear hm
          go_wp2_with fail
          refine hcl.mono ?_
          rintro e _ ⟨rfl, rfl⟩
          go_wp2_with (at_builtin; refine wp_push3 (enc := I) wr rfl _ _ 24 rfl 2 i0 _ 8 Try.underlying24 hi0 hz0 hz1 hz2 rfl Aa ma ca _ _ _ rfl ha x rfl rfl (by omega) (by omega) (by omega) ?_; intro A5 c5 w5 ho5 hm5 hk5; have HP5 := AptG.push hb hap hk5; have hz5 := hm5.size; have hgx5 := hgx.only hm5 (.inl (by omega)); have hM5 := hax.only hm5 (.inl (by omega)); have hT5 := hbx.only hm5 (.inl (by omega)); have hfr5 := hM5.free 1; have kM1 := hM5.cell 1 (v := .slice Aa ma ca) rfl; have kM0 := hM5.cell 0 (v := .int .i64 r) rfl; have HO6 := Lib.hid ((ho5.other ⟨w.heap.size + 1, 1, none⟩ (.slice A5 (ma + 1) c5) (far_lo ho5 (by show w.heap.size + 1 < w.heap.size + 3; omega))).mono (hi' := (w5.setCell ⟨w.heap.size + 1, 1, none⟩ (.slice A5 (ma + 1) c5)).heap.size) (Nat.le_refl _) (by simp)); have HT6 := Lib.hid ((HP5.1.other ⟨w.heap.size + 1, 1, none⟩ (.slice A5 (ma + 1) c5) (far_lo HP5.1 (by show w.heap.size + 1 < w.heap.size + 3; omega))).mono (hi' := (w5.setCell ⟨w.heap.size + 1, 1, none⟩ (.slice A5 (ma + 1) c5)).heap.size) (Nat.le_refl _) (by simp; exact hz5)); have HM6 := Lib.hid (hM5.set 1 (.slice A5 (ma + 1) c5)); have HX6 := Lib.hid (hgx5.other ⟨w.heap.size + 1, 1, none⟩ (.slice A5 (ma + 1) c5) (by show w.heap.size ≠ w.heap.size + 1; omega)); have HN6 := Lib.hid (hT5.other ⟨w.heap.size + 1, 1, none⟩ (.slice A5 (ma + 1) c5) (by show w.heap.size + 2 ≠ w.heap.size + 1; omega)); have HB5 := Lib.hid (hbw.trans (hm5.below (B := w.heap.size) (by omega) (by omega))); have HB6 := Lib.hid (below_setG HB5.out ⟨w.heap.size + 1, 1, none⟩ (.slice A5 (ma + 1) c5) (by show w.heap.size ≤ w.heap.size + 1; omega)); have HP6 := Lib.hid HP5.2; have HZ6 : Hid (w.heap.size + 3 ≤ (w5.setCell ⟨w.heap.size + 1, 1, none⟩ (.slice A5 (ma + 1) c5)).heap.size) := Lib.hid (by simp; omega); clear ho5 hm5 hk5 HP5 hM5 hT5 hgx5 hz5)
          clear k0 k1 p0 p1 q0 q1
          go_roundw
          case rel => exact ⟨k + 1, A5, ma + 1, c5, Ab, mb, cb, by omega, by omega, by omega, by go_num, HX6.out, HM6.out, HN6.out, by rw [HS.out]; exact HO6.out, by rw [HO.out]; exact HT6.out, HP6.out, HB6.out, HZ6.out⟩
          case measure => simp [intOf]; omega
        · have hcl := contG_any A2 n2 c2 B2 (k : Int) f wr (h2.below hbw hB2) hn2
          rw [decide_eq_false hm] at hcl
          have HS : Hid (Ga.sel f q (k + 1) = Ga.sel f q k) := Lib.hid (by rw [Ga.sel_next, if_neg hm, List.append_nil])
          have HO : Hid (Ga.oth f q (k + 1) = Ga.oth f q k ++ [x]) := Lib.hid (by rw [Ga.oth_next, if_neg hm, HX2.out])
          clear hm
          go_wp2_with fail
          refine hcl.mono ?_
          rintro e _ ⟨rfl, rfl⟩
          go_wp2_with (at_builtin; refine wp_push3 (enc := I) wr rfl _ _ 24 rfl 2 i0 _ 8 Try.underlying24 hi0 hz0 hz1 hz2 rfl Ab mb cb _ _ _ rfl hb x rfl rfl (by omega) (by omega) (by omega) ?_; intro A5 c5 w5 ho5 hm5 hk5; have HP5 := AptG.push ha hap.symm hk5; have hz5 := hm5.size; have hgx5 := hgx.only hm5 (.inl (by omega)); have hM5 := hbx.only hm5 (.inl (by omega)); have hT5 := hax.only hm5 (.inl (by omega)); have hfr5 := hM5.free 1; have kM1 := hM5.cell 1 (v := .slice Ab mb cb) rfl; have kM0 := hM5.cell 0 (v := .int .i64 r) rfl; have HO6 := Lib.hid ((ho5.other ⟨w.heap.size + 2, 1, none⟩ (.slice A5 (mb + 1) c5) (far_lo ho5 (by show w.heap.size + 2 < w.heap.size + 3; omega))).mono (hi' := (w5.setCell ⟨w.heap.size + 2, 1, none⟩ (.slice A5 (mb + 1) c5)).heap.size) (Nat.le_refl _) (by simp)); have HT6 := Lib.hid ((HP5.1.other ⟨w.heap.size + 2, 1, none⟩ (.slice A5 (mb + 1) c5) (far_lo HP5.1 (by show w.heap.size + 2 < w.heap.size + 3; omega))).mono (hi' := (w5.setCell ⟨w.heap.size + 2, 1, none⟩ (.slice A5 (mb + 1) c5)).heap.size) (Nat.le_refl _) (by simp; exact hz5)); have HM6 := Lib.hid (hM5.set 1 (.slice A5 (mb + 1) c5)); have HX6 := Lib.hid (hgx5.other ⟨w.heap.size + 2, 1, none⟩ (.slice A5 (mb + 1) c5) (by show w.heap.size ≠ w.heap.size + 2; omega)); have HN6 := Lib.hid (hT5.other ⟨w.heap.size + 2, 1, none⟩ (.slice A5 (mb + 1) c5) (by show w.heap.size + 1 ≠ w.heap.size + 2; omega)); have HB5 := Lib.hid (hbw.trans (hm5.below (B := w.heap.size) (by omega) (by omega))); have HB6 := Lib.hid (below_setG HB5.out ⟨w.heap.size + 2, 1, none⟩ (.slice A5 (mb + 1) c5) (by show w.heap.size ≤ w.heap.size + 2; omega)); have HP6 := Lib.hid HP5.2; have HZ6 : Hid (w.heap.size + 3 ≤ (w5.setCell ⟨w.heap.size + 2, 1, none⟩ (.slice A5 (mb + 1) c5)).heap.size) := Lib.hid (by simp; omega); clear ho5 hm5 hk5 HP5 hM5 hT5 hgx5 hz5)
          clear k0 k1 p0 p1 q0 q1
          go_roundw
          case rel => exact ⟨k + 1, Aa, ma, ca, A5, mb + 1, c5, by omega, by omega, by omega, by go_num, HX6.out, HN6.out, HM6.out, by rw [HS.out]; exact HT6.out, by rw [HO.out]; exact HO6.out, HP6.out.symm, HB6.out, HZ6.out⟩
          case measure => simp [intOf]; omega
      · obtain rfl : k = n1 := by omega
        have hla := ha.rd.1
        have hlb := hb.rd.1
        have hsl := Ga.sel_len f q k
        rw [hla, hlb] at hsl
        have hs' : 1 ≤ ma := by have := HS1.out; rw [HL1.out, hla] at this; exact this
        obtain ⟨x, hx⟩ : ∃ x, Ga.least r (Ga.sel f q k) = x := ⟨_, rfl⟩
        obtain ⟨y, hy⟩ : ∃ y, Ga.least r (Ga.oth f q k) = y := ⟨_, rfl⟩
        have hqa : ∀ x ∈ Ga.sel f q k, 1 ≤ x ∧ x ≤ 1000000 := fun x hx => HQ.out x (Ga.sel_mem (by rw [HL1.out]; exact Nat.le_refl _) x hx)
        have hqb : ∀ x ∈ Ga.oth f q k, 1 ≤ x ∧ x ≤ 1000000 := fun x hx => HQ.out x (Ga.oth_mem (by rw [HL1.out]; exact Nat.le_refl _) x hx)
        have HSLO := HSL.out
        have hxb := (Ga.least_P (s := r) hqa (by rw [hla]; omega)).1
        have hyb := (Ga.least_P (s := r) hqb (by rw [hlb]; omega)).1
        rw [hx] at hxb
        rw [hy] at hyb
        have hz' := HZ.out
        have e1 : IntKind.i64.wrap (x + z) = x + z := IntWalk.i64_in _ (by omega)
        have e0 : IntKind.i64.wrap (0 + (x + z)) = x + z := by rw [Int.zero_add]; exact e1
        have e2 : IntKind.i64.wrap (y + z) = y + z := IntWalk.i64_in _ (by omega)
        have e3 : IntKind.i64.wrap (x + z + (y + z)) = x + z + (y + z) := IntWalk.i64_in _ (by omega)
        have hTa : Ga.okG r (Ga.sel f q k) = true := Ga.okG_iff.2 ⟨HR1.out, by omega, by rw [hla]; omega, by omega, hqa⟩
        have hca := implGlr_any r Aa ma ca wr.heap.size (Ga.sel f q k) x (wr.alloc (.cells #[.int .i64 r, .slice Aa ma ca] 57)) (ha.rd.alloc (Nat.le_refl _) _) (by simp) hTa hx
        have hcb := fun (W : World) (hW : Below wr.heap.size wr W) (hmb : 1 ≤ mb) => implGlr_any r Ab mb cb wr.heap.size (Ga.oth f q k) y W (hb.rd.below hW (Nat.le_refl _)) hW.size (Ga.okG_iff.2 ⟨HR1.out, by omega, by rw [hlb]; omega, by omega, hqb⟩) hy
        have HCO : Hid (R = x + z + if mb = 0 then 0 else y + z) := Lib.hid (by
          rw [← HR.out]
          unfold Ga.cost
          rw [HL1.out, hx, hy, hlb])
        have hA0 : Blk (wr.alloc (.cells #[.int .i64 r, .slice Aa ma ca] 57)) wr.heap.size #[.int .i64 r, .slice Aa ma ca] 57 := Blk.new _ _ rfl
        have s0 := hA0.cell 0 (v := .int .i64 r) rfl
        have s1 := hA0.cell 1 (v := .slice Aa ma ca) rfl
        have HBa := Lib.hid (hbw.alloc (show w.heap.size ≤ wr.heap.size by omega) (.cells #[.int .i64 r, .slice Aa ma ca] 57))
        have hba0 := below_newG wr (.cells #[.int .i64 r, .slice Aa ma ca] 57)
        have hza : (wr.alloc (.cells #[.int .i64 r, .slice Aa ma ca] 57)).heap.size = wr.heap.size + 1 := by simp
        obtain ⟨m1, rfl⟩ : ∃ m1, ma = m1 + 1 := ⟨ma - 1, by omega⟩
        have hs1I : (0 : Int) < (m1 : Int) + 1 := by omega
        clear hla hlb hsl hx hy hqa hqb hxb hyb hz' ha hb hTa hs' HSLO
        have gi0 := fun W => gix0 r Aa Ab (m1 + 1) ca mb cb W
        have gi1 := fun W => gix1 r Aa Ab (m1 + 1) ca mb cb W
        by_cases hm0 : mb = 0
        · have HE : Hid (x + z = R) := Lib.hid (by rw [HCO.out, if_pos hm0, Int.add_zero])
          subst hm0
          go_wp2_with fail
          refine wp_loop_rounds 3 ?_
          rw [rounds_succ]
          go_wp2_with fail
          refine hca.mono ?_
          rintro e w5 ⟨rfl, hb5⟩
          have HB5 := Lib.hid (HBa.out.trans (hb5.mono (by omega)))
          have hA5 : Blk (w5.alloc (.cells #[.int .i64 r, .slice Ab 0 cb] 57)) w5.heap.size #[.int .i64 r, .slice Ab 0 cb] 57 := Blk.new _ _ rfl
          have y0 := hA5.cell 0 (v := .int .i64 r) rfl
          have y1 := hA5.cell 1 (v := .slice Ab 0 cb) rfl
          have HB6 := Lib.hid (HB5.out.alloc HB5.out.size (.cells #[.int .i64 r, .slice Ab 0 cb] 57))
          clear hb5 hca hcb s0 s1 hA0 hba0 hA5
          go_wp2_with fail
          rw [rounds_succ]
          go_wp2_with fail
          rw [rounds_succ]
          go_wp2_with fail
          go_ret
          exact ⟨ret_i HE.out, HB6.out⟩
        · have HE : Hid (x + z + (y + z) = R) := Lib.hid (by rw [HCO.out, if_neg hm0])
          obtain ⟨m2, rfl⟩ : ∃ m2, mb = m2 + 1 := ⟨mb - 1, by omega⟩
          have hm0I : (0 : Int) < (m2 : Int) + 1 := by omega
          clear hm0
          go_wp2_with fail
          refine wp_loop_rounds 3 ?_
          rw [rounds_succ]
          go_wp2_with fail
          refine hca.mono ?_
          rintro e w5 ⟨rfl, hb5⟩
          have HB5 := Lib.hid (HBa.out.trans (hb5.mono (by omega)))
          have hA5 : Blk (w5.alloc (.cells #[.int .i64 r, .slice Ab (m2 + 1) cb] 57)) w5.heap.size #[.int .i64 r, .slice Ab (m2 + 1) cb] 57 := Blk.new _ _ rfl
          have y0 := hA5.cell 0 (v := .int .i64 r) rfl
          have y1 := hA5.cell 1 (v := .slice Ab (m2 + 1) cb) rfl
          have HB6 := Lib.hid (HB5.out.alloc HB5.out.size (.cells #[.int .i64 r, .slice Ab (m2 + 1) cb] 57))
          have hz6 : (w5.alloc (.cells #[.int .i64 r, .slice Ab (m2 + 1) cb] 57)).heap.size = w5.heap.size + 1 := by simp
          have hz5 := HB5.out.size
          have hcb6 := hcb (w5.alloc (.cells #[.int .i64 r, .slice Ab (m2 + 1) cb] 57)) ((hba0.trans (hb5.mono (by omega))).alloc (by have := hb5.size; omega) _) (by omega)
          clear hb5 hca hcb s0 s1 hA0 hba0 hA5
          go_wp2_with fail
          rw [rounds_succ]
          go_wp2_with fail
          refine hcb6.mono ?_
          rintro e w7 ⟨rfl, hb7⟩
          have HB7 := Lib.hid (HB6.out.trans (hb7.mono (by omega)))
          clear hb7 hcb6
          go_wp2_with fail
          rw [rounds_succ]
          go_wp2_with fail
          go_ret
          exact ⟨ret_i HE.out, HB7.out⟩
  · have hC := Lib.hid (Blk.drewG BX2.out)
    have hO := Lib.hid (Blk.drewG BX1.out)
    have hX := Lib.hid (Blk.drewG BX0.out)
    have hW := Lib.hid (below_drewN' HB0.out 1)
    have hZ : ((((w.alloc (.cells #[.int .i64 r, .slice A1 n1 c1] 57)).alloc (.cells #[.int .i64 r, .slice none 0 0] 57)).alloc (.cells #[.int .i64 r, .slice none 0 0] 57)).drewN 1).heap.size = w.heap.size + 3 := HZ0.out
    change Exit.then _ _ _ _ ((((w.alloc (.cells #[.int .i64 r, .slice A1 n1 c1] 57)).alloc (.cells #[.int .i64 r, .slice none 0 0] 57)).alloc (.cells #[.int .i64 r, .slice none 0 0] 57)).drewN 1)
    generalize (((w.alloc (.cells #[.int .i64 r, .slice A1 n1 c1] 57)).alloc (.cells #[.int .i64 r, .slice none 0 0] 57)).alloc (.cells #[.int .i64 r, .slice none 0 0] 57)).drewN 1 = v at hC hO hX hW hZ
    have k0 := hX.out.cell 0 (v := .int .i64 r) rfl
    have k1 := hX.out.cell 1 (v := .slice A1 n1 c1) rfl
    go_wp2_with fail
    go_loopw [9, 10, 11, 24] (fun _ _ _ i wr => ∃ (k : Nat) (Aa : Option Addr) (ma ca : Nat) (Ab : Option Addr) (mb cb : Nat), k ≤ n1 ∧ ma ≤ k ∧ mb ≤ k ∧ i = .int .i64 (k : Int) ∧ GBx wr w.heap.size r A1 n1 c1 ∧ GBx wr (w.heap.size + 2) r Aa ma ca ∧ GBx wr (w.heap.size + 1) r Ab mb cb ∧ Own I wr (w.heap.size + 3) wr.heap.size 2 (.slice Aa ma ca) (Ga.sel f q k) ∧ Own I wr (w.heap.size + 3) wr.heap.size 2 (.slice Ab mb cb) (Ga.oth f q k) ∧ AptG (.slice Aa ma ca) (.slice Ab mb cb) ∧ Below w.heap.size w wr ∧ w.heap.size + 3 ≤ wr.heap.size) (fun _ _ _ i _ => n1 - (intOf i).toNat)
    case atStart => exact ⟨0, _, _, _, _, _, _, Nat.zero_le _, Nat.le_refl _, Nat.le_refl _, rfl, hX.out, hC.out, hO.out, by simpa [Ga.sel] using Own.nil_, by simpa [Ga.oth] using Own.nil_, fun g hu => by simp [Value.ownBlock] at hu, hW.out, by omega⟩
    case round =>
      clear hC hO hX hW hZ k0 k1
      obtain ⟨k, Aa, ma, ca, Ab, mb, cb, hk, hma, hmb, rfl, hgx, hax, hbx, ha, hb, hap, hbw, hzb⟩ := hrel
      have k0 := hgx.cell 0 (v := .int .i64 r) rfl
      have k1 := hgx.cell 1 (v := .slice A1 n1 c1) rfl
      have p0 := hax.cell 0 (v := .int .i64 r) rfl
      have p1 := hax.cell 1 (v := .slice Aa ma ca) rfl
      have q0 := hbx.cell 0 (v := .int .i64 r) rfl
      have q1 := hbx.cell 1 (v := .slice Ab mb cb) rfl
      by_cases hlt : k < n1
      · have hltI : (k : Int) < (n1 : Int) := by omega
        have ek : IntKind.i64.wrap ((k : Int) + 1) = (k : Int) + 1 := IntWalk.i64_in _ (by omega)
        obtain ⟨b1, o1, x, rfl, hb1, hx, cx⟩ := (h1.below hbw hB1).at_ hlt
        have HX2 : Hid (q.getD k 0 = x) := Lib.hid (by rw [List.getD_eq_getElem?_getD, hx]; rfl)
        clear hx
        by_cases hm : (k : Int) ∈ f
        · have hcl := contG_any A2 n2 c2 B2 (k : Int) f wr (h2.below hbw hB2) hn2
          rw [decide_eq_true hm] at hcl
          have HS : Hid (Ga.sel f q (k + 1) = Ga.sel f q k ++ [x]) := Lib.hid (by rw [Ga.sel_next, if_pos hm, HX2.out])
          have HO : Hid (Ga.oth f q (k + 1) = Ga.oth f q k) := Lib.hid (by rw [Ga.oth_next, if_pos hm, List.append_nil])
          clear hm
          go_wp2_with fail
          refine hcl.mono ?_
          rintro e _ ⟨rfl, rfl⟩
          go_wp2_with (at_builtin; refine wp_push3 (enc := I) wr rfl _ _ 24 rfl 2 i0 _ 8 Try.underlying24 hi0 hz0 hz1 hz2 rfl Aa ma ca _ _ _ rfl ha x rfl rfl (by omega) (by omega) (by omega) ?_; intro A5 c5 w5 ho5 hm5 hk5; have HP5 := AptG.push hb hap hk5; have hz5 := hm5.size; have hgx5 := hgx.only hm5 (.inl (by omega)); have hM5 := hax.only hm5 (.inl (by omega)); have hT5 := hbx.only hm5 (.inl (by omega)); have hfr5 := hM5.free 1; have kM1 := hM5.cell 1 (v := .slice Aa ma ca) rfl; have kM0 := hM5.cell 0 (v := .int .i64 r) rfl; have HO6 := Lib.hid ((ho5.other ⟨w.heap.size + 2, 1, none⟩ (.slice A5 (ma + 1) c5) (far_lo ho5 (by show w.heap.size + 2 < w.heap.size + 3; omega))).mono (hi' := (w5.setCell ⟨w.heap.size + 2, 1, none⟩ (.slice A5 (ma + 1) c5)).heap.size) (Nat.le_refl _) (by simp)); have HT6 := Lib.hid ((HP5.1.other ⟨w.heap.size + 2, 1, none⟩ (.slice A5 (ma + 1) c5) (far_lo HP5.1 (by show w.heap.size + 2 < w.heap.size + 3; omega))).mono (hi' := (w5.setCell ⟨w.heap.size + 2, 1, none⟩ (.slice A5 (ma + 1) c5)).heap.size) (Nat.le_refl _) (by simp; exact hz5)); have HM6 := Lib.hid (hM5.set 1 (.slice A5 (ma + 1) c5)); have HX6 := Lib.hid (hgx5.other ⟨w.heap.size + 2, 1, none⟩ (.slice A5 (ma + 1) c5) (by show w.heap.size ≠ w.heap.size + 2; omega)); have HN6 := Lib.hid (hT5.other ⟨w.heap.size + 2, 1, none⟩ (.slice A5 (ma + 1) c5) (by show w.heap.size + 1 ≠ w.heap.size + 2; omega)); have HB5 := Lib.hid (hbw.trans (hm5.below (B := w.heap.size) (by omega) (by omega))); have HB6 := Lib.hid (below_setG HB5.out ⟨w.heap.size + 2, 1, none⟩ (.slice A5 (ma + 1) c5) (by show w.heap.size ≤ w.heap.size + 2; omega)); have HP6 := Lib.hid HP5.2; have HZ6 : Hid (w.heap.size + 3 ≤ (w5.setCell ⟨w.heap.size + 2, 1, none⟩ (.slice A5 (ma + 1) c5)).heap.size) := Lib.hid (by simp; omega); clear ho5 hm5 hk5 HP5 hM5 hT5 hgx5 hz5)
          clear k0 k1 p0 p1 q0 q1
          go_roundw
          case rel => exact ⟨k + 1, A5, ma + 1, c5, Ab, mb, cb, by omega, by omega, by omega, by go_num, HX6.out, HM6.out, HN6.out, by rw [HS.out]; exact HO6.out, by rw [HO.out]; exact HT6.out, HP6.out, HB6.out, HZ6.out⟩
          case measure => simp [intOf]; omega
        · have hcl := contG_any A2 n2 c2 B2 (k : Int) f wr (h2.below hbw hB2) hn2
          rw [decide_eq_false hm] at hcl
          have HS : Hid (Ga.sel f q (k + 1) = Ga.sel f q k) := Lib.hid (by rw [Ga.sel_next, if_neg hm, List.append_nil])
          have HO : Hid (Ga.oth f q (k + 1) = Ga.oth f q k ++ [x]) := Lib.hid (by rw [Ga.oth_next, if_neg hm, HX2.out])
          clear hm
          go_wp2_with fail
          refine hcl.mono ?_
          rintro e _ ⟨rfl, rfl⟩
          go_wp2_with (at_builtin; refine wp_push3 (enc := I) wr rfl _ _ 24 rfl 2 i0 _ 8 Try.underlying24 hi0 hz0 hz1 hz2 rfl Ab mb cb _ _ _ rfl hb x rfl rfl (by omega) (by omega) (by omega) ?_; intro A5 c5 w5 ho5 hm5 hk5; have HP5 := AptG.push ha hap.symm hk5; have hz5 := hm5.size; have hgx5 := hgx.only hm5 (.inl (by omega)); have hM5 := hbx.only hm5 (.inl (by omega)); have hT5 := hax.only hm5 (.inl (by omega)); have hfr5 := hM5.free 1; have kM1 := hM5.cell 1 (v := .slice Ab mb cb) rfl; have kM0 := hM5.cell 0 (v := .int .i64 r) rfl; have HO6 := Lib.hid ((ho5.other ⟨w.heap.size + 1, 1, none⟩ (.slice A5 (mb + 1) c5) (far_lo ho5 (by show w.heap.size + 1 < w.heap.size + 3; omega))).mono (hi' := (w5.setCell ⟨w.heap.size + 1, 1, none⟩ (.slice A5 (mb + 1) c5)).heap.size) (Nat.le_refl _) (by simp)); have HT6 := Lib.hid ((HP5.1.other ⟨w.heap.size + 1, 1, none⟩ (.slice A5 (mb + 1) c5) (far_lo HP5.1 (by show w.heap.size + 1 < w.heap.size + 3; omega))).mono (hi' := (w5.setCell ⟨w.heap.size + 1, 1, none⟩ (.slice A5 (mb + 1) c5)).heap.size) (Nat.le_refl _) (by simp; exact hz5)); have HM6 := Lib.hid (hM5.set 1 (.slice A5 (mb + 1) c5)); have HX6 := Lib.hid (hgx5.other ⟨w.heap.size + 1, 1, none⟩ (.slice A5 (mb + 1) c5) (by show w.heap.size ≠ w.heap.size + 1; omega)); have HN6 := Lib.hid (hT5.other ⟨w.heap.size + 1, 1, none⟩ (.slice A5 (mb + 1) c5) (by show w.heap.size + 2 ≠ w.heap.size + 1; omega)); have HB5 := Lib.hid (hbw.trans (hm5.below (B := w.heap.size) (by omega) (by omega))); have HB6 := Lib.hid (below_setG HB5.out ⟨w.heap.size + 1, 1, none⟩ (.slice A5 (mb + 1) c5) (by show w.heap.size ≤ w.heap.size + 1; omega)); have HP6 := Lib.hid HP5.2; have HZ6 : Hid (w.heap.size + 3 ≤ (w5.setCell ⟨w.heap.size + 1, 1, none⟩ (.slice A5 (mb + 1) c5)).heap.size) := Lib.hid (by simp; omega); clear ho5 hm5 hk5 HP5 hM5 hT5 hgx5 hz5)
          clear k0 k1 p0 p1 q0 q1
          go_roundw
          case rel => exact ⟨k + 1, Aa, ma, ca, A5, mb + 1, c5, by omega, by omega, by omega, by go_num, HX6.out, HN6.out, HM6.out, by rw [HS.out]; exact HT6.out, by rw [HO.out]; exact HO6.out, HP6.out.symm, HB6.out, HZ6.out⟩
          case measure => simp [intOf]; omega
      · obtain rfl : k = n1 := by omega
        have hla := ha.rd.1
        have hlb := hb.rd.1
        have hsl := Ga.sel_len f q k
        rw [hla, hlb] at hsl
        have hs' : 1 ≤ ma := by have := HS1.out; rw [HL1.out, hla] at this; exact this
        obtain ⟨x, hx⟩ : ∃ x, Ga.least r (Ga.sel f q k) = x := ⟨_, rfl⟩
        obtain ⟨y, hy⟩ : ∃ y, Ga.least r (Ga.oth f q k) = y := ⟨_, rfl⟩
        have hqa : ∀ x ∈ Ga.sel f q k, 1 ≤ x ∧ x ≤ 1000000 := fun x hx => HQ.out x (Ga.sel_mem (by rw [HL1.out]; exact Nat.le_refl _) x hx)
        have hqb : ∀ x ∈ Ga.oth f q k, 1 ≤ x ∧ x ≤ 1000000 := fun x hx => HQ.out x (Ga.oth_mem (by rw [HL1.out]; exact Nat.le_refl _) x hx)
        have HSLO := HSL.out
        have hxb := (Ga.least_P (s := r) hqa (by rw [hla]; omega)).1
        have hyb := (Ga.least_P (s := r) hqb (by rw [hlb]; omega)).1
        rw [hx] at hxb
        rw [hy] at hyb
        have hz' := HZ.out
        have e1 : IntKind.i64.wrap (x + z) = x + z := IntWalk.i64_in _ (by omega)
        have e0 : IntKind.i64.wrap (0 + (x + z)) = x + z := by rw [Int.zero_add]; exact e1
        have e2 : IntKind.i64.wrap (y + z) = y + z := IntWalk.i64_in _ (by omega)
        have e3 : IntKind.i64.wrap (x + z + (y + z)) = x + z + (y + z) := IntWalk.i64_in _ (by omega)
        have hTa : Ga.okG r (Ga.sel f q k) = true := Ga.okG_iff.2 ⟨HR1.out, by omega, by rw [hla]; omega, by omega, hqa⟩
        have hca := implGlr_any r Aa ma ca wr.heap.size (Ga.sel f q k) x (wr.alloc (.cells #[.int .i64 r, .slice Aa ma ca] 57)) (ha.rd.alloc (Nat.le_refl _) _) (by simp) hTa hx
        have hcb := fun (W : World) (hW : Below wr.heap.size wr W) (hmb : 1 ≤ mb) => implGlr_any r Ab mb cb wr.heap.size (Ga.oth f q k) y W (hb.rd.below hW (Nat.le_refl _)) hW.size (Ga.okG_iff.2 ⟨HR1.out, by omega, by rw [hlb]; omega, by omega, hqb⟩) hy
        have HCO : Hid (R = x + z + if mb = 0 then 0 else y + z) := Lib.hid (by
          rw [← HR.out]
          unfold Ga.cost
          rw [HL1.out, hx, hy, hlb])
        have hA0 : Blk (wr.alloc (.cells #[.int .i64 r, .slice Aa ma ca] 57)) wr.heap.size #[.int .i64 r, .slice Aa ma ca] 57 := Blk.new _ _ rfl
        have s0 := hA0.cell 0 (v := .int .i64 r) rfl
        have s1 := hA0.cell 1 (v := .slice Aa ma ca) rfl
        have HBa := Lib.hid (hbw.alloc (show w.heap.size ≤ wr.heap.size by omega) (.cells #[.int .i64 r, .slice Aa ma ca] 57))
        have hba0 := below_newG wr (.cells #[.int .i64 r, .slice Aa ma ca] 57)
        have hza : (wr.alloc (.cells #[.int .i64 r, .slice Aa ma ca] 57)).heap.size = wr.heap.size + 1 := by simp
        obtain ⟨m1, rfl⟩ : ∃ m1, ma = m1 + 1 := ⟨ma - 1, by omega⟩
        have hs1I : (0 : Int) < (m1 : Int) + 1 := by omega
        clear hla hlb hsl hx hy hqa hqb hxb hyb hz' ha hb hTa hs' HSLO
        have gi0 := fun W => gix0 r Aa Ab (m1 + 1) ca mb cb W
        have gi1 := fun W => gix1 r Aa Ab (m1 + 1) ca mb cb W
        by_cases hm0 : mb = 0
        · have HE : Hid (x + z = R) := Lib.hid (by rw [HCO.out, if_pos hm0, Int.add_zero])
          subst hm0
          go_wp2_with fail
          refine wp_loop_rounds 3 ?_
          rw [rounds_succ]
          go_wp2_with fail
          refine hca.mono ?_
          rintro e w5 ⟨rfl, hb5⟩
          have HB5 := Lib.hid (HBa.out.trans (hb5.mono (by omega)))
          have hA5 : Blk (w5.alloc (.cells #[.int .i64 r, .slice Ab 0 cb] 57)) w5.heap.size #[.int .i64 r, .slice Ab 0 cb] 57 := Blk.new _ _ rfl
          have y0 := hA5.cell 0 (v := .int .i64 r) rfl
          have y1 := hA5.cell 1 (v := .slice Ab 0 cb) rfl
          have HB6 := Lib.hid (HB5.out.alloc HB5.out.size (.cells #[.int .i64 r, .slice Ab 0 cb] 57))
          clear hb5 hca hcb s0 s1 hA0 hba0 hA5
          go_wp2_with fail
          rw [rounds_succ]
          go_wp2_with fail
          rw [rounds_succ]
          go_wp2_with fail
          go_ret
          exact ⟨ret_i HE.out, HB6.out⟩
        · have HE : Hid (x + z + (y + z) = R) := Lib.hid (by rw [HCO.out, if_neg hm0])
          obtain ⟨m2, rfl⟩ : ∃ m2, mb = m2 + 1 := ⟨mb - 1, by omega⟩
          have hm0I : (0 : Int) < (m2 : Int) + 1 := by omega
          clear hm0
          go_wp2_with fail
          refine wp_loop_rounds 3 ?_
          rw [rounds_succ]
          go_wp2_with fail
          refine hca.mono ?_
          rintro e w5 ⟨rfl, hb5⟩
          have HB5 := Lib.hid (HBa.out.trans (hb5.mono (by omega)))
          have hA5 : Blk (w5.alloc (.cells #[.int .i64 r, .slice Ab (m2 + 1) cb] 57)) w5.heap.size #[.int .i64 r, .slice Ab (m2 + 1) cb] 57 := Blk.new _ _ rfl
          have y0 := hA5.cell 0 (v := .int .i64 r) rfl
          have y1 := hA5.cell 1 (v := .slice Ab (m2 + 1) cb) rfl
          have HB6 := Lib.hid (HB5.out.alloc HB5.out.size (.cells #[.int .i64 r, .slice Ab (m2 + 1) cb] 57))
          have hz6 : (w5.alloc (.cells #[.int .i64 r, .slice Ab (m2 + 1) cb] 57)).heap.size = w5.heap.size + 1 := by simp
          have hz5 := HB5.out.size
          have hcb6 := hcb (w5.alloc (.cells #[.int .i64 r, .slice Ab (m2 + 1) cb] 57)) ((hba0.trans (hb5.mono (by omega))).alloc (by have := hb5.size; omega) _) (by omega)
          clear hb5 hca hcb s0 s1 hA0 hba0 hA5
          go_wp2_with fail
          rw [rounds_succ]
          go_wp2_with fail
          refine hcb6.mono ?_
          rintro e w7 ⟨rfl, hb7⟩
          have HB7 := Lib.hid (HB6.out.trans (hb7.mono (by omega)))
          clear hb7 hcb6
          go_wp2_with fail
          rw [rounds_succ]
          go_wp2_with fail
          go_ret
          exact ⟨ret_i HE.out, HB7.out⟩
end Go.Proofs.Ytilfmnffdloneaa

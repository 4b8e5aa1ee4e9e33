/- The program's closure that completes a packing, or tells that none is left. -/
import Derived.Test.YtbhkpjjedeinpaaRiCs
import Derived.Test.YtbhkpjjedeinpaaRiKy
import Derived.Handy
import Derived.Shelf.Abstract
import Derived.Deep.Cut
import Derived.Test.YtbhkpjjedeinpaaPad
import Derived.Test.YtbhkpjjedeinpaaSpread
import Derived.Deep.RegionLaw
namespace Go.Proofs.Ytbhkpjjedeinpaa
open Go.RowKit Go.Maps
set_option linter.unusedVariables false

namespace Rl
/-- What a strip on roll k leads to. -/
def tryK (r : Int) (s : List Int) (m n : Nat) (p : List Int) (k : Nat) : Option (List Int) := if k < (loads s p).length ∧ r < (loads s p).getD k 0 + s.getD p.length 0 then none else sea r s m n (p ++ [(k : Int)])
theorem sea_succ (r : Int) (s : List Int) (m n : Nat) (p : List Int) : sea r s m (n + 1) p = (List.range (min ((loads s p).length + 1) m)).findSome? (tryK r s m n p) := rfl
theorem find_at {f : Nat → Option (List Int)} {j : Nat} {R : List Int} (h : f j = some R) (hn : ∀ i, i < j → f i = none) : ∀ M, j < M → (List.range M).findSome? f = some R
  | 0, h1 => by omega
  | M + 1, h1 => by
    rw [List.range_succ, List.findSome?_append]
    rcases Nat.lt_or_ge j M with h2 | h2
    · rw [find_at h hn M h2]
      rfl
    · obtain rfl : j = M := by omega
      rw [List.findSome?_eq_none_iff.2 fun i hi => hn i (List.mem_range.1 hi)]
      simp [h]
theorem sea_stop {r : Int} {s p : List Int} {m n j : Nat} (hn : ∀ i, i < j → tryK r s m n p i = none) (hj : min ((loads s p).length + 1) m ≤ j) : sea r s m (n + 1) p = none := by
  rw [sea_succ, List.findSome?_eq_none_iff]
  intro i hi
  exact hn i (by have := List.mem_range.1 hi; omega)
theorem sea_hit {r : Int} {s p R : List Int} {m n j : Nat} (hn : ∀ i, i < j → tryK r s m n p i = none) (h : tryK r s m n p j = some R) (hl : j ≤ (loads s p).length) (hm : j < m) : sea r s m (n + 1) p = some R := by
  rw [sea_succ]
  exact find_at h hn _ (by omega)
end Rl
theorem Rd.of_blkI {w : World} {g n B : Nat} {e : TypeId} {l : List Int} (h : Blk w g (l.map I).toArray e) (hl : l.length = n) (hB : g < B) : Rd I w B (some ⟨g, 0, none⟩) n l := by
  refine ⟨hl, fun _ => ⟨g, 0, rfl, hB, fun j x hx => ?_⟩⟩
  rw [Nat.zero_add]
  refine h.cell j ?_
  rw [List.getElem?_toArray, List.getElem?_map, hx]
  rfl
theorem CSt.slen {w : World} {lo gp gt gs gm gc G M : Nat} {r : Int} {A A' : Option Addr} {n c m k c' N : Nat} {s p L : List Int} {D : DataW Unit} (h : CSt w lo gp gt gs gm gc G M r A n c s m A' k c' p L N D) (hT : Rl.okT r s = true) : s.length = n := h.rd.1
/-- How many entries a search can lay. -/
def Ib : Nat → Nat
  | 0 => 0
  | k + 1 => 1 + 12 * Ib k
theorem Ib_le : Ib 12 ≤ 1000000000000 := by decide
theorem Ib_mono {a b : Nat} (h : a ≤ b) : Ib a ≤ Ib b := by
  induction h with
  | refl => exact Nat.le_refl _
  | step _ ih => simp only [Ib]; omega
/-- What the closure hands back. -/
def ComP (lo gp gt gs gm gc G M : Nat) (r : Int) (A : Option Addr) (n c : Nat) (s : List Int) (m rem : Nat) (A' : Option Addr) (k c' : Nat) (p : List Int) (N : Nat) (w : World) (e : Ending) (w' : World) : Prop :=
  ∃ (b : Bool) (A2 : Option Addr) (k2 c2 : Nat) (p2 : List Int) (N2 : Nat) (D2 : DataW Unit), e = .returned (.bool b) ∧ CSt w' lo gp gt gs gm gc G M r A n c s m A2 k2 c2 p2 (Rl.spa r s p2 m) N2 D2 ∧ Memo r s m D2 ∧ N2 ≤ N + Ib rem ∧ Frm gp G M (.slice A' k c') (.slice A2 k2 c2) w w' ∧ (b = true → Rl.sea r s m rem p = some p2) ∧ (b = false → Rl.sea r s m rem p = none ∧ p2 = p)
set_option maxRecDepth 100000 in
set_option maxHeartbeats 16000000 in
theorem com_any (lo gp gt gs gm gc G M : Nat) (P : Plc lo gp gt gs gm gc G M) (r : Int) (A : Option Addr) (n c : Nat) (s : List Int) (m : Nat) (hT : Rl.okT r s = true) (hm : m ≤ 12) : ∀ (rem : Nat) (p L : List Int) (A' : Option Addr) (k c' N : Nat) (D : DataW Unit) (w : World),
    CSt w lo gp gt gs gm gc G M r A n c s m A' k c' p L N D → Rl.spa r s p m = L → Rl.PreP r s p → Rl.rolls p ≤ m → k + rem = n → Memo r s m D → N + Ib rem ≤ 1000000000000000 →
    Calls Try.prog 73 #[.pointer (some ⟨gp, 0, none⟩), .pointer (some ⟨gt, 0, none⟩), .pointer (some ⟨gs, 0, none⟩), .pointer (some ⟨gm, 0, none⟩), .pointer (some ⟨gc, 0, none⟩)] w fun e w' => ComP lo gp gt gs gm gc G M r A n c s m rem A' k c' p N w e w' := by
  obtain ⟨i0, hi0, hz0, hz1, hz2⟩ := info_parts infoI
  have hcf : ∀ args W, (callFunc 73 args).run Try.prog W = .ok (.enter 73 args) W := enters_of Try.func73 (by kernel_rfl) rfl
  have HOK := Lib.hid (Rl.okT_iff.1 hT)
  have q1 := P.t
  have q2 := P.g
  have q3 := P.s
  have q4 := P.p
  have q5 := P.m
  have q6 := P.n
  have q7 := P.c
  intro rem
  induction rem with
  | zero =>
    intro p L A' k c' N D w h hL hp hr hk hM hN
    obtain rfl : k = n := by omega
    have HS := Lib.hid h
    have HL := Lib.hid hL
    have HM := Lib.hid hM
    have e0 := h.bp.cell 0 (v := .slice A' k c') rfl
    have e1 := h.bt.cell 1 (v := .slice A k c) rfl
    clear h hL hM hN hp hr q1 q2 q3 q4 q5 q6 q7 P
    go_enter Try.func73, Try.ntmps73
    go_wp2_with fail
    go_ret
    refine ⟨true, A', k, c', p, N, D, rfl, ?_, HM.out, Nat.le_refl _, Frm.refl, fun _ => rfl, fun e => by cases e⟩
    rw [HL.out]
    exact HS.out
  | succ rem ih =>
    intro p L A' k c' N D w h hL hp hr hk hM hN
    have hkn : k < n := by omega
    have hknI : ¬ ((k : Int) = (n : Int)) := by omega
    have hknB : ((k : Int) == (n : Int)) = false := by simpa using hknI
    have e0 := h.bp.cell 0 (v := .slice A' k c') rfl
    have e1 := h.bt.cell 1 (v := .slice A n c) rfl
    have e2 := h.bs.cell 0 (v := .slice (some ⟨G, 0, none⟩) m m) rfl
    have hLm : L.length = m := by rw [← hL, Rl.spa_len]
    obtain ⟨b1, o1, x, rfl, hbl, hx, cx⟩ := h.rd.at_ hkn
    have HX := Lib.hid hx
    have hx1 := HOK.out.2.2 x (List.mem_of_getElem? hx)
    have hn12 : n ≤ 12 := by have := HOK.out.2.1; rw [h.slen hT] at this; exact this
    have HSX : Hid (s.getD p.length 0 = x) := Lib.hid (by rw [h.len, List.getD_eq_getElem?_getD, hx]; rfl)
    have HPK := Lib.hid h.len
    clear hx cx
    have hky := key_any (some ⟨G, 0, none⟩) m m (G + 1) L w (Rd.of_blkI h.sp hLm (by omega)) (by have := h.sp.lt; omega) hm
    have hLB : ∀ y ∈ L, 0 ≤ y ∧ y ≤ r := by rw [← hL]; exact Rl.spa_bd hp (by rw [h.len, h.slen hT]; omega)
    have HLL : Hid (p.length ≤ s.length) := Lib.hid (by rw [h.len, h.slen hT]; omega)
    have HLE : Hid (s.length - p.length = rem + 1) := Lib.hid (by rw [h.len, h.slen hT]; omega)
    go_enter Try.func73, Try.ntmps73
    go_wp2_with fail
    refine hky.mono ?_
    rintro e w1 ⟨l', rfl, hl', hpm, hb1⟩
    have hkb : ∀ x ∈ l', 0 ≤ x ∧ x ≤ 100000 := by
      intro x hx
      have := HOK.out.1
      rcases List.mem_append.1 (hpm.mem_iff.1 hx) with h5 | h5
      · have := hLB x h5; omega
      · rw [List.eq_of_mem_replicate h5]; omega
    obtain ⟨kl, hkl⟩ := keyAr hl' hkb
    have h1 := h.below P hb1
    have hstep := Memo.step (K := l') hM hkl
    have hhop := hM.2 l' kl hl' hkl
    obtain ⟨x0, x1, x2, x3, x4, x5, x6, x7, x8, x9, x10, x11, rfl⟩ := twelve hl'
    have h2 := h1.below P (below_newR w1 (.cells #[.int .i64 x0, .int .i64 x1, .int .i64 x2, .int .i64 x3, .int .i64 x4, .int .i64 x5, .int .i64 x6, .int .i64 x7, .int .i64 x8, .int .i64 x9, .int .i64 x10, .int .i64 x11] 74))
    have hkx : Blk (w1.alloc (.cells #[.int .i64 x0, .int .i64 x1, .int .i64 x2, .int .i64 x3, .int .i64 x4, .int .i64 x5, .int .i64 x6, .int .i64 x7, .int .i64 x8, .int .i64 x9, .int .i64 x10, .int .i64 x11] 74)) w1.heap.size #[.int .i64 x0, .int .i64 x1, .int .i64 x2, .int .i64 x3, .int .i64 x4, .int .i64 x5, .int .i64 x6, .int .i64 x7, .int .i64 x8, .int .i64 x9, .int .i64 x10, .int .i64 x11] 74 := Blk.new _ _ rfl
    have hfr : Frm gp G M (.slice A' k c') (.slice A' k c') w (w1.alloc (.cells #[.int .i64 x0, .int .i64 x1, .int .i64 x2, .int .i64 x3, .int .i64 x4, .int .i64 x5, .int .i64 x6, .int .i64 x7, .int .i64 x8, .int .i64 x9, .int .i64 x10, .int .i64 x11] 74)) := (Frm.of_below hb1).trans (Frm.of_below (below_newR w1 _))
    have hz1w : w.heap.size ≤ w1.heap.size := hb1.size
    obtain ⟨v, hlk, hat⟩ := look_bool h2.mp hkl
    replace hlk : (Instr.lookup 73 (.map (some M)) (.agg #[.int .i64 x0, .int .i64 x1, .int .i64 x2, .int .i64 x3, .int .i64 x4, .int .i64 x5, .int .i64 x6, .int .i64 x7, .int .i64 x8, .int .i64 x9, .int .i64 x10, .int .i64 x11]) false).run Try.prog (w1.alloc (.cells #[.int .i64 x0, .int .i64 x1, .int .i64 x2, .int .i64 x3, .int .i64 x4, .int .i64 x5, .int .i64 x6, .int .i64 x7, .int .i64 x8, .int .i64 x9, .int .i64 x10, .int .i64 x11] 74)) = .ok (.bool v) (w1.alloc (.cells #[.int .i64 x0, .int .i64 x1, .int .i64 x2, .int .i64 x3, .int .i64 x4, .int .i64 x5, .int .i64 x6, .int .i64 x7, .int .i64 x8, .int .i64 x9, .int .i64 x10, .int .i64 x11] 74)) := hlk
    have HKL : Hid (keyOf Try.prog 74 (.agg #[.int .i64 x0, .int .i64 x1, .int .i64 x2, .int .i64 x3, .int .i64 x4, .int .i64 x5, .int .i64 x6, .int .i64 x7, .int .i64 x8, .int .i64 x9, .int .i64 x10, .int .i64 x11]) = some kl) := Lib.hid hkl
    have HPM := Lib.hid hpm
    have HST := Lib.hid hstep
    have HHO := Lib.hid hhop
    have HAT := Lib.hid hat
    have HMM := Lib.hid hM
    have HL := Lib.hid hL
    have HP := Lib.hid hp
    clear hky h1 hb1 hl' hkb hpm hkl hstep hhop hat hM hL hp
    replace e1 := h2.bt.cell 1 (v := .slice (some ⟨b1, o1, none⟩) n c) rfl
    replace e2 := h2.bs.cell 0 (v := .slice (some ⟨G, 0, none⟩) m m) rfl
    have e3 := h2.bm.cell 0 (v := .map (some M)) rfl
    have c0 := hkx.cell 0 (v := .int .i64 x0) rfl
    have c1 := hkx.cell 1 (v := .int .i64 x1) rfl
    have c2 := hkx.cell 2 (v := .int .i64 x2) rfl
    have c3 := hkx.cell 3 (v := .int .i64 x3) rfl
    have c4 := hkx.cell 4 (v := .int .i64 x4) rfl
    have c5 := hkx.cell 5 (v := .int .i64 x5) rfl
    have c6 := hkx.cell 6 (v := .int .i64 x6) rfl
    have c7 := hkx.cell 7 (v := .int .i64 x7) rfl
    have c8 := hkx.cell 8 (v := .int .i64 x8) rfl
    have c9 := hkx.cell 9 (v := .int .i64 x9) rfl
    have c10 := hkx.cell 10 (v := .int .i64 x10) rfl
    have c11 := hkx.cell 11 (v := .int .i64 x11) rfl
    cases v
    · go_wp2_with fail
      have hw1 : Far (.slice A' k c') w1.heap.size := fun e => by have := h.pk.lt _ e; omega
      have HPX := Lib.hid P
      have HIH := Lib.hid ih
      have hgp := h.bp.lt
      have hG := h.sp.lt
      have hMl := h.mp.lt
      clear h hlk ih c0 c1 c2 c3 c4 c5 c6 c7 c8 c9 c10 c11
      generalize (w1.alloc (.cells #[.int .i64 x0, .int .i64 x1, .int .i64 x2, .int .i64 x3, .int .i64 x4, .int .i64 x5, .int .i64 x6, .int .i64 x7, .int .i64 x8, .int .i64 x9, .int .i64 x10, .int .i64 x11] 74)) = W1 at h2 hkx hfr e1 e2 e3 ⊢
      go_loopw [8, 9, 10, 25] (fun _ _ _ i wr => ∃ (j N2 : Nat) (D2 : DataW Unit) (A2 : Option Addr) (c2 : Nat), j ≤ m ∧ i = .int .i64 (j : Int) ∧ CSt wr lo gp gt gs gm gc G M r (some ⟨b1, o1, none⟩) n c s m A2 k c2 p L N2 D2 ∧ Hid (Memo r s m D2) ∧ Hid (N2 ≤ N + j * Ib rem) ∧ Blk wr w1.heap.size #[.int .i64 x0, .int .i64 x1, .int .i64 x2, .int .i64 x3, .int .i64 x4, .int .i64 x5, .int .i64 x6, .int .i64 x7, .int .i64 x8, .int .i64 x9, .int .i64 x10, .int .i64 x11] 74 ∧ Frm gp G M (.slice A' k c') (.slice A2 k c2) w wr ∧ Hid (j ≤ (Rl.loads s p).length) ∧ Hid (∀ i, i < j → Rl.tryK r s m rem p i = none) ∧ Far (.slice A2 k c2) w1.heap.size ∧ w.heap.size ≤ wr.heap.size) (fun _ _ _ i _ => m - (intOf i).toNat)
      case atStart => exact ⟨0, N, D, A', c', Nat.zero_le _, rfl, h2, HMM, Lib.hid (by omega), hkx, hfr, Lib.hid (Nat.zero_le _), Lib.hid (fun i hi => by omega), hw1, by have := hfr.size; omega⟩
      case round =>
        clear h2 hkx hfr e1 e2 e3 hw1
        obtain ⟨j, N2, D2, A2, c2, hj, rfl, hS, HM2, HN2, hkx, hfr, HJL, HJN, hfar, hzr⟩ := hrel
        have e1 := hS.bt.cell 1 (v := .slice (some ⟨b1, o1, none⟩) n c) rfl
        have e00 := hS.bp.cell 0 (v := .slice A2 k c2) rfl
        have e10 := hS.bt.cell 0 (v := .int .i64 r) rfl
        have e2 := hS.bs.cell 0 (v := .slice (some ⟨G, 0, none⟩) m m) rfl
        have e3 := hS.bm.cell 0 (v := .map (some M)) rfl
        by_cases hlt : j < m
        · have hltI : (j : Int) < (m : Int) := by omega
          obtain ⟨y, HY⟩ : ∃ y, Hid (L[j]? = some y) := ⟨_, Lib.hid (List.getElem?_eq_getElem (by rw [hLm]; exact hlt))⟩
          have HYL : Hid (y = r - (Rl.loads s p).getD j 0) := Lib.hid (by
            have h5 := HY.out
            rw [← HL.out, Rl.spa_get hlt] at h5
            injection h5 with h5
            exact h5.symm)
          have hyb := hLB y (List.mem_of_getElem? HY.out)
          have cG : wr.cell? ⟨G, j, none⟩ = some (.int .i64 y) := hS.sp.cell j (by rw [List.getElem?_toArray, List.getElem?_map, HY.out]; rfl)
          have cX := hS.rd.cell_ HX.out
          by_cases hxy : x ≤ y
          · have HTK : Hid (Rl.tryK r s m rem p j = Rl.sea r s m rem (p ++ [(j : Int)])) := Lib.hid (by
              unfold Rl.tryK
              rw [if_neg]
              have := HYL.out
              rw [HSX.out]
              omega)
            have HNX := Lib.hid (HP.out.next (k := j) (by rw [HPK.out, hS.slen hT]; exact hkn) HJL.out (by have := HYL.out; rw [HSX.out]; omega))
            have hfrG := hS.sp.free j
            have ew : IntKind.i64.wrap (y - x) = y - x := IntWalk.i64_in _ (by have := HOK.out.1; omega)
            go_upto_region 13 with (at_builtin; refine wp_push3 (enc := I) wr rfl _ _ 24 rfl 2 i0 _ 8 Try.underlying24 hi0 hz0 hz1 hz2 rfl A2 k c2 _ lo wr.heap.size rfl hS.pk (j : Int) rfl rfl (by omega) (by omega) (hS.lo_ HPX.out) ?_; intro A4 c4 w4 ho4 hm4 hk4; obtain ⟨bp4, S5⟩ := hS.push HPX.out ho4 hm4 hk4; have f40 := bp4.cell 0 (v := .slice A2 k c2) rfl; have f41 := bp4.free 0)
            have F5 := (hfr.trans (Frm.push (gp := gp) (G := G) (M := M) hm4 hk4)).trans (Frm.setP (.slice A4 (k + 1) c4))
            have kx5 := ((Frm.push (gp := gp) (G := G) (M := M) hm4 hk4).trans (Frm.setP (.slice A4 (k + 1) c4))).blk hkx (by omega) (by omega) (by omega) hfar
            have fk5 := (hk4 _ hkx.lt hfar).2
            clear ho4 hm4 hk4 bp4 f40 f41 hS hfr hkx hfar cG cX hfrG e1 e10 e2 e3 e00
            generalize w4.setCell ⟨gp, 0, none⟩ (.slice A4 (k + 1) c4) = w5 at S5 F5 kx5 ⊢
            have e2 := S5.bs.cell 0 (v := .slice (some ⟨G, 0, none⟩) m m) rfl
            have cG : w5.cell? ⟨G, j, none⟩ = some (.int .i64 y) := S5.sp.cell j (by rw [List.getElem?_toArray, List.getElem?_map, HY.out]; rfl)
            have fG := S5.sp.free j
            go_upto_region 14 with fail
            have S6 := S5.setG HPX.out j (y - x)
            have F6 := F5.trans (Frm.setG j (.int .i64 (y - x)))
            have kx6 := (Frm.setG (gp := gp) (G := G) (M := M) (v := .slice A4 (k + 1) c4) j (.int .i64 (y - x))).blk kx5 (by omega) (by omega) (by omega) fk5
            clear S5 F5 kx5 e2 cG fG
            generalize w5.setCell ⟨G, j, none⟩ (.int .i64 (y - x)) = w6 at S6 F6 kx6 ⊢
            have HL6 : Hid (Rl.spa r s (p ++ [(j : Int)]) m = L.set j (y - x)) := Lib.hid (by
              rw [Rl.spa_next (by rw [HPK.out, S6.slen hT]; exact hkn), HL.out, HSX.out]
              congr 1
              have := HYL.out
              omega)
            have HMU : Hid (N2 + Ib rem ≤ N + (j + 1) * Ib rem ∧ N + (j + 1) * Ib rem ≤ N + 12 * Ib rem) := Lib.hid (by
              have h5 := HN2.out
              have h6 : (j + 1) * Ib rem ≤ 12 * Ib rem := Nat.mul_le_mul_right _ (by omega)
              rw [Nat.succ_mul] at h6 ⊢
              omega)
            have hcl := HIH.out (p ++ [(j : Int)]) (L.set j (y - x)) A4 (k + 1) c4 N2 D2 w6 S6 HL6.out HNX.out.1 (by rw [HNX.out.2]; omega) (by omega) HM2.out (by have := HMU.out; simp only [Ib] at hN; omega)
            have e4 := S6.bc.cell 0 (v := CloP gp gt gs gm gc) rfl
            have hz6 := F6.size
            clear S6
            go_wp2_with fail
            refine hcl.mono ?_
            rintro e w7 ⟨b, A7, k7, c7, p7, N7, D7, rfl, S7, M7, HN7, F7, ht, hf⟩
            cases b
            · obtain ⟨hno, rfl⟩ := hf rfl
              have hk7 : k7 = k + 1 := by have h5 := S7.len; rw [List.length_append, HPK.out] at h5; simpa using h5.symm
              subst hk7
              obtain ⟨g7, u7, rfl, hg71, hg72, hg73, _, _, _⟩ := S7.pk.at_ (k := k) (by omega)
              have hc7 : k ≤ c7 := by have := S7.pk.cap; omega
              have HTN : Hid (Rl.tryK r s m rem p j = none) := Lib.hid (HTK.out.trans hno)
              have hcut := ownI_cut S7.pk (i := k) (by omega)
              have htk : (p ++ [(j : Int)]).take k = p := by rw [← HPK.out]; simp
              rw [htk] at hcut
              have hlen7 : (Rl.spa r s (p ++ [(j : Int)]) m).length = m := Rl.spa_len _ _ _ _
              obtain ⟨y7, HY7⟩ : ∃ y7, Hid ((Rl.spa r s (p ++ [(j : Int)]) m)[j]? = some y7) := ⟨_, Lib.hid (List.getElem?_eq_getElem (by rw [hlen7]; exact hlt))⟩
              have e00 := S7.bp.cell 0 (v := .slice (some ⟨g7, 0, none⟩) (k + 1) c7) rfl
              have f00 := S7.bp.free 0
              have e2 := S7.bs.cell 0 (v := .slice (some ⟨G, 0, none⟩) m m) rfl
              have cG : w7.cell? ⟨G, j, none⟩ = some (.int .i64 y7) := S7.sp.cell j (by rw [List.getElem?_toArray, List.getElem?_map, HY7.out]; rfl)
              have fG := S7.sp.free j
              have hfr7 : Far (.slice (some ⟨g7, 0, none⟩) k c7) G := S7.fr
              have S8 := (S7.setP HPX.out hcut hfr7).setG HPX.out j y
              have F67 := F6.trans F7
              have F78 := (((F7.trans (Frm.cut (i := k))).trans (Frm.setP (.slice (some ⟨g7, 0, none⟩) k c7))).trans (Frm.setG j (.int .i64 y)))
              have F8 := F6.trans F78
              have kx8 := F78.blk kx6 (by omega) (by omega) (by omega) fk5
              have fk8 := F78.far _ kx6.lt fk5
              have hL8 : (Rl.spa r s (p ++ [(j : Int)]) m).set j y = L := by
                rw [HL6.out, List.set_set]
                have h5 := HY.out
                apply List.ext_getElem?
                intro i
                rw [List.getElem?_set]
                split
                · rename_i e
                  subst e
                  rw [if_pos (by rw [hLm]; exact hlt), h5]
                · rfl
              rw [hL8] at S8
              have HM8 := Lib.hid M7
              have HN8 : Hid (N7 ≤ N + (j + 1) * Ib rem) := Lib.hid (by have := HMU.out; have h5 := HN2.out; rw [Nat.succ_mul]; omega)
              clear hcl e4 S7 M7 HN7 F7 F67 F6 F78 kx6 fk5 ht hf hcut htk hlen7 hno
              go_wp2_with fail
              go_region
              obtain ⟨W8, hW8⟩ : ∃ W, W = ((w7.setCell ⟨gp, 0, none⟩ (.slice (some ⟨g7, 0, none⟩) k c7)).setCell ⟨G, j, none⟩ (.int .i64 y)).drew := ⟨_, rfl⟩
              rw [← hW8]
              have hbd : Below ((w7.setCell ⟨gp, 0, none⟩ (.slice (some ⟨g7, 0, none⟩) k c7)).setCell ⟨G, j, none⟩ (.int .i64 y)).heap.size ((w7.setCell ⟨gp, 0, none⟩ (.slice (some ⟨g7, 0, none⟩) k c7)).setCell ⟨G, j, none⟩ (.int .i64 y)) W8 := by rw [hW8]; exact below_drewN' (Below.refl _ _) 1
              have S8d := S8.below HPX.out hbd
              have F8d := F8.trans (Frm.of_below hbd)
              have kx8d := kx8.below hbd kx8.lt
              have hz8 := F8d.size
              clear hW8 hbd S8 F8 kx8 e00 f00 e2 cG fG
              have e10 := S8d.bt.cell 0 (v := .int .i64 r) rfl
              by_cases hyr : y = r
              · have hyB : (y == r) = true := by simpa using hyr
                have HNO : Hid (Rl.sea r s m (rem + 1) p = none) := Lib.hid (Rl.sea_stop (j := j + 1) (fun i hi => by
                  rcases Nat.lt_or_ge i j with h7 | h7
                  · exact HJN.out i h7
                  · obtain rfl : i = j := by omega
                    exact HTN.out) (by
                  have h5 := HYL.out
                  have h8 := (Rl.whole_iff HP.out HLL.out j).1 (by omega)
                  omega))
                have HNB : Hid (N7 + 1 ≤ N + Ib (rem + 1) ∧ N7 ≤ 1000000000000000) := Lib.hid (by
                  have h5 := HN8.out
                  have h6 := HMU.out
                  simp only [Ib] at hN ⊢
                  omega)
                clear hyr
                have kc0 := kx8d.cell 0 (v := .int .i64 x0) rfl
                have kc1 := kx8d.cell 1 (v := .int .i64 x1) rfl
                have kc2 := kx8d.cell 2 (v := .int .i64 x2) rfl
                have kc3 := kx8d.cell 3 (v := .int .i64 x3) rfl
                have kc4 := kx8d.cell 4 (v := .int .i64 x4) rfl
                have kc5 := kx8d.cell 5 (v := .int .i64 x5) rfl
                have kc6 := kx8d.cell 6 (v := .int .i64 x6) rfl
                have kc7 := kx8d.cell 7 (v := .int .i64 x7) rfl
                have kc8 := kx8d.cell 8 (v := .int .i64 x8) rfl
                have kc9 := kx8d.cell 9 (v := .int .i64 x9) rfl
                have kc10 := kx8d.cell 10 (v := .int .i64 x10) rfl
                have kc11 := kx8d.cell 11 (v := .int .i64 x11) rfl
                have e3t := S8d.bm.cell 0 (v := .map (some M)) rfl
                have HSS := Lib.hid S8d
                have HFF := Lib.hid F8d
                have hmp9 := S8d.mp
                go_wp2_with (at_mapUpdate; refine wpList_mapUpdate_own W8 rfl _ _ _ 73 rfl 74 4 lawAr Try.underlying73 (plainElem Try.prog 4) M N7 D7 rfl hmp9 (by have := HNB.out; unfold maxLen; omega) _ _ kl rfl rfl HKL.out (.lit (.bool true)) [] (plainElem_bool Try.underlying4 true) ?_; intro w9 hm9 hg9)
                have S9 := HSS.out.setM HPX.out hg9 hm9
                have F9 := HFF.out.trans (Frm.setM hg9)
                have HE9 := Lib.hid (And.intro S9 (And.intro F9 (Memo.step (K := [x0, x1, x2, x3, x4, x5, x6, x7, x8, x9, x10, x11]) HM8.out HKL.out (Rl.Hop.of HP.out HLL.out hr (by rw [HL.out]; exact HPM.out.symm) (by rw [HLE.out]; exact HNO.out)))))
                clear S9 F9 hm9 hg9 hmp9
                go_ret
                refine ⟨false, some ⟨g7, 0, none⟩, k, c7, p, N7 + 1, _, rfl, ?_, HE9.out.2.2, HNB.out.1, HE9.out.2.1, (fun e => by cases e), fun _ => ⟨HNO.out, rfl⟩⟩
                rw [HL.out]
                exact HE9.out.1
              · have hyB : (y == r) = false := by simpa using hyr
                have HJ2 : Hid (j + 1 ≤ (Rl.loads s p).length) := Lib.hid (by
                  rcases Nat.lt_or_ge j (Rl.loads s p).length with h7 | h7
                  · exact h7
                  · have h8 := (Rl.whole_iff HP.out HLL.out j).2 h7
                    have h5 := HYL.out
                    omega)
                go_wp2_with fail
                go_roundw
                case rel => exact ⟨j + 1, N7, D7, some ⟨g7, 0, none⟩, c7, by omega, by go_num, S8d, HM8, HN8, kx8d, F8d, HJ2, Lib.hid fun i hi => by
                  rcases Nat.lt_or_ge i j with h7 | h7
                  · exact HJN.out i h7
                  · obtain rfl : i = j := by omega
                    exact HTN.out, fk8, by omega⟩
                case measure => simp [intOf]; omega
            · have HE := Lib.hid (And.intro S7 (And.intro M7 (And.intro HN7 (And.intro (F6.trans F7) (ht rfl)))))
              clear S7 M7 HN7 F7 F6 ht hf kx6 fk5 hcl e4
              go_wp2_with fail
              go_ret
              obtain ⟨S7, M7, HN7, F7, ht⟩ := HE.out
              exact ⟨true, A7, k7, c7, p7, N7, D7, rfl, S7, M7, by have := HMU.out; simp only [Ib]; omega, F7, fun _ => Rl.sea_hit HJN.out (HTK.out.trans ht) HJL.out hlt, fun e => by cases e⟩
          · have HTN : Hid (Rl.tryK r s m rem p j = none) := Lib.hid (by
              unfold Rl.tryK
              rw [if_pos]
              have h5 := HYL.out
              have h6 := HOK.out.1
              refine ⟨?_, by rw [HSX.out]; omega⟩
              rcases Nat.lt_or_ge j (Rl.loads s p).length with h7 | h7
              · exact h7
              · have h8 := (Rl.whole_iff HP.out HLL.out j).2 h7
                omega)
            have HJ2 : Hid (j + 1 ≤ (Rl.loads s p).length) := Lib.hid (by
              rcases Nat.lt_or_ge j (Rl.loads s p).length with h7 | h7
              · exact h7
              · have h8 := (Rl.whole_iff HP.out HLL.out j).2 h7
                have h5 := HYL.out
                omega)
            have hyr : ¬ (y = r) := by omega
            have hyB : (y == r) = false := by simpa using hyr
            have HN3 : Hid (N2 ≤ N + (j + 1) * Ib rem) := Lib.hid (by have := HN2.out; rw [Nat.succ_mul]; omega)
            go_wp2_with fail
            go_roundw
            case rel => exact ⟨j + 1, N2, D2, A2, c2, by omega, by go_num, hS, HM2, HN3, hkx, hfr, HJ2, Lib.hid fun i hi => by
              rcases Nat.lt_or_ge i j with h7 | h7
              · exact HJN.out i h7
              · obtain rfl : i = j := by omega
                exact HTN.out, hfar, hzr⟩
            case measure => simp [intOf]; omega
        · have HNO : Hid (Rl.sea r s m (rem + 1) p = none) := Lib.hid (Rl.sea_stop HJN.out (by have := HJL.out; omega))
          have HNB : Hid (N2 + 1 ≤ N + Ib (rem + 1) ∧ N2 ≤ 1000000000000000) := Lib.hid (by
            have h5 := HN2.out
            have h6 : j * Ib rem ≤ 12 * Ib rem := Nat.mul_le_mul_right _ (by omega)
            simp only [Ib] at hN ⊢
            omega)
          have kc0 := hkx.cell 0 (v := .int .i64 x0) rfl
          have kc1 := hkx.cell 1 (v := .int .i64 x1) rfl
          have kc2 := hkx.cell 2 (v := .int .i64 x2) rfl
          have kc3 := hkx.cell 3 (v := .int .i64 x3) rfl
          have kc4 := hkx.cell 4 (v := .int .i64 x4) rfl
          have kc5 := hkx.cell 5 (v := .int .i64 x5) rfl
          have kc6 := hkx.cell 6 (v := .int .i64 x6) rfl
          have kc7 := hkx.cell 7 (v := .int .i64 x7) rfl
          have kc8 := hkx.cell 8 (v := .int .i64 x8) rfl
          have kc9 := hkx.cell 9 (v := .int .i64 x9) rfl
          have kc10 := hkx.cell 10 (v := .int .i64 x10) rfl
          have kc11 := hkx.cell 11 (v := .int .i64 x11) rfl
          have e3t := hS.bm.cell 0 (v := .map (some M)) rfl
          have HSS := Lib.hid hS
          have HFF := Lib.hid hfr
          have hmp9 := hS.mp
          go_wp2_with (at_mapUpdate; refine wpList_mapUpdate_own wr rfl _ _ _ 73 rfl 74 4 lawAr Try.underlying73 (plainElem Try.prog 4) M N2 D2 rfl hmp9 (by have := HNB.out; unfold maxLen; omega) _ _ kl rfl rfl HKL.out (.lit (.bool true)) [] (plainElem_bool Try.underlying4 true) ?_; intro w9 hm9 hg9)
          have S9 := HSS.out.setM HPX.out hg9 hm9
          have F9 := HFF.out.trans (Frm.setM hg9)
          have HE9 := Lib.hid (And.intro S9 (And.intro F9 (Memo.step (K := [x0, x1, x2, x3, x4, x5, x6, x7, x8, x9, x10, x11]) HM2.out HKL.out (Rl.Hop.of HP.out HLL.out hr (by rw [HL.out]; exact HPM.out.symm) (by rw [HLE.out]; exact HNO.out)))))
          clear S9 F9 hm9 hg9 hmp9
          go_ret
          refine ⟨false, A2, k, c2, p, N2 + 1, _, rfl, ?_, HE9.out.2.2, HNB.out.1, HE9.out.2.1, (fun e => by cases e), fun _ => ⟨HNO.out, rfl⟩⟩
          rw [HL.out]
          exact HE9.out.1
    · have HN : Hid (Rl.sea r s m (rem + 1) p = none) := Lib.hid (by
        have h6 := HHO.out HAT.out p HP.out HLL.out hr (by rw [HL.out]; exact HPM.out.symm)
        rwa [HLE.out] at h6)
      have HS := Lib.hid h2
      have HF := Lib.hid hfr
      clear h h2 hfr hLB hr
      go_wp2_with fail
      go_ret
      refine ⟨false, A', k, c', p, N, D, rfl, ?_, HMM.out, Nat.le_add_right _ _, HF.out, (fun e => by cases e), fun _ => ⟨HN.out, rfl⟩⟩
      rw [HL.out]
      exact HS.out
end Go.Proofs.Ytbhkpjjedeinpaa

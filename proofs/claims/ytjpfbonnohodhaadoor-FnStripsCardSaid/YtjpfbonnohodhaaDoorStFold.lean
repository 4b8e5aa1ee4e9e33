/- Contracts of one fold of the model's stacks, and of the stack of folds. -/
import Derived.Test.YtjpfbonnohodhaaDoorStStack
namespace Go.Proofs.YtjpfbonnohodhaaDoor
open Go.RowKit

theorem Own.cap {w : World} {lo hi n c : Nat} {e : TypeId} {α : Type} {enc : α → Value} {A : Option Addr} {l : List α} (h : Own enc w lo hi e (.slice A n c) l) : n ≤ c := by
  obtain ⟨_, c', hv, hc'⟩ := h.form
  injection hv with _ _ hv
  have := h.rd.1
  omega
/-- The stacks as they come in: handles that read as lists of small numbers. -/
def StkIn (w : World) (B : Nat) (A : Option Addr) (n : Nat) (ls : List (List Int)) : Prop :=
  ∃ hs lo, Rd H3.v w B A n hs ∧ Rows w lo B hs ls
theorem Stk.in_ {w : World} {lo n c : Nat} {A : Option Addr} {ls : List (List Int)} (h : Stk w lo A n c ls) : StkIn w w.heap.size A n ls := by
  obtain ⟨hs, ho, hr, _⟩ := h
  exact ⟨hs, _, ho.rd, hr⟩
theorem StkIn.below {w w' : World} {B B' n : Nat} {A : Option Addr} {ls : List (List Int)} (h : StkIn w B A n ls) (hb : Below B' w w') (hB : B ≤ B') : StkIn w' B A n ls := by
  obtain ⟨hs, lo, ho, hr⟩ := h
  exact ⟨hs, lo, ho.below hb hB, hr.below hb hB⟩
theorem StkIn.q {w w' : World} {B n : Nat} {A : Option Addr} {ls : List (List Int)} (h : StkIn w B A n ls) (hq : Q w w') : StkIn w' B A n ls := h.below (hq.below B) (Nat.le_refl _)
theorem StkIn.len {w : World} {B n : Nat} {A : Option Addr} {ls : List (List Int)} (h : StkIn w B A n ls) : ls.length = n := by
  obtain ⟨hs, lo, ho, hr⟩ := h
  rw [← hr.1]
  exact ho.1
/-- One handle. -/
theorem StkIn.at_ {w : World} {B n k : Nat} {b o : Nat} {ls : List (List Int)} (h : StkIn w B (some ⟨b, o, none⟩) n ls) (hk : k < n) :
    ∃ lo A m c, w.cell? ⟨b, o + k, none⟩ = some (.slice A m c) ∧ RdT w lo B A m c (ls.getD k []) := by
  obtain ⟨hs, lo, ho, hr⟩ := h
  obtain ⟨b', o', x, hA, _, hx, hc⟩ := ho.at_ hk
  injection hA with hA
  injection hA with h1 h2 _
  subst h1 h2
  exact ⟨lo, x.a, x.n, x.c, hc, hr.get hx⟩
theorem StkIn.addr {w : World} {B n : Nat} {A : Option Addr} {ls : List (List Int)} (h : StkIn w B A n ls) (hn : 0 < n) : ∃ b o, A = some ⟨b, o, none⟩ ∧ b < B := by
  obtain ⟨hs, lo, ho, _⟩ := h
  obtain ⟨b, o, hA, hb, _⟩ := ho.2 hn
  exact ⟨b, o, hA, hb⟩
def inSt (ls : List (List Int)) : Prop := ∀ l ∈ ls, inSm l ∧ l.length ≤ 64
theorem inSt.get {ls : List (List Int)} (h : inSt ls) (k : Nat) : inSm (ls.getD k []) ∧ (ls.getD k []).length ≤ 64 := by
  rw [List.getD_eq_getElem?_getD]
  cases hk : ls[k]? with
  | none => exact ⟨fun x hx => by simp at hx, by simp⟩
  | some l => exact h l (List.mem_of_getElem? hk)
def foldTo (ls : List (List Int)) (b : UInt8) (k : Nat) : List (List Int) := (List.range k).map fun i => St.turn (St.over ls b i) ++ St.under ls b i
theorem foldTo_next (ls : List (List Int)) (b : UInt8) (k : Nat) : foldTo ls b (k + 1) = foldTo ls b k ++ [St.turn (St.over ls b k) ++ St.under ls b k] := by
  simp [foldTo, List.range_succ]

set_option maxRecDepth 100000 in
set_option maxHeartbeats 4000000 in
theorem fold_L (A : Option Addr) (n m c B : Nat) (ls : List (List Int)) (w : World) (h : StkIn w B A n ls) (hB : B ≤ w.heap.size) (hn : n ≤ 64) (hnm : n = 2 * m) (hm0 : 0 < m) (hin : inSt ls) :
    Calls Tryd.prog 52 #[.slice A n c, .int .u8 76] w fun e w' => ∃ A' c', e = .returned (.slice A' m c') ∧ Stk w' w.heap.size A' m c' (St.fold ls 76) ∧ Below w.heap.size w w' := by
  obtain ⟨i0, hi0, hz0, hz1, hz2⟩ := info_parts infoL
  obtain ⟨i1, hi1, hy0, hy1, hy2⟩ := info_parts infoI
  have HLS : Hid (ls.length = n) := h.len
  have HIN := Lib.hid hin
  obtain ⟨bA, oA, rfl, hbA⟩ := h.addr (by omega)
  have hl0 := Own.lit0 H3.v w 25
  have hb3 : Below w.heap.size w (w.alloc (.cells #[] 25)) := (Below.refl _ _).alloc (Nat.le_refl _) _
  obtain ⟨p, hp⟩ : ∃ p : Nat, n = p + 1 := ⟨n - 1, by omega⟩
  obtain ⟨r, hr⟩ : ∃ r : Nat, m = r + 1 := ⟨m - 1, by omega⟩
  have hm32 : m ≤ 32 := by omega
  have hd2 : (n : Int).tdiv 2 = (m : Int) := by rw [Int.tdiv_eq_ediv_of_nonneg (by omega)]; omega
  have e1 : IntKind.i64.wrap (m : Int) = (m : Int) := IntWalk.i64_in _ (by omega)
  have e2 : IntKind.i64.wrap ((n : Int) - 1) = (p : Int) := by rw [IntWalk.i64_in _ (by omega)]; omega
  have e4 : IntKind.i64.wrap ((m : Int) - 1) = (r : Int) := by rw [IntWalk.i64_in _ (by omega)]; omega
  have HP := Lib.hid hp
  have HR := Lib.hid hr
  have HNM := Lib.hid hnm
  clear hp hr hnm hin
  go_enter Tryd.func52, Tryd.ntmps52
  go_wp2_with fail
  go_loopw [6, 7] (fun v i wr => ∃ k : Nat, k ≤ m ∧ i = .int .i64 (k : Int) ∧ (∃ A3 c3, v = .slice A3 k c3 ∧ Stk wr w.heap.size A3 k c3 (foldTo ls 76 k)) ∧ Below w.heap.size w wr) (fun _ i _ => m - (intOf i).toNat)
  case atStart => exact ⟨0, Nat.zero_le _, rfl, ⟨_, _, rfl, [], hl0.mono (Nat.le_refl _) (by simp), Rows.nil_ _ _ _, Nat.le_refl _⟩, hb3⟩
  case round =>
    clear hl0 hb3
    obtain ⟨k, hk, rfl, ⟨A3, c3, rfl, hs, ho, hrr, hkc⟩, hb⟩ := hrel
    have hsz := hb.size
    by_cases hlt : k < m
    · have h := h.below hb hB
      obtain ⟨q, hq⟩ : ∃ q : Nat, q + k = p := ⟨p - k, by have := HP.out; have := HNM.out; omega⟩
      obtain ⟨t, ht⟩ : ∃ t : Nat, t + k = r := ⟨r - k, by have := HR.out; omega⟩
      obtain ⟨s, hs2⟩ : ∃ s : Nat, s = m + k := ⟨_, rfl⟩
      have e3 : IntKind.i64.wrap ((p : Int) - (k : Int)) = (q : Int) := by have := HP.out; rw [IntWalk.i64_in _ (by omega)]; omega
      have e5 : IntKind.i64.wrap ((r : Int) - (k : Int)) = (t : Int) := by have := HR.out; rw [IntWalk.i64_in _ (by omega)]; omega
      have e6 : IntKind.i64.wrap ((m : Int) + (k : Int)) = (s : Int) := by rw [IntWalk.i64_in _ (by omega)]; omega
      have hqn : q < n := by have := HP.out; omega
      have hkn : k < n := by have := HNM.out; omega
      have htn : t < n := by have := HR.out; have := HNM.out; omega
      have hsn : s < n := by have := HNM.out; omega
      obtain ⟨loq, Aq, mq, cq, cellq, rdq⟩ := h.at_ hqn
      obtain ⟨lok, Ak, mk, ck, cellk, rdk⟩ := h.at_ hkn
      obtain ⟨lot, At, mt, ct, cellt, rdt⟩ := h.at_ htn
      obtain ⟨los, As, ms, cs, cells, rds⟩ := h.at_ hsn
      have HO : Hid (St.over ls 76 k = ls.getD t []) := by
        have h1 := HLS.out
        have h2 := HNM.out
        have h3 := HP.out
        have h4 := HR.out
        refine Lib.hid ?_
        show ls.getD (ls.length / 2 - 1 - k) [] = _
        congr 1
        omega
      have HU : Hid (St.under ls 76 k = ls.getD s []) := by
        have h1 := HLS.out
        have h2 := HNM.out
        refine Lib.hid ?_
        show ls.getD (ls.length / 2 + k) [] = _
        first | rfl | (congr 1; omega)
      have RO := Lib.hid rdt
      have RU := Lib.hid rds
      have hov := Lib.hid (HIN.out.get t)
      have hun := Lib.hid (HIN.out.get s)
      clear rdq rdk rdt rds hq ht hs2
      have hlov : mt ≤ 64 := by have := RO.out.rd.1; have := hov.out.2; omega
      have hlun : ms ≤ 64 := by have := RU.out.rd.1; have := hun.out.2; omega
      go_wp2_with fail
      go_quiet (fail)
      go_wp2_with fail
      go_quiet (fail)
      go_wp2_with fail
      refine (turn_any At mt ct B _ _ (RO.out.below (below_drewN' (Below.refl _ _) _) (Nat.le_refl _)).rd (Nat.le_trans hB hsz) (by omega) hov.out.1).mono ?_
      rintro e w1 ⟨A5, c5, rfl, o5, hb5⟩
      have hz5 : wr.heap.size ≤ w1.heap.size := hb5.size
      have hb5' : Below wr.heap.size wr w1 := (below_drewN' (Below.refl _ _) _).trans hb5
      have RU1 := Lib.hid (RU.out.below hb5' (Nat.le_trans hB hsz))
      have ho1 : Own H3.v w1 w.heap.size wr.heap.size 25 (.slice A3 k c3) hs := ho.below hb5' (Nat.le_refl _)
      have hr1 := Lib.hid (hrr.below hb5' (Nat.le_refl _))
      have HN := Lib.hid (foldTo_next ls 76 k)
      clear hrr ho RO RU
      go_wp2_with (at_builtin; first
        | (refine wp_push3 w6 rfl _ _ 69 rfl 25 i0 _ 24 Tryd.underlying69 hi0 hz0 hz1 hz2 rfl A3 k c3 _ _ _ rfl ho6 (⟨A6, mt + ms, c6⟩ : H3) rfl rfl (by omega) (by omega) (by omega) ?_; intro A7 c7 w7 o7 hm7 hk7)
        | (refine wp_spread w1 rfl _ _ 25 rfl 2 i1 _ 8 Tryd.underlying25 hi1 hy0 hy1 hy2 rfl A5 mt c5 _ _ _ rfl o5 As ms cs B _ rfl RU1.out.rd (fun _ => rfl) (by omega) (by omega) hz5 ?_; intro A6 c6 w6 o6 hm6; have hz6 := hm6.size; have ho6 := (ho1.only hm6 (.inl (Nat.le_refl _))).mono (Nat.le_refl _) (Nat.le_trans hz5 hz6)))
      have hz7 := hm7.size
      go_roundw
      case rel =>
        have hb1 : Below w.heap.size w w1 := hb.trans (hb5'.mono hsz)
        have hb6 : Below w.heap.size w w6 := hb1.trans (hm6.below hsz (by omega))
        refine ⟨k + 1, by omega, by go_num, ⟨_, _, rfl, _, o7, ?_, o7.cap⟩, hb6.trans (hm7.below (Nat.le_refl _) (by omega))⟩
        rw [HN.out, HO.out, HU.out]
        have hr6 : Rows w6 w.heap.size wr.heap.size hs (foldTo ls 76 k) := hr1.out.keep fun b _ _ hlt _ => hm6.block b (Nat.lt_of_lt_of_le hlt hz5) (.inl hlt)
        refine Rows.push ((hr6.kept (by omega) ho6 hk7).more (Nat.le_refl _) (by omega)) ?_
        exact (RdT.kept o6 (Nat.le_refl _) ho6 hk7).more hsz (by omega)
      case measure => simp [intOf]; omega
    · obtain rfl : k = m := by omega
      go_wp2_with fail
      go_ret
      refine ⟨_, _, rfl, ⟨hs, ho, ?_, hkc⟩, hb⟩
      have h1 := HLS.out
      have h2 := HNM.out
      have : St.fold ls 76 = foldTo ls 76 k := by
        show foldTo ls 76 (ls.length / 2) = _
        rw [h1, h2]
        congr 1
        omega
      rw [this]
      exact hrr

set_option maxRecDepth 100000 in
set_option maxHeartbeats 4000000 in
theorem fold_R (A : Option Addr) (n m c B : Nat) (ls : List (List Int)) (w : World) (h : StkIn w B A n ls) (hB : B ≤ w.heap.size) (hn : n ≤ 64) (hnm : n = 2 * m) (hm0 : 0 < m) (hin : inSt ls) :
    Calls Tryd.prog 52 #[.slice A n c, .int .u8 82] w fun e w' => ∃ A' c', e = .returned (.slice A' m c') ∧ Stk w' w.heap.size A' m c' (St.fold ls 82) ∧ Below w.heap.size w w' := by
  obtain ⟨i0, hi0, hz0, hz1, hz2⟩ := info_parts infoL
  obtain ⟨i1, hi1, hy0, hy1, hy2⟩ := info_parts infoI
  have HLS : Hid (ls.length = n) := h.len
  have HIN := Lib.hid hin
  obtain ⟨bA, oA, rfl, hbA⟩ := h.addr (by omega)
  have hl0 := Own.lit0 H3.v w 25
  have hb3 : Below w.heap.size w (w.alloc (.cells #[] 25)) := (Below.refl _ _).alloc (Nat.le_refl _) _
  obtain ⟨p, hp⟩ : ∃ p : Nat, n = p + 1 := ⟨n - 1, by omega⟩
  obtain ⟨r, hr⟩ : ∃ r : Nat, m = r + 1 := ⟨m - 1, by omega⟩
  have hm32 : m ≤ 32 := by omega
  have hd2 : (n : Int).tdiv 2 = (m : Int) := by rw [Int.tdiv_eq_ediv_of_nonneg (by omega)]; omega
  have e1 : IntKind.i64.wrap (m : Int) = (m : Int) := IntWalk.i64_in _ (by omega)
  have e2 : IntKind.i64.wrap ((n : Int) - 1) = (p : Int) := by rw [IntWalk.i64_in _ (by omega)]; omega
  have e4 : IntKind.i64.wrap ((m : Int) - 1) = (r : Int) := by rw [IntWalk.i64_in _ (by omega)]; omega
  have HP := Lib.hid hp
  have HR := Lib.hid hr
  have HNM := Lib.hid hnm
  clear hp hr hnm hin
  go_enter Tryd.func52, Tryd.ntmps52
  go_wp2_with fail
  go_loopw [6, 7] (fun v i wr => ∃ k : Nat, k ≤ m ∧ i = .int .i64 (k : Int) ∧ (∃ A3 c3, v = .slice A3 k c3 ∧ Stk wr w.heap.size A3 k c3 (foldTo ls 82 k)) ∧ Below w.heap.size w wr) (fun _ i _ => m - (intOf i).toNat)
  case atStart => exact ⟨0, Nat.zero_le _, rfl, ⟨_, _, rfl, [], hl0.mono (Nat.le_refl _) (by simp), Rows.nil_ _ _ _, Nat.le_refl _⟩, hb3⟩
  case round =>
    clear hl0 hb3
    obtain ⟨k, hk, rfl, ⟨A3, c3, rfl, hs, ho, hrr, hkc⟩, hb⟩ := hrel
    have hsz := hb.size
    by_cases hlt : k < m
    · have h := h.below hb hB
      obtain ⟨q, hq⟩ : ∃ q : Nat, q + k = p := ⟨p - k, by have := HP.out; have := HNM.out; omega⟩
      obtain ⟨t, ht⟩ : ∃ t : Nat, t + k = r := ⟨r - k, by have := HR.out; omega⟩
      obtain ⟨s, hs2⟩ : ∃ s : Nat, s = m + k := ⟨_, rfl⟩
      have e3 : IntKind.i64.wrap ((p : Int) - (k : Int)) = (q : Int) := by have := HP.out; rw [IntWalk.i64_in _ (by omega)]; omega
      have e5 : IntKind.i64.wrap ((r : Int) - (k : Int)) = (t : Int) := by have := HR.out; rw [IntWalk.i64_in _ (by omega)]; omega
      have e6 : IntKind.i64.wrap ((m : Int) + (k : Int)) = (s : Int) := by rw [IntWalk.i64_in _ (by omega)]; omega
      have hqn : q < n := by have := HP.out; omega
      have hkn : k < n := by have := HNM.out; omega
      have htn : t < n := by have := HR.out; have := HNM.out; omega
      have hsn : s < n := by have := HNM.out; omega
      obtain ⟨loq, Aq, mq, cq, cellq, rdq⟩ := h.at_ hqn
      obtain ⟨lok, Ak, mk, ck, cellk, rdk⟩ := h.at_ hkn
      obtain ⟨lot, At, mt, ct, cellt, rdt⟩ := h.at_ htn
      obtain ⟨los, As, ms, cs, cells, rds⟩ := h.at_ hsn
      have HO : Hid (St.over ls 82 k = ls.getD q []) := by
        have h1 := HLS.out
        have h2 := HNM.out
        have h3 := HP.out
        have h4 := HR.out
        refine Lib.hid ?_
        show ls.getD (ls.length - 1 - k) [] = _
        congr 1
        omega
      have HU : Hid (St.under ls 82 k = ls.getD k []) := by
        have h1 := HLS.out
        have h2 := HNM.out
        refine Lib.hid ?_
        show ls.getD k [] = _
        first | rfl | (congr 1; omega)
      have RO := Lib.hid rdq
      have RU := Lib.hid rdk
      have hov := Lib.hid (HIN.out.get q)
      have hun := Lib.hid (HIN.out.get k)
      clear rdq rdk rdt rds hq ht hs2
      have hlov : mq ≤ 64 := by have := RO.out.rd.1; have := hov.out.2; omega
      have hlun : mk ≤ 64 := by have := RU.out.rd.1; have := hun.out.2; omega
      go_wp2_with fail
      go_quiet (fail)
      go_wp2_with fail
      refine (turn_any Aq mq cq B _ _ (RO.out.below (below_drewN' (Below.refl _ _) _) (Nat.le_refl _)).rd (Nat.le_trans hB hsz) (by omega) hov.out.1).mono ?_
      rintro e w1 ⟨A5, c5, rfl, o5, hb5⟩
      have hz5 : wr.heap.size ≤ w1.heap.size := hb5.size
      have hb5' : Below wr.heap.size wr w1 := (below_drewN' (Below.refl _ _) _).trans hb5
      have RU1 := Lib.hid (RU.out.below hb5' (Nat.le_trans hB hsz))
      have ho1 : Own H3.v w1 w.heap.size wr.heap.size 25 (.slice A3 k c3) hs := ho.below hb5' (Nat.le_refl _)
      have hr1 := Lib.hid (hrr.below hb5' (Nat.le_refl _))
      have HN := Lib.hid (foldTo_next ls 82 k)
      clear hrr ho RO RU
      go_wp2_with (at_builtin; first
        | (refine wp_push3 w6 rfl _ _ 69 rfl 25 i0 _ 24 Tryd.underlying69 hi0 hz0 hz1 hz2 rfl A3 k c3 _ _ _ rfl ho6 (⟨A6, mq + mk, c6⟩ : H3) rfl rfl (by omega) (by omega) (by omega) ?_; intro A7 c7 w7 o7 hm7 hk7)
        | (refine wp_spread w1 rfl _ _ 25 rfl 2 i1 _ 8 Tryd.underlying25 hi1 hy0 hy1 hy2 rfl A5 mq c5 _ _ _ rfl o5 Ak mk ck B _ rfl RU1.out.rd (fun _ => rfl) (by omega) (by omega) hz5 ?_; intro A6 c6 w6 o6 hm6; have hz6 := hm6.size; have ho6 := (ho1.only hm6 (.inl (Nat.le_refl _))).mono (Nat.le_refl _) (Nat.le_trans hz5 hz6)))
      have hz7 := hm7.size
      go_roundw
      case rel =>
        have hb1 : Below w.heap.size w w1 := hb.trans (hb5'.mono hsz)
        have hb6 : Below w.heap.size w w6 := hb1.trans (hm6.below hsz (by omega))
        refine ⟨k + 1, by omega, by go_num, ⟨_, _, rfl, _, o7, ?_, o7.cap⟩, hb6.trans (hm7.below (Nat.le_refl _) (by omega))⟩
        rw [HN.out, HO.out, HU.out]
        have hr6 : Rows w6 w.heap.size wr.heap.size hs (foldTo ls 82 k) := hr1.out.keep fun b _ _ hlt _ => hm6.block b (Nat.lt_of_lt_of_le hlt hz5) (.inl hlt)
        refine Rows.push ((hr6.kept (by omega) ho6 hk7).more (Nat.le_refl _) (by omega)) ?_
        exact (RdT.kept o6 (Nat.le_refl _) ho6 hk7).more hsz (by omega)
      case measure => simp [intOf]; omega
    · obtain rfl : k = m := by omega
      go_wp2_with fail
      go_ret
      refine ⟨_, _, rfl, ⟨hs, ho, ?_, hkc⟩, hb⟩
      have h1 := HLS.out
      have h2 := HNM.out
      have : St.fold ls 82 = foldTo ls 82 k := by
        show foldTo ls 82 (ls.length / 2) = _
        rw [h1, h2]
        congr 1
        omega
      rw [this]
      exact hrr

/-- The stacks after i folds: 2^(k-i) of them, each with 2^i small numbers. -/
def lvl (ls : List (List Int)) (n L : Nat) : Prop := ls.length = n ∧ ∀ l ∈ ls, inSm l ∧ l.length = L
theorem getD_mem {ls : List (List Int)} {k : Nat} (h : k < ls.length) : ls.getD k [] ∈ ls := by
  rw [List.getD_eq_getElem?_getD, List.getElem?_eq_getElem h]
  exact List.getElem_mem h
theorem inSm_turn {l : List Int} (h : inSm l) : inSm (St.turn l) := by
  intro x hx
  simp only [St.turn, List.mem_map, List.mem_reverse] at hx
  obtain ⟨y, hy, rfl⟩ := hx
  have := h y hy
  omega
theorem inSm_app {a b : List Int} (ha : inSm a) (hb : inSm b) : inSm (a ++ b) := by
  intro x hx
  rcases List.mem_append.1 hx with hx | hx
  · exact ha x hx
  · exact hb x hx
theorem lvl_fold {ls : List (List Int)} {m L : Nat} (h : lvl ls (2 * m) L) (b : UInt8) : lvl (St.fold ls b) m (2 * L) := by
  obtain ⟨hl, hm⟩ := h
  refine ⟨by simp [St.fold, hl], fun l hx => ?_⟩
  simp only [St.fold, List.mem_map, List.mem_range] at hx
  obtain ⟨i, hi, rfl⟩ := hx
  have ho : St.over ls b i ∈ ls := by
    unfold St.over
    refine getD_mem ?_
    split <;> omega
  have hu : St.under ls b i ∈ ls := by
    unfold St.under
    refine getD_mem ?_
    split <;> omega
  refine ⟨inSm_app (inSm_turn (hm _ ho).1) (hm _ hu).1, ?_⟩
  rw [List.length_append, turn_len, (hm _ ho).2, (hm _ hu).2]
  omega
theorem lvl_start (n : Nat) (hn : n ≤ 64) : lvl (St.start n) n 1 := by
  refine ⟨by simp [St.start], fun l hl => ?_⟩
  simp only [St.start, List.mem_map, List.mem_range] at hl
  obtain ⟨c, hc, rfl⟩ := hl
  refine ⟨fun x hx => ?_, rfl⟩
  simp at hx
  omega
theorem lvl_all (l : List UInt8) (k i : Nat) (hk : l.length = i) (hik : i ≤ k) (h6 : k ≤ 6) : lvl (l.foldl St.fold (St.start (2 ^ k))) (2 ^ (k - i)) (2 ^ i) := by
  induction i generalizing l with
  | zero =>
    obtain rfl := List.eq_nil_of_length_eq_zero hk
    have : 2 ^ k ≤ 64 := Nat.le_trans (Nat.pow_le_pow_right (by omega) h6) (by decide)
    exact lvl_start _ this
  | succ i ih =>
    obtain ⟨l', b, rfl⟩ : ∃ l' b, l = l' ++ [b] := by
      rcases List.eq_nil_or_concat l with rfl | ⟨l', b, rfl⟩
      · simp at hk
      · exact ⟨l', b, by simp⟩
    rw [List.foldl_append]
    have h := ih l' (by simp at hk; exact hk) (by omega)
    rw [show k - i = (k - (i + 1)) + 1 from by omega, Nat.pow_succ, Nat.mul_comm] at h
    have := lvl_fold h b
    rw [Nat.pow_succ, Nat.mul_comm (2 ^ i)]
    exact this
theorem lvl.inSt {ls : List (List Int)} {n L : Nat} (h : lvl ls n L) (hL : L ≤ 64) : inSt ls := fun l hl => ⟨(h.2 l hl).1, by have := (h.2 l hl).2; omega⟩

theorem pow_le6 {k : Nat} (h : k ≤ 6) : 2 ^ k ≤ 64 := Nat.le_trans (Nat.pow_le_pow_right (by omega) h) (by decide)
theorem shl_one (k : Nat) (h : k ≤ 6) : IntKind.i64.wrap (1 * 2 ^ ((k : Int)).toNat) = ((2 ^ k : Nat) : Int) := by
  obtain ⟨p, hp⟩ : ∃ p : Nat, p = 2 ^ k := ⟨_, rfl⟩
  have h1 : p ≤ 64 := by rw [hp]; exact pow_le6 h
  have h2 : ((2 : Int) ^ k) = (p : Int) := by rw [hp]; simp
  rw [Int.toNat_natCast, Int.one_mul, h2, ← hp]
  exact IntWalk.i64_in _ (by omega)

set_option maxRecDepth 100000 in
set_option maxHeartbeats 4000000 in
theorem fold_any (A : Option Addr) (n m c B : Nat) (ls : List (List Int)) (b : UInt8) (w : World) (hb : b = 76 ∨ b = 82) (h : StkIn w B A n ls) (hB : B ≤ w.heap.size) (hn : n ≤ 64) (hnm : n = 2 * m) (hm0 : 0 < m) (hin : inSt ls) :
    Calls Tryd.prog 52 #[.slice A n c, .int .u8 (b.toNat : Int)] w fun e w' => ∃ A' c', e = .returned (.slice A' m c') ∧ Stk w' w.heap.size A' m c' (St.fold ls b) ∧ Below w.heap.size w w' := by
  rcases hb with rfl | rfl
  · exact fold_L A n m c B ls w h hB hn hnm hm0 hin
  · exact fold_R A n m c B ls w h hB hn hnm hm0 hin

theorem stack_at (ls : List (List Int)) (h : 0 < ls.length) : ls.getD 0 [] = ls.headD [] := by
  cases ls with
  | nil => simp at h
  | cons a l => rfl

set_option maxRecDepth 100000 in
set_option maxHeartbeats 2000000 in
theorem stack_any (s : ByteArray) (w : World) (hf : St.foldsB s.data.toList = true) :
    Calls Tryd.prog 36 #[.string s] w fun e w' => ∃ A n c, e = .returned (.slice A n c) ∧ Own I w' w.heap.size w'.heap.size 2 (.slice A n c) (St.stack s.data.toList) ∧ Below w.heap.size w w' := by
  have h6 : s.size ≤ 6 := St.folds_len hf
  have HLR := Lib.hid (St.folds_all hf)
  obtain ⟨N, hN⟩ : ∃ N : Nat, N = 2 ^ s.size := ⟨_, rfl⟩
  have hN64 : N ≤ 64 := by rw [hN]; exact pow_le6 h6
  have hsh : IntKind.i64.wrap (1 * 2 ^ ((s.size : Int)).toNat) = (N : Int) := by rw [hN]; exact shl_one _ h6
  have hsh2 : IntKind.i64.wrap (2 ^ s.size) = (N : Int) := by rw [← hsh, Int.toNat_natCast, Int.one_mul]
  have huw : IntKind.u64.wrap (s.size : Int) = (s.size : Int) := by
    show (s.size : Int) % 18446744073709551616 = _
    omega
  have HN := Lib.hid hN
  clear hN hf
  go_enter Tryd.func36, Tryd.ntmps36
  go_wp2_with fail
  refine (start_any N _ hN64).mono ?_
  rintro e w1 ⟨A1, c1, rfl, s1, hb1⟩
  go_wp2_with fail
  go_loopw [3, 4] (fun v i wr => ∃ k m : Nat, k ≤ s.size ∧ i = .int .i64 (k : Int) ∧ m = 2 ^ (s.size - k) ∧ (∃ A3 c3 LS, v = .slice A3 m c3 ∧ Hid (LS = (s.data.toList.take k).foldl St.fold (St.start N)) ∧ Stk wr w.heap.size A3 m c3 LS) ∧ Below w.heap.size w wr) (fun _ i _ => s.size - (intOf i).toNat)
  case atStart => exact ⟨0, N, Nat.zero_le _, rfl, HN.out, ⟨_, _, _, rfl, Lib.hid rfl, s1⟩, hb1⟩
  case round =>
    clear s1 hb1
    obtain ⟨k, m, hk, rfl, hm, ⟨A3, c3, LS, rfl, HLS, hst⟩, hb⟩ := hrel
    have hsz := hb.size
    have HM := Lib.hid hm
    have HLV : Hid (lvl LS m (2 ^ k)) := by
      rw [HLS.out, HN.out, hm]
      exact lvl_all _ s.size k (by rw [List.length_take, toList_len]; omega) hk h6
    clear hm
    by_cases hlt : k < s.size
    · obtain ⟨c, hc⟩ := str_get s k hlt
      have hix := index_str s k c hc
      have HC := Lib.hid hc
      have hcb := HLR.out c (List.mem_of_getElem? hc)
      clear hc
      obtain ⟨m', hm'⟩ : ∃ m', m' = 2 ^ (s.size - (k + 1)) := ⟨_, rfl⟩
      have hmm : m = 2 * m' := by
        have := HM.out
        rw [this, hm', show s.size - k = (s.size - (k + 1)) + 1 from by omega, Nat.pow_succ, Nat.mul_comm]
      have hm0 : 0 < m' := by rw [hm']; exact Nat.pow_pos (by omega)
      have hm64 : m ≤ 64 := by
        have := HM.out
        rw [this]
        exact pow_le6 (by omega)
      have HM' := Lib.hid hm'
      have HMM := Lib.hid hmm
      clear hmm
      have HIS : Hid (inSt LS) := HLV.out.inSt (pow_le6 (by omega))
      have hsi := Lib.hid hst.in_
      have HNX := Lib.hid (take_more s.data.toList k c HC.out)
      clear hm'
      go_wp2_with fail
      refine (fold_any A3 m m' c3 wr.heap.size LS c wr hcb hsi.out (Nat.le_refl _) hm64 HMM.out hm0 HIS.out).mono ?_
      rintro e w4 ⟨A4, c4, rfl, s4, hb4⟩
      go_wp2_with fail
      go_roundw
      case rel =>
        refine ⟨k + 1, m', by omega, by go_num, HM'.out, ⟨_, _, _, rfl, Lib.hid (show St.fold LS c = _ by rw [HNX.out, List.foldl_append, HLS.out]; rfl), ?_⟩, hb.trans (hb4.mono hsz)⟩
        obtain ⟨hs, ho, hr, hc⟩ := s4
        exact ⟨hs, ho.mono hsz (Nat.le_refl _), hr.more hsz (Nat.le_refl _), hc⟩
      case measure => simp [intOf]; omega
    · obtain rfl : k = s.size := by omega
      have hm1 : m = 1 := by have := HM.out; simpa using this
      subst hm1
      obtain ⟨bA, oA, rfl, _⟩ := hst.in_.addr (by omega)
      obtain ⟨hs, ho, hr, hc⟩ := hst
      obtain ⟨b', o', x, hA, _, hx, hcell⟩ := ho.rd.at_ (k := 0) (by omega)
      injection hA with hA
      injection hA with h1 h2 _
      subst h1 h2
      have hg := hr.get hx
      have HG : Hid (Own I wr w.heap.size wr.heap.size 2 (.slice x.a x.n x.c) (St.stack s.data.toList)) := by
        have h3 : RdT wr w.heap.size wr.heap.size x.a x.n x.c _ := hg
        rw [stack_at _ (by rw [HLV.out.1]; omega), HLS.out, List.take_of_length_le (Nat.le_of_eq (toList_len s)), HN.out] at h3
        exact h3
      have hcell' : wr.cell? ⟨bA, oA, none⟩ = some (.slice x.a x.n x.c) := hcell
      clear hx hg hr ho hcell
      go_wp2_with fail
      go_ret
      exact ⟨_, _, _, rfl, HG.out, hb⟩
end Go.Proofs.YtjpfbonnohodhaaDoor

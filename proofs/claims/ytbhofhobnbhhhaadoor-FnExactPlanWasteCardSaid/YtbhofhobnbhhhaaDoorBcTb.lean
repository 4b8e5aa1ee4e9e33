/- Contract of the model's table of best values. -/
import Derived.Test.YtbhofhobnbhhhaaDoorBcIm
import Derived.Test.YtbhofhobnbhhhaaDoorBcTab
import Derived.Test.YtbhofhobnbhhhaaDoorPush
import Derived.Deep.Cut
namespace Go.Proofs.YtbhofhobnbhhhaaDoor
open Go.RowKit
set_option linter.unusedVariables false

theorem infoLB : (Tryd.prog.info? 37).map (fun i => (i.zero, i.size, i.bytes)) = some (some (.slice none 0 0), 1, 24) := by kernel_rfl
theorem Own.keepTB {w w' : World} {lo hi : Nat} {e : TypeId} {v : Value} {α : Type} {enc : α → Value} {l : List α} (h : Own enc w lo hi e v l) (hk : ∀ b cs fr, b < hi → w.heap[b]? = some (.cells cs e fr) → w'.heap[b]? = w.heap[b]?) : Own enc w' lo hi e v l :=
  h.keep fun g hg => by
    have hlt := h.lt g hg
    rcases h.1.2 with ⟨hv, _⟩ | ⟨g', cap, cur, hv, hlo, hgg, _⟩
    · rw [hv] at hg
      simp [Value.ownBlock] at hg
    · rw [hv] at hg
      simp only [Value.ownBlock, Option.some.injEq] at hg
      subst hg
      exact hk _ cur _ hlt.2.1 hgg
/-- A row of the table, as its slice says. -/
structure HB where
  a : Option Addr
  n : Nat
  c : Nat
abbrev HB.v (h : HB) : Value := .slice h.a h.n h.c
theorem neIB : (2 : TypeId) ≠ 37 := by decide
theorem neBI : (37 : TypeId) ≠ 2 := by decide
/-- The first k rows of the table are whole. -/
def TbR (w : World) (lo hi : Nat) (l : List Kd) (H k : Nat) (hs : List HB) : Prop := ∀ (j : Nat) (q : HB), j < k → hs[j]? = some q → Own I w lo hi 2 q.v (Bc.tRow l j (H + 1))
theorem TbR.keep {w w' : World} {lo hi : Nat} {l : List Kd} {H k : Nat} {hs : List HB} (h : TbR w lo hi l H k hs) (hk : ∀ b cs fr, b < hi → w.heap[b]? = some (.cells cs 2 fr) → w'.heap[b]? = w.heap[b]?) : TbR w' lo hi l H k hs := fun j q hj hq => (h j q hj hq).keepTB hk
theorem TbR.more {w : World} {lo hi lo' hi' : Nat} {l : List Kd} {H k : Nat} {hs : List HB} (h : TbR w lo hi l H k hs) (h1 : lo' ≤ lo) (h2 : hi ≤ hi') : TbR w lo' hi' l H k hs := fun j q hj hq => (h j q hj hq).mono h1 h2
/-- What the loop over the heights holds: the table, its whole rows, the row that grows. -/
structure TbI (w : World) (l : List Kd) (H M W h : Nat) (A : Option Addr) (c : Nat) (hs : List HB) (p : HB) (wr : World) : Prop where
  o : Own HB.v wr w.heap.size wr.heap.size 37 (.slice A (W + 1) c) hs
  r : TbR wr w.heap.size M l H W hs
  row : Own I wr M wr.heap.size 2 p.v (Bc.tRow l W h)
  cur : hs[W]? = some p
  b : Below w.heap.size w wr
  h1 : w.heap.size ≤ M
  h2 : M ≤ wr.heap.size
  n : p.n = h
theorem TbI.q {w wr ws : World} {l : List Kd} {H M W h : Nat} {A : Option Addr} {c : Nat} {hs : List HB} {p : HB} (t : TbI w l H M W h A c hs p wr) (hq : Q wr ws) : TbI w l H M W h A c hs p ws := by
  have e := hq.size
  have kb : Below wr.heap.size wr ws := hq.below _
  have t2 := t.h2
  refine ⟨?_, ?_, ?_, t.cur, t.b.trans (hq.below _), t.h1, by omega, t.n⟩
  · have := t.o.below kb (Nat.le_refl _)
    rw [e]
    exact this
  · exact t.r.keep fun b cs fr hb _ => kb.block b (by omega)
  · have := t.row.below kb (Nat.le_refl _)
    rw [e]
    exact this

/-- The row has grown, and the table holds it again. -/
theorem TbI.next {w ws w10 : World} {l : List Kd} {H M W h g0 c c8 : Nat} {A8 : Option Addr} {hs : List HB} {p : HB} {v : Int} {v2 : Value} (t : TbI w l H M W h (some ⟨g0, 0, none⟩) c hs p ws) (hv : Bc.V l W h = v)
    (ho8 : Own I w10 M w10.heap.size 2 (.slice A8 (h + 1) c8) (Bc.tRow l W h ++ [v])) (hm8 : Only M ws.heap.size ws w10) (hk8 : Kept ws w10 p.v v2) :
    (∃ z, w10.cell? ⟨g0, W, none⟩ = some z ∧ w10.frozen? ⟨g0, W, none⟩ = false) ∧ TbI w l H M W (h + 1) (some ⟨g0, 0, none⟩) c (hs.set W ⟨A8, h + 1, c8⟩) ⟨A8, h + 1, c8⟩ (w10.setCell ⟨g0, W, none⟩ (.slice A8 (h + 1) c8)) := by
  have t1 := t.h1
  have t2 := t.h2
  have e10 := hm8.size
  have hO : Own HB.v w10 w.heap.size ws.heap.size 37 (.slice (some ⟨g0, 0, none⟩) (W + 1) c) hs := t.o.keepTB fun b cs fr hb hg => (hk8 b hb (t.row.far hg neBI)).1
  obtain ⟨g, z, eg, hg1, hg2, hg3, hz, cz, fz⟩ := hO.at_ (k := W) (by omega)
  injection eg with eg
  injection eg with eg _ _
  subst eg
  have hst := hO.set_ (k := W) ⟨A8, h + 1, c8⟩
  have hss : (w10.setCell ⟨g0, W, none⟩ (.slice A8 (h + 1) c8)).heap.size = w10.heap.size := by simp
  have hoth : ∀ (b : Nat) (cs : Array Value) (fr : Nat × Nat), w10.heap[b]? = some (Obj.cells cs 2 fr) → (w10.setCell ⟨g0, W, none⟩ (.slice A8 (h + 1) c8)).heap[b]? = w10.heap[b]? := fun b cs fr hb =>
    heap_setCell_other w10 _ b _ fun e => hO.far hb neIB (by rw [show b = g0 from e]; rfl)
  refine ⟨⟨_, cz, fz⟩, ?_, ?_, ?_, ?_, ?_, t1, by omega, rfl⟩
  · rw [hss]
    exact hst.1.mono (Nat.le_refl _) e10
  · intro j q hj hq
    rw [List.getElem?_set_ne (by omega)] at hq
    exact ((t.r j q hj hq).only hm8 (.inl (Nat.le_refl _))).keepTB fun b cs fr _ hg => hoth b cs fr hg
  · rw [hss, Bc.tRow_next, hv]
    exact ho8.keepTB fun b cs fr _ hg => hoth b cs fr hg
  · have hl : hs.length = W + 1 := t.o.rd.1
    rw [List.getElem?_set_self (by omega)]
  · exact (t.b.trans (hm8.below t1 (by omega))).trans (hst.2.below (Nat.le_refl _) (by omega))

set_option maxRecDepth 100000 in
set_option maxHeartbeats 16000000 in
theorem specTb_any (W0 H : Nat) (A : Option Addr) (n c B : Nat) (l : List Kd) (w : World) (h : RdS Kd.S w B A n l) (hB : B ≤ w.heap.size) (hok : Bc.okL l = true) (hW : 1 ≤ W0 ∧ W0 ≤ 40) (hH : 1 ≤ H ∧ H ≤ 40) :
    Calls Tryd.prog 54 #[.int .i64 W0, .int .i64 H, .slice A n c] w fun e w' => ∃ A2 c2 hs, e = .returned (.slice A2 (W0 + 1) c2) ∧ Own HB.v w' w.heap.size w'.heap.size 37 (.slice A2 (W0 + 1) c2) hs ∧ TbR w' w.heap.size w'.heap.size l H (W0 + 1) hs ∧ Below w.heap.size w w' := by
  obtain ⟨i0, hi0, hz0, hz1, hz2⟩ := info_parts infoI
  obtain ⟨iL, hiL, hzL0, hzL1, hzL2⟩ := info_parts infoLB
  have HL := Lib.hid h.1
  have HOK := Lib.hid (Bc.okL_iff.1 hok)
  have hn6 : n ≤ 6 := by have := (HOK.out).2; have := HL.out; omega
  have HKB : Hid (∀ W h : Nat, W ≤ 40 → h ≤ 40 → 0 ≤ Bc.V l W h ∧ Bc.V l W h ≤ 1600000) := Lib.hid fun W h h1 h2 => Bc.V_le HOK.out.1 h1 h2
  have yq : IntKind.i64.wrap ((H : Int) + 1) = ((H + 1 : Nat) : Int) := by rw [show ((H + 1 : Nat) : Int) = (H : Int) + 1 from by omega]; exact IntWalk.i64_in _ (by omega)
  have hml : H + 1 ≤ maxLen := by unfold maxLen; omega
  clear hok
  go_enter Tryd.func54, Tryd.ntmps54
  go_wp2_with (at_make; refine wpList_make_full _ rfl _ _ 37 rfl w.heap.size 2 i0 (.int .i64 0) 1 Tryd.underlying37 hi0 hz0 hz1 .i64 .i64 _ _ (H + 1) rfl rfl rfl rfl (by rw [hz2]; omega) hml (Nat.le_refl _) ?_; intro w7 hown7 hg7; have hown : Own I w7 w.heap.size (w.heap.size + 1) 2 (.slice (some ⟨w.heap.size, 0, none⟩) (H + 1) (H + 1)) (List.replicate (H + 1) 0) := (by
    refine ⟨?_, fun k hk => by simp [Value.ownBlock] at hk; omega⟩
    have hz : (Value.int IntKind.i64 0).cells = #[.int .i64 0] := rfl
    rw [hz, toList_madeCells_one] at hown7
    simpa using hown7); have hs7 : w.heap.size + 1 ≤ w7.heap.size := (by have := hown.lt w.heap.size rfl; omega); have hs7' : w.heap.size ≤ w7.heap.size := (by omega); have hb7 : Below w.heap.size w w7 := (Below.refl _ _).grown hg7 (Nat.le_refl _) (by simp); clear hown7 hg7)
  have hlit : ∀ (V : World) (q : HB), Own HB.v (V.alloc (.cells #[q.v] 37)) V.heap.size (V.heap.size + 1) 37 (.slice (some ⟨V.heap.size, 0, none⟩) 1 1) [q] := fun V q =>
    ⟨⟨rfl, .inr ⟨V.heap.size, 1, #[q.v], rfl, Nat.le_refl _, heap_alloc_new V _, Nat.le_refl _, by unfold maxLen; omega, rfl, rfl⟩⟩, fun k hk => by simp [Value.ownBlock] at hk; omega⟩
  have hlit1 : ∀ (V : World), Own I (V.alloc (.cells #[.int .i64 0] 2)) V.heap.size (V.heap.size + 1) 2 (.slice (some ⟨V.heap.size, 0, none⟩) 1 1) [(0 : Int)] := fun V =>
    ⟨⟨rfl, .inr ⟨V.heap.size, 1, #[.int .i64 0], rfl, Nat.le_refl _, heap_alloc_new V _, Nat.le_refl _, by unfold maxLen; omega, rfl, rfl⟩⟩, fun k hk => by simp [Value.ownBlock] at hk; omega⟩
  have HLIT1 := Lib.hid hlit1
  have hoD := hlit w7 ⟨some ⟨w.heap.size, 0, none⟩, H + 1, H + 1⟩
  have hrD : TbR (w7.alloc (.cells #[.slice (some ⟨w.heap.size, 0, none⟩) (H + 1) (H + 1)] 37)) w.heap.size w7.heap.size l H 1 [(⟨some ⟨w.heap.size, 0, none⟩, H + 1, H + 1⟩ : HB)] := fun j q hj hq => by
    obtain rfl : j = 0 := by omega
    simp at hq
    subst hq
    rw [Bc.tRow_0]
    exact (hown.alloc _).mono (Nat.le_refl _) (by omega)
  have hbD : Below w.heap.size w (w7.alloc (.cells #[.slice (some ⟨w.heap.size, 0, none⟩) (H + 1) (H + 1)] 37)) := hb7.alloc (by omega) _
  have hzD : (w7.alloc (.cells #[.slice (some ⟨w.heap.size, 0, none⟩) (H + 1) (H + 1)] 37)).heap.size = w7.heap.size + 1 := by simp
  clear hown hb7 hlit hlit1
  go_loopw [7, 8] (fun v i wr => ∃ (k : Nat) (A2 : Option Addr) (c2 : Nat) (hs : List HB), (1 ≤ k ∧ k ≤ W0 + 1) ∧ i = .int .i64 k ∧ v = .slice A2 k c2 ∧ Own HB.v wr w.heap.size wr.heap.size 37 (.slice A2 k c2) hs ∧ TbR wr w.heap.size wr.heap.size l H k hs ∧ Below w.heap.size w wr) (fun _ i _ => W0 + 1 - (intOf i).toNat)
  case atStart => exact ⟨1, _, _, _, by omega, rfl, rfl, hoD.mono hs7' (by omega), hrD.more (Nat.le_refl _) (by omega), hbD⟩
  case round =>
    clear hoD hrD hbD hzD hs7
    obtain ⟨k, A2, c2, hs, hk, rfl, rfl, ho, hr, hb⟩ := hrel
    have hz := hb.size
    by_cases hlt : k ≤ W0
    · have hltI : (k : Int) ≤ W0 := by omega
      have ekk : IntKind.i64.wrap ((k : Int) + 1) = ((k + 1 : Nat) : Int) := by rw [show ((k + 1 : Nat) : Int) = (k : Int) + 1 from by omega]; exact IntWalk.i64_in _ (by omega)
      go_upto_region 6 with fail
      have ho6 := ho.alloc (.cells #[.int .i64 0] 2)
      have hrow6 : Own I (wr.alloc (.cells #[.int .i64 0] 2)) wr.heap.size (wr.heap.size + 1) 2 (.slice (some ⟨wr.heap.size, 0, none⟩) 1 1) (Bc.tRow l k 1) := by
        have h1 : Bc.tRow l k 1 = [0] := by unfold Bc.tRow; simp [Bc.V_zero]
        rw [h1]
        exact HLIT1.out wr
      have hb6 : Below wr.heap.size wr (wr.alloc (.cells #[.int .i64 0] 2)) := (Below.refl _ _).alloc (Nat.le_refl _) _
      have hz6 : (wr.alloc (.cells #[.int .i64 0] 2)).heap.size = wr.heap.size + 1 := by simp
      obtain ⟨M, hM⟩ : ∃ M, wr.heap.size = M := ⟨_, rfl⟩
      generalize hW6 : wr.alloc (.cells #[.int .i64 0] 2) = w6 at ho6 hrow6 hb6 hz6 ⊢
      rw [hM] at hrow6 hb6 hz6 ho6 hz hr ⊢
      have hr6 : TbR w6 w.heap.size M l H k hs := hr.keep fun b cs fr hb_ _ => hb6.block b hb_
      have HB6 := Lib.hid (hb.trans (hb6.mono hz))
      have hhs : hs.length = k := ho.rd.1
      have hz6a : M + 1 ≤ w6.heap.size := by omega
      have hz6b : w6.heap.size ≤ M + 1 := by omega
      clear ho hr hb6 hb hW6 hM hz6
      go_wp2_with (at_builtin; refine wp_push3 (enc := HB.v) w6 rfl (.tmp 25) (.tmp 27) 73 rfl 37 iL _ 24 Tryd.underlying73 hiL hzL0 hzL1 hzL2 rfl A2 k c2 _ _ _ (by rfl) ho6 ⟨some ⟨M, 0, none⟩, 1, 1⟩ (by rfl) rfl (by omega) (by omega) (by omega) ?_; intro A7 c7 w8 ho7 hm7 hk7; have hI : TbI w l H M k 1 A7 c7 (hs ++ [⟨some ⟨M, 0, none⟩, 1, 1⟩]) ⟨some ⟨M, 0, none⟩, 1, 1⟩ w8 := ⟨ho7, fun j q hj hq => (hr6 j q hj (by rw [List.getElem?_append_left (by omega)] at hq; exact hq)).keepTB (fun b cs fr hb_ hg => (hk7 b (by omega) (ho6.far hg neIB)).1), (hrow6.keepTB (fun b cs fr hb_ hg => (hk7 b (by omega) (ho6.far hg neIB)).1)).mono (Nat.le_refl _) (by have := hm7.size; omega), by rw [List.getElem?_append_right (by omega), hhs, Nat.sub_self]; rfl, HB6.out.trans (hm7.below (Nat.le_refl _) (by omega)), hz, by have := hm7.size; omega, rfl⟩; clear ho6 hrow6 hr6 hm7 hk7 ho7 HB6)
      obtain ⟨wq, rfl⟩ : ∃ wq, wq = wr := ⟨_, rfl⟩
      go_loopw [9, 10] (fun v i ws => ∃ (h_ : Nat) (hs2 : List HB) (pa : Option Addr) (pc : Nat), (1 ≤ h_ ∧ h_ ≤ H + 1) ∧ i = .int .i64 h_ ∧ v = .slice pa h_ pc ∧ TbI w l H M k h_ A7 c7 hs2 ⟨pa, h_, pc⟩ ws) (fun _ i _ => H + 1 - (intOf i).toNat)
      case atStart => exact ⟨1, _, _, _, by omega, rfl, rfl, hI⟩
      case round =>
        clear hI
        obtain ⟨h_, hs2, pa, pc, hh, rfl, rfl, hI⟩ := hrel
        obtain ⟨w9, rfl⟩ : ∃ w9, w9 = wr := ⟨_, rfl⟩
        obtain ⟨g0, z0, rfl, hg1, hg2, hg3, _, _, _⟩ := hI.o.at_ (k := k) (by omega)
        have hz9 := hI.b.size
        by_cases hlt2 : h_ ≤ H
        · have hltJ : (h_ : Int) ≤ H := by omega
          have ehh : IntKind.i64.wrap ((h_ : Int) + 1) = ((h_ + 1 : Nat) : Int) := by rw [show ((h_ + 1 : Nat) : Int) = (h_ : Int) + 1 from by omega]; exact IntWalk.i64_in _ (by omega)
          go_wp2_with fail
          go_loopw [11, 12] (fun v i ws => ∃ (j : Nat) (t : Int), j ≤ n ∧ i = .int .i64 j ∧ v = .int .i64 t ∧ Hid (Bc.fitT l k h_ j = t) ∧ Q w9 ws) (fun _ i _ => n - (intOf i).toNat)
          case atStart => exact ⟨0, 0, Nat.zero_le _, rfl, rfl, Lib.hid rfl, Q.refl _⟩
          case round =>
            obtain ⟨j, t, hj, rfl, rfl, HT, hqq⟩ := hrel
            by_cases hlt3 : j < n
            · obtain ⟨b1, o, x, rfl, hbB, hx, c0, c1, c2_⟩ := (h.below (hI.b.trans (hqq.below _)) hB).at_Kd hlt3
              have ht0 := (Bc.fitT_bd (l := l) (W := k) (H := h_) HOK.out.1 j (by have := HL.out; omega)).1
              rw [HT.out] at ht0
              have HX := Lib.hid (Bc.fitT_next (W := (k : Int)) (H := (h_ : Int)) hx)
              clear hx
              by_cases hw1 : x.w ≤ (k : Int)
              · by_cases hw2 : x.h ≤ (h_ : Int)
                · obtain ⟨z, hz_⟩ : ∃ z, x.v = z := ⟨_, rfl⟩
                  rw [hz_] at c2_
                  have HN : Hid (Bc.fitT l k h_ (j + 1) = max t z) := Lib.hid (by rw [HX.out, HT.out, Bc.fitV, if_pos ⟨hw1, hw2⟩, hz_])
                  clear hz_
                  rcases Int.lt_trichotomy t z with hlu | hlu | hlu
                  · have HE : Hid (max t z = z) := Lib.hid (by omega)
                    have g1 : ¬ z < t := by omega
                    have g2 : ¬ z ≤ t := by omega
                    have g3 : t ≤ z := by omega
                    go_wp2_with fail
                    go_roundw
                    case rel => exact ⟨j + 1, z, by omega, by go_num, rfl, Lib.hid (by rw [HN.out, HE.out]), hqq⟩
                    case measure => simp [intOf]; omega
                  · subst hlu
                    have HE : Hid (max t t = t) := Lib.hid (by omega)
                    go_wp2_with fail
                    go_roundw
                    case rel => exact ⟨j + 1, t, by omega, by go_num, rfl, Lib.hid (by rw [HN.out, HE.out]), hqq⟩
                    case measure => simp [intOf]; omega
                  · have HE : Hid (max t z = t) := Lib.hid (by omega)
                    have g1 : ¬ t < z := by omega
                    have g2 : ¬ t ≤ z := by omega
                    have g3 : z ≤ t := by omega
                    go_wp2_with fail
                    go_roundw
                    case rel => exact ⟨j + 1, t, by omega, by go_num, rfl, Lib.hid (by rw [HN.out, HE.out]), hqq⟩
                    case measure => simp [intOf]; omega
                · have hw2' : (x.h ≤ (h_ : Int)) = False := eq_false hw2
                  have HN : Hid (Bc.fitT l k h_ (j + 1) = t) := Lib.hid (by rw [HX.out, HT.out, Bc.fitV, if_neg (fun hc => hw2 hc.2)]; omega)
                  clear hw2
                  go_wp2_with fail
                  go_roundw
                  case rel => exact ⟨j + 1, t, by omega, by go_num, rfl, HN, hqq⟩
                  case measure => simp [intOf]; omega
              · have hw1' : (x.w ≤ (k : Int)) = False := eq_false hw1
                have HN : Hid (Bc.fitT l k h_ (j + 1) = t) := Lib.hid (by rw [HX.out, HT.out, Bc.fitV, if_neg (fun hc => hw1 hc.1)]; omega)
                clear hw1
                go_wp2_with fail
                go_roundw
                case rel => exact ⟨j + 1, t, by omega, by go_num, rfl, HN, hqq⟩
                case measure => simp [intOf]; omega
            · obtain rfl : j = n := by omega
              have HS : Hid (Bc.VX l k h_ 0 = t) := Lib.hid (by rw [← HT.out, ← HL.out]; rfl)
              clear HT
              have HQ : ∃ wz, wz = wr ∧ Q w9 wz := ⟨wr, rfl, hqq⟩
              clear hqq
              go_wp2_with fail
              obtain ⟨w10, rfl, hq9⟩ := HQ
              go_loopw [11, 13] (fun v i ws => ∃ (j : Nat) (t : Int), (1 ≤ j ∧ j ≤ k) ∧ i = .int .i64 j ∧ v = .int .i64 t ∧ Hid (Bc.VX l k h_ (j - 1) = t) ∧ Q w9 ws) (fun _ i _ => k - (intOf i).toNat)
              case atStart => exact ⟨1, t, by omega, rfl, rfl, HS, hq9⟩
              case round =>
                clear HS hq9
                obtain ⟨j, t, hj, rfl, rfl, HT, hqq⟩ := hrel
                have hJ := hI.q hqq
                by_cases hlt4 : j < k
                · have hltX : (j : Int) < k := by omega
                  obtain ⟨m, hm⟩ : ∃ m : Nat, m + j = k := ⟨k - j, by omega⟩
                  have em : IntKind.i64.wrap ((k : Int) - (j : Int)) = (m : Int) := by rw [show (m : Int) = (k : Int) - (j : Int) from by omega]; exact IntWalk.i64_in _ (by omega)
                  obtain ⟨g1, ⟨qa, qn, qc⟩, e1, _, _, _, hq1, cq1, _⟩ := hJ.o.at_ (k := j) (by omega)
                  obtain ⟨g2, ⟨ra, rn, rc⟩, e2, _, _, _, hq2, cq2, _⟩ := hJ.o.at_ (k := m) (by omega)
                  injection e1 with e1
                  injection e1 with e1 _ _
                  subst e1
                  injection e2 with e2
                  injection e2 with e2 _ _
                  subst e2
                  have o1 : Own I wr w.heap.size M 2 (.slice qa qn qc) (Bc.tRow l j (H + 1)) := hJ.r j _ (by omega) hq1
                  have o2 : Own I wr w.heap.size M 2 (.slice ra rn rc) (Bc.tRow l m (H + 1)) := hJ.r m _ (by omega) hq2
                  have cw1 : wr.cell? ⟨g0, j, none⟩ = some (.slice qa qn qc) := cq1
                  have cw2 : wr.cell? ⟨g0, m, none⟩ = some (.slice ra rn rc) := cq2
                  clear cq1 cq2
                  obtain rfl : qn = H + 1 := by have h1 := o1.rd.1; rw [Bc.tRow_len] at h1; exact h1.symm
                  obtain rfl : rn = H + 1 := by have h1 := o2.rd.1; rw [Bc.tRow_len] at h1; exact h1.symm
                  obtain ⟨g3, v1, rfl, _, _, lg3, hv1, cv1, _⟩ := o1.at_ (k := h_) (by omega)
                  obtain ⟨g4, v2, rfl, _, _, lg4, hv2, cv2, _⟩ := o2.at_ (k := h_) (by omega)
                  rw [Bc.tRow_at (by omega)] at hv1 hv2
                  injection hv1 with hv1
                  injection hv2 with hv2
                  have bv1 := HKB.out j h_ (by omega) (by omega)
                  have bv2 := HKB.out m h_ (by omega) (by omega)
                  rw [hv1] at bv1
                  rw [hv2] at bv2
                  obtain ⟨z, hz_⟩ : ∃ z, v1 + v2 = z := ⟨_, rfl⟩
                  have ez : IntKind.i64.wrap (v1 + v2) = z := by rw [hz_]; exact IntWalk.i64_in _ (by omega)
                  have HN : Hid (Bc.VX l k h_ j = max t z) := Lib.hid (by
                    obtain ⟨j', rfl⟩ : ∃ j', j = j' + 1 := ⟨j - 1, by omega⟩
                    have h1 := HT.out
                    rw [Nat.add_sub_cancel] at h1
                    unfold Bc.VX at h1 ⊢
                    rw [Bc.mxT, h1]
                    show max t (Bc.V l (j' + 1) h_ + Bc.V l (k - (j' + 1)) h_) = max t z
                    rw [show k - (j' + 1) = m from by omega, hv1, hv2, hz_])
                  have x1 : (h_ : Int) < ((H + 1 : Nat) : Int) := by omega
                  have x2 : (h_ : Int) < (H : Int) + 1 := by omega
                  have x3 : (j : Int) < ((k + 1 : Nat) : Int) := by omega
                  have x4 : (m : Int) < ((k + 1 : Nat) : Int) := by omega
                  have x5 : (j : Int) < (k : Int) + 1 := by omega
                  have x6 : (m : Int) < (k : Int) + 1 := by omega
                  clear hq1 hq2 o1 o2 hv1 hv2 bv1 bv2 hz_ hJ
                  rcases Int.lt_trichotomy t z with hlu | hlu | hlu
                  · have HE : Hid (max t z = z) := Lib.hid (by omega)
                    have g1 : ¬ z < t := by omega
                    have g2 : ¬ z ≤ t := by omega
                    have g3 : t ≤ z := by omega
                    go_wp2_with fail
                    go_quiet (fail)
                    go_wp2_with fail
                    go_roundw
                    case rel => exact ⟨j + 1, z, by omega, by go_num, rfl, Lib.hid (by rw [Nat.add_sub_cancel, HN.out, HE.out]), hqq.more _⟩
                    case measure => simp [intOf]; omega
                  · subst hlu
                    have HE : Hid (max t t = t) := Lib.hid (by omega)
                    go_wp2_with fail
                    go_quiet (fail)
                    go_wp2_with fail
                    go_roundw
                    case rel => exact ⟨j + 1, t, by omega, by go_num, rfl, Lib.hid (by rw [Nat.add_sub_cancel, HN.out, HE.out]), hqq.more _⟩
                    case measure => simp [intOf]; omega
                  · have HE : Hid (max t z = t) := Lib.hid (by omega)
                    have g1 : ¬ t < z := by omega
                    have g2 : ¬ t ≤ z := by omega
                    have g3 : z ≤ t := by omega
                    go_wp2_with fail
                    go_quiet (fail)
                    go_wp2_with fail
                    go_roundw
                    case rel => exact ⟨j + 1, t, by omega, by go_num, rfl, Lib.hid (by rw [Nat.add_sub_cancel, HN.out, HE.out]), hqq.more _⟩
                    case measure => simp [intOf]; omega
                · obtain rfl : j = k := by omega
                  have HS : Hid (Bc.VY l j h_ 0 = t) := Lib.hid HT.out
                  clear HT hJ
                  have HQ : ∃ wz, wz = wr ∧ Q w9 wz := ⟨wr, rfl, hqq⟩
                  clear hqq
                  go_wp2_with fail
                  obtain ⟨w11, rfl, hq9⟩ := HQ
                  go_loopw [11, 14] (fun v i ws => ∃ (y : Nat) (t : Int), (1 ≤ y ∧ y ≤ h_) ∧ i = .int .i64 y ∧ v = .int .i64 t ∧ Hid (Bc.VY l j h_ (y - 1) = t) ∧ Q w9 ws) (fun _ i _ => h_ - (intOf i).toNat)
                  case atStart => exact ⟨1, t, by omega, rfl, rfl, HS, hq9⟩
                  case round =>
                    clear HS hq9
                    obtain ⟨y, t, hy, rfl, rfl, HT, hqq⟩ := hrel
                    have hJ := hI.q hqq
                    by_cases hlt5 : y < h_
                    · have hltY : (y : Int) < h_ := by omega
                      obtain ⟨m, hm⟩ : ∃ m : Nat, m + y = h_ := ⟨h_ - y, by omega⟩
                      have em : IntKind.i64.wrap ((h_ : Int) - (y : Int)) = (m : Int) := by rw [show (m : Int) = (h_ : Int) - (y : Int) from by omega]; exact IntWalk.i64_in _ (by omega)
                      have o1 : Own I wr M wr.heap.size 2 (.slice pa h_ pc) (Bc.tRow l j h_) := hJ.row
                      obtain ⟨g1, v1, rfl, _, _, lg1, hv1, cv1, _⟩ := o1.at_ (k := y) (by omega)
                      obtain ⟨g2, v2, e2, _, _, _, hv2, cv2, _⟩ := o1.at_ (k := m) (by omega)
                      injection e2 with e2
                      injection e2 with e2 _ _
                      subst e2
                      rw [Bc.tRow_at (by omega)] at hv1 hv2
                      injection hv1 with hv1
                      injection hv2 with hv2
                      have bv1 := HKB.out j y (by omega) (by omega)
                      have bv2 := HKB.out j m (by omega) (by omega)
                      rw [hv1] at bv1
                      rw [hv2] at bv2
                      obtain ⟨z, hz_⟩ : ∃ z, v1 + v2 = z := ⟨_, rfl⟩
                      have ez : IntKind.i64.wrap (v1 + v2) = z := by rw [hz_]; exact IntWalk.i64_in _ (by omega)
                      have HN : Hid (Bc.VY l j h_ y = max t z) := Lib.hid (by
                        obtain ⟨y', rfl⟩ : ∃ y', y = y' + 1 := ⟨y - 1, by omega⟩
                        have h1 := HT.out
                        rw [Nat.add_sub_cancel] at h1
                        unfold Bc.VY at h1 ⊢
                        rw [Bc.mxT, h1]
                        show max t (Bc.V l j (y' + 1) + Bc.V l j (h_ - (y' + 1))) = max t z
                        rw [show h_ - (y' + 1) = m from by omega, hv1, hv2, hz_])
                      have x4 : (m : Int) < (h_ : Int) := by omega
                      clear o1 hv1 hv2 bv1 bv2 hz_ hJ
                      rcases Int.lt_trichotomy t z with hlu | hlu | hlu
                      · have HE : Hid (max t z = z) := Lib.hid (by omega)
                        have g1 : ¬ z < t := by omega
                        have g2 : ¬ z ≤ t := by omega
                        have g3 : t ≤ z := by omega
                        go_wp2_with fail
                        go_quiet (fail)
                        go_wp2_with fail
                        go_roundw
                        case rel => exact ⟨y + 1, z, by omega, by go_num, rfl, Lib.hid (by rw [Nat.add_sub_cancel, HN.out, HE.out]), hqq.more _⟩
                        case measure => simp [intOf]; omega
                      · subst hlu
                        have HE : Hid (max t t = t) := Lib.hid (by omega)
                        go_wp2_with fail
                        go_quiet (fail)
                        go_wp2_with fail
                        go_roundw
                        case rel => exact ⟨y + 1, t, by omega, by go_num, rfl, Lib.hid (by rw [Nat.add_sub_cancel, HN.out, HE.out]), hqq.more _⟩
                        case measure => simp [intOf]; omega
                      · have HE : Hid (max t z = t) := Lib.hid (by omega)
                        have g1 : ¬ t < z := by omega
                        have g2 : ¬ t ≤ z := by omega
                        have g3 : z ≤ t := by omega
                        go_wp2_with fail
                        go_quiet (fail)
                        go_wp2_with fail
                        go_roundw
                        case rel => exact ⟨y + 1, t, by omega, by go_num, rfl, Lib.hid (by rw [Nat.add_sub_cancel, HN.out, HE.out]), hqq.more _⟩
                        case measure => simp [intOf]; omega
                    · obtain rfl : h_ = y := by omega
                      have hV : Bc.V l j h_ = t := (Bc.V_eq l (by omega)).trans HT.out
                      have hO : Own I wr M wr.heap.size 2 (.slice pa h_ pc) (Bc.tRow l j h_) := hJ.row
                      have hJ2 := hJ.h2
                      have x3 : (j : Int) < ((j + 1 : Nat) : Int) := by omega
                      have x5 : (j : Int) < (j : Int) + 1 := by omega
                      clear HT hqq
                      go_wp2_with (at_builtin; refine wp_push3 (enc := I) wr rfl (.tmp 105) (.tmp 107) 37 rfl 2 i0 _ 8 Tryd.underlying37 hi0 hz0 hz1 hz2 rfl pa h_ pc _ _ _ (by rfl) hO t (by rfl) rfl (by omega) (by omega) hJ2 ?_; intro A8 c8 w12 ho8 hm8 hk8; obtain ⟨⟨z8, cz8, fz8⟩, hI8⟩ := hJ.next hV ho8 hm8 hk8; have HI8 := Lib.hid hI8; clear ho8 hm8 hk8 hI8)
                      go_roundw
                      case rel => exact ⟨h_ + 1, _, A8, c8, by omega, by go_num, rfl, HI8.out⟩
                      case measure => simp [intOf]; omega
        · obtain rfl : h_ = H + 1 := by omega
          have hltF : (((H + 1 : Nat) : Int) ≤ H) = False := eq_false (by omega)
          have HR : Hid (TbR w9 w.heap.size w9.heap.size l H (k + 1) hs2) := Lib.hid fun j q hj hq => by
            by_cases hjk : j < k
            · exact (hI.r j q hjk hq).mono (Nat.le_refl _) hI.h2
            · obtain rfl : j = k := by omega
              have h1 := hI.cur
              rw [hq] at h1
              injection h1 with h1
              subst h1
              exact hI.row.mono hI.h1 (Nat.le_refl _)
          have HO := Lib.hid hI.o
          have HBB := Lib.hid hI.b
          clear hI
          go_wp2_with fail
          go_roundw
          case rel => exact ⟨k + 1, _, c7, hs2, by omega, by go_num, rfl, HO.out, HR.out, HBB.out⟩
          case measure => simp [intOf]; omega
    · obtain rfl : k = W0 + 1 := by omega
      have hltI : ¬ (((W0 + 1 : Nat) : Int) ≤ W0) := by omega
      have hltF : (((W0 + 1 : Nat) : Int) ≤ W0) = False := eq_false hltI
      clear hltI
      go_wp2_with fail
      go_ret
      exact ⟨_, _, _, rfl, ho, hr, hb⟩
end Go.Proofs.YtbhofhobnbhhhaaDoor

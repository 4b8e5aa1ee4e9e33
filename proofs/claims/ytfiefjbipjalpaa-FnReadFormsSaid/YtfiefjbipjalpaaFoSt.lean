/- The contract of the model's flat sheet. -/
import Derived.Test.YtfiefjbipjalpaaFoTn
namespace Go.Proofs.Ytfiefjbipjalpaa
open Go.RowKit

/-- 'append(out, y)', the literal's block by its number. -/
theorem wp_push4 {α : Type} {enc : α → Value} {P : Program} (w : World) {ops : Array Oper} {rest : List Oper} {o : Oper} {a : Act} {Qx : Exit → Act → World → Prop} (hgd : o.guard = none) (s x : Operand) (t : TypeId)
    (ho : o.op = .call { callee := .builtin .append, args := #[s, x], argTypes := #[t, t] })
    (e : TypeId) (i : TypeInfo) (z : Value) (bytes : Nat) (ht : P.underlying t = some (.slice e)) (hi : P.info? e = some i) (hz : i.zero = some z) (hsize : i.size = 1) (hby : i.bytes = bytes) (hzs : z.cells.size = 1)
    (A : Option Addr) (n c : Nat) (l : List α) (lo hi' : Nat) (hs : a.eval s = .slice A n c) (hown : Own enc w lo hi' e (.slice A n c) l) (y : α) (G : Nat)
    (hx : a.eval x = .slice (some ⟨G, 0, none⟩) 1 1) (hG : w.heap.size = G) (h1 : (enc y).oneCell' = true) (hn : n ≤ 1099511627776) (hb : bytes ≤ 64) (hbase : lo ≤ w.heap.size)
    (h : ∀ A' c' w', Own enc w' lo w'.heap.size e (.slice A' (n + 1) c') (l ++ [y]) → Only lo hi' w w' → Kept w w' (.slice A n c) (.slice A' (n + 1) c') → wpList P ops Qx rest (a.put o.dst (.slice A' (n + 1) c')) w') :
    wpList P ops Qx (o :: rest) a (w.alloc (.cells #[enc y] e)) := by
  subst hG
  exact wp_push3 w hgd s x t ho e i z bytes ht hi hz hsize hby hzs A n c l lo hi' hs hown y hx h1 hn hb hbase h

theorem RowF.empty (w : World) (S : Nat → List Lv) : RowF (w.alloc (.cells #[] 106)) w.heap.size (w.heap.size + 1) ⟨some ⟨w.heap.size, 0, none⟩, 0, 0⟩ 0 S :=
  ⟨[], rfl, Own.lit0 H3.v w _, fun j p hj => by simp at hj⟩
theorem GridF.empty (w : World) (n : Nat) (S : Nat → Nat → List Lv) : GridF (w.alloc (.cells #[] 132)) w.heap.size (w.heap.size + 1) ⟨some ⟨w.heap.size, 0, none⟩, 0, 0⟩ 0 n S :=
  ⟨[], rfl, Own.lit0 H3.v w _, fun j p hj => by simp at hj⟩

/-- The flat sheet. -/
def flat (y x : Nat) : List Lv := [⟨x, y, false, false⟩]

set_option maxRecDepth 100000 in
set_option maxHeartbeats 4000000 in
theorem start_any (W H : Nat) (w : World) (hW : W ≤ 8) (hH : H ≤ 8) :
    Calls Try.prog 120 #[.int .i64 (W : Int), .int .i64 (H : Int)] w fun e w' => ∃ A c, e = .returned (.slice A H c) ∧ GridF w' w.heap.size w'.heap.size ⟨A, H, c⟩ H W flat ∧ Below w.heap.size w w' := by
  obtain ⟨iS, hiS, hzS, hsS, hbS⟩ := info_parts infoS
  obtain ⟨iG, hiG, hzG, hsG, hbG⟩ := info_parts infoG
  have hg0 := GridF.empty w W flat
  have hb3 : Below w.heap.size w (w.alloc (.cells #[] 132)) := (Below.refl _ _).alloc (Nat.le_refl _) _
  go_enter Try.func120, Try.ntmps120
  go_wp2_with fail
  go_loopw [5, 6] (fun v i wr => ∃ k : Nat, k ≤ H ∧ i = .int .i64 (k : Int) ∧ (∃ A3 c3, v = .slice A3 k c3 ∧ GridF wr w.heap.size wr.heap.size ⟨A3, k, c3⟩ k W flat) ∧ Below w.heap.size w wr) (fun _ i _ => H - (intOf i).toNat)
  case atStart => exact ⟨0, Nat.zero_le _, rfl, ⟨_, _, rfl, hg0.mono (Nat.le_refl _) (by simp)⟩, hb3⟩
  case round =>
    clear hg0 hb3
    obtain ⟨k, hk, rfl, ⟨A3, c3, rfl, hg⟩, hb⟩ := hrel
    obtain ⟨w1, rfl⟩ : ∃ w1, w1 = wr := ⟨_, rfl⟩
    have hsz := hb.size
    by_cases hlt : k < H
    · have hr0 := RowF.empty w1 (flat k)
      have hb4 : Below w1.heap.size w1 (w1.alloc (.cells #[] 106)) := (Below.refl _ _).alloc (Nat.le_refl _) _
      have htrue : decide ((k : Int) < (H : Int)) = true := by simp; omega
      have HG := Lib.hid hg
      have HB := Lib.hid hb
      clear hg hb
      go_wp2_with fail
      go_loopw [7, 8] (fun v i wr => ∃ j : Nat, j ≤ W ∧ i = .int .i64 (j : Int) ∧ (∃ A4 c4, v = .slice A4 j c4 ∧ RowF wr w1.heap.size wr.heap.size ⟨A4, j, c4⟩ j (flat k)) ∧ Below w1.heap.size w1 wr) (fun _ i _ => W - (intOf i).toNat)
      case atStart => exact ⟨0, Nat.zero_le _, rfl, ⟨_, _, rfl, hr0.mono (Nat.le_refl _) (by simp)⟩, hb4⟩
      case round =>
        clear hr0 hb4
        obtain ⟨j, hj, rfl, ⟨A4, c4, rfl, hr⟩, hb5⟩ := hrel
        have hz5 := hb5.size
        by_cases hjt : j < W
        · have hlit := OwnV.lit1 wr ⟨j, k, false, false⟩
          obtain ⟨hs, q1, q2, q3⟩ := hr
          have q2' := q2.alloc (.cells #[.int .i64 (j : Int), .int .i64 (k : Int), .bool false, .bool false] 100)
          have q3' : ∀ (j' : Nat) (p : H3), hs[j']? = some p → OwnV (wr.alloc (.cells #[.int .i64 (j : Int), .int .i64 (k : Int), .bool false, .bool false] 100)) w1.heap.size (wr.heap.size + 1) p.v (flat k j') := fun j' p hp => ((q3 j' p hp).alloc _).mono (Nat.le_refl _) (by omega)
          have HQ := Lib.hid (And.intro q1 q3')
          clear q1 q3 q3'
          go_wp2_with (at_builtin; refine wp_push4 _ rfl _ _ 132 rfl 106 iS _ 24 Try.underlying132 hiS hzS hsS hbS rfl A4 j c4 _ _ _ rfl q2' ⟨some ⟨wr.heap.size, 0, none⟩, 1, 1⟩ _ rfl (by simp) rfl (by omega) (by omega) (by simp; omega) ?_; intro A6 c6 w6 ho6 hm6 hk6)
          go_roundw
          case rel =>
            refine ⟨j + 1, by omega, by go_num, ⟨_, _, rfl, ?_⟩, ?_⟩
            · exact RowF.push q2' HQ.out.2 (hlit.mono hz5 (Nat.le_refl _)) rfl hk6 (by simp) (Nat.le_refl _) (by have := hm6.size; simpa using this) ho6
            · exact (hb5.alloc hz5 _).trans (hm6.below (Nat.le_refl _) (by simp; omega))
          case measure => simp [intOf]; omega
        · obtain rfl : j = W := by omega
          obtain ⟨hs, q1, q2, q3⟩ := HG.out.below hb5 (Nat.le_refl _)
          have HQ := Lib.hid (And.intro q1 q3)
          clear q1 q3
          go_wp2_with (at_builtin; refine wp_push4 _ rfl _ _ 129 rfl 132 iG _ 24 Try.underlying129 hiG hzG hsG hbG rfl A3 k c3 _ _ _ rfl q2 ⟨A4, j, c4⟩ _ rfl rfl rfl (by omega) (by omega) (by omega) ?_; intro A6 c6 w6 ho6 hm6 hk6)
          go_roundw
          case rel =>
            refine ⟨k + 1, by omega, by go_num, ⟨_, _, rfl, ?_⟩, ?_⟩
            · exact GridF.push q2 (fun j' p hp => (HQ.out.2 j' p hp).mono (Nat.le_refl _) hz5) (hr.mono hsz (Nat.le_refl _)) hk6 (Nat.le_refl _) (Nat.le_refl _) hm6.size ho6
            · exact HB.out.trans ((hb5.mono hsz).trans (hm6.below (Nat.le_refl _) (by omega)))
          case measure => simp [intOf]; omega
    · obtain rfl : k = H := by omega
      go_wp2
      go_ret
      exact ⟨_, _, rfl, hg, hb⟩
end Go.Proofs.Ytfiefjbipjalpaa

/- Contracts of the helpers of the laws over leaves: equal lists are told equal, marks are written and read back. -/
import Derived.Test.YtcagljdebplmcaaFoLv
import Derived.Deep.RegionLaw
namespace Go.Proofs.Ytcagljdebplmcaa
open Go.RowKit

set_option maxRecDepth 100000 in
theorem eqLeaf_true (l : Lv) (w : World) :
    Calls Try.prog 69 #[l.agg, l.agg] w fun e w' => e = .returned (.bool true) ∧ Below w.heap.size w w' := by
  have HB : Below w.heap.size w ((w.alloc (.cells #[.int .i64 l.x, .int .i64 l.y, .bool l.fx, .bool l.fy] 37)).alloc (.cells #[.int .i64 l.x, .int .i64 l.y, .bool l.fx, .bool l.fy] 37)) := ((Below.refl _ _).alloc (Nat.le_refl _) _).alloc (by simp) _
  go_enter Try.func69, Try.ntmps69
  go_wp2
  go_ret
  exact ⟨rfl, HB⟩

set_option maxRecDepth 100000 in
set_option maxHeartbeats 1000000 in
theorem eqLeafS_true (A A' : Option Addr) (n c c' B B' : Nat) (l : List Lv) (w : World) (h : RdV w B A n l) (h' : RdV w B' A' n l) (hB : B ≤ w.heap.size) (hB' : B' ≤ w.heap.size) (hn : n ≤ 1048576) :
    Calls Try.prog 39 #[.slice A n c, .slice A' n c'] w fun e w' => e = .returned (.bool true) ∧ Below w.heap.size w w' := by
  go_enter Try.func39, Try.ntmps39
  go_wp2
  go_loopw [5] (fun i wr => ∃ k : Nat, k ≤ n ∧ i = .int .i64 k ∧ Below w.heap.size w wr) (fun i _ => n - (intOf i).toNat)
  case atStart => exact ⟨0, Nat.zero_le _, rfl, Below.refl _ _⟩
  case round =>
    obtain ⟨k, hk, rfl, hb⟩ := hrel
    have hz := hb.size
    by_cases hlt : k < n
    · obtain ⟨b, o, x, rfl, hbB, hx, c0, c1, c2, c3⟩ := (h.below hb hB).at_ hlt
      obtain ⟨b', o', x', rfl, hbB', hx', d0, d1, d2, d3⟩ := (h'.below hb hB').at_ hlt
      obtain rfl : x = x' := by rw [hx] at hx'; injection hx'
      clear hx hx'
      go_wp2
      go_region_law (go_simp; go_at_call 69; refine (eqLeaf_true x _).mono ?_; rintro e w5 ⟨rfl, hb5⟩)
      all_goals
        have HB5 := Lib.hid (hb.trans ((Below.refl _ wr).drew.trans (hb5.mono (show w.heap.size ≤ _ from hz))))
        clear hb5
        go_wp2
        go_roundw
        case rel => exact ⟨k + 1, by omega, by go_num, HB5.out⟩
        case measure => simp [intOf]; omega
    · obtain rfl : k = n := by omega
      go_wp2
      go_ret
      exact ⟨rfl, hb⟩

def mkV (q : Int) : Lv := ⟨q, q + 1, decide ((q + 2).tmod 3 = 0), decide ((q + 3).tmod 3 = 0)⟩
def marksV (n : Nat) (q : Int) : List Lv := (List.range n).map fun j : Nat => mkV (q + 4 * (j : Int))
theorem marksV_len (n : Nat) (q : Int) : (marksV n q).length = n := by simp [marksV]
theorem marksV_at (n : Nat) (q : Int) (j : Nat) (h : j < n) : (marksV n q)[j]? = some (mkV (q + 4 * (j : Int))) := by simp [marksV, h]
theorem markV_step (m l : List Lv) (k n : Nat) (x : Lv) (hm : m.length = n) (hl : l.length = n) (hx : m[k]? = some x) (hk : k < n) :
    (m.take k ++ l.drop k).set k x = m.take (k + 1) ++ l.drop (k + 1) := by
  rw [List.drop_eq_getElem_cons (by omega), set_mid _ _ _ _ _ (by simp; omega), take_next m k x hx]
  simp
theorem mod3 (z : Int) (h : 0 ≤ z) : (z.tmod 3 = 0 ∧ (z + 1).tmod 3 = 1) ∨ (z.tmod 3 = 1 ∧ (z + 1).tmod 3 = 2) ∨ (z.tmod 3 = 2 ∧ (z + 1).tmod 3 = 0) := by
  rw [Int.tmod_eq_emod_of_nonneg h, Int.tmod_eq_emod_of_nonneg (by omega)]
  omega

set_option maxRecDepth 100000 in
set_option maxHeartbeats 2000000 in
theorem markLeafS_any (A : Option Addr) (n c lo hi : Nat) (q : Int) (l : List Lv) (w : World) (h : OwnV w lo hi (.slice A n c) l) (hn : n ≤ 1048576) (h0 : 0 ≤ q) (h1 : q ≤ 1073741824) :
    Calls Try.prog 40 #[.slice A n c, .int .i64 q] w fun e w' => e = .returned (.int .i64 (q + 4 * (n : Int))) ∧ OwnV w' lo hi (.slice A n c) (marksV n q) ∧ Only lo hi w w' := by
  have HL : Hid (l.length = n) := h.rd.1
  go_enter Try.func40, Try.ntmps40
  go_wp2
  go_loopw [1, 5] (fun q' i wr => ∃ (k : Nat) (Q : Int), k ≤ n ∧ i = .int .i64 k ∧ q' = .int .i64 Q ∧ Hid (Q = q + 4 * (k : Int)) ∧ OwnV wr lo hi (.slice A n c) ((marksV n q).take k ++ l.drop k) ∧ Only lo hi w wr) (fun _ i _ => n - (intOf i).toNat)
  case atStart => exact ⟨0, q, Nat.zero_le _, rfl, rfl, Lib.hid (by simp), by simpa using h, Only.refl _ _ _⟩
  case round =>
    obtain ⟨k, Q, hk, rfl, rfl, HQ, ho, hb⟩ := hrel
    by_cases hlt : k < n
    · obtain ⟨g, y, rfl, hg1, hg2, hg3, hy, ⟨c0, c1, c2, c3⟩, hf⟩ := ho.at_ hlt
      have hput := Lib.hid (ho.put (mkV Q) hy)
      have hQ0 : 0 ≤ Q := by have := HQ.out; omega
      have hQ1 : Q ≤ 1073741824 + 4194304 := by have := HQ.out; omega
      have f0 := hf (k * 4)
      have f1 := hf (k * 4 + 1)
      have f2 := hf (k * 4 + 2)
      have f3 := hf (k * 4 + 3)
      have HNX : Hid (OwnV ((((wr.setCell ⟨g, k * 4, none⟩ (.int .i64 (mkV Q).x)).setCell ⟨g, k * 4 + 1, none⟩ (.int .i64 (mkV Q).y)).setCell ⟨g, k * 4 + 2, none⟩ (.bool (mkV Q).fx)).setCell ⟨g, k * 4 + 3, none⟩ (.bool (mkV Q).fy)) lo hi (.slice (some ⟨g, 0, none⟩) n c) ((marksV n q).take (k + 1) ++ l.drop (k + 1))) := by
        have := hput.out.1
        rw [markV_step (marksV n q) l k n (mkV Q) (marksV_len n q) HL.out (by rw [marksV_at n q k hlt, HQ.out]) hlt] at this
        exact Lib.hid this
      have HBB := Lib.hid (hb.trans hput.out.2)
      clear hy hf hput
      obtain ⟨z, hz⟩ : ∃ z, z = Q + 2 := ⟨_, rfl⟩
      have e1 : Q + 1 + 1 = z := by omega
      have e1' : Q + 2 = z := by omega
      have e2 : Q + 3 = z + 1 := by omega
      have hz0 : 0 ≤ z := by omega
      have hz1 : z ≤ 1073741824 + 4194306 := by omega
      have HV : Hid ((mkV Q).x = Q ∧ (mkV Q).y = Q + 1 ∧ (mkV Q).fx = decide (z.tmod 3 = 0) ∧ (mkV Q).fy = decide ((z + 1).tmod 3 = 0)) := Lib.hid ⟨rfl, rfl, by rw [hz]; rfl, by rw [← e2]; rfl⟩
      have HZ := Lib.hid hz
      clear hz e1' e2
      rw [HV.out.1, HV.out.2.1, HV.out.2.2.1, HV.out.2.2.2] at HNX HBB
      rcases mod3 z hz0 with ⟨r1, r2⟩ | ⟨r1, r2⟩ | ⟨r1, r2⟩
      all_goals
        rw [r1, r2] at HNX HBB
        have u1 : IntKind.i64.wrap (z.tmod 3) = z.tmod 3 := by rw [r1]; rfl
        go_wp2
        go_roundw
        case rel => exact ⟨k + 1, z + 2, by omega, by go_num, by go_num, Lib.hid (by rw [HZ.out, HQ.out]; omega), HNX.out, HBB.out⟩
        case measure => simp [intOf]; omega
    · obtain rfl : k = n := by omega
      go_wp2
      go_ret
      have hle := HL.out
      have hm := marksV_len k q
      exact ⟨ret_i HQ.out, by simpa [List.take_of_length_le (Nat.le_of_eq hm), List.drop_of_length_le (Nat.le_of_eq hle)] using ho, hb⟩

set_option maxRecDepth 100000 in
set_option maxHeartbeats 2000000 in
theorem heldLeafS_any (A : Option Addr) (n c B : Nat) (q : Int) (w : World) (h : RdV w B A n (marksV n q)) (hn : n ≤ 1048576) (h0 : 0 ≤ q) (h1 : q ≤ 1073741824) :
    Calls Try.prog 41 #[.slice A n c, .int .i64 q] w fun e w' => e = .returned (.int .i64 (q + 4 * (n : Int))) ∧ w = w' := by
  go_enter Try.func41, Try.ntmps41
  go_wp2
  go_loop [1, 5] (fun q' i => ∃ (k : Nat) (Q : Int), k ≤ n ∧ i = .int .i64 k ∧ q' = .int .i64 Q ∧ Hid (Q = q + 4 * (k : Int))) (fun _ i => n - (intOf i).toNat)
  case atStart => exact ⟨0, q, Nat.zero_le _, rfl, rfl, Lib.hid (by simp)⟩
  case round =>
    obtain ⟨k, Q, hk, rfl, rfl, HQ⟩ := hrel
    by_cases hlt : k < n
    · obtain ⟨b, o, x, rfl, hbB, hx, c0, c1, c2, c3⟩ := h.at_ hlt
      obtain rfl : x = mkV Q := by rw [marksV_at n q k hlt, ← HQ.out] at hx; injection hx with hx; exact hx.symm
      have hQ0 : 0 ≤ Q := by have := HQ.out; omega
      have hQ1 : Q ≤ 1073741824 + 4194304 := by have := HQ.out; omega
      clear hx
      obtain ⟨z, hz⟩ : ∃ z, z = Q + 2 := ⟨_, rfl⟩
      have e1 : Q + 1 + 1 = z := by omega
      have e2 : Q + 3 = z + 1 := by omega
      have hz0 : 0 ≤ z := by omega
      have hz1 : z ≤ 1073741824 + 4194306 := by omega
      have HV : Hid ((mkV Q).x = Q ∧ (mkV Q).y = Q + 1 ∧ (mkV Q).fx = decide (z.tmod 3 = 0) ∧ (mkV Q).fy = decide ((z + 1).tmod 3 = 0)) := Lib.hid ⟨rfl, rfl, by rw [hz]; rfl, by rw [← e2]; rfl⟩
      have HZ := Lib.hid hz
      clear hz e2
      rw [HV.out.1] at c0
      rw [HV.out.2.1] at c1
      rw [HV.out.2.2.1] at c2
      rw [HV.out.2.2.2] at c3
      rcases mod3 z hz0 with ⟨r1, r2⟩ | ⟨r1, r2⟩ | ⟨r1, r2⟩
      all_goals
        rw [r1] at c2
        rw [r2] at c3
        go_wp2
        go_round
        case rel => exact ⟨k + 1, z + 2, by omega, by go_num, by go_num, Lib.hid (by rw [HZ.out, HQ.out]; omega)⟩
        case measure => simp [intOf]; omega
    · obtain rfl : k = n := by omega
      go_wp2
      go_ret
      exact ⟨ret_i HQ.out, rfl⟩
end Go.Proofs.Ytcagljdebplmcaa

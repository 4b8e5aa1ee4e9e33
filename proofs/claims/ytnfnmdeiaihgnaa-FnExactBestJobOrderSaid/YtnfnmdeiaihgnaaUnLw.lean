/- Contracts of the laws' helpers at units: a copy, two equal ones, marks written and read back, a list's size. -/
import Derived.Test.YtnfnmdeiaihgnaaUn
import Derived.Test.YtnfnmdeiaihgnaaBase
import Derived.Deep.RegionLaw
import Derived.OwnWalk
import Derived.BigQuiet
import Derived.Deep.QuietTactic
namespace Go.Proofs.Ytnfnmdeiaihgnaa
open Go.RowKit
set_option linter.unusedVariables false

set_option maxRecDepth 100000 in
theorem toUnit_any (x : Un) (w : World) :
    Calls Try.prog 83 #[x.agg] w fun e w' => e = .returned x.agg ∧ Below w.heap.size w w' := by
  go_enter Try.func83, Try.ntmps83
  go_wp2
  exact bodyPost_ret (v := x.agg) (by simp [results, Try.results83, go_sem]) rfl ⟨rfl, (((Below.refl _ w).alloc (Nat.le_refl _) _).alloc (by simp) _).alloc (by simp; omega) _⟩
set_option maxRecDepth 100000 in
theorem eqUnit_true (x : Un) (w : World) :
    Calls Try.prog 82 #[x.agg, x.agg] w fun e w' => e = .returned (.bool true) ∧ Below w.heap.size w w' := by
  have HB : Below w.heap.size w ((w.alloc (.cells #[.bool x.a, .int .i64 x.g, .bool x.o] 83)).alloc (.cells #[.bool x.a, .int .i64 x.g, .bool x.o] 83)) := ((Below.refl _ _).alloc (Nat.le_refl _) _).alloc (by simp) _
  go_enter Try.func82, Try.ntmps82
  go_wp2
  go_ret
  exact ⟨rfl, HB⟩
set_option maxRecDepth 100000 in
set_option maxHeartbeats 2000000 in
theorem toUnitS_any (A : Option Addr) (n c B : Nat) (l : List Un) (w : World) (h : RdS Un.S w B A n l) (hB : B ≤ w.heap.size) (hn : n ≤ 1048576) :
    Calls Try.prog 40 #[.slice A n c] w fun e w' => ∃ g, e = .returned (.slice (some ⟨g, 0, none⟩) n n) ∧ OwnS Un.S w' w.heap.size w'.heap.size (.slice (some ⟨g, 0, none⟩) n n) l ∧ Below w.heap.size w w' := by
  obtain ⟨i0, hi0, hz0, hz1, hz2⟩ := info_parts infoUn
  have hml : n ≤ maxLen := by unfold maxLen; omega
  have HL : Hid (l.length = n) := h.1
  go_enter Try.func40, Try.ntmps40
  go_wp2_with (at_make; refine wpList_make_full _ rfl _ _ 28 rfl w.heap.size 83 i0 _ 3 Try.underlying28 hi0 hz0 hz1 .i64 .i64 _ _ n rfl rfl rfl rfl (by rw [hz2]; omega) hml (Nat.le_refl _) ?_; intro w1 hown1 hg1)
  have hown : OwnS Un.S w1 w.heap.size (w.heap.size + 1) (.slice (some ⟨w.heap.size, 0, none⟩) n n) (List.replicate n Un.zero) := by
    refine ⟨?_, fun k hk => by simp [Value.ownBlock] at hk; omega⟩
    have hmd := Shp.made Un.S #[.bool false, .int .i64 0, .bool false] rfl n
    rw [List.length_replicate, show (List.replicate n Un.zero).flatMap Un.S.enc = _ from hmd.symm]
    exact hown1
  have hb1 : Below w.heap.size w w1 := (Below.refl _ _).grown hg1 (Nat.le_refl _) (by simp)
  clear hown1 hg1
  go_loopw [4] (fun i wr => ∃ k : Nat, k ≤ n ∧ i = .int .i64 k ∧ OwnS Un.S wr w.heap.size (w.heap.size + 1) (.slice (some ⟨w.heap.size, 0, none⟩) n n) (l.take k ++ List.replicate (n - k) Un.zero) ∧ Below w.heap.size w wr) (fun i _ => n - (intOf i).toNat)
  case atStart => exact ⟨0, Nat.zero_le _, rfl, by simpa using hown, hb1⟩
  case round =>
    clear hown hb1
    obtain ⟨k, hk, rfl, ho, hb⟩ := hrel
    by_cases hlt : k < n
    · obtain ⟨b, o, x, rfl, hbB, hx, d0, d1, d2⟩ := (h.below hb hB).at_Un hlt
      have HX := Lib.hid hx
      have HB := Lib.hid hb
      have htl := toUnit_any x
      have hsz : w.heap.size + 1 ≤ wr.heap.size := by have := ho.lt w.heap.size rfl; omega
      clear hx hb
      go_wp2_with fail
      refine (htl _).mono ?_
      rintro e w5 ⟨rfl, hb5⟩
      have ho5 := ho.below hb5 hsz
      obtain ⟨g, y, hg, hg1, hg2, hg3, hy, ⟨c0, c1, c2⟩, hf⟩ := ho5.at_Un hlt
      injection hg with hg
      injection hg with hg _ _
      subst hg
      have f0 := hf (k * 3)
      have f1 := hf (k * 3 + 1)
      have f2 := hf (k * 3 + 2)
      have HP := Lib.hid (ho5.putUn x hy)
      have HB5 := Lib.hid hb5
      clear hy hf hg1 hg2 hg3 hb5 htl
      go_wp2_with fail
      go_roundw
      case rel =>
        refine ⟨k + 1, by omega, by go_num, ?_, HB.out.trans ((HB5.out.mono (by omega)).trans (HP.out.2.below (Nat.le_refl _) (by have := HB5.out.size; omega)))⟩
        have := HP.out.1
        rwa [fillS_step _ _ _ _ _ HL.out HX.out hlt] at this
      case measure => simp [intOf]; omega
    · obtain rfl : k = n := by omega
      go_wp2
      go_ret
      have hle := HL.out
      refine ⟨_, rfl, ?_, hb⟩
      have h2 : OwnS Un.S wr w.heap.size (w.heap.size + 1) (.slice (some ⟨w.heap.size, 0, none⟩) k k) l := by simpa [List.take_of_length_le (Nat.le_of_eq hle)] using ho
      exact h2.mono (Nat.le_refl _) (by have := ho.lt w.heap.size rfl; omega)
set_option maxRecDepth 100000 in
set_option maxHeartbeats 1000000 in
theorem eqUnitS_true (A A' : Option Addr) (n c c' B B' : Nat) (l : List Un) (w : World) (h : RdS Un.S w B A n l) (h' : RdS Un.S w B' A' n l) (hB : B ≤ w.heap.size) (hB' : B' ≤ w.heap.size) (hn : n ≤ 1048576) :
    Calls Try.prog 36 #[.slice A n c, .slice A' n c'] w fun e w' => e = .returned (.bool true) ∧ Below w.heap.size w w' := by
  go_enter Try.func36, Try.ntmps36
  go_wp2
  go_loopw [5] (fun i wr => ∃ k : Nat, k ≤ n ∧ i = .int .i64 k ∧ Below w.heap.size w wr) (fun i _ => n - (intOf i).toNat)
  case atStart => exact ⟨0, Nat.zero_le _, rfl, Below.refl _ _⟩
  case round =>
    obtain ⟨k, hk, rfl, hb⟩ := hrel
    have hz := hb.size
    by_cases hlt : k < n
    · obtain ⟨b, o, x, rfl, hbB, hx, c0, c1, c2⟩ := (h.below hb hB).at_Un hlt
      obtain ⟨b', o', x', rfl, hbB', hx', d0, d1, d2⟩ := (h'.below hb hB').at_Un hlt
      obtain rfl : x = x' := by rw [hx] at hx'; injection hx'
      clear hx hx'
      go_wp2
      go_region_law (go_simp; go_at_call 82; refine (eqUnit_true x _).mono ?_; rintro e w5 ⟨rfl, hb5⟩)
      all_goals
        have HB5 := Lib.hid (hb.trans ((Below.refl _ wr).drew.trans (hb5.mono (show w.heap.size ≤ _ from hz))))
        clear hb5
        go_wp2
        go_roundw
        case rel => exact ⟨k + 1, by omega, by go_num, HB5.out⟩
        case measure => simp [intOf]; omega
    · obtain rfl : k = n := by omega
      go_wp2
      go_ret
      exact ⟨rfl, hb⟩
def mkUn (q : Int) : Un := ⟨decide ((q).tmod 3 = 0), q + 1, decide ((q + 2).tmod 3 = 0)⟩
def marksUn (n : Nat) (q : Int) : List Un := (List.range n).map fun j : Nat => mkUn (q + 3 * (j : Int))
theorem marksUn_len (n : Nat) (q : Int) : (marksUn n q).length = n := by simp [marksUn]
theorem marksUn_at (n : Nat) (q : Int) (j : Nat) (h : j < n) : (marksUn n q)[j]? = some (mkUn (q + 3 * (j : Int))) := by simp [marksUn, h]
theorem mkUn_step (m l : List Un) (k n : Nat) (x : Un) (hm : m.length = n) (hl : l.length = n) (hx : m[k]? = some x) (hk : k < n) :
    (m.take k ++ l.drop k).set k x = m.take (k + 1) ++ l.drop (k + 1) := by
  rw [List.drop_eq_getElem_cons (by omega), set_mid _ _ _ _ _ (by simp; omega), take_next m k x hx]
  simp
theorem mod3c_Un (z : Int) (h : 0 ≤ z) : z.tmod 3 = 0 ∨ z.tmod 3 = 1 ∨ z.tmod 3 = 2 := by
  rw [Int.tmod_eq_emod_of_nonneg h]
  omega
set_option maxRecDepth 100000 in
set_option maxHeartbeats 2000000 in
theorem markUnitS_any (A : Option Addr) (n c lo hi : Nat) (q : Int) (l : List Un) (w : World) (h : OwnS Un.S w lo hi (.slice A n c) l) (hn : n ≤ 1048576) (h0 : 0 ≤ q) (h1 : q ≤ 1073741824) :
    Calls Try.prog 37 #[.slice A n c, .int .i64 q] w fun e w' => e = .returned (.int .i64 (q + 3 * (n : Int))) ∧ OwnS Un.S w' lo hi (.slice A n c) (marksUn n q) ∧ Only lo hi w w' := by
  have HL : Hid (l.length = n) := h.rd.1
  go_enter Try.func37, Try.ntmps37
  go_wp2
  go_loopw [1, 5] (fun q' i wr => ∃ (k : Nat) (Q : Int), k ≤ n ∧ i = .int .i64 k ∧ q' = .int .i64 Q ∧ Hid (Q = q + 3 * (k : Int)) ∧ OwnS Un.S wr lo hi (.slice A n c) ((marksUn n q).take k ++ l.drop k) ∧ Only lo hi w wr) (fun _ i _ => n - (intOf i).toNat)
  case atStart => exact ⟨0, q, Nat.zero_le _, rfl, rfl, Lib.hid (by simp), by simpa using h, Only.refl _ _ _⟩
  case round =>
    obtain ⟨k, Q, hk, rfl, rfl, HQ, ho, hb⟩ := hrel
    by_cases hlt : k < n
    · obtain ⟨g, y, rfl, hg1, hg2, hg3, hy, ⟨c0, c1, c2⟩, hf⟩ := ho.at_Un hlt
      have hput := Lib.hid (ho.putUn (mkUn Q) hy)
      have hQ0 : 0 ≤ Q := by have := HQ.out; omega
      have hQ1 : Q ≤ 1073741824 + 10485760 := by have := HQ.out; omega
      have f0 := hf (k * 3)
      have f1 := hf (k * 3 + 1)
      have f2 := hf (k * 3 + 2)
      have HNX : Hid (OwnS Un.S (((wr.setCell ⟨g, k * 3, none⟩ (.bool (mkUn Q).a)).setCell ⟨g, k * 3 + 1, none⟩ (.int .i64 (mkUn Q).g)).setCell ⟨g, k * 3 + 2, none⟩ (.bool (mkUn Q).o)) lo hi (.slice (some ⟨g, 0, none⟩) n c) ((marksUn n q).take (k + 1) ++ l.drop (k + 1))) := by
        have := hput.out.1
        rw [mkUn_step (marksUn n q) l k n (mkUn Q) (marksUn_len n q) HL.out (by rw [marksUn_at n q k hlt, HQ.out]) hlt] at this
        exact Lib.hid this
      have HBB := Lib.hid (hb.trans hput.out.2)
      clear hy hf hput
      have e2 : Q + 1 + 1 = Q + 2 := by omega
      have e3 : Q + 1 + 1 + 1 = Q + 3 := by omega
      have e3b : Q + 2 + 1 = Q + 3 := by omega
      have HV : Hid ((mkUn Q).a = decide ((Q).tmod 3 = 0) ∧ (mkUn Q).g = Q + 1 ∧ (mkUn Q).o = decide ((Q + 2).tmod 3 = 0)) := Lib.hid ⟨rfl, rfl, rfl⟩
      rw [HV.out.1, HV.out.2.1, HV.out.2.2] at HNX HBB
      rcases mod3c_Un (Q) (by omega) with r0 | r0 | r0
      all_goals rcases mod3c_Un (Q + 2) (by omega) with r2 | r2 | r2
      all_goals
        have u0 : IntKind.i64.wrap ((Q).tmod 3) = (Q).tmod 3 := by rw [r0]; rfl
        have u2 : IntKind.i64.wrap ((Q + 2).tmod 3) = (Q + 2).tmod 3 := by rw [r2]; rfl
        rw [r0, r2] at HNX HBB
        go_wp2
        go_roundw
        case rel => exact ⟨k + 1, Q + 3, by omega, by go_num, by go_num, Lib.hid (by rw [HQ.out]; omega), HNX.out, HBB.out⟩
        case measure => simp [intOf]; omega
    · obtain rfl : k = n := by omega
      go_wp2
      go_ret
      have hle := HL.out
      have hm := marksUn_len k q
      exact ⟨ret_i HQ.out, by simpa [List.take_of_length_le (Nat.le_of_eq hm), List.drop_of_length_le (Nat.le_of_eq hle)] using ho, hb⟩
set_option maxRecDepth 100000 in
set_option maxHeartbeats 2000000 in
theorem heldUnitS_any (A : Option Addr) (n c B : Nat) (q : Int) (w : World) (h : RdS Un.S w B A n (marksUn n q)) (hn : n ≤ 1048576) (h0 : 0 ≤ q) (h1 : q ≤ 1073741824) :
    Calls Try.prog 38 #[.slice A n c, .int .i64 q] w fun e w' => e = .returned (.int .i64 (q + 3 * (n : Int))) ∧ w = w' := by
  go_enter Try.func38, Try.ntmps38
  go_wp2
  go_loop [1, 5] (fun q' i => ∃ (k : Nat) (Q : Int), k ≤ n ∧ i = .int .i64 k ∧ q' = .int .i64 Q ∧ Hid (Q = q + 3 * (k : Int))) (fun _ i => n - (intOf i).toNat)
  case atStart => exact ⟨0, q, Nat.zero_le _, rfl, rfl, Lib.hid (by simp)⟩
  case round =>
    obtain ⟨k, Q, hk, rfl, rfl, HQ⟩ := hrel
    by_cases hlt : k < n
    · obtain ⟨b, o, x, rfl, hbB, hx, c0, c1, c2⟩ := h.at_Un hlt
      obtain rfl : x = mkUn Q := by rw [marksUn_at n q k hlt, ← HQ.out] at hx; injection hx with hx; exact hx.symm
      have hQ0 : 0 ≤ Q := by have := HQ.out; omega
      have hQ1 : Q ≤ 1073741824 + 10485760 := by have := HQ.out; omega
      clear hx
      have e2 : Q + 1 + 1 = Q + 2 := by omega
      have e3 : Q + 1 + 1 + 1 = Q + 3 := by omega
      have e3b : Q + 2 + 1 = Q + 3 := by omega
      have HV : Hid ((mkUn Q).a = decide ((Q).tmod 3 = 0) ∧ (mkUn Q).g = Q + 1 ∧ (mkUn Q).o = decide ((Q + 2).tmod 3 = 0)) := Lib.hid ⟨rfl, rfl, rfl⟩
      rw [HV.out.1] at c0
      rw [HV.out.2.1] at c1
      rw [HV.out.2.2] at c2
      rcases mod3c_Un (Q) (by omega) with r0 | r0 | r0
      all_goals rcases mod3c_Un (Q + 2) (by omega) with r2 | r2 | r2
      all_goals
        have u0 : IntKind.i64.wrap ((Q).tmod 3) = (Q).tmod 3 := by rw [r0]; rfl
        have u2 : IntKind.i64.wrap ((Q + 2).tmod 3) = (Q + 2).tmod 3 := by rw [r2]; rfl
        rw [r0] at c0
        rw [r2] at c2
        go_wp2
        go_round
        case rel => exact ⟨k + 1, Q + 3, by omega, by go_num, by go_num, Lib.hid (by rw [HQ.out]; omega)⟩
        case measure => simp [intOf]; omega
    · obtain rfl : k = n := by omega
      go_wp2
      go_ret
      exact ⟨ret_i HQ.out, rfl⟩
theorem szUnitS_no (A : Option Addr) (n c : Nat) (w : World) (hn : 1048576 < n) (hm : n ≤ 9223372036854775807) :
    Calls Try.prog 39 #[.slice A n c, .int .i64 1048576] w fun e w' => e = .returned (.int .i64 (-1)) ∧ w = w' := by
  have e1 : IntKind.i64.wrap (1048576 - (n : Int)) = 1048576 - (n : Int) := IntWalk.i64_in _ (by omega)
  go_enter Try.func39, Try.ntmps39
  go_wp2
  go_ret
  exact ⟨rfl, rfl⟩
theorem szUnitS_yes (A : Option Addr) (n c : Nat) (w : World) (hn : n ≤ 1048576) :
    Calls Try.prog 39 #[.slice A n c, .int .i64 1048576] w fun e w' => e = .returned (.int .i64 (1048576 - (n : Int))) ∧ w = w' := by
  have e1 : IntKind.i64.wrap (1048576 - (n : Int)) = 1048576 - (n : Int) := IntWalk.i64_in _ (by omega)
  go_enter Try.func39, Try.ntmps39
  go_wp2
  go_ret
  exact ⟨rfl, rfl⟩
/-- The same for any remainder. -/
theorem szUnitS_more (A : Option Addr) (n c : Nat) (r : Int) (w : World) (h0 : -1 ≤ r ∧ r ≤ 1048576) (hn : r < (n : Int)) (hm : n ≤ 9223372036854775807) :
    Calls Try.prog 39 #[.slice A n c, .int .i64 r] w fun e w' => e = .returned (.int .i64 (-1)) ∧ w = w' := by
  have e1 : IntKind.i64.wrap (r - (n : Int)) = r - (n : Int) := IntWalk.i64_in _ (by omega)
  have e2 : r - (n : Int) < 0 := by omega
  go_enter Try.func39, Try.ntmps39
  go_wp2
  go_ret
  exact ⟨rfl, rfl⟩
theorem szUnitS_less (A : Option Addr) (n c : Nat) (r : Int) (w : World) (h0 : -1 ≤ r ∧ r ≤ 1048576) (hn : (n : Int) ≤ r) :
    Calls Try.prog 39 #[.slice A n c, .int .i64 r] w fun e w' => e = .returned (.int .i64 (r - (n : Int))) ∧ w = w' := by
  have e1 : IntKind.i64.wrap (r - (n : Int)) = r - (n : Int) := IntWalk.i64_in _ (by omega)
  have e2 : ¬ r - (n : Int) < 0 := by omega
  go_enter Try.func39, Try.ntmps39
  go_wp2
  go_ret
  exact ⟨rfl, rfl⟩
end Go.Proofs.Ytnfnmdeiaihgnaa

/- Two leaves compared. -/
import Derived.Test.YtcagljdebplmcaaFoSf
import Derived.Laws.StructEq
import Derived.Deep.RegionLaw
import Derived.BigQuiet
import Derived.Deep.QuietTactic
namespace Go.Proofs.Ytcagljdebplmcaa
open Go.RowKit

def Lv.eqv (x y : Lv) : Bool := x.x == y.x && x.y == y.y && x.fx == y.fx && x.fy == y.fy
theorem Lv.eqv_iff (x y : Lv) : x.eqv y = true ↔ x = y := by
  obtain ⟨a, b, c, d⟩ := x
  obtain ⟨a', b', c', d'⟩ := y
  simp [Lv.eqv, and_assoc]
set_option maxRecDepth 100000 in
theorem eqLf (x y : Lv) (W : World) : (Op.equalIn 10000 37 x.agg y.agg).run Try.prog W = .ok (x.eqv y) W := by
  have hf : Try.prog.underlying 37 = some (.struct (Try.prog.fieldsOf 37)) := by kernel_rfl
  have hp : Try.prog.stoodInHeld 37 = false := by kernel_rfl
  rw [run_equalIn_struct W 9999 _ _ _ hf hp]
  have hu := Try.underlying37
  rw [hf] at hu
  injection hu with hu
  injection hu with hu
  rw [hu]
  simp [Op.eqFields, go_sem, Try.underlying2, Try.underlying4]
  unfold Lv.eqv
  by_cases h1 : x.x = y.x <;> by_cases h2 : x.y = y.y <;> by_cases h3 : x.fx = y.fx <;> by_cases h4 : x.fy = y.fy <;> simp [h1, h2, h3, h4]
theorem neLf (x y : Lv) (W : World) : (binOp .neq 37 x.agg y.agg).run Try.prog W = .ok (.bool (!x.eqv y)) W := by
  rw [run_neq_struct, eqLf]
  rfl

/-- Are two lists of leaves one? -/
def smB : List Lv → List Lv → Bool
  | [], [] => true
  | x :: xs, y :: ys => x.eqv y && smB xs ys
  | _, _ => false
theorem smB_iff : ∀ (l m : List Lv), smB l m = true ↔ l = m := by
  intro l
  induction l with
  | nil => intro m; cases m <;> simp [smB]
  | cons x l ih =>
    intro m
    cases m with
    | nil => simp [smB]
    | cons y m => simp [smB, Lv.eqv_iff, ih]
theorem smB_len {l m : List Lv} (h : l.length ≠ m.length) : smB l m = false := by
  rw [← Bool.not_eq_true, smB_iff]
  exact fun e => h (by rw [e])
theorem smB_at {l m : List Lv} {k : Nat} {x y : Lv} (hx : l[k]? = some x) (hy : m[k]? = some y) (h : x.eqv y = false) : smB l m = false := by
  rw [← Bool.not_eq_true, smB_iff]
  intro e
  subst e
  rw [hx] at hy
  injection hy with hy
  subst hy
  have := (Lv.eqv_iff x x).2 rfl
  rw [h] at this
  cases this
theorem smB_all {l m : List Lv} {n : Nat} (hl : l.length = n) (hm : m.length = n) (h : l.take n = m.take n) : smB l m = true := by
  rw [smB_iff]
  rwa [List.take_of_length_le (by omega), List.take_of_length_le (by omega)] at h
theorem take_eq_next {l m : List Lv} {k : Nat} {x y : Lv} (h : l.take k = m.take k) (hx : l[k]? = some x) (hy : m[k]? = some y) (he : x.eqv y = true) : l.take (k + 1) = m.take (k + 1) := by
  rw [List.take_add_one, List.take_add_one, h, hx, hy, (Lv.eqv_iff x y).1 he]

set_option maxRecDepth 100000 in
set_option maxHeartbeats 1000000 in
theorem same_any (A A' : Option Addr) (n n' c c' B B' : Nat) (l l' : List Lv) (w : World) (h : RdV w B A n l) (h' : RdV w B' A' n' l') (hn : n ≤ 1048576) :
    Calls Try.prog 66 #[.slice A n c, .slice A' n' c'] w fun e w' => e = .returned (.bool (smB l l')) ∧ Q w w' := by
  by_cases hnn : n = n'
  · subst hnn
    have HL := Lib.hid (And.intro h.1 h'.1)
    go_enter Try.func66, Try.ntmps66
    go_wp2
    go_loopw [5] (fun i wr => ∃ k : Nat, k ≤ n ∧ i = .int .i64 k ∧ Q w wr ∧ Hid (l.take k = l'.take k)) (fun i _ => n - (intOf i).toNat)
    case atStart => exact ⟨0, Nat.zero_le _, rfl, Q.refl _, Lib.hid (by simp)⟩
    case round =>
      obtain ⟨k, hk, rfl, hq, HT⟩ := hrel
      by_cases hlt : k < n
      · obtain ⟨b, o, x, rfl, hbB, hx, c0, c1, c2, c3⟩ := (h.q hq).at_ hlt
        obtain ⟨b', o', x', rfl, hbB', hx', d0, d1, d2, d3⟩ := (h'.q hq).at_ hlt
        have HX := Lib.hid (And.intro hx hx')
        obtain ⟨v, hv⟩ : ∃ v, v = x.eqv x' := ⟨_, rfl⟩
        have hneq : ∀ W, (binOp .neq 37 x.agg x'.agg).run Try.prog W = .ok (.bool (!v)) W := fun W => by rw [hv]; exact neLf x x' W
        have HV := Lib.hid hv
        clear hx hx' hv
        cases v
        · have HE := Lib.hid (smB_at HX.out.1 HX.out.2 HV.out.symm)
          go_wp2
          go_quiet (fail)
          go_wp2
          go_ret
          exact ⟨ret_b HE.out.symm, hq.more _⟩
        · have HE := Lib.hid (take_eq_next HT.out HX.out.1 HX.out.2 HV.out.symm)
          go_wp2
          go_quiet (fail)
          go_wp2
          go_roundw
          case rel => exact ⟨k + 1, by omega, by go_num, hq.more _, HE⟩
          case measure => simp [intOf]; omega
      · obtain rfl : k = n := by omega
        have HE := Lib.hid (smB_all HL.out.1 HL.out.2 HT.out)
        go_wp2
        go_ret
        exact ⟨ret_b HE.out.symm, hq⟩
  · have HE : Hid (smB l l' = false) := Lib.hid (smB_len (by rw [h.1, h'.1]; exact hnn))
    have n1 : ((n : Int) != (n' : Int)) = true := by simp; omega
    go_enter Try.func66, Try.ntmps66
    go_wp2
    go_ret
    exact ⟨ret_b HE.out.symm, Q.refl _⟩

set_option maxRecDepth 100000 in
set_option maxHeartbeats 1000000 in
theorem gives_any (A : Option Addr) (n c B : Nat) (l : List Lv) (s : ByteArray) (w : World) (h : RdV w B A n l) (hB : B ≤ w.heap.size) (hn : n ≤ 1048576) (h6 : s.size ≤ 6) :
    Calls Try.prog 65 #[.string s, .slice A n c] w fun e w' => e = .returned (.bool (smB (LVs s.data.toList) l)) ∧ Below w.heap.size w w' := by
  obtain ⟨N, hN⟩ : ∃ N : Nat, N = 2 ^ s.size := ⟨_, rfl⟩
  have HL : Hid ((LVs s.data.toList).length = N ∧ l.length = n) := Lib.hid ⟨by rw [LVs_len, toList_len, hN], h.1⟩
  have HN := Lib.hid hN
  clear hN
  by_cases hnn : n = N
  · subst hnn
    go_enter Try.func65, Try.ntmps65
    go_wp2_with fail
    refine (cellCount_any s n _ h6 HN.out).mono ?_
    rintro e _ ⟨rfl, rfl⟩
    go_wp2_with fail
    go_loopw [14] (fun i wr => ∃ k : Nat, k ≤ n ∧ i = .int .i64 k ∧ Below w.heap.size w wr ∧ Hid ((LVs s.data.toList).take k = l.take k)) (fun i _ => n - (intOf i).toNat)
    case atStart => exact ⟨0, Nat.zero_le _, rfl, Below.refl _ _, Lib.hid (by simp)⟩
    case round =>
      obtain ⟨k, hk, rfl, hb, HT⟩ := hrel
      have hz := hb.size
      by_cases hlt : k < n
      · have hkp : k < 2 ^ s.size := by rw [← HN.out]; exact hlt
        have hy := LVs_get s.data.toList k hkp
        have hleaf := leafAt_any s k
        obtain ⟨y, hyy⟩ : ∃ y : Lv, y = (Fo.leaf s.data.toList.reverse 1 1 0 0 k).v := ⟨_, rfl⟩
        have hlf : ∀ W, Calls Try.prog 75 #[.string s, .int .i64 (k : Int)] W fun e w' => e = .returned y.agg ∧ Below W.heap.size W w' := fun W => by rw [hyy]; exact hleaf W h6 hkp
        rw [← hyy] at hy
        obtain ⟨b', o', x, rfl, hbB', hx, d0, d1, d2, d3⟩ := (h.below hb hB).at_ hlt
        have HX := Lib.hid (And.intro hy hx)
        obtain ⟨v, hv⟩ : ∃ v, v = y.eqv x := ⟨_, rfl⟩
        have hneq : ∀ W, (binOp .neq 37 y.agg x.agg).run Try.prog W = .ok (.bool (!v)) W := fun W => by rw [hv]; exact neLf y x W
        have HV := Lib.hid hv
        have HBB := Lib.hid hb
        clear hx hy hyy hleaf hv hb
        cases v
        · have HE := Lib.hid (smB_at HX.out.1 HX.out.2 HV.out.symm)
          go_wp2_with fail
          go_region_law (go_simp; go_at_call 75; refine (hlf _).mono ?_; rintro e w5 ⟨rfl, hb5⟩; have hbx : Blk (w5) wr.heap.size #[.int .i64 x.x, .int .i64 x.y, .bool x.fx, .bool x.fy] 37 := (show Blk ((wr.alloc (.cells #[.int .i64 x.x, .int .i64 x.y, .bool x.fx, .bool x.fy] 37)).drew) wr.heap.size #[.int .i64 x.x, .int .i64 x.y, .bool x.fx, .bool x.fy] 37 from Blk.new _ _ rfl).below hb5 (by simp); have z0 := hbx.cell 0 rfl; have z1 := hbx.cell 1 rfl; have z2 := hbx.cell 2 rfl; have z3 := hbx.cell 3 rfl)
          all_goals
            have HB5 := Lib.hid ((HBB.out.alloc hz (.cells #[.int .i64 x.x, .int .i64 x.y, .bool x.fx, .bool x.fy] 37)).drew.trans (hb5.mono (by simp; omega)))
            go_wp2
            go_ret
            exact ⟨ret_b HE.out.symm, HB5.out⟩
        · have HE := Lib.hid (take_eq_next HT.out HX.out.1 HX.out.2 HV.out.symm)
          go_wp2_with fail
          go_region_law (go_simp; go_at_call 75; refine (hlf _).mono ?_; rintro e w5 ⟨rfl, hb5⟩; have hbx : Blk (w5) wr.heap.size #[.int .i64 x.x, .int .i64 x.y, .bool x.fx, .bool x.fy] 37 := (show Blk ((wr.alloc (.cells #[.int .i64 x.x, .int .i64 x.y, .bool x.fx, .bool x.fy] 37)).drew) wr.heap.size #[.int .i64 x.x, .int .i64 x.y, .bool x.fx, .bool x.fy] 37 from Blk.new _ _ rfl).below hb5 (by simp); have z0 := hbx.cell 0 rfl; have z1 := hbx.cell 1 rfl; have z2 := hbx.cell 2 rfl; have z3 := hbx.cell 3 rfl)
          all_goals
            have HB5 := Lib.hid ((HBB.out.alloc hz (.cells #[.int .i64 x.x, .int .i64 x.y, .bool x.fx, .bool x.fy] 37)).drew.trans (hb5.mono (by simp; omega)))
            clear hbx hb5
            go_wp2
            go_roundw
            case rel => exact ⟨k + 1, by omega, by go_num, HB5.out, HE⟩
            case measure => simp [intOf]; omega
      · obtain rfl : k = n := by omega
        have HE := Lib.hid (smB_all HL.out.1 HL.out.2 HT.out)
        go_wp2
        go_ret
        exact ⟨ret_b HE.out.symm, hb⟩
  · have HE : Hid (smB (LVs s.data.toList) l = false) := Lib.hid (smB_len (by rw [HL.out.1, HL.out.2]; exact fun e => hnn e.symm))
    have n1 : ((n : Int) != (N : Int)) = true := by simp; omega
    go_enter Try.func65, Try.ntmps65
    go_wp2_with fail
    refine (cellCount_any s N _ h6 HN.out).mono ?_
    rintro e _ ⟨rfl, rfl⟩
    go_wp2_with fail
    go_ret
    exact ⟨ret_b HE.out.symm, Below.refl _ _⟩
end Go.Proofs.Ytcagljdebplmcaa

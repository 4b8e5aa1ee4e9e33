/- Contract of slices.Repeat of one number, at most twelve times. -/
import Derived.Test.YtbhkpjjedeinpaaRiVt
import Derived.Laws.CopyOwn
import Derived.Laws.MakeOwn
namespace Go.Proofs.Ytbhkpjjedeinpaa
open Go.RowKit
set_option linter.unusedVariables false

theorem Own.blk {w : World} {lo hi g N : Nat} {e : TypeId} {l : List Int} (h : Own I w lo hi e (.slice (some ⟨g, 0, none⟩) N N) l) : Blk w g (l.map I).toArray e := by
  have hN : l.length = N := h.rd.1
  rcases h.1.2 with ⟨hv, _⟩ | ⟨g', cap, cur, hv, hlo, hg, hnc, hcm, hcs, htk⟩
  · injection hv with h1
    cases h1
  · injection hv with hv1 hv2 hv3
    injection hv1 with hv1
    injection hv1 with hv1 _ _
    subst hv1
    unfold Blk
    rw [hg]
    have e1 : cur.toList = l.map I := by
      rw [← htk]
      refine (List.take_of_length_le ?_).symm
      simp at hcs ⊢
      omega
    rw [← e1]
theorem Own.of_blk {w : World} {lo hi g N : Nat} {e : TypeId} {l : List Int} (h : Blk w g (l.map I).toArray e) (hl : l.length = N) (hm : N ≤ maxLen) (h1 : lo ≤ g) (h2 : g < hi) : Own I w lo hi e (.slice (some ⟨g, 0, none⟩) N N) l := by
  refine ⟨⟨by simp, .inr ⟨g, N, (l.map I).toArray, by rw [hl], h1, h, by omega, hm, by simp [hl], ?_⟩⟩, fun k hk => by simp only [Value.ownBlock, Option.some.injEq] at hk; omega⟩
  simp [hl]
  exact List.take_of_length_le (by simp [hl])
theorem sizeIp : (Try.prog.info? 2).map (·.size) = some 1 := by kernel_rfl
theorem run_copyB {w : World} {ty : TypeId} {e : TypeId} (x : Int) (g b n m N dL dC sL sC : Nat) (ha : Blk w g ((List.replicate n x ++ List.replicate (N - n) 0).map I).toArray e) (hm : m = Nat.min sL dL) (hsrc : ∀ j, j < m → w.cell? ⟨b, j, none⟩ = some (.int .i64 x)) (hn : n ≤ N) (hfit : n + m ≤ N) :
    (Builtin.copy_ #[24, 24] ty #[.slice (some ⟨g, n, none⟩) dL dC, .slice (some ⟨b, 0, none⟩) sL sC]).run Try.prog w = .ok (.int .i64 (m : Int)) (w.setRow g ((List.replicate (n + m) x ++ List.replicate (N - (n + m)) 0).map I).toArray) := by
  have h := run_copy_row (P := Try.prog) w 24 24 ty 2 g n dL dC ⟨b, 0, none⟩ sL sC _ e (List.replicate m (I x)) Try.underlying24 sizeIp ha (by simpa using hm) (fun j v hj => ?_) (by simp; omega) (fun v hv => by rw [List.eq_of_mem_replicate hv]; rfl)
  · have hrow : ((((List.replicate n x ++ List.replicate (N - n) 0).map I).toArray).toList.take n ++ List.replicate m (I x) ++ (((List.replicate n x ++ List.replicate (N - n) 0).map I).toArray).toList.drop (n + (List.replicate m (I x)).length)).toArray = ((List.replicate (n + m) x ++ List.replicate (N - (n + m)) 0).map I).toArray := by
      have e1 : n - (n + m) = 0 := by omega
      have e2 : N - n - (n + m - n) = N - (n + m) := by omega
      simp only [List.map_append, List.map_replicate, List.length_replicate]
      rw [List.take_left' (by simp), List.drop_append, List.length_replicate, List.drop_replicate, List.drop_replicate, e1, e2, List.replicate_zero, List.nil_append, ← List.replicate_append_replicate]
    rw [h, hrow, List.length_replicate]
    rfl
  · rw [addr_zero]
    have hj' := (List.getElem?_eq_some_iff.1 hj)
    obtain ⟨hlt, rfl⟩ := hj'
    rw [List.getElem_replicate]
    exact hsrc j (by simpa using hlt)
theorem blk_setRow {w : World} {g : Nat} {cs cs' : Array Value} {e : TypeId} (h : Blk w g cs e) : Blk (w.setRow g cs') g cs' e := setRow_heap w g _ _ _ _ h
theorem below_setRowR {w0 w : World} {B g : Nat} (h : Below B w0 w) (hg : B ≤ g) (cs : Array Value) : Below B w0 (w.setRow g cs) := below_setRow h hg cs
theorem copyB_ex {w : World} {ty : TypeId} {e : TypeId} (x : Int) (g b n m N dL dC sL sC : Nat) (ha : Blk w g ((List.replicate n x ++ List.replicate (N - n) 0).map I).toArray e) (hm : m = Nat.min sL dL) (hsrc : ∀ j, j < m → w.cell? ⟨b, j, none⟩ = some (.int .i64 x)) (hn : n ≤ N) (hfit : n + m ≤ N) :
    ∃ W, (Builtin.copy_ #[24, 24] ty #[.slice (some ⟨g, n, none⟩) dL dC, .slice (some ⟨b, 0, none⟩) sL sC]).run Try.prog w = .ok (.int .i64 (m : Int)) W ∧ Blk W g ((List.replicate (n + m) x ++ List.replicate (N - (n + m)) 0).map I).toArray e ∧ ∀ w0 B, Below B w0 w → B ≤ g → Below B w0 W :=
  ⟨_, run_copyB x g b n m N dL dC sL sC ha hm hsrc hn hfit, blk_setRow ha, fun _ _ h hg => below_setRowR h hg _⟩
set_option maxRecDepth 100000 in
theorem mul64_any (N : Nat) (hN : N ≤ 12) (w : World) :
    Calls Try.prog 81 #[.int .u64 1, .int .u64 (N : Int)] w fun e w' => e = .returned (.tuple #[.int .u64 0, .int .u64 (N : Int)]) ∧ w = w' := by
  have h : N = 0 ∨ N = 1 ∨ N = 2 ∨ N = 3 ∨ N = 4 ∨ N = 5 ∨ N = 6 ∨ N = 7 ∨ N = 8 ∨ N = 9 ∨ N = 10 ∨ N = 11 ∨ N = 12 := by omega
  clear hN
  rcases h with rfl | rfl | rfl | rfl | rfl | rfl | rfl | rfl | rfl | rfl | rfl | rfl | rfl
  all_goals
    go_enter Try.func81, Try.ntmps81
    go_wp2_with fail
    go_ret2
    exact ⟨by kernel_rfl, rfl⟩
set_option maxRecDepth 100000 in
theorem mul_any (N : Nat) (hN : N ≤ 12) (w : World) :
    Calls Try.prog 77 #[.int .u64 1, .int .u64 (N : Int)] w fun e w' => e = .returned (.tuple #[.int .u64 0, .int .u64 (N : Int)]) ∧ w = w' := by
  have hm := fun W => mul64_any N hN W
  go_enter Try.func77, Try.ntmps77
  go_wp2_with fail
  refine (hm _).mono ?_
  rintro e _ ⟨rfl, rfl⟩
  go_wp2_with fail
  go_ret2
  exact ⟨rfl, rfl⟩
set_option maxRecDepth 100000 in
set_option maxHeartbeats 4000000 in
theorem rep_any (x : Int) (N b : Nat) (c : Nat) (w : World) (hN : N ≤ 12) (hb : b < w.heap.size) (hx : w.cell? ⟨b, 0, none⟩ = some (.int .i64 x)) :
    Calls Try.prog 72 #[.slice (some ⟨b, 0, none⟩) 1 c, .int .i64 (N : Int)] w fun e w' => ∃ g, e = .returned (.slice (some ⟨g, 0, none⟩) N N) ∧ Own I w' w.heap.size w'.heap.size 2 (.slice (some ⟨g, 0, none⟩) N N) (List.replicate N x) ∧ Below w.heap.size w w' := by
  obtain ⟨i0, hi0, hz0, hz1, hz2⟩ := info_parts infoI
  have hm := fun W => mul_any N hN W
  have hml : N ≤ maxLen := by unfold maxLen; omega
  have n0 : ¬ ((N : Int) < 0) := by omega
  have e1 : IntKind.u64.wrap (N : Int) = (N : Int) := by
    have h : N = 0 ∨ N = 1 ∨ N = 2 ∨ N = 3 ∨ N = 4 ∨ N = 5 ∨ N = 6 ∨ N = 7 ∨ N = 8 ∨ N = 9 ∨ N = 10 ∨ N = 11 ∨ N = 12 := by omega
    rcases h with rfl | rfl | rfl | rfl | rfl | rfl | rfl | rfl | rfl | rfl | rfl | rfl | rfl <;> rfl
  have e2 : IntKind.i64.wrap (N : Int) = (N : Int) := IntWalk.i64_in _ (by omega)
  have hz9 : (Value.int IntKind.i64 0).cells = #[.int .i64 0] := rfl
  have mk : ∀ w1 : World, w1.ownsRow w.heap.size 2 1 (.slice (some ⟨w.heap.size, 0, none⟩) N N) N (madeCells (Value.int .i64 0).cells (N * 1)).toList → w.grownBy w1 none → Own I w1 w.heap.size (w.heap.size + 1) 2 (.slice (some ⟨w.heap.size, 0, none⟩) N N) (List.replicate N 0) ∧ Below w.heap.size w w1 ∧ w.heap.size < w1.heap.size := fun w1 hown1 hg1 => by
    have hown : Own I w1 w.heap.size (w.heap.size + 1) 2 (.slice (some ⟨w.heap.size, 0, none⟩) N N) (List.replicate N 0) := by
      refine ⟨?_, fun k hk => by simp [Value.ownBlock] at hk; omega⟩
      rw [hz9, toList_madeCells_one] at hown1
      simpa using hown1
    exact ⟨hown, (Below.refl _ _).grown hg1 (Nat.le_refl _) (by simp), (hown.lt _ rfl).2.2⟩
  rcases Nat.eq_zero_or_pos N with h0 | hp
  · subst h0
    go_enter Try.func72, Try.ntmps72
    go_wp2_with fail
    refine (hm _).mono ?_
    rintro e _ ⟨rfl, rfl⟩
    go_wp2_with (at_make; refine wpList_make_full _ rfl _ _ 24 rfl w.heap.size 2 i0 (.int .i64 0) 1 Try.underlying24 hi0 hz0 hz1 .i64 .i64 _ _ 0 rfl rfl rfl rfl (by rw [hz2]; omega) hml (Nat.le_refl _) ?_; intro w1 hown1 hg1; have hcp := run_copy_none (P := Try.prog) w1 24 24 3 2 (some ⟨w.heap.size, 0, none⟩) (some ⟨b, 0, none⟩) 0 0 1 c Try.underlying24 sizeIp rfl)
    obtain ⟨k1, k2, k3⟩ := mk w1 hown1 hg1
    go_loopw [8] (fun v wr => v = .int .i64 0 ∧ wr = w1) (fun v _ => 0)
    case atStart => exact ⟨rfl, rfl⟩
    case round =>
      obtain ⟨rfl, rfl⟩ := hrel
      go_wp2_with fail
      go_ret
      exact ⟨_, rfl, k1.mono (Nat.le_refl _) (by omega), k2⟩
  · go_enter Try.func72, Try.ntmps72
    go_wp2_with fail
    refine (hm _).mono ?_
    rintro e _ ⟨rfl, rfl⟩
    go_wp2_with (at_make; refine wpList_make_full _ rfl _ _ 24 rfl w.heap.size 2 i0 (.int .i64 0) 1 Try.underlying24 hi0 hz0 hz1 .i64 .i64 _ _ N rfl rfl rfl rfl (by rw [hz2]; omega) hml (Nat.le_refl _) ?_; intro w1 hown1 hg1; obtain ⟨k1, k2, k3⟩ := mk w1 hown1 hg1; have hbk : Blk w1 w.heap.size ((List.replicate 0 x ++ List.replicate (N - 0) 0).map I).toArray 2 := (by simpa using k1.blk); have hx1 : w1.cell? ⟨b, 0, none⟩ = some (.int .i64 x) := (by rw [k2.cell hb]; exact hx); obtain ⟨W2, hcp, hbk2, hbw2⟩ := copyB_ex (ty := 3) x w.heap.size b 0 1 N N N 1 c hbk (by rw [show Nat.min 1 N = 1 from Nat.min_eq_left hp]) (fun j hj => by have hj0 : j = 0 := (by omega); subst hj0; exact hx1) (by omega) (by omega); have HBW := Lib.hid (hbw2 _ _ k2 (Nat.le_refl _)); have HBK := Lib.hid hbk2; clear hbk2 hbw2 hbk k1 k2 hown1 hg1)
    go_loopw [8] (fun v wr => ∃ n : Nat, 1 ≤ n ∧ n ≤ N ∧ v = .int .i64 (n : Int) ∧ Blk wr w.heap.size ((List.replicate n x ++ List.replicate (N - n) 0).map I).toArray 2 ∧ Below w.heap.size w wr) (fun v _ => N - (intOf v).toNat)
    case atStart => exact ⟨1, Nat.le_refl _, hp, rfl, HBK.out, HBW.out⟩
    case round =>
      obtain ⟨n, h1, h2, rfl, hk, hbw⟩ := hrel
      by_cases hlt : n < N
      · have hltI : (n : Int) < (N : Int) := by omega
        obtain ⟨m, hm2⟩ : ∃ m, m = Nat.min n (N - n) := ⟨_, rfl⟩
        have hm3 : m ≤ n ∧ m ≤ N - n ∧ 1 ≤ m := by
          rw [hm2]
          exact ⟨Nat.min_le_left _ _, Nat.min_le_right _ _, by rw [Nat.le_min]; omega⟩
        have hcell : ∀ j, j < m → wr.cell? ⟨w.heap.size, j, none⟩ = some (.int .i64 x) := fun j hj => hk.cell j (by
          rw [List.getElem?_toArray, List.getElem?_map, List.getElem?_append_left (by simp; omega), List.getElem?_replicate, if_pos (by omega)]
          rfl)
        obtain ⟨W3, hcp, hk3, hbw3⟩ := copyB_ex (w := wr.drew) (ty := 3) x w.heap.size w.heap.size n m N (N - n) (N - n) n N hk hm2 hcell h2 (by omega)
        have HK3 := Lib.hid hk3
        have HB3 := Lib.hid (hbw3 _ _ (below_drewN' hbw 1) (Nat.le_refl _))
        have hNn : ¬ N = n := by omega
        clear hk3 hbw3
        have ea : IntKind.i64.wrap ((n : Int) + (m : Int)) = (n : Int) + (m : Int) := IntWalk.i64_in _ (by omega)
        clear hcell hk hbw hm2
        go_wp2_with fail
        go_region
        go_wp2_with fail
        go_roundw
        case rel => exact ⟨n + m, by omega, by omega, by go_num, HK3.out, HB3.out⟩
        case measure => simp [intOf]; omega
      · obtain rfl : n = N := by omega
        have hO := Own.of_blk (lo := w.heap.size) (hi := wr.heap.size) (N := n) (e := 2) (w := wr) (g := w.heap.size) (l := List.replicate n x ++ List.replicate (n - n) 0) hk (by simp) hml (Nat.le_refl _) hk.lt
        rw [Nat.sub_self, List.replicate_zero, List.append_nil] at hO
        go_wp2_with fail
        go_ret
        exact ⟨_, rfl, hO, hbw⟩
end Go.Proofs.Ytbhkpjjedeinpaa

/- Contracts of two helpers of the laws of chapter 6: whether the code is too long; two lists that read alike are told alike. The program of a grid, run over its piece: every cut is possible, and no fewer pieces than the grid has are equal to the wanted one. Contracts of RunCuts, the program's and the model's. Contracts of AreaOf and of CountPieces, the program's and the model's. -/
import Derived.Test.YtbhofhobnbhhhaaGreatDoorBase
import Derived.Test.YtbhofhobnbhhhaaGreatDoorGuMath
import Derived.Test.YtbhofhobnbhhhaaGreatDoorGuMc
import Derived.Test.YtbhofhobnbhhhaaGreatDoorGuIm
import Derived.Laws.StructEq
import Derived.BigQuiet
import Derived.Deep.QuietTactic
namespace Go.Proofs.YtbhofhobnbhhhaaGreatDoor
open Go.RowKit

theorem sgBig_any (A : Option Addr) (N C : Nat) (w : World) :
    Calls Tryz.prog 4 #[.slice A N C] w fun e w' => e = .returned (.bool (decide (4096 < N))) ∧ w = w' := by
  go_enter Tryz.func4, Tryz.ntmps4
  go_wp2
  go_ret
  exact ⟨ret_b (by simp; omega), rfl⟩

end Go.Proofs.YtbhofhobnbhhhaaGreatDoor
namespace Go.Proofs.YtbhofhobnbhhhaaGreatDoor
namespace Gu
theorem cut_mid {L R : List Pc} {x : Pc} {c : Ct} (hi : c.i = (L.length : Int)) : cut (L ++ x :: R) c = L ++ fst x c :: snd x c :: R := by
  have h0 : c.i.toNat = L.length := by omega
  have hx : atI (L ++ x :: R) c.i = x := atI_get (by rw [h0]; simp)
  have h1 : (L ++ x :: R).take L.length = L := by simp
  have h2 : (L ++ x :: R).drop (L.length + 1) = R := by simp [List.drop_append]
  unfold cut
  rw [hx, h0, h1, h2]
  simp
theorem can_mid {L R : List Pc} {x : Pc} {c : Ct} (hi : c.i = (L.length : Int)) (hl : L.length + 1 + R.length < 80) (h1 : 1 ≤ c.t) (h2 : c.t < side x c) : can (L ++ x :: R) c = true := by
  rw [can_iff]
  have h0 : c.i.toNat = L.length := by omega
  have hx : atI (L ++ x :: R) c.i = x := atI_get (by rw [h0]; simp)
  refine ⟨by simp; omega, by omega, by simp; omega, h1, by rw [hx]; exact h2⟩
theorem run_mid {L R : List Pc} {x : Pc} {c : Ct} (hi : c.i = (L.length : Int)) (hl : L.length + 1 + R.length < 80) (h1 : 1 ≤ c.t) (h2 : c.t < side x c) : run (L ++ x :: R) [c] = some (L ++ fst x c :: snd x c :: R) := by
  simp only [run]
  rw [if_pos (can_mid hi hl h1 h2), cut_mid hi]
theorem rows_succ (t : Int) (top n : Nat) : rows t top (n + 1) = rows t top n ++ [⟨((top + n : Nat) : Int), true, t⟩] := by
  unfold rows
  rw [List.range_succ, List.map_append]
  rfl
theorem cols_succ (t : Int) (n : Nat) : cols t (n + 1) = cols t n ++ [⟨(n : Int), false, t⟩] := by
  unfold cols
  rw [List.range_succ, List.map_append]
  rfl
theorem less_of {j : Nat} {t h : Int} (ht : 1 ≤ t) (h1 : ((j + 1 : Nat) : Int) * t < h) : (j : Int) * t < h ∧ t < h - (j : Int) * t := by
  rw [show ((j + 1 : Nat) : Int) = (j : Int) + 1 from by omega, Int.add_mul] at h1
  omega
theorem run_rows (P R : List Pc) (w h t : Int) (ht : 1 ≤ t) : ∀ j : Nat, (j : Int) * t < h → P.length + 1 + R.length + j ≤ 80 →
    run (P ++ ⟨w, h⟩ :: R) (rows t P.length j) = some (P ++ List.replicate j ⟨w, t⟩ ++ ⟨w, h - j * t⟩ :: R)
  | 0, _, _ => by simp [rows, run]
  | j + 1, h1, h2 => by
    obtain ⟨ha, hb⟩ := less_of ht h1
    have ih := run_rows P R w h t ht j ha (by omega)
    rw [rows_succ, run_append ih, run_mid (by simp) (by simp; omega) ht (by simpa [side] using hb)]
    have e1 : h - (j : Int) * t - t = h - ((j + 1 : Nat) : Int) * t := by
      rw [show ((j + 1 : Nat) : Int) = (j : Int) + 1 from by omega, Int.add_mul]
      omega
    simp only [fst, snd, if_true, e1, List.replicate_succ', List.append_assoc, List.cons_append, List.nil_append]
theorem run_cols (w h t : Int) (ht : 1 ≤ t) : ∀ k : Nat, (k : Int) * t < w → 1 + k ≤ 80 →
    run [⟨w, h⟩] (cols t k) = some (List.replicate k ⟨t, h⟩ ++ [⟨w - k * t, h⟩])
  | 0, _, _ => by simp [cols, run]
  | k + 1, h1, h2 => by
    obtain ⟨ha, hb⟩ := less_of ht h1
    have ih := run_cols w h t ht k ha (by omega)
    rw [cols_succ, run_append ih, run_mid (by simp) (by simp; omega) ht (by simpa [side] using hb)]
    have e1 : w - (k : Int) * t - t = w - ((k + 1 : Nat) : Int) * t := by
      rw [show ((k + 1 : Nat) : Int) = (k : Int) + 1 from by omega, Int.add_mul]
      omega
    simp [fst, snd, e1, List.replicate_succ']
/-- What is left of one column. -/
def blk (w h t : Int) (r : Nat) : List Pc := List.replicate r ⟨w, t⟩ ++ [⟨w, h - r * t⟩]
theorem blk_len (w h t : Int) (r : Nat) : (blk w h t r).length = r + 1 := by simp [blk]
theorem flat_len (k : Nat) (b : List Pc) : (List.replicate k b).flatten.length = k * b.length := by simp
theorem run_flat (w h t : Int) (ht : 1 ≤ t) (r A : Nat) (rest : List Pc) (hr : (r : Int) * t < h) (hl : A + rest.length + A * r ≤ 80) : ∀ k : Nat, k ≤ A →
    run (List.replicate A ⟨w, h⟩ ++ rest) ((List.range k).flatMap fun k => rows t (k * (r + 1)) r) = some ((List.replicate k (blk w h t r)).flatten ++ (List.replicate (A - k) ⟨w, h⟩ ++ rest))
  | 0, _ => by simp [run]
  | k + 1, hk => by
    have ih := run_flat w h t ht r A rest hr hl k (by omega)
    have hm : k * r + r ≤ A * r := by
      have := Nat.mul_le_mul_right r hk
      rwa [Nat.succ_mul] at this
    have hlen : (List.replicate k (blk w h t r)).flatten.length = k * (r + 1) := by rw [flat_len, blk_len]
    have hk1 : k * (r + 1) = k * r + k := by rw [Nat.mul_add, Nat.mul_one]
    have hs : List.replicate (A - k) (⟨w, h⟩ : Pc) = ⟨w, h⟩ :: List.replicate (A - (k + 1)) ⟨w, h⟩ := by
      rw [show A - k = (A - (k + 1)) + 1 from by omega, List.replicate_succ]
    rw [List.range_succ, List.flatMap_append, run_append ih, hs]
    have hg := run_rows (List.replicate k (blk w h t r)).flatten (List.replicate (A - (k + 1)) ⟨w, h⟩ ++ rest) w h t ht r hr (by rw [hlen, List.length_append, List.length_replicate]; omega)
    rw [hlen] at hg
    simp only [List.flatMap_cons, List.flatMap_nil, List.append_nil, List.cons_append]
    rw [hg, List.replicate_succ', List.flatten_append]
    simp [blk]
theorem gap_cases {s n q : Int} (h : n * q ≤ s) : (gap s n q = n ∧ n * q < s) ∨ (gap s n q = n - 1 ∧ n * q = s) := by
  unfold gap
  split
  · exact .inl ⟨rfl, by assumption⟩
  · exact .inr ⟨rfl, by omega⟩
theorem gap_lt {s n q : Int} (h : n * q ≤ s) (hq : 1 ≤ q) : gap s n q * q < s := by
  rcases gap_cases h with ⟨h1, h2⟩ | ⟨h1, h2⟩ <;> rw [h1]
  · exact h2
  · rw [Int.sub_mul]
    omega
theorem flat_prog (t : Int) (r A : Nat) : ((List.range A).flatMap fun k => rows t (k * (r + 1)) r).length = A * r := by
  induction A with
  | zero => simp
  | succ A ih =>
    rw [List.range_succ, List.flatMap_append, List.length_append, ih, Nat.succ_mul]
    simp [rows]
theorem grid_len (tw th : Int) (n a r : Nat) : (grid tw th n a r).length = n + a * r := by
  unfold grid
  rw [List.length_append, flat_prog]
  simp [cols]
theorem countP_flat (f : Pc → Bool) (b : List Pc) (k : Nat) : (List.replicate k b).flatten.countP f = k * b.countP f := by
  induction k with
  | zero => simp
  | succ k ih => rw [List.replicate_succ, List.flatten_cons, List.countP_append, ih, Nat.succ_mul]; omega
theorem blk_count (w h t c : Int) (r : Nat) (hr : (r : Int) = gap h c t) (hh : c * t ≤ h) : c ≤ ((blk w h t r).countP (fun x => decide (x = ⟨w, t⟩)) : Int) := by
  unfold blk
  rw [List.countP_append]
  have h0 : (List.replicate r (⟨w, t⟩ : Pc)).countP (fun x => decide (x = ⟨w, t⟩)) = r := by simp [List.countP_replicate]
  rw [h0]
  rcases gap_cases hh with ⟨h1, h2⟩ | ⟨h1, h2⟩
  · omega
  · have e : h - (r : Int) * t = t := by
      rw [hr, h1, Int.sub_mul]
      omega
    rw [e]
    simp
    omega
/-- The facts of a program for a grid. -/
theorem grid_run {p q : Pc} {a c : Int} (h : gcC p a c q = 0) : rcC p (gcR p a c q) = 0 ∧ okL (rcR p (gcR p a c q)) = true ∧ okP q = true ∧ a * c ≤ cpR (rcR p (gcR p a c q)) q := by
  have h0 := h
  unfold gcC at h0
  split at h0
  · rename_i hpq
    rw [Bool.and_eq_true] at hpq
    obtain ⟨hp, hq⟩ := hpq
    have hp' := okP_iff.1 hp
    have hq' := okP_iff.1 hq
    split at h0
    · rename_i hac
      split at h0
      · rename_i hlim
        split at h0
        · rename_i hfit
          clear h0
          obtain ⟨hw, hh⟩ := hfit
          obtain ⟨n, hn⟩ : ∃ n : Nat, (n : Int) = gap p.w a q.w := ⟨(gap p.w a q.w).toNat, by unfold gap; split <;> omega⟩
          obtain ⟨r, hr⟩ : ∃ r : Nat, (r : Int) = gap p.h c q.h := ⟨(gap p.h c q.h).toNat, by unfold gap; split <;> omega⟩
          obtain ⟨A, hA⟩ : ∃ A : Nat, (A : Int) = a := ⟨a.toNat, by omega⟩
          have hR : gcR p a c q = grid q.w q.h n A r := by
            unfold gcR
            rw [if_pos h, ← hn, ← hr, ← hA]
            rfl
          have hlim' : n + A * r ≤ 79 := by
            rw [← hn, ← hr, ← hA] at hlim
            exact_mod_cast hlim
          have hnw : (n : Int) * q.w < p.w := by rw [hn]; exact gap_lt hw hq'.1
          have hrh : (r : Int) * q.h < p.h := by rw [hr]; exact gap_lt hh hq'.2.2.1
          obtain ⟨rest, hrest, hlr⟩ : ∃ rest : List Pc, List.replicate n (⟨q.w, p.h⟩ : Pc) ++ [⟨p.w - n * q.w, p.h⟩] = List.replicate A ⟨q.w, p.h⟩ ++ rest ∧ A + rest.length = n + 1 := by
            rcases gap_cases hw with ⟨h1, h2⟩ | ⟨h1, h2⟩
            · obtain rfl : n = A := by omega
              exact ⟨[⟨p.w - n * q.w, p.h⟩], rfl, by simp⟩
            · obtain rfl : A = n + 1 := by omega
              refine ⟨[], ?_, by simp⟩
              have e : p.w - (n : Int) * q.w = q.w := by
                rw [show (n : Int) = a - 1 from by omega, Int.sub_mul]
                omega
              rw [e, List.replicate_succ', List.append_nil]
          have hrun1 := run_cols p.w p.h q.w hq'.1 n hnw (by omega)
          rw [hrest] at hrun1
          have hrun2 := run_flat q.w p.h q.h hq'.2.2.1 r A rest hrh (by omega) A (Nat.le_refl _)
          have hrun : run [p] (grid q.w q.h n A r) = some ((List.replicate A (blk q.w p.h q.h r)).flatten ++ (List.replicate (A - A) ⟨q.w, p.h⟩ ++ rest)) := by
            unfold grid
            rw [run_append (l := [p]) hrun1]
            exact hrun2
          generalize hm : (List.replicate A (blk q.w p.h q.h r)).flatten ++ (List.replicate (A - A) ⟨q.w, p.h⟩ ++ rest) = m at hrun
          have hC : rcC p (grid q.w q.h n A r) = 0 := by
            unfold rcC
            rw [if_pos hp, if_pos (by rw [grid_len]; omega), hrun]
            rfl
          have hRm : rcR p (grid q.w q.h n A r) = m := by
            unfold rcR
            rw [if_pos hC, hrun]
            rfl
          have hok : okL m = true := by
            have h1 := run_len hrun
            have h2 := run_ok hrun (by intro x hx; simp at hx; subst hx; exact hp)
            rw [grid_len] at h1
            unfold okL
            simp only [Bool.and_eq_true, decide_eq_true_eq, List.all_eq_true]
            exact ⟨by simp at h1; omega, h2⟩
          rw [hR]
          refine ⟨hC, by rw [hRm]; exact hok, hq, ?_⟩
          unfold cpR
          rw [hRm, if_pos (by rw [hok, hq]; rfl), ← hm, List.countP_append, countP_flat]
          have hb := blk_count q.w p.h q.h c r hr hh
          have e : a * c ≤ ((A * (blk q.w p.h q.h r).countP (fun x => decide (x = q)) : Nat) : Int) := by
            rw [← hA, Int.natCast_mul]
            exact Int.mul_le_mul_of_nonneg_left hb (by omega)
          rw [Int.natCast_add]
          omega
        · cases h0
      · cases h0
    · cases h0
  · cases h0
end Gu
end Go.Proofs.YtbhofhobnbhhhaaGreatDoor
namespace Go.Proofs.YtbhofhobnbhhhaaGreatDoor
open Go.RowKit
set_option linter.unusedVariables false

theorem Gu.rc_inv {p : Pc} {g : List Ct} (h : Gu.okP p = false) : Gu.rcC p g = 1 ∧ Gu.rcR p g = [] := by
  have h1 : Gu.rcC p g = 1 := by unfold Gu.rcC; rw [h]; rfl
  exact ⟨h1, by unfold Gu.rcR; rw [h1]; rfl⟩
theorem Gu.rc_lim {p : Pc} {g : List Ct} (h : Gu.okP p = true) (hg : 79 < g.length) : Gu.rcC p g = 3 ∧ Gu.rcR p g = [] := by
  have h1 : Gu.rcC p g = 3 := by unfold Gu.rcC; rw [if_pos h, if_neg (show ¬ g.length ≤ 79 by omega)]
  exact ⟨h1, by unfold Gu.rcR; rw [h1]; rfl⟩
theorem Gu.rc_stop {p : Pc} {g : List Ct} (h : Gu.okP p = true) (hg : g.length ≤ 79) (hr : Gu.run [p] g = none) : Gu.rcC p g = 5 ∧ Gu.rcR p g = [] := by
  have h1 : Gu.rcC p g = 5 := by unfold Gu.rcC; rw [h, if_pos hg, hr]; rfl
  exact ⟨h1, by unfold Gu.rcR; rw [h1]; rfl⟩
theorem Gu.rc_good {p : Pc} {g : List Ct} {m : List Pc} (h : Gu.okP p = true) (hg : g.length ≤ 79) (hr : Gu.run [p] g = some m) : Gu.rcC p g = 0 ∧ Gu.rcR p g = m := by
  have h1 : Gu.rcC p g = 0 := by unfold Gu.rcC; rw [h, if_pos hg, hr]; rfl
  exact ⟨h1, by unfold Gu.rcR; rw [h1, hr]; rfl⟩
theorem Gu.okL_of {m : List Pc} (h1 : m.length ≤ 80) (h2 : ∀ x ∈ m, Gu.okP x = true) : Gu.okL m = true := by
  unfold Gu.okL
  simp only [Bool.and_eq_true, decide_eq_true_eq, List.all_eq_true]
  exact ⟨h1, h2⟩
theorem Gu.run_okL {p : Pc} {g : List Ct} {m : List Pc} (h : Gu.okP p = true) (hr : Gu.run [p] g = some m) (hg : g.length ≤ 79) : Gu.okL m = true ∧ m.length = 1 + g.length := by
  have h1 := Gu.run_len hr
  have h2 := Gu.run_ok hr (by intro x hx; simp at hx; rw [hx]; exact h)
  simp only [List.length_singleton] at h1
  exact ⟨Gu.okL_of (by omega) h2, h1⟩
theorem OwnS.some_ {w : World} {lo hi n c : Nat} {A : Option Addr} {l : List Pc} (h : OwnS Pc.S w lo hi (.slice A n c) l) (hn : 0 < n) : ∃ g, A = some ⟨g, 0, none⟩ ∧ n ≤ c ∧ g < hi ∧ g < w.heap.size := by
  obtain ⟨g, x, hA, _, h1, h2, _⟩ := h.raw (k := 0) hn
  obtain ⟨_, c', hv, hle⟩ := h.form
  have hl := h.rd.1
  injection hv with _ _ hv
  exact ⟨g, hA, by omega, h1, h2⟩

set_option maxRecDepth 100000 in
set_option maxHeartbeats 2000000 in
theorem implRc_any (p : Pc) (A : Option Addr) (n c B : Nat) (g : List Ct) (R : List Pc) (Cd : Int) (w : World) (h : RdS Ct.S w B A n g) (hB : B ≤ w.heap.size) (hn : n ≤ 1048577) (hR : Gu.rcR p g = R) (hC : Gu.rcC p g = Cd) :
    Calls Tryz.prog 15 #[p.agg, .slice A n c] w fun e w' => PcC w R Cd e w' := by
  have HL := Lib.hid h.1
  have HQ := Lib.hid (And.intro hC hR)
  clear hC hR
  have HB0 := Lib.hid (below_new9 w (.cells #[.int .i64 p.w, .int .i64 p.h] 25))
  have Bx0 := Lib.hid (Blk.new (w := w) (g := w.heap.size) #[.int .i64 p.w, .int .i64 p.h] 25 rfl)
  have hr0 := h.alloc hB (.cells #[.int .i64 p.w, .int .i64 p.h] 25)
  have hz0 : w.heap.size + 1 = (w.alloc (.cells #[.int .i64 p.w, .int .i64 p.h] 25)).heap.size := by simp
  obtain ⟨d, hd⟩ : ∃ d, Gu.okP p = d := ⟨_, rfl⟩
  have HD := Lib.hid hd
  clear hd
  cases d
  · have HE := Lib.hid (Gu.rc_inv (g := g) HD.out)
    go_enter Tryz.func15, Tryz.ntmps15
    go_wp2_with fail
    refine (implPc_any p false _ HD.out).mono ?_
    rintro e w1 ⟨rfl, hb1⟩
    have z1 : w.heap.size + 1 ≤ w1.heap.size := by have h_ := hb1.size; omega
    have HB1 := Lib.hid (HB0.out.trans (hb1.mono (by omega)))
    have Bx1 := Lib.hid (Bx0.out.below hb1 (by omega))
    have c1_0 := Bx1.out.cell 0 (v := .int .i64 p.w) rfl
    have c1_1 := Bx1.out.cell 1 (v := .int .i64 p.h) rfl
    have hr1 := hr0.below hb1 (by omega)
    clear hb1
    go_wp2_with fail
    go_ret2
    exact PcC.nil_ (by rw [← HQ.out.2, HE.out.2]) (by rw [← HQ.out.1, HE.out.1]) HB1.out
  by_cases hn79 : 79 < n
  · have HE := Lib.hid (Gu.rc_lim (g := g) HD.out (by rw [HL.out]; exact hn79))
    go_enter Tryz.func15, Tryz.ntmps15
    go_wp2_with fail
    refine (implPc_any p true _ HD.out).mono ?_
    rintro e w1 ⟨rfl, hb1⟩
    have z1 : w.heap.size + 1 ≤ w1.heap.size := by have h_ := hb1.size; omega
    have HB1 := Lib.hid (HB0.out.trans (hb1.mono (by omega)))
    have Bx1 := Lib.hid (Bx0.out.below hb1 (by omega))
    have c1_0 := Bx1.out.cell 0 (v := .int .i64 p.w) rfl
    have c1_1 := Bx1.out.cell 1 (v := .int .i64 p.h) rfl
    have hr1 := hr0.below hb1 (by omega)
    clear hb1
    go_wp2_with fail
    go_ret2
    exact PcC.nil_ (by rw [← HQ.out.2, HE.out.2]) (by rw [← HQ.out.1, HE.out.1]) HB1.out
  · have hn79' : n ≤ 79 := by omega
    have HG : Hid (g.length ≤ 79) := Lib.hid (by rw [HL.out]; exact hn79')
    go_enter Tryz.func15, Tryz.ntmps15
    go_wp2_with fail
    refine (implPc_any p true _ HD.out).mono ?_
    rintro e w1 ⟨rfl, hb1⟩
    have z1 : w.heap.size + 1 ≤ w1.heap.size := by have h_ := hb1.size; omega
    have HB1 := Lib.hid (HB0.out.trans (hb1.mono (by omega)))
    have Bx1 := Lib.hid (Bx0.out.below hb1 (by omega))
    have c1_0 := Bx1.out.cell 0 (v := .int .i64 p.w) rfl
    have c1_1 := Bx1.out.cell 1 (v := .int .i64 p.h) rfl
    have hr1 := hr0.below hb1 (by omega)
    clear hb1
    go_wp2_with fail
    have ho1 : OwnS Pc.S (w1.alloc (.cells #[.int .i64 p.w, .int .i64 p.h] 25)) w1.heap.size (w1.heap.size + 1) (.slice (some ⟨w1.heap.size, 0, none⟩) 1 1) [p] := OwnS.lit (S := Pc.S) w1 [p] #[.int .i64 p.w, .int .i64 p.h] rfl 1 rfl (by omega)
    have hs1 : (w1.alloc (.cells #[.int .i64 p.w, .int .i64 p.h] 25)).heap.size = w1.heap.size + 1 := by simp
    go_loopw [6, 19] (fun q i wr => ∃ (k : Nat) (A2 : Option Addr) (c2 : Nat) (m : List Pc), k ≤ n ∧ i = .int .i64 k ∧ q = .slice A2 (k + 1) c2 ∧ OwnS Pc.S wr w1.heap.size wr.heap.size (.slice A2 (k + 1) c2) m ∧ Hid (Gu.run [p] (g.take k) = some m) ∧ Below w.heap.size w wr ∧ Below w1.heap.size w1 wr) (fun _ i _ => n - (intOf i).toNat)
    case atStart => exact ⟨0, _, _, [p], Nat.zero_le _, rfl, rfl, ho1.mono (Nat.le_refl _) (by omega), Lib.hid (by simp [Gu.run]), HB1.out.alloc (by omega) _, (Below.refl _ _).alloc (Nat.le_refl _) _⟩
    case round =>
      clear ho1 hs1 c1_0 c1_1
      obtain ⟨k, A2, c2, m, hk, rfl, rfl, ho, HM, hb, hbw⟩ := hrel
      have hz := hb.size
      have HOK := Lib.hid (Gu.run_okL HD.out HM.out (by have := HL.out; simp; omega))
      by_cases hlt : k < n
      · obtain ⟨b1, o, x, rfl, hbB, hx, c0, c1, cc2⟩ := (hr1.below hbw (by omega)).at_Ct hlt
        obtain ⟨g2, rfl, hc2, hg2, hg3⟩ := ho.some_ (by omega)
        have HX := Lib.hid hx
        obtain ⟨v, hv⟩ : ∃ v, Gu.can m x = v := ⟨_, rfl⟩
        have HCN := Lib.hid hv
        clear hx hv
        have hbA : Below w.heap.size w (wr.alloc (.cells #[.int .i64 x.i, .bool x.a, .int .i64 x.t] 50)) := hb.alloc hz _
        have hbAw : Below w1.heap.size w1 (wr.alloc (.cells #[.int .i64 x.i, .bool x.a, .int .i64 x.t] 50)) := hbw.alloc hbw.size _
        have hoA := ho.alloc (.cells #[.int .i64 x.i, .bool x.a, .int .i64 x.t] 50)
        have hlA : wr.heap.size + 1 = (wr.alloc (.cells #[.int .i64 x.i, .bool x.a, .int .i64 x.t] 50)).heap.size := by simp
        have BxA := Lib.hid (Blk.new (w := wr) (g := wr.heap.size) #[.int .i64 x.i, .bool x.a, .int .i64 x.t] 50 rfl)
        replace ho := hoA
        replace hb := hbA
        replace hbw := hbAw
        replace hz : w.heap.size ≤ (wr.alloc (.cells #[.int .i64 x.i, .bool x.a, .int .i64 x.t] 50)).heap.size := by omega
        clear hoA hbA hbAw
        have hzw := hbw.size
        go_wp2_with fail
        refine (allows_any (some ⟨g2, 0, none⟩) (k + 1) c2 _ m x.i x.a x.t v _ ho.rd (by omega) (by omega) HCN.out).mono ?_
        rintro e w5 ⟨rfl, hb5⟩
        have z5 := hb5.size
        have ho5 := ho.below hb5 (by omega)
        have HB5 := Lib.hid (hb.trans (hb5.mono hz))
        have HBW5 := Lib.hid (hbw.trans (hb5.mono hzw))
        have Bx5 := BxA.out.below hb5 (by omega)
        have a5_0 := Bx5.cell 0 (v := .int .i64 x.i) rfl
        have a5_1 := Bx5.cell 1 (v := .bool x.a) rfl
        have a5_2 := Bx5.cell 2 (v := .int .i64 x.t) rfl
        cases v
        · have HE := Lib.hid (Gu.rc_stop HD.out HG.out (Gu.run_stop HM.out HX.out HCN.out))
          go_wp2_with fail
          go_ret2
          exact PcC.nil_ (by rw [← HQ.out.2, HE.out.2]) (by rw [← HQ.out.1, HE.out.1]) HB5.out
        · skip
          go_wp2_with fail
          refine (implAf_any g2 0 (k + 1) c2 _ m x.i x.a x.t _ ho5.rd (by omega) HOK.out.1 hc2 (Gu.can_iff.1 HCN.out)).mono ?_
          rintro e w6 ⟨A6, c6, rfl, ho6, hb6⟩
          have HB6 := Lib.hid (HB5.out.trans (hb6.mono (by omega)))
          have HBW6 := Lib.hid (HBW5.out.trans (hb6.mono (by omega)))
          have HO6 := Lib.hid (ho6.mono (lo' := w1.heap.size) (by omega) (Nat.le_refl _))
          clear ho6 hb6 ho5 hb5
          go_wp2_with fail
          go_roundw
          case rel => exact ⟨k + 1, A6, c6, Gu.cut m x, by omega, by go_num, rfl, HO6.out, Lib.hid (Gu.run_next HM.out HX.out HCN.out), HB6.out, HBW6.out⟩
          case measure => simp [intOf]; omega
      · obtain rfl : k = n := by omega
        have HE : Hid (Gu.rcC p g = 0 ∧ Gu.rcR p g = m) := Lib.hid (Gu.rc_good HD.out HG.out (by have := HM.out; rwa [List.take_of_length_le (by have := HL.out; omega)] at this))
        have HO := Lib.hid ho
        clear ho
        go_wp2_with fail
        go_ret2
        exact PcC.mk_ (by rw [← HQ.out.2, HE.out.2]) (by rw [← HQ.out.1, HE.out.1]) HO.out (by omega) (Nat.le_refl _) (by omega) hb

end Go.Proofs.YtbhofhobnbhhhaaGreatDoor
namespace Go.Proofs.YtbhofhobnbhhhaaGreatDoor
open Go.RowKit
set_option linter.unusedVariables false

def Pc.eqv (x y : Pc) : Bool := x.w == y.w && x.h == y.h
theorem Pc.eqv_iff (x y : Pc) : x.eqv y = true ↔ x = y := by
  obtain ⟨a, b⟩ := x
  obtain ⟨a', b'⟩ := y
  simp [Pc.eqv]
set_option maxRecDepth 100000 in
theorem eqPc (x y : Pc) (W : World) : (Op.equalIn 10000 25 x.agg y.agg).run Tryz.prog W = .ok (x.eqv y) W := by
  have hf : Tryz.prog.underlying 25 = some (.struct (Tryz.prog.fieldsOf 25)) := by kernel_rfl
  have hp : Tryz.prog.stoodInHeld 25 = false := by kernel_rfl
  rw [run_equalIn_struct W 9999 _ _ _ hf hp]
  have hu := Tryz.underlying25
  rw [hf] at hu
  injection hu with hu
  injection hu with hu
  rw [hu]
  simp [Op.eqFields, go_sem, Tryz.underlying2]
  unfold Pc.eqv
  by_cases h1 : x.w = y.w <;> by_cases h2 : x.h = y.h <;> simp [h1, h2]
theorem eqlPc (x y : Pc) (W : World) : (binOp .eql 25 x.agg y.agg).run Tryz.prog W = .ok (.bool (x.eqv y)) W := by
  rw [run_eql_struct, eqPc]
  rfl
theorem Gu.ar_no {l : List Pc} (h : Gu.okL l = false) : Gu.arR l = 0 ∧ Gu.arC l = 1 := by unfold Gu.arR Gu.arC; rw [h]; exact ⟨rfl, rfl⟩
theorem Gu.ar_yes {l : List Pc} (h : Gu.okL l = true) : Gu.arR l = Gu.areas l ∧ Gu.arC l = 0 := by unfold Gu.arR Gu.arC; rw [h]; exact ⟨rfl, rfl⟩
theorem Gu.cp_no {l : List Pc} {p : Pc} (h : (Gu.okL l && Gu.okP p) = false) : Gu.cpR l p = 0 ∧ Gu.cpC l p = 1 := by unfold Gu.cpR Gu.cpC; rw [h]; exact ⟨rfl, rfl⟩
theorem Gu.cp_yes {l : List Pc} {p : Pc} (h : (Gu.okL l && Gu.okP p) = true) : Gu.cpR l p = (l.countP (fun x => decide (x = p)) : Int) ∧ Gu.cpC l p = 0 := by unfold Gu.cpR Gu.cpC; rw [h]; exact ⟨rfl, rfl⟩
theorem Gu.areas_take {l : List Pc} {n k : Nat} (hl : l.length = n) (hok : Gu.okL l = true) (hk : k ≤ n) : 0 ≤ Gu.areas (l.take k) ∧ Gu.areas (l.take k) ≤ 32000000000 := by
  have h1 := Gu.okL_all hok
  have h2 := Gu.areas_le (l := l.take k) fun x hx => h1.2 x (List.mem_of_mem_take hx)
  have h3 : (l.take k).length = k := by simp; omega
  rw [h3] at h2
  omega
set_option maxRecDepth 100000 in
set_option maxHeartbeats 2000000 in
theorem implCp_any (A : Option Addr) (n c B : Nat) (l : List Pc) (p : Pc) (R Cd : Int) (w : World) (h : RdS Pc.S w B A n l) (hB : B ≤ w.heap.size) (hn : n ≤ 1048577) (hR : Gu.cpR l p = R) (hC : Gu.cpC l p = Cd) :
    Calls Tryz.prog 16 #[.slice A n c, p.agg] w fun e w' => e = .returned (.tuple #[.int .i64 R, .int .i64 Cd]) ∧ Below w.heap.size w w' := by
  have HL := Lib.hid h.1
  subst hR hC
  have HB0 := Lib.hid (below_new9 w (.cells #[.int .i64 p.w, .int .i64 p.h] 25))
  have Bx0 := Lib.hid (Blk.new (w := w) (g := w.heap.size) #[.int .i64 p.w, .int .i64 p.h] 25 rfl)
  have hr0 := h.alloc hB (.cells #[.int .i64 p.w, .int .i64 p.h] 25)
  have hz0 : w.heap.size + 1 = (w.alloc (.cells #[.int .i64 p.w, .int .i64 p.h] 25)).heap.size := by simp
  obtain ⟨d, hd⟩ : ∃ d, Gu.okL l = d := ⟨_, rfl⟩
  obtain ⟨d2, hd2⟩ : ∃ d, Gu.okP p = d := ⟨_, rfl⟩
  have HD := Lib.hid hd
  have HD2 := Lib.hid hd2
  clear hd hd2
  cases d
  · have HE := Lib.hid (Gu.cp_no (l := l) (p := p) (by rw [HD.out]; rfl))
    rw [HE.out.1, HE.out.2]
    go_enter Tryz.func16, Tryz.ntmps16
    go_wp2_with fail
    refine (implL9_any A n c B l false _ hr0 (by omega) hn HD.out).mono ?_
    rintro e w1 ⟨rfl, hb1⟩
    have z1 : w.heap.size + 1 ≤ w1.heap.size := by have h_ := hb1.size; omega
    have HB1 := Lib.hid (HB0.out.trans (hb1.mono (by omega)))
    have Bx1 := Lib.hid (Bx0.out.below hb1 (by omega))
    have c1_0 := Bx1.out.cell 0 (v := .int .i64 p.w) rfl
    have c1_1 := Bx1.out.cell 1 (v := .int .i64 p.h) rfl
    have hr1 := hr0.below hb1 (by omega)
    clear hb1
    go_wp2_with fail
    go_ret2
    exact ⟨rfl, HB1.out⟩
  · have hn80 : n ≤ 80 := by have := (Gu.okL_all HD.out).1; have := HL.out; omega
    cases d2
    · have HE := Lib.hid (Gu.cp_no (l := l) (p := p) (by rw [HD.out, HD2.out]; rfl))
      rw [HE.out.1, HE.out.2]
      go_enter Tryz.func16, Tryz.ntmps16
      go_wp2_with fail
      refine (implL9_any A n c B l true _ hr0 (by omega) hn HD.out).mono ?_
      rintro e w1 ⟨rfl, hb1⟩
      have z1 : w.heap.size + 1 ≤ w1.heap.size := by have h_ := hb1.size; omega
      have HB1 := Lib.hid (HB0.out.trans (hb1.mono (by omega)))
      have Bx1 := Lib.hid (Bx0.out.below hb1 (by omega))
      have c1_0 := Bx1.out.cell 0 (v := .int .i64 p.w) rfl
      have c1_1 := Bx1.out.cell 1 (v := .int .i64 p.h) rfl
      have hr1 := hr0.below hb1 (by omega)
      clear hb1
      go_wp2_with fail
      refine (implPc_any p false _ HD2.out).mono ?_
      rintro e w2 ⟨rfl, hb2⟩
      have z2 : w.heap.size + 1 ≤ w2.heap.size := Nat.le_trans z1 hb2.size
      have HB2 := Lib.hid (HB1.out.trans (hb2.mono (by omega)))
      have Bx2 := Lib.hid (Bx1.out.below hb2 (by omega))
      have hr2 := hr1.below hb2 (by omega)
      clear hb2 c1_0 c1_1
      go_wp2_with fail
      go_ret2
      exact ⟨rfl, HB2.out⟩
    · have HE := Lib.hid (Gu.cp_yes (l := l) (p := p) (by rw [HD.out, HD2.out]; rfl))
      rw [HE.out.1, HE.out.2]
      go_enter Tryz.func16, Tryz.ntmps16
      go_wp2_with fail
      refine (implL9_any A n c B l true _ hr0 (by omega) hn HD.out).mono ?_
      rintro e w1 ⟨rfl, hb1⟩
      have z1 : w.heap.size + 1 ≤ w1.heap.size := by have h_ := hb1.size; omega
      have HB1 := Lib.hid (HB0.out.trans (hb1.mono (by omega)))
      have Bx1 := Lib.hid (Bx0.out.below hb1 (by omega))
      have c1_0 := Bx1.out.cell 0 (v := .int .i64 p.w) rfl
      have c1_1 := Bx1.out.cell 1 (v := .int .i64 p.h) rfl
      have hr1 := hr0.below hb1 (by omega)
      clear hb1
      go_wp2_with fail
      refine (implPc_any p true _ HD2.out).mono ?_
      rintro e w2 ⟨rfl, hb2⟩
      have z2 : w.heap.size + 1 ≤ w2.heap.size := Nat.le_trans z1 hb2.size
      have HB2 := Lib.hid (HB1.out.trans (hb2.mono (by omega)))
      have Bx2 := Lib.hid (Bx1.out.below hb2 (by omega))
      have hr2 := hr1.below hb2 (by omega)
      clear hb2 c1_0 c1_1
      go_wp2_with fail
      go_loopw [6, 19] (fun u i wr => ∃ (k : Nat) (u' : Nat), k ≤ n ∧ u' ≤ k ∧ i = .int .i64 k ∧ u = .int .i64 (u' : Int) ∧ Hid (u' = (l.take k).countP (fun x => decide (x = p))) ∧ Below w.heap.size w wr ∧ Below w2.heap.size w2 wr) (fun _ i _ => n - (intOf i).toNat)
      case atStart => exact ⟨0, 0, Nat.zero_le _, Nat.le_refl _, rfl, rfl, Lib.hid (by simp), HB2.out, Below.refl _ _⟩
      case round =>
        obtain ⟨k, u', hk, huk, rfl, rfl, HU, hb, hbw⟩ := hrel
        have hz := hb.size
        have Bx := Bx2.out.below hbw (by omega)
        have c0_ := Bx.cell 0 (v := .int .i64 p.w) rfl
        have c1_ := Bx.cell 1 (v := .int .i64 p.h) rfl
        by_cases hlt : k < n
        · obtain ⟨b1, o, x, rfl, hbB, hx, c0, c1⟩ := (hr2.below hbw (by omega)).at_Pc hlt
          have HN := Lib.hid (Gu.count_next l p k x hx)
          obtain ⟨v, hv⟩ : ∃ v, x.eqv p = v := ⟨_, rfl⟩
          have hEq : ∀ W, (binOp .eql 25 x.agg p.agg).run Tryz.prog W = .ok (.bool v) W := fun W => by rw [← hv]; exact eqlPc x p W
          have HV : Hid (if v then x = p else ¬ x = p) := by
            cases v
            · exact Lib.hid (fun h => by rw [(Pc.eqv_iff x p).2 h] at hv; cases hv)
            · exact Lib.hid ((Pc.eqv_iff x p).1 hv)
          have e3 : IntKind.i64.wrap ((u' : Int) + 1) = (u' : Int) + 1 := IntWalk.i64_in _ (by omega)
          clear hx hv
          have hbx : Below w.heap.size w (wr.alloc (.cells #[.int .i64 x.w, .int .i64 x.h] 25)) := hb.alloc hz _
          have HBX := Lib.hid hbx
          have BxA := Bx.alloc (.cells #[.int .i64 x.w, .int .i64 x.h] 25)
          have a0 := BxA.cell 0 (v := .int .i64 p.w) rfl
          have a1 := BxA.cell 1 (v := .int .i64 p.h) rfl
          clear hbx BxA
          cases v
          · go_wp2_with fail
            go_roundw
            case rel => exact ⟨k + 1, u', by omega, by omega, by go_num, rfl, Lib.hid (by rw [HN.out, if_neg (show ¬ x = p by simpa using HV.out), ← HU.out]; rfl), HBX.out, Below.trans hbw ((Below.refl _ _).alloc (Below.size hbw) _)⟩
            case measure => simp [intOf]; omega
          · go_wp2_with fail
            go_roundw
            case rel => exact ⟨k + 1, u' + 1, by omega, by omega, by go_num, by go_num, Lib.hid (by rw [HN.out, if_pos (show x = p by simpa using HV.out), ← HU.out]), HBX.out, Below.trans hbw ((Below.refl _ _).alloc (Below.size hbw) _)⟩
            case measure => simp [intOf]; omega
        · obtain rfl : k = n := by omega
          have HE2 : Hid (l.countP (fun x => decide (x = p)) = u') := by rw [HU.out, List.take_of_length_le (by have := HL.out; omega)]; exact Lib.hid rfl
          go_wp2_with fail
          go_ret2
          rw [HE2.out]
          exact ⟨rfl, hb⟩

end Go.Proofs.YtbhofhobnbhhhaaGreatDoor

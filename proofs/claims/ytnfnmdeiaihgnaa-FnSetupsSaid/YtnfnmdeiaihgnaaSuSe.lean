/- Contract of the model's SetupOf. -/
import Derived.Test.YtnfnmdeiaihgnaaSuSz
import Derived.Deep.RegionLaw
import Derived.Deep.Cut
import Derived.BigQuiet
import Derived.Deep.QuietTactic
namespace Go.Proofs.Ytnfnmdeiaihgnaa
open Go.RowKit
set_option linter.unusedVariables false
set_option linter.unusedSimpArgs false

/-- A set-up and a code are handed back; the set-up is the call's own. -/
def SeC (w : World) (L : List Un) (C : Int) (e : Ending) (w' : World) : Prop :=
  ∃ A n c, e = .returned (.tuple #[.slice A n c, .int .i64 C]) ∧ OwnS Un.S w' w.heap.size w'.heap.size (.slice A n c) L ∧ n ≤ 1048576 ∧ n ≤ c ∧ Below w.heap.size w w'
theorem SeC.mk_ {w w' : World} {L L' : List Un} {C C' : Int} {A : Option Addr} {n c lo hi : Nat} (hL : L = L') (hC : C = C') (ho : OwnS Un.S w' lo hi (.slice A n c) L') (h1 : w.heap.size ≤ lo) (h2 : hi ≤ w'.heap.size) (hn : n ≤ 1048576) (hb : Below w.heap.size w w') : SeC w L C (.returned (.tuple #[.slice A n c, .int .i64 C'])) w' := by
  subst hL hC
  refine ⟨A, n, c, rfl, ho.mono h1 h2, hn, ?_, hb⟩
  obtain ⟨A', c', e, h3⟩ := ho.form
  injection e with _ e1 e2
  omega
/-- The state at each round. -/
structure SeI (w : World) (c : Pc) (G hi : Nat) (A : Option Addr) (k cp : Nat) (l : List Un) (wr : World) : Prop where
  b0 : Blk wr w.heap.size #[.int .i64 c.w, .int .i64 c.h] 25
  o : OwnS Un.S wr G hi (.slice A k cp) l
  lt : w.heap.size < G
  le : G ≤ hi
  lh : hi ≤ wr.heap.size
  b : Below w.heap.size w wr
theorem SeI.below {w V V' : World} {c : Pc} {G hi : Nat} {A : Option Addr} {k cp : Nat} {l : List Un} (h : SeI w c G hi A k cp l V) (hb : Below V.heap.size V V') : SeI w c G hi A k cp l V' :=
  ⟨h.b0.below hb h.b0.lt, h.o.below hb h.lh, h.lt, h.le, Nat.le_trans h.lh hb.size, h.b.trans (hb.mono h.b.size)⟩
theorem SeI.push {w V V' : World} {c : Pc} {G hi : Nat} {A A' : Option Addr} {k cp c' : Nat} {l : List Un} {y : Un} (h : SeI w c G hi A k cp l V) (ho : OwnS Un.S V' G V'.heap.size (.slice A' (k + 1) c') (l ++ [y])) (hm : Only G hi V V') : SeI w c G V'.heap.size A' (k + 1) c' (l ++ [y]) V' :=
  ⟨h.b0.only hm (.inl h.lt), ho, h.lt, Nat.le_trans h.le (Nat.le_trans h.lh hm.size), Nat.le_refl _, h.b.trans (hm.below (Nat.le_of_lt h.lt) h.b.size)⟩
theorem SeI.put {w V : World} {c : Pc} {G hi : Nat} {A : Option Addr} {k cp : Nat} {l : List Un} (h : SeI w c G hi A k cp l V) (g i : Nat) (v : Value) (hg : hi ≤ g) : SeI w c G hi A k cp l (V.setCell ⟨g, i, none⟩ v) :=
  ⟨h.b0.other _ _ (show _ ≠ g by have := h.lt; have := h.le; omega), h.o.keep fun g' hg' => Below.heap_setCell _ _ _ _ (show g' ≠ g by have := (h.o.lt g' hg').2.1; omega), h.lt, h.le, by simpa using h.lh, below_set9 h.b (show _ ≤ g by have := h.lt; have := h.le; omega)⟩
theorem Su.ov {x : UInt8} (h : ¬ x.toNat = 76) : (x == 76 || x == 84) = ((x.toNat : Int) == 84) := by
  have e1 : (x == 76) = false := by
    rw [beq_eq_false_iff_ne]
    intro e
    exact h (by rw [e]; rfl)
  rw [e1, Bool.false_or]
  by_cases h84 : x.toNat = 84
  · have e : x = 84 := UInt8.toNat_inj.mp h84
    subst e
    rfl
  · have e2 : (x == 84) = false := by
      rw [beq_eq_false_iff_ne]
      intro e
      exact h84 (by rw [e]; rfl)
    rw [e2]
    symm
    have : ¬ (x.toNat : Int) = 84 := by omega
    simpa using this
set_option maxRecDepth 100000 in
set_option maxHeartbeats 40000000 in
theorem specSe_any (a b : Int) (c : Pc) (s : ByteArray) (L : List Un) (C : Int) (w : World) (hs : s.size ≤ 1048577) (hL : Su.suR a b c s.data.toList = L) (hC : Su.code a b c s.data.toList = C) :
    Calls Try.prog 15 #[.int .i64 a, .int .i64 b, c.agg, .string s] w fun e w' => SeC w L C e w' := by
  have hcd := fun W => specSu_any a b c s C W hs hC
  have HB0 := Lib.hid (below_new9 w (.cells #[.int .i64 c.w, .int .i64 c.h] 25))
  have HK0 := Lib.hid (Blk.new (w := w) (g := w.heap.size) #[.int .i64 c.w, .int .i64 c.h] 25 rfl)
  have HZ0 : Hid ((w.alloc (.cells #[.int .i64 c.w, .int .i64 c.h] 25)).heap.size = w.heap.size + 1) := Lib.hid (by simp)
  by_cases hc0 : C = 0
  rotate_left
  · have hcB : (C != 0) = true := by simpa using hc0
    have HE : Hid (L = []) := Lib.hid (by rw [← hL]; unfold Su.suR; rw [hC, if_neg hc0])
    clear hL hC
    go_enter Try.func15, Try.ntmps15
    go_wp2_with fail
    refine (hcd _).mono ?_
    rintro e w1 ⟨rfl, hb1⟩
    have HB1 := Lib.hid (HB0.out.trans (hb1.mono HB0.out.size))
    clear hb1 hcd
    go_wp2_with fail
    go_ret2
    exact SeC.mk_ (lo := w.heap.size) (hi := w1.heap.size) HE.out rfl OwnS.nil_ (Nat.le_refl _) (Nat.le_refl _) (by omega) HB1.out
  subst hc0
  obtain ⟨hok, hsch⟩ := Su.code0 hC
  obtain ⟨ha, hb, hs6, hlet⟩ := Su.scheme_facts hsch
  have hsz : s.size ≤ 6 := by rw [Array.length_toList] at hs6; exact hs6
  have HSM := fun k => Su.sz_small ha hb hok s.data.toList k
  have hsp := fun k (hk : k ≤ s.size) p W (hp : Su.sz a b c s.data.toList k = p) => specSz_any a b c s k p W hs hk ha hb hok hp
  have HSP := Lib.hid hsp
  have HE : Hid (L = Su.suT a b c s.data.toList s.size) := Lib.hid (by rw [← hL]; unfold Su.suR; rw [if_pos hC, Array.length_toList]; rfl)
  clear hL hC hok hsch hs6 hlet ha hb hsp
  go_enter Try.func15, Try.ntmps15
  go_wp2_with fail
  refine (hcd _).mono ?_
  rintro e w1 ⟨rfl, hb1⟩
  have HI1 : SeI w c w1.heap.size (w1.heap.size + 1) (some ⟨w1.heap.size, 0, none⟩) 0 0 [] (w1.alloc (.cells #[] 83)) := by
    have h1 := HB0.out.trans (hb1.mono HB0.out.size)
    have h2 := hb1.size
    rw [HZ0.out] at h2
    exact ⟨(HK0.out.below hb1 HK0.out.lt).alloc _, OwnS.lit0 Un.S w1, by omega, by omega, by simp, h1.alloc h1.size _⟩
  clear hb1 hcd
  go_wp2_with fail
  go_loopw [11, 12, 13, 14] (fun o i _ _ wr => ∃ (k : Nat) (A : Option Addr) (cp hi : Nat), k ≤ s.size ∧ i = .int .i64 k ∧ o = .slice A k cp ∧ SeI w c w1.heap.size hi A k cp (Su.suT a b c s.data.toList k) wr) (fun _ i _ _ _ => s.size - (intOf i).toNat)
  case atStart => exact ⟨0, _, _, _, Nat.zero_le _, rfl, rfl, HI1⟩
  case round =>
    obtain ⟨k, A, cp, hi, hk, rfl, rfl, hI⟩ := hrel
    by_cases hlt : k < s.size
    · have hltI : (k : Int) < (s.size : Int) := by omega
      obtain ⟨p, hp⟩ : ∃ p, Su.sz a b c s.data.toList k = p := ⟨_, rfl⟩
      have hsm := HSM k
      rw [hp] at hsm
      obtain ⟨hpw, hph⟩ := hsm
      obtain ⟨x, hx⟩ := str_get s k hlt
      have hix := index_str s k x hx
      have c0 := hI.b0.cell 0 (v := .int .i64 c.w) rfl
      have c1 := hI.b0.cell 1 (v := .int .i64 c.h) rfl
      obtain ⟨d, hd⟩ : ∃ d, Fo.isX x = d := ⟨_, rfl⟩
      have hal := fun W => specAl_any x d W hd
      have hd76 : x.toNat = 76 → d = true := fun e => by have e2 : x = 76 := UInt8.toNat_inj.mp e; subst e2; exact hd.symm
      have HN : Hid (Su.suT a b c s.data.toList (k + 1) = Su.suT a b c s.data.toList k ++ [⟨d, if d then p.w / 2 else p.h / 2, x == 76 || x == 84⟩]) := Lib.hid (by rw [Su.suT_next hx, hp]; unfold Su.unit; rw [hd])
      have hcall := fun W => HSP.out k hk p W hp
      clear hp hx hd
      go_wp2_with fail
      refine (hcall _).mono ?_
      rintro e w3 ⟨rfl, hb3⟩
      have hI3 := hI.below hb3
      have HP := Lib.hid (Blk.new (w := w3) (g := w3.heap.size) #[.int .i64 p.w, .int .i64 p.h] 25 rfl)
      have hI4 := hI3.below ((Below.refl w3.heap.size w3).alloc (Nat.le_refl _) (.cells #[.int .i64 p.w, .int .i64 p.h] 25))
      have hl3 := hI3.lh
      clear hI hI3 hb3 hcall c0 c1
      go_wp2_with fail
      have f0 := HP.out.cell 0 (v := .int .i64 p.w) rfl
      have f1 := HP.out.cell 1 (v := .int .i64 p.h) rfl
      have g0 := (HP.out.alloc (.cells #[.bool false, .int .i64 0, .bool false] 83)).cell 0 (v := .int .i64 p.w) rfl
      have g1 := (HP.out.alloc (.cells #[.bool false, .int .i64 0, .bool false] 83)).cell 1 (v := .int .i64 p.h) rfl
      have hS0 : World.cell? (w3.alloc (.cells #[.int .i64 p.w, .int .i64 p.h] 25)).drew ⟨w3.heap.size, 1, none⟩ = some (.int .i64 p.h) := f1
      have t1 : p.h.tdiv 2 = p.h / 2 := Int.tdiv_eq_ediv_of_nonneg (by omega)
      have t2 : IntKind.i64.wrap (p.h / 2) = p.h / 2 := IntWalk.i64_in _ (by omega)
      by_cases h76 : x.toNat = 76
      · rw [h76] at hix
        replace hal : ∀ W, Calls Try.prog 59 #[.int .u8 76] W fun e w' => e = .returned (.bool d) ∧ W = w' := fun W => by
          have h_ := hal W
          rw [h76] at h_
          exact h_
        have HO : Hid ((x == 76 || x == 84) = true) := Lib.hid (by have e : x = 76 := UInt8.toNat_inj.mp h76; subst e; rfl)
        rw [HO.out] at HN
        obtain rfl : d = true := hd76 h76
        refine wp_region_held_drew (S := (fun V => V.cell? ⟨w3.heap.size, 1, none⟩ = some (.int .i64 p.h))) (by kernel_rfl) hS0 (fun hHeld => ?_)
        refine wpAnyH_take (i := 0) (oi := ⟨some 36, _, _, _, _, _⟩) (v := ?_) rfl (by kernel_rfl) (by kernel_rfl) (by kernel_rfl) (fun _ _ _ h => h) (Or.inl ⟨by kernel_rfl, ?_⟩) (by assumption) ?_
        rotate_left
        · (intro w hSw; go_simp; first | done | with_reducible rfl)
        refine wpAnyH_take (i := 1) (oi := ⟨some 37, _, _, _, _, _⟩) (v := ?_) rfl (by kernel_rfl) (by kernel_rfl) (by kernel_rfl) (fun _ _ _ h => h) (Or.inl ⟨by kernel_rfl, ?_⟩) (by assumption) ?_
        rotate_left
        · (intro w hSw; go_simp; first | done | with_reducible rfl)
        refine wpAnyH_take (i := 2) (oi := ⟨some 38, _, _, _, _, _⟩) (v := ?_) rfl (by kernel_rfl) (by kernel_rfl) (by kernel_rfl) (fun _ _ _ h => h) (Or.inl ⟨by kernel_rfl, ?_⟩) (by assumption) ?_
        rotate_left
        · (intro w hSw; go_simp; first | done | with_reducible rfl)
        refine wpAnyH_take (i := 4) (oi := ⟨some 40, _, _, _, _, _⟩) (v := ?_) rfl (by kernel_rfl) (by kernel_rfl) (by kernel_rfl) (fun _ _ _ h => h) (Or.inl ⟨by kernel_rfl, ?_⟩) (by assumption) ?_
        rotate_left
        · (intro w hSw; go_simp; first | done | with_reducible rfl)
        refine wpAnyH_take (i := 5) (oi := ⟨some 41, _, _, _, _, _⟩) (v := ?_) rfl (by kernel_rfl) (by kernel_rfl) (by kernel_rfl) (fun _ _ _ h => h) (Or.inl ⟨by kernel_rfl, ?_⟩) (by assumption) ?_
        rotate_left
        · (intro w hSw; go_simp; first | done | with_reducible rfl)
        refine wpAnyH_take (i := 6) (oi := ⟨some 42, _, _, _, _, _⟩) (v := ?_) rfl (by kernel_rfl) (by kernel_rfl) (by kernel_rfl) (fun _ _ _ h => h) (Or.inl ⟨by kernel_rfl, ?_⟩) (by assumption) ?_
        rotate_left
        · (intro w hSw; go_simp; first | done | with_reducible rfl)
        refine wpAnyH_take (i := 7) (oi := ⟨some 43, _, _, _, _, _⟩) (v := ?_) rfl (by kernel_rfl) (by kernel_rfl) (by kernel_rfl) (fun _ _ _ h => h) (Or.inl ⟨by kernel_rfl, ?_⟩) (by assumption) ?_
        rotate_left
        · (intro w hSw; go_simp; first | done | with_reducible rfl)
        refine wpAnyH_take (i := 8) (oi := ⟨some 44, _, _, _, _, _⟩) (v := ?_) rfl (by kernel_rfl) (by kernel_rfl) (by kernel_rfl) (fun _ _ _ h => h) (Or.inl ⟨by kernel_rfl, ?_⟩) (by assumption) ?_
        rotate_left
        · (intro w hSw; go_simp; first | done | with_reducible rfl)
        refine wpAnyH_take (i := 9) (oi := ⟨some 45, _, _, _, _, _⟩) (v := ?_) rfl (by kernel_rfl) (by kernel_rfl) (by kernel_rfl) (fun _ _ _ h => h) (Or.inl ⟨by kernel_rfl, ?_⟩) (by assumption) ?_
        rotate_left
        · (intro w hSw; go_simp; first | done | with_reducible rfl)
        refine wpAnyH_take (i := 10) (oi := ⟨some 46, _, _, _, _, _⟩) (v := ?_) rfl (by kernel_rfl) (by kernel_rfl) (by kernel_rfl) (fun _ _ _ h => h) (Or.inl ⟨by kernel_rfl, ?_⟩) (by assumption) ?_
        rotate_left
        · (intro w hSw; go_simp; first | done | with_reducible rfl)
        refine wpAnyH_ready (rs := [3, 18]) (by kernel_rfl) (by simp) ?_
        refine AllReadyH.cons rfl (fun K hK => ?_) (AllReadyH.cons rfl (fun K hK => ?_) AllReadyH.nil)
        rotate_left
        rw [if_pos (by kernel_rfl)]
        go_simp
        refine hK.out _ _ (by first | with_reducible exact g1 | exact g1 | go_keep) (fun hHeld2 => ?_)
        refine wpAnyH_ready (rs := [3]) (by kernel_rfl) (by simp) ?_
        refine AllReadyH.cons rfl (fun K hK => ?_) AllReadyH.nil
        rw [if_pos (by kernel_rfl)]
        go_simp
        refine (hal _).mono ?_
        rintro e' _ ⟨rfl, rfl⟩
        refine hK.out _ _ (by first | with_reducible exact g1 | exact g1 | go_keep) (fun hHeld3 => ?_)
        refine wpAnyH_take (i := 11) (oi := ⟨some 47, _, _, _, _, _⟩) (v := ?_) rfl (by kernel_rfl) (by kernel_rfl) (by kernel_rfl) (fun _ _ _ h => h) (Or.inl ⟨by kernel_rfl, ?_⟩) (by assumption) ?_
        rotate_left
        · (intro w hSw; go_simp; first | done | with_reducible rfl)
        refine wpAnyH_take (i := 12) (oi := ⟨some 48, _, _, _, _, _⟩) (v := undef) rfl (by kernel_rfl) (by kernel_rfl) (by kernel_rfl) (fun _ _ _ h => h) (Or.inr ⟨by kernel_rfl, rfl⟩) (by assumption) ?_
        refine wpAnyH_take (i := 13) (oi := ⟨some 49, _, _, _, _, _⟩) (v := undef) rfl (by kernel_rfl) (by kernel_rfl) (by kernel_rfl) (fun _ _ _ h => h) (Or.inr ⟨by kernel_rfl, rfl⟩) (by assumption) ?_
        refine wpAnyH_take (i := 14) (oi := ⟨some 50, _, _, _, _, _⟩) (v := undef) rfl (by kernel_rfl) (by kernel_rfl) (by kernel_rfl) (fun _ _ _ h => h) (Or.inr ⟨by kernel_rfl, rfl⟩) (by assumption) ?_
        refine wpAnyH_take (i := 15) (oi := ⟨some 51, _, _, _, _, _⟩) (v := undef) rfl (by kernel_rfl) (by kernel_rfl) (by kernel_rfl) (fun _ _ _ h => h) (Or.inr ⟨by kernel_rfl, rfl⟩) (by assumption) ?_
        refine wpAnyH_take (i := 16) (oi := ⟨some 52, _, _, _, _, _⟩) (v := ?_) rfl (by kernel_rfl) (by kernel_rfl) (by kernel_rfl) (fun _ _ _ h => h) (Or.inl ⟨by kernel_rfl, ?_⟩) (by assumption) ?_
        rotate_left
        · (intro w hSw; go_simp; first | done | with_reducible rfl)
        refine wpAnyH_take (i := 17) (oi := ⟨some 53, _, _, _, _, _⟩) (v := ?_) rfl (by kernel_rfl) (by kernel_rfl) (by kernel_rfl) (fun _ _ _ h => h) (Or.inl ⟨by kernel_rfl, ?_⟩) (by assumption) ?_
        rotate_left
        · (intro w hSw; go_simp; first | done | with_reducible rfl)
        refine wpAnyH_ready (rs := [19]) (by kernel_rfl) (by simp) ?_
        refine AllReadyH.cons rfl (fun K hK => ?_) AllReadyH.nil
        rw [if_pos (by kernel_rfl)]
        go_simp
        refine hK.out _ _ (by first | go_keep | exact g1) (fun hHeld4 => ?_)
        refine wpAnyH_done (by kernel_rfl) ?_ _
        try dsimp only
        simp only [Exit.then, go_sem, List.setIfInBounds_toArray, List.set_cons_succ, List.set_cons_zero]
        rotate_left
        rw [if_pos (by kernel_rfl)]
        go_simp
        refine (hal _).mono ?_
        rintro e' _ ⟨rfl, rfl⟩
        refine hK.out _ _ hS0 (fun hHeld2 => ?_)
        refine wpAnyH_take (i := 11) (oi := ⟨some 47, _, _, _, _, _⟩) (v := ?_) rfl (by kernel_rfl) (by kernel_rfl) (by kernel_rfl) (fun _ _ _ h => h) (Or.inl ⟨by kernel_rfl, ?_⟩) (by assumption) ?_
        rotate_left
        · (intro w hSw; go_simp; first | done | with_reducible rfl)
        refine wpAnyH_take (i := 12) (oi := ⟨some 48, _, _, _, _, _⟩) (v := undef) rfl (by kernel_rfl) (by kernel_rfl) (by kernel_rfl) (fun _ _ _ h => h) (Or.inr ⟨by kernel_rfl, rfl⟩) (by assumption) ?_
        refine wpAnyH_take (i := 13) (oi := ⟨some 49, _, _, _, _, _⟩) (v := undef) rfl (by kernel_rfl) (by kernel_rfl) (by kernel_rfl) (fun _ _ _ h => h) (Or.inr ⟨by kernel_rfl, rfl⟩) (by assumption) ?_
        refine wpAnyH_take (i := 14) (oi := ⟨some 50, _, _, _, _, _⟩) (v := undef) rfl (by kernel_rfl) (by kernel_rfl) (by kernel_rfl) (fun _ _ _ h => h) (Or.inr ⟨by kernel_rfl, rfl⟩) (by assumption) ?_
        refine wpAnyH_take (i := 15) (oi := ⟨some 51, _, _, _, _, _⟩) (v := undef) rfl (by kernel_rfl) (by kernel_rfl) (by kernel_rfl) (fun _ _ _ h => h) (Or.inr ⟨by kernel_rfl, rfl⟩) (by assumption) ?_
        refine wpAnyH_take (i := 16) (oi := ⟨some 52, _, _, _, _, _⟩) (v := ?_) rfl (by kernel_rfl) (by kernel_rfl) (by kernel_rfl) (fun _ _ _ h => h) (Or.inl ⟨by kernel_rfl, ?_⟩) (by assumption) ?_
        rotate_left
        · (intro w hSw; go_simp; first | done | with_reducible rfl)
        refine wpAnyH_take (i := 17) (oi := ⟨some 53, _, _, _, _, _⟩) (v := ?_) rfl (by kernel_rfl) (by kernel_rfl) (by kernel_rfl) (fun _ _ _ h => h) (Or.inl ⟨by kernel_rfl, ?_⟩) (by assumption) ?_
        rotate_left
        · (intro w hSw; go_simp; first | done | with_reducible rfl)
        refine wpAnyH_ready (rs := [18]) (by kernel_rfl) (by simp) ?_
        refine AllReadyH.cons rfl (fun K hK => ?_) AllReadyH.nil
        rw [if_pos (by kernel_rfl)]
        go_simp
        refine hK.out _ _ (by first | with_reducible exact g1 | exact g1 | go_keep) (fun hHeld3 => ?_)
        refine wpAnyH_ready (rs := [19]) (by kernel_rfl) (by simp) ?_
        refine AllReadyH.cons rfl (fun K hK => ?_) AllReadyH.nil
        rw [if_pos (by kernel_rfl)]
        go_simp
        refine hK.out _ _ (by first | go_keep | exact g1) (fun hHeld4 => ?_)
        refine wpAnyH_done (by kernel_rfl) ?_ _
        try dsimp only
        simp only [Exit.then, go_sem, List.setIfInBounds_toArray, List.set_cons_succ, List.set_cons_zero]
        rotate_left
        all_goals
          have HV : SeI w c w1.heap.size hi A k cp (Su.suT a b c s.data.toList k) (((w3.alloc (.cells #[.int .i64 p.w, .int .i64 p.h] 25)).alloc (.cells #[.bool true, .int .i64 (p.h / 2), .bool true] 83)).drew) := hI4.below (((Below.refl _ (w3.alloc (.cells #[.int .i64 p.w, .int .i64 p.h] 25))).alloc (Nat.le_refl _) _).drew)
          have BP : Blk (((w3.alloc (.cells #[.int .i64 p.w, .int .i64 p.h] 25)).alloc (.cells #[.bool true, .int .i64 (p.h / 2), .bool true] 83)).drew) w3.heap.size #[.int .i64 p.w, .int .i64 p.h] 25 := HP.out.alloc _
          have BU : Blk (((w3.alloc (.cells #[.int .i64 p.w, .int .i64 p.h] 25)).alloc (.cells #[.bool true, .int .i64 (p.h / 2), .bool true] 83)).drew) (w3.heap.size + 1) #[.bool true, .int .i64 (p.h / 2), .bool true] 83 := Blk.new _ _ (by simp)
          generalize ((w3.alloc (.cells #[.int .i64 p.w, .int .i64 p.h] 25)).alloc (.cells #[.bool true, .int .i64 (p.h / 2), .bool true] 83)).drew = V at *
          have u0 := BU.cell 0 (v := .bool true) rfl
          have u1 := BU.cell 1 (v := .int .i64 (p.h / 2)) rfl
          have u2 := BU.cell 2 (v := .bool true) rfl
          have q0 := BP.cell 0 (v := .int .i64 p.w) rfl
          have q1 := BU.free 1
          have t3 : p.w.tdiv 2 = p.w / 2 := Int.tdiv_eq_ediv_of_nonneg (by omega)
          have t4 : IntKind.i64.wrap (p.w / 2) = p.w / 2 := IntWalk.i64_in _ (by omega)
          have BS : Blk (V.setCell ⟨w3.heap.size + 1, 1, none⟩ (.int .i64 (p.w / 2))) (w3.heap.size + 1) #[.bool true, .int .i64 (p.w / 2), .bool true] 83 := BU.set 1 _
          have HW := HV.put (w3.heap.size + 1) 1 (.int .i64 (p.w / 2)) (by omega)
          go_upto_region 12 with fail
          generalize V.setCell ⟨w3.heap.size + 1, 1, none⟩ (.int .i64 (p.w / 2)) = W9 at *
          have v0 := BS.cell 0 (v := .bool true) rfl
          have v1 := BS.cell 1 (v := .int .i64 (p.w / 2)) rfl
          have v2 := BS.cell 2 (v := .bool true) rfl
          go_wp2_with (at_builtin; refine wp_pushUn W9 rfl (.tmp 60) (.tmp 62) 28 rfl Try.underlying28 A k cp _ _ _ (by rfl) HW.o ⟨true, p.w / 2, true⟩ W9.heap.size (by rfl) rfl (by omega) (Nat.le_trans HW.le HW.lh) ?_; intro A7 c7 w7 ho7 hm7; have hI7 := Lib.hid (HW.push ho7 hm7); clear ho7 hm7)
          go_roundw
          case rel => exact ⟨k + 1, A7, c7, _, by omega, by go_num, rfl, by rw [HN.out]; exact hI7.out⟩
          case measure => simp [intOf]; omega
      · have hi1 : ¬ ((x.toNat : Int) = 76) := by omega
        have hj1 : ((x.toNat : Int) == 76) = false := by simpa using hi1
        have HO : Hid ((x == 76 || x == 84) = ((x.toNat : Int) == 84)) := Lib.hid (Su.ov h76)
        rw [HO.out] at HN
        cases d
        · refine wp_region_held_drew (S := (fun V => V.cell? ⟨w3.heap.size, 1, none⟩ = some (.int .i64 p.h))) (by kernel_rfl) hS0 (fun hHeld => ?_)
          refine wpAnyH_take (i := 0) (oi := ⟨some 36, _, _, _, _, _⟩) (v := ?_) rfl (by kernel_rfl) (by kernel_rfl) (by kernel_rfl) (fun _ _ _ h => h) (Or.inl ⟨by kernel_rfl, ?_⟩) (by assumption) ?_
          rotate_left
          · (intro w hSw; go_simp; first | done | with_reducible rfl)
          refine wpAnyH_take (i := 1) (oi := ⟨some 37, _, _, _, _, _⟩) (v := ?_) rfl (by kernel_rfl) (by kernel_rfl) (by kernel_rfl) (fun _ _ _ h => h) (Or.inl ⟨by kernel_rfl, ?_⟩) (by assumption) ?_
          rotate_left
          · (intro w hSw; go_simp; first | done | with_reducible rfl)
          refine wpAnyH_take (i := 2) (oi := ⟨some 38, _, _, _, _, _⟩) (v := ?_) rfl (by kernel_rfl) (by kernel_rfl) (by kernel_rfl) (fun _ _ _ h => h) (Or.inl ⟨by kernel_rfl, ?_⟩) (by assumption) ?_
          rotate_left
          · (intro w hSw; go_simp; first | done | with_reducible rfl)
          refine wpAnyH_take (i := 4) (oi := ⟨some 40, _, _, _, _, _⟩) (v := ?_) rfl (by kernel_rfl) (by kernel_rfl) (by kernel_rfl) (fun _ _ _ h => h) (Or.inl ⟨by kernel_rfl, ?_⟩) (by assumption) ?_
          rotate_left
          · (intro w hSw; go_simp; first | done | with_reducible rfl)
          refine wpAnyH_take (i := 5) (oi := ⟨some 41, _, _, _, _, _⟩) (v := ?_) rfl (by kernel_rfl) (by kernel_rfl) (by kernel_rfl) (fun _ _ _ h => h) (Or.inl ⟨by kernel_rfl, ?_⟩) (by assumption) ?_
          rotate_left
          · (intro w hSw; go_simp; first | done | with_reducible rfl)
          refine wpAnyH_take (i := 6) (oi := ⟨some 42, _, _, _, _, _⟩) (v := ?_) rfl (by kernel_rfl) (by kernel_rfl) (by kernel_rfl) (fun _ _ _ h => h) (Or.inl ⟨by kernel_rfl, ?_⟩) (by assumption) ?_
          rotate_left
          · (intro w hSw; go_simp; first | done | with_reducible rfl)
          refine wpAnyH_take (i := 7) (oi := ⟨some 43, _, _, _, _, _⟩) (v := ?_) rfl (by kernel_rfl) (by kernel_rfl) (by kernel_rfl) (fun _ _ _ h => h) (Or.inl ⟨by kernel_rfl, ?_⟩) (by assumption) ?_
          rotate_left
          · (intro w hSw; go_simp; first | done | with_reducible rfl)
          refine wpAnyH_take (i := 8) (oi := ⟨some 44, _, _, _, _, _⟩) (v := ?_) rfl (by kernel_rfl) (by kernel_rfl) (by kernel_rfl) (fun _ _ _ h => h) (Or.inl ⟨by kernel_rfl, ?_⟩) (by assumption) ?_
          rotate_left
          · (intro w hSw; go_simp; first | done | with_reducible rfl)
          refine wpAnyH_take (i := 9) (oi := ⟨some 45, _, _, _, _, _⟩) (v := ?_) rfl (by kernel_rfl) (by kernel_rfl) (by kernel_rfl) (fun _ _ _ h => h) (Or.inl ⟨by kernel_rfl, ?_⟩) (by assumption) ?_
          rotate_left
          · (intro w hSw; go_simp; first | done | with_reducible rfl)
          refine wpAnyH_take (i := 10) (oi := ⟨some 46, _, _, _, _, _⟩) (v := .bool false) rfl (by kernel_rfl) (by kernel_rfl) (by kernel_rfl) (fun _ _ _ h => h) (Or.inl ⟨by kernel_rfl, ?_⟩) (by assumption) ?_
          · (intro w hSw; go_simp; first | done | with_reducible rfl | simp [hj1])
          refine wpAnyH_ready (rs := [3, 18]) (by kernel_rfl) (by simp) ?_
          refine AllReadyH.cons rfl (fun K hK => ?_) (AllReadyH.cons rfl (fun K hK => ?_) AllReadyH.nil)
          rotate_left
          rw [if_pos (by kernel_rfl)]
          go_simp
          refine hK.out _ _ (by first | with_reducible exact g1 | exact g1 | go_keep) (fun hHeld2 => ?_)
          refine wpAnyH_ready (rs := [3]) (by kernel_rfl) (by simp) ?_
          refine AllReadyH.cons rfl (fun K hK => ?_) AllReadyH.nil
          rw [if_pos (by kernel_rfl)]
          go_simp
          refine (hal _).mono ?_
          rintro e' _ ⟨rfl, rfl⟩
          refine hK.out _ _ (by first | with_reducible exact g1 | exact g1 | go_keep) (fun hHeld3 => ?_)
          refine wpAnyH_take (i := 11) (oi := ⟨some 47, _, _, _, _, _⟩) (v := ?_) rfl (by kernel_rfl) (by kernel_rfl) (by kernel_rfl) (fun _ _ _ h => h) (Or.inl ⟨by kernel_rfl, ?_⟩) (by assumption) ?_
          rotate_left
          · (intro w hSw; go_simp; first | done | with_reducible rfl)
          refine wpAnyH_take (i := 12) (oi := ⟨some 48, _, _, _, _, _⟩) (v := ?_) rfl (by kernel_rfl) (by kernel_rfl) (by kernel_rfl) (fun _ _ _ h => h) (Or.inl ⟨by kernel_rfl, ?_⟩) (by assumption) ?_
          rotate_left
          · (intro w hSw; go_simp; first | done | with_reducible rfl)
          refine wpAnyH_take (i := 13) (oi := ⟨some 49, _, _, _, _, _⟩) (v := ?_) rfl (by kernel_rfl) (by kernel_rfl) (by kernel_rfl) (fun _ _ _ h => h) (Or.inl ⟨by kernel_rfl, ?_⟩) (by assumption) ?_
          rotate_left
          · (intro w hSw; go_simp; first | done | with_reducible rfl)
          refine wpAnyH_take (i := 14) (oi := ⟨some 50, _, _, _, _, _⟩) (v := ?_) rfl (by kernel_rfl) (by kernel_rfl) (by kernel_rfl) (fun _ _ _ h => h) (Or.inl ⟨by kernel_rfl, ?_⟩) (by assumption) ?_
          rotate_left
          · (intro w hSw; go_simp; first | done | with_reducible rfl)
          refine wpAnyH_take (i := 15) (oi := ⟨some 51, _, _, _, _, _⟩) (v := ?_) rfl (by kernel_rfl) (by kernel_rfl) (by kernel_rfl) (fun _ _ _ h => h) (Or.inl ⟨by kernel_rfl, ?_⟩) (by assumption) ?_
          rotate_left
          · (intro w hSw; go_simp; first | done | with_reducible rfl)
          refine wpAnyH_take (i := 16) (oi := ⟨some 52, _, _, _, _, _⟩) (v := ?_) rfl (by kernel_rfl) (by kernel_rfl) (by kernel_rfl) (fun _ _ _ h => h) (Or.inl ⟨by kernel_rfl, ?_⟩) (by assumption) ?_
          rotate_left
          · (intro w hSw; go_simp; first | done | with_reducible rfl)
          refine wpAnyH_take (i := 17) (oi := ⟨some 53, _, _, _, _, _⟩) (v := ?_) rfl (by kernel_rfl) (by kernel_rfl) (by kernel_rfl) (fun _ _ _ h => h) (Or.inl ⟨by kernel_rfl, ?_⟩) (by assumption) ?_
          rotate_left
          · (intro w hSw; go_simp; first | done | with_reducible rfl)
          refine wpAnyH_ready (rs := [19]) (by kernel_rfl) (by simp) ?_
          refine AllReadyH.cons rfl (fun K hK => ?_) AllReadyH.nil
          rw [if_pos (by kernel_rfl)]
          go_simp
          refine hK.out _ _ (by first | go_keep | exact g1) (fun hHeld4 => ?_)
          refine wpAnyH_done (by kernel_rfl) ?_ _
          try dsimp only
          simp only [Exit.then, go_sem, List.setIfInBounds_toArray, List.set_cons_succ, List.set_cons_zero]
          rotate_left
          rw [if_pos (by kernel_rfl)]
          go_simp
          refine (hal _).mono ?_
          rintro e' _ ⟨rfl, rfl⟩
          refine hK.out _ _ hS0 (fun hHeld2 => ?_)
          refine wpAnyH_take (i := 11) (oi := ⟨some 47, _, _, _, _, _⟩) (v := ?_) rfl (by kernel_rfl) (by kernel_rfl) (by kernel_rfl) (fun _ _ _ h => h) (Or.inl ⟨by kernel_rfl, ?_⟩) (by assumption) ?_
          rotate_left
          · (intro w hSw; go_simp; first | done | with_reducible rfl)
          refine wpAnyH_take (i := 12) (oi := ⟨some 48, _, _, _, _, _⟩) (v := ?_) rfl (by kernel_rfl) (by kernel_rfl) (by kernel_rfl) (fun _ _ _ h => h) (Or.inl ⟨by kernel_rfl, ?_⟩) (by assumption) ?_
          rotate_left
          · (intro w hSw; go_simp; first | done | with_reducible rfl)
          refine wpAnyH_take (i := 13) (oi := ⟨some 49, _, _, _, _, _⟩) (v := ?_) rfl (by kernel_rfl) (by kernel_rfl) (by kernel_rfl) (fun _ _ _ h => h) (Or.inl ⟨by kernel_rfl, ?_⟩) (by assumption) ?_
          rotate_left
          · (intro w hSw; go_simp; first | done | with_reducible rfl)
          refine wpAnyH_take (i := 14) (oi := ⟨some 50, _, _, _, _, _⟩) (v := ?_) rfl (by kernel_rfl) (by kernel_rfl) (by kernel_rfl) (fun _ _ _ h => h) (Or.inl ⟨by kernel_rfl, ?_⟩) (by assumption) ?_
          rotate_left
          · (intro w hSw; go_simp; first | done | with_reducible rfl)
          refine wpAnyH_take (i := 15) (oi := ⟨some 51, _, _, _, _, _⟩) (v := ?_) rfl (by kernel_rfl) (by kernel_rfl) (by kernel_rfl) (fun _ _ _ h => h) (Or.inl ⟨by kernel_rfl, ?_⟩) (by assumption) ?_
          rotate_left
          · (intro w hSw; go_simp; first | done | with_reducible rfl)
          refine wpAnyH_take (i := 16) (oi := ⟨some 52, _, _, _, _, _⟩) (v := ?_) rfl (by kernel_rfl) (by kernel_rfl) (by kernel_rfl) (fun _ _ _ h => h) (Or.inl ⟨by kernel_rfl, ?_⟩) (by assumption) ?_
          rotate_left
          · (intro w hSw; go_simp; first | done | with_reducible rfl)
          refine wpAnyH_take (i := 17) (oi := ⟨some 53, _, _, _, _, _⟩) (v := ?_) rfl (by kernel_rfl) (by kernel_rfl) (by kernel_rfl) (fun _ _ _ h => h) (Or.inl ⟨by kernel_rfl, ?_⟩) (by assumption) ?_
          rotate_left
          · (intro w hSw; go_simp; first | done | with_reducible rfl)
          refine wpAnyH_ready (rs := [18]) (by kernel_rfl) (by simp) ?_
          refine AllReadyH.cons rfl (fun K hK => ?_) AllReadyH.nil
          rw [if_pos (by kernel_rfl)]
          go_simp
          refine hK.out _ _ (by first | with_reducible exact g1 | exact g1 | go_keep) (fun hHeld3 => ?_)
          refine wpAnyH_ready (rs := [19]) (by kernel_rfl) (by simp) ?_
          refine AllReadyH.cons rfl (fun K hK => ?_) AllReadyH.nil
          rw [if_pos (by kernel_rfl)]
          go_simp
          refine hK.out _ _ (by first | go_keep | exact g1) (fun hHeld4 => ?_)
          refine wpAnyH_done (by kernel_rfl) ?_ _
          try dsimp only
          simp only [Exit.then, go_sem, List.setIfInBounds_toArray, List.set_cons_succ, List.set_cons_zero]
          rotate_left
          all_goals
            have HV : SeI w c w1.heap.size hi A k cp (Su.suT a b c s.data.toList k) (((w3.alloc (.cells #[.int .i64 p.w, .int .i64 p.h] 25)).alloc (.cells #[.bool false, .int .i64 (p.h / 2), .bool ((x.toNat : Int) == 84)] 83)).drew) := hI4.below (((Below.refl _ (w3.alloc (.cells #[.int .i64 p.w, .int .i64 p.h] 25))).alloc (Nat.le_refl _) _).drew)
            have BP : Blk (((w3.alloc (.cells #[.int .i64 p.w, .int .i64 p.h] 25)).alloc (.cells #[.bool false, .int .i64 (p.h / 2), .bool ((x.toNat : Int) == 84)] 83)).drew) w3.heap.size #[.int .i64 p.w, .int .i64 p.h] 25 := HP.out.alloc _
            have BU : Blk (((w3.alloc (.cells #[.int .i64 p.w, .int .i64 p.h] 25)).alloc (.cells #[.bool false, .int .i64 (p.h / 2), .bool ((x.toNat : Int) == 84)] 83)).drew) (w3.heap.size + 1) #[.bool false, .int .i64 (p.h / 2), .bool ((x.toNat : Int) == 84)] 83 := Blk.new _ _ (by simp)
            generalize ((w3.alloc (.cells #[.int .i64 p.w, .int .i64 p.h] 25)).alloc (.cells #[.bool false, .int .i64 (p.h / 2), .bool ((x.toNat : Int) == 84)] 83)).drew = V at *
            have u0 := BU.cell 0 (v := .bool false) rfl
            have u1 := BU.cell 1 (v := .int .i64 (p.h / 2)) rfl
            have u2 := BU.cell 2 (v := .bool ((x.toNat : Int) == 84)) rfl
            have q0 := BP.cell 0 (v := .int .i64 p.w) rfl
            have q1 := BU.free 1
            have HW := HV
            go_wp2_with (at_builtin; refine wp_pushUn V rfl (.tmp 60) (.tmp 62) 28 rfl Try.underlying28 A k cp _ _ _ (by rfl) HW.o ⟨false, p.h / 2, ((x.toNat : Int) == 84)⟩ V.heap.size (by rfl) rfl (by omega) (Nat.le_trans HW.le HW.lh) ?_; intro A7 c7 w7 ho7 hm7; have hI7 := Lib.hid (HW.push ho7 hm7); clear ho7 hm7)
            go_roundw
            case rel => exact ⟨k + 1, A7, c7, _, by omega, by go_num, rfl, by rw [HN.out]; exact hI7.out⟩
            case measure => simp [intOf]; omega
        · refine wp_region_held_drew (S := (fun V => V.cell? ⟨w3.heap.size, 1, none⟩ = some (.int .i64 p.h))) (by kernel_rfl) hS0 (fun hHeld => ?_)
          refine wpAnyH_take (i := 0) (oi := ⟨some 36, _, _, _, _, _⟩) (v := ?_) rfl (by kernel_rfl) (by kernel_rfl) (by kernel_rfl) (fun _ _ _ h => h) (Or.inl ⟨by kernel_rfl, ?_⟩) (by assumption) ?_
          rotate_left
          · (intro w hSw; go_simp; first | done | with_reducible rfl)
          refine wpAnyH_take (i := 1) (oi := ⟨some 37, _, _, _, _, _⟩) (v := ?_) rfl (by kernel_rfl) (by kernel_rfl) (by kernel_rfl) (fun _ _ _ h => h) (Or.inl ⟨by kernel_rfl, ?_⟩) (by assumption) ?_
          rotate_left
          · (intro w hSw; go_simp; first | done | with_reducible rfl)
          refine wpAnyH_take (i := 2) (oi := ⟨some 38, _, _, _, _, _⟩) (v := ?_) rfl (by kernel_rfl) (by kernel_rfl) (by kernel_rfl) (fun _ _ _ h => h) (Or.inl ⟨by kernel_rfl, ?_⟩) (by assumption) ?_
          rotate_left
          · (intro w hSw; go_simp; first | done | with_reducible rfl)
          refine wpAnyH_take (i := 4) (oi := ⟨some 40, _, _, _, _, _⟩) (v := ?_) rfl (by kernel_rfl) (by kernel_rfl) (by kernel_rfl) (fun _ _ _ h => h) (Or.inl ⟨by kernel_rfl, ?_⟩) (by assumption) ?_
          rotate_left
          · (intro w hSw; go_simp; first | done | with_reducible rfl)
          refine wpAnyH_take (i := 5) (oi := ⟨some 41, _, _, _, _, _⟩) (v := ?_) rfl (by kernel_rfl) (by kernel_rfl) (by kernel_rfl) (fun _ _ _ h => h) (Or.inl ⟨by kernel_rfl, ?_⟩) (by assumption) ?_
          rotate_left
          · (intro w hSw; go_simp; first | done | with_reducible rfl)
          refine wpAnyH_take (i := 6) (oi := ⟨some 42, _, _, _, _, _⟩) (v := ?_) rfl (by kernel_rfl) (by kernel_rfl) (by kernel_rfl) (fun _ _ _ h => h) (Or.inl ⟨by kernel_rfl, ?_⟩) (by assumption) ?_
          rotate_left
          · (intro w hSw; go_simp; first | done | with_reducible rfl)
          refine wpAnyH_take (i := 7) (oi := ⟨some 43, _, _, _, _, _⟩) (v := ?_) rfl (by kernel_rfl) (by kernel_rfl) (by kernel_rfl) (fun _ _ _ h => h) (Or.inl ⟨by kernel_rfl, ?_⟩) (by assumption) ?_
          rotate_left
          · (intro w hSw; go_simp; first | done | with_reducible rfl)
          refine wpAnyH_take (i := 8) (oi := ⟨some 44, _, _, _, _, _⟩) (v := ?_) rfl (by kernel_rfl) (by kernel_rfl) (by kernel_rfl) (fun _ _ _ h => h) (Or.inl ⟨by kernel_rfl, ?_⟩) (by assumption) ?_
          rotate_left
          · (intro w hSw; go_simp; first | done | with_reducible rfl)
          refine wpAnyH_take (i := 9) (oi := ⟨some 45, _, _, _, _, _⟩) (v := ?_) rfl (by kernel_rfl) (by kernel_rfl) (by kernel_rfl) (fun _ _ _ h => h) (Or.inl ⟨by kernel_rfl, ?_⟩) (by assumption) ?_
          rotate_left
          · (intro w hSw; go_simp; first | done | with_reducible rfl)
          refine wpAnyH_take (i := 10) (oi := ⟨some 46, _, _, _, _, _⟩) (v := .bool false) rfl (by kernel_rfl) (by kernel_rfl) (by kernel_rfl) (fun _ _ _ h => h) (Or.inl ⟨by kernel_rfl, ?_⟩) (by assumption) ?_
          · (intro w hSw; go_simp; first | done | with_reducible rfl | simp [hj1])
          refine wpAnyH_ready (rs := [3, 18]) (by kernel_rfl) (by simp) ?_
          refine AllReadyH.cons rfl (fun K hK => ?_) (AllReadyH.cons rfl (fun K hK => ?_) AllReadyH.nil)
          rotate_left
          rw [if_pos (by kernel_rfl)]
          go_simp
          refine hK.out _ _ (by first | with_reducible exact g1 | exact g1 | go_keep) (fun hHeld2 => ?_)
          refine wpAnyH_ready (rs := [3]) (by kernel_rfl) (by simp) ?_
          refine AllReadyH.cons rfl (fun K hK => ?_) AllReadyH.nil
          rw [if_pos (by kernel_rfl)]
          go_simp
          refine (hal _).mono ?_
          rintro e' _ ⟨rfl, rfl⟩
          refine hK.out _ _ (by first | with_reducible exact g1 | exact g1 | go_keep) (fun hHeld3 => ?_)
          refine wpAnyH_take (i := 11) (oi := ⟨some 47, _, _, _, _, _⟩) (v := ?_) rfl (by kernel_rfl) (by kernel_rfl) (by kernel_rfl) (fun _ _ _ h => h) (Or.inl ⟨by kernel_rfl, ?_⟩) (by assumption) ?_
          rotate_left
          · (intro w hSw; go_simp; first | done | with_reducible rfl)
          refine wpAnyH_take (i := 12) (oi := ⟨some 48, _, _, _, _, _⟩) (v := ?_) rfl (by kernel_rfl) (by kernel_rfl) (by kernel_rfl) (fun _ _ _ h => h) (Or.inl ⟨by kernel_rfl, ?_⟩) (by assumption) ?_
          rotate_left
          · (intro w hSw; go_simp; first | done | with_reducible rfl)
          refine wpAnyH_take (i := 13) (oi := ⟨some 49, _, _, _, _, _⟩) (v := ?_) rfl (by kernel_rfl) (by kernel_rfl) (by kernel_rfl) (fun _ _ _ h => h) (Or.inl ⟨by kernel_rfl, ?_⟩) (by assumption) ?_
          rotate_left
          · (intro w hSw; go_simp; first | done | with_reducible rfl)
          refine wpAnyH_take (i := 14) (oi := ⟨some 50, _, _, _, _, _⟩) (v := ?_) rfl (by kernel_rfl) (by kernel_rfl) (by kernel_rfl) (fun _ _ _ h => h) (Or.inl ⟨by kernel_rfl, ?_⟩) (by assumption) ?_
          rotate_left
          · (intro w hSw; go_simp; first | done | with_reducible rfl)
          refine wpAnyH_take (i := 15) (oi := ⟨some 51, _, _, _, _, _⟩) (v := ?_) rfl (by kernel_rfl) (by kernel_rfl) (by kernel_rfl) (fun _ _ _ h => h) (Or.inl ⟨by kernel_rfl, ?_⟩) (by assumption) ?_
          rotate_left
          · (intro w hSw; go_simp; first | done | with_reducible rfl)
          refine wpAnyH_take (i := 16) (oi := ⟨some 52, _, _, _, _, _⟩) (v := ?_) rfl (by kernel_rfl) (by kernel_rfl) (by kernel_rfl) (fun _ _ _ h => h) (Or.inl ⟨by kernel_rfl, ?_⟩) (by assumption) ?_
          rotate_left
          · (intro w hSw; go_simp; first | done | with_reducible rfl)
          refine wpAnyH_take (i := 17) (oi := ⟨some 53, _, _, _, _, _⟩) (v := ?_) rfl (by kernel_rfl) (by kernel_rfl) (by kernel_rfl) (fun _ _ _ h => h) (Or.inl ⟨by kernel_rfl, ?_⟩) (by assumption) ?_
          rotate_left
          · (intro w hSw; go_simp; first | done | with_reducible rfl)
          refine wpAnyH_ready (rs := [19]) (by kernel_rfl) (by simp) ?_
          refine AllReadyH.cons rfl (fun K hK => ?_) AllReadyH.nil
          rw [if_pos (by kernel_rfl)]
          go_simp
          refine hK.out _ _ (by first | go_keep | exact g1) (fun hHeld4 => ?_)
          refine wpAnyH_done (by kernel_rfl) ?_ _
          try dsimp only
          simp only [Exit.then, go_sem, List.setIfInBounds_toArray, List.set_cons_succ, List.set_cons_zero]
          rotate_left
          rw [if_pos (by kernel_rfl)]
          go_simp
          refine (hal _).mono ?_
          rintro e' _ ⟨rfl, rfl⟩
          refine hK.out _ _ hS0 (fun hHeld2 => ?_)
          refine wpAnyH_take (i := 11) (oi := ⟨some 47, _, _, _, _, _⟩) (v := ?_) rfl (by kernel_rfl) (by kernel_rfl) (by kernel_rfl) (fun _ _ _ h => h) (Or.inl ⟨by kernel_rfl, ?_⟩) (by assumption) ?_
          rotate_left
          · (intro w hSw; go_simp; first | done | with_reducible rfl)
          refine wpAnyH_take (i := 12) (oi := ⟨some 48, _, _, _, _, _⟩) (v := ?_) rfl (by kernel_rfl) (by kernel_rfl) (by kernel_rfl) (fun _ _ _ h => h) (Or.inl ⟨by kernel_rfl, ?_⟩) (by assumption) ?_
          rotate_left
          · (intro w hSw; go_simp; first | done | with_reducible rfl)
          refine wpAnyH_take (i := 13) (oi := ⟨some 49, _, _, _, _, _⟩) (v := ?_) rfl (by kernel_rfl) (by kernel_rfl) (by kernel_rfl) (fun _ _ _ h => h) (Or.inl ⟨by kernel_rfl, ?_⟩) (by assumption) ?_
          rotate_left
          · (intro w hSw; go_simp; first | done | with_reducible rfl)
          refine wpAnyH_take (i := 14) (oi := ⟨some 50, _, _, _, _, _⟩) (v := ?_) rfl (by kernel_rfl) (by kernel_rfl) (by kernel_rfl) (fun _ _ _ h => h) (Or.inl ⟨by kernel_rfl, ?_⟩) (by assumption) ?_
          rotate_left
          · (intro w hSw; go_simp; first | done | with_reducible rfl)
          refine wpAnyH_take (i := 15) (oi := ⟨some 51, _, _, _, _, _⟩) (v := ?_) rfl (by kernel_rfl) (by kernel_rfl) (by kernel_rfl) (fun _ _ _ h => h) (Or.inl ⟨by kernel_rfl, ?_⟩) (by assumption) ?_
          rotate_left
          · (intro w hSw; go_simp; first | done | with_reducible rfl)
          refine wpAnyH_take (i := 16) (oi := ⟨some 52, _, _, _, _, _⟩) (v := ?_) rfl (by kernel_rfl) (by kernel_rfl) (by kernel_rfl) (fun _ _ _ h => h) (Or.inl ⟨by kernel_rfl, ?_⟩) (by assumption) ?_
          rotate_left
          · (intro w hSw; go_simp; first | done | with_reducible rfl)
          refine wpAnyH_take (i := 17) (oi := ⟨some 53, _, _, _, _, _⟩) (v := ?_) rfl (by kernel_rfl) (by kernel_rfl) (by kernel_rfl) (fun _ _ _ h => h) (Or.inl ⟨by kernel_rfl, ?_⟩) (by assumption) ?_
          rotate_left
          · (intro w hSw; go_simp; first | done | with_reducible rfl)
          refine wpAnyH_ready (rs := [18]) (by kernel_rfl) (by simp) ?_
          refine AllReadyH.cons rfl (fun K hK => ?_) AllReadyH.nil
          rw [if_pos (by kernel_rfl)]
          go_simp
          refine hK.out _ _ (by first | with_reducible exact g1 | exact g1 | go_keep) (fun hHeld3 => ?_)
          refine wpAnyH_ready (rs := [19]) (by kernel_rfl) (by simp) ?_
          refine AllReadyH.cons rfl (fun K hK => ?_) AllReadyH.nil
          rw [if_pos (by kernel_rfl)]
          go_simp
          refine hK.out _ _ (by first | go_keep | exact g1) (fun hHeld4 => ?_)
          refine wpAnyH_done (by kernel_rfl) ?_ _
          try dsimp only
          simp only [Exit.then, go_sem, List.setIfInBounds_toArray, List.set_cons_succ, List.set_cons_zero]
          rotate_left
          all_goals
            have HV : SeI w c w1.heap.size hi A k cp (Su.suT a b c s.data.toList k) (((w3.alloc (.cells #[.int .i64 p.w, .int .i64 p.h] 25)).alloc (.cells #[.bool true, .int .i64 (p.h / 2), .bool ((x.toNat : Int) == 84)] 83)).drew) := hI4.below (((Below.refl _ (w3.alloc (.cells #[.int .i64 p.w, .int .i64 p.h] 25))).alloc (Nat.le_refl _) _).drew)
            have BP : Blk (((w3.alloc (.cells #[.int .i64 p.w, .int .i64 p.h] 25)).alloc (.cells #[.bool true, .int .i64 (p.h / 2), .bool ((x.toNat : Int) == 84)] 83)).drew) w3.heap.size #[.int .i64 p.w, .int .i64 p.h] 25 := HP.out.alloc _
            have BU : Blk (((w3.alloc (.cells #[.int .i64 p.w, .int .i64 p.h] 25)).alloc (.cells #[.bool true, .int .i64 (p.h / 2), .bool ((x.toNat : Int) == 84)] 83)).drew) (w3.heap.size + 1) #[.bool true, .int .i64 (p.h / 2), .bool ((x.toNat : Int) == 84)] 83 := Blk.new _ _ (by simp)
            generalize ((w3.alloc (.cells #[.int .i64 p.w, .int .i64 p.h] 25)).alloc (.cells #[.bool true, .int .i64 (p.h / 2), .bool ((x.toNat : Int) == 84)] 83)).drew = V at *
            have u0 := BU.cell 0 (v := .bool true) rfl
            have u1 := BU.cell 1 (v := .int .i64 (p.h / 2)) rfl
            have u2 := BU.cell 2 (v := .bool ((x.toNat : Int) == 84)) rfl
            have q0 := BP.cell 0 (v := .int .i64 p.w) rfl
            have q1 := BU.free 1
            have t3 : p.w.tdiv 2 = p.w / 2 := Int.tdiv_eq_ediv_of_nonneg (by omega)
            have t4 : IntKind.i64.wrap (p.w / 2) = p.w / 2 := IntWalk.i64_in _ (by omega)
            have BS : Blk (V.setCell ⟨w3.heap.size + 1, 1, none⟩ (.int .i64 (p.w / 2))) (w3.heap.size + 1) #[.bool true, .int .i64 (p.w / 2), .bool ((x.toNat : Int) == 84)] 83 := BU.set 1 _
            have HW := HV.put (w3.heap.size + 1) 1 (.int .i64 (p.w / 2)) (by omega)
            go_upto_region 12 with fail
            generalize V.setCell ⟨w3.heap.size + 1, 1, none⟩ (.int .i64 (p.w / 2)) = W9 at *
            have v0 := BS.cell 0 (v := .bool true) rfl
            have v1 := BS.cell 1 (v := .int .i64 (p.w / 2)) rfl
            have v2 := BS.cell 2 (v := .bool ((x.toNat : Int) == 84)) rfl
            go_wp2_with (at_builtin; refine wp_pushUn W9 rfl (.tmp 60) (.tmp 62) 28 rfl Try.underlying28 A k cp _ _ _ (by rfl) HW.o ⟨true, p.w / 2, ((x.toNat : Int) == 84)⟩ W9.heap.size (by rfl) rfl (by omega) (Nat.le_trans HW.le HW.lh) ?_; intro A7 c7 w7 ho7 hm7; have hI7 := Lib.hid (HW.push ho7 hm7); clear ho7 hm7)
            go_roundw
            case rel => exact ⟨k + 1, A7, c7, _, by omega, by go_num, rfl, by rw [HN.out]; exact hI7.out⟩
            case measure => simp [intOf]; omega
    · obtain rfl : k = s.size := by omega
      clear HI1 HSP HSM
      go_wp2_with fail
      go_ret2
      exact SeC.mk_ HE.out rfl hI.o (Nat.le_of_lt hI.lt) hI.lh (by omega) hI.b
end Go.Proofs.Ytnfnmdeiaihgnaa

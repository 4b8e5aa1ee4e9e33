/- Contract of the program's SchemesFor. -/
import Derived.Test.YtgplciodddfpbaaFmSd
namespace Go.Proofs.Ytgplciodddfpbaa
open Go.RowKit

set_option maxRecDepth 100000 in
set_option maxHeartbeats 4000000 in
theorem deleteFunc0_any (p : List UInt8 → Bool) (g c : Nat) (A : Option Addr) (w : World) :
    Calls Try.prog 74 #[.slice A 0 c, .func (.func 73) #[] #[.pointer (some ⟨g, 0, none⟩)]] w fun e w' => e = .returned (.slice A 0 c) ∧ Below w.heap.size w w' := by
  have HIX := indexFunc_any p g A 0 c 0 [] w ⟨rfl, fun h => absurd h (by omega)⟩ (Nat.zero_le _) (by omega) (fun V x _ hx => by cases hx)
  go_enter Try.func74, Try.ntmps74
  go_wp2_with fail
  refine HIX.mono ?_
  rintro e w1 ⟨(⟨k, x, rfl, hk, hx, hp, hq⟩ | ⟨rfl, hq⟩), hb1⟩
  · omega
  · clear hq HIX
    go_wp2_with fail
    go_ret
    exact ⟨rfl, hb1⟩
set_option maxRecDepth 100000 in
set_option maxHeartbeats 8000000 in
theorem implSf_any (f : Fv) (a b : Int) (ha : f.a = a) (hb : f.b = b) (B : Nat) (F G H : List Int) (w : World) (h : RF w B f F G H) (hB : B ≤ w.heap.size) (hn : f.le 1048576) (hi64 : i64s F) (hi65 : i64s G) :
    Calls Try.prog 25 #[f.v] w fun e w' => SC w (Fm.sfR a b F G H) (Fm.sfC a b F G H) e w' := by
  obtain ⟨a', b', A1, n1, c1, A2, n2, c2, A3, n3, c3⟩ := f
  simp only at ha hb
  subst ha hb
  have HNN := Lib.hid hn
  have HI1 := Lib.hid hi64
  have HI2 := Lib.hid hi65
  clear hn hi64 hi65
  go_enter Try.func25, Try.ntmps25
  go_wp2_with fail
  generalize hW : w.alloc (.cells (Fv.cs ⟨a', b', A1, n1, c1, A2, n2, c2, A3, n3, c3⟩) 28) = W0
  have bF : FBx W0 w.heap.size ⟨a', b', A1, n1, c1, A2, n2, c2, A3, n3, c3⟩ := by rw [← hW]; exact Blk.new _ _ rfl
  have hB0 : Below w.heap.size w W0 := by rw [← hW]; exact below_alloc _ _
  have hz0' : W0.heap.size = w.heap.size + 1 := by rw [← hW]; simp
  have hr0 := h.below hB0 hB
  clear hW
  refine (implIsForm_any ⟨a', b', A1, n1, c1, A2, n2, c2, A3, n3, c3⟩ B F G H W0 hr0 (by omega) HNN.out HI1.out HI2.out).mono ?_
  rintro e w1 ⟨rfl, hb1⟩
  have z1 := hb1.size
  have hB1 := hB0.trans (hb1.mono (by omega))
  have bF1 := bF.below hb1 (by omega)
  have hr1 := hr0.below hb1 (by omega)
  clear bF hB0 hr0 hb1
  simp only
  cases hok : Fm.okB a' b' F G H
  · have HR : Hid (Fm.sfR a' b' F G H = []) := Lib.hid (by unfold Fm.sfR; rw [if_neg (by rw [hok]; simp)])
    have HC : Hid (Fm.sfC a' b' F G H = 1) := Lib.hid (by unfold Fm.sfC; rw [if_neg (by rw [hok]; simp)])
    clear hok
    go_wp2_with fail
    exact bodyPost_ret (v := .tuple #[.slice none 0 0, .int .i64 1]) (by simp [results, Try.results25, go_sem]) rfl (SC.nil_ HR.out HC.out hB1)
  have HOK := Lib.hid (Fm.okB_ok hok)
  have HS : Hid (Fo.sheet a' b' = true) := Lib.hid HOK.out.1
  have HSO : Hid (soC a' b' = 0) := Lib.hid (by unfold soC; rw [if_pos HS.out])
  have HR : Hid (Fm.sfR a' b' F G H = (soR a' b').filter (fun s => Fm.right a' F G H s)) := Lib.hid (by unfold Fm.sfR; rw [if_pos hok])
  have HC : Hid (Fm.sfC a' b' F G H = 0) := Lib.hid (by unfold Fm.sfC; rw [if_pos hok])
  have HRR := Lib.hid hr1
  obtain ⟨q0, q1, q2, q3, q4⟩ := bF1.lcell
  simp only at q0 q1 q2 q3 q4
  clear hok hr1
  go_wp2_with fail
  refine (implSo_any a' b' w1).mono ?_
  rintro e w2 ⟨AL, m, cL, rfl, oL, hm, hb2⟩
  rw [HSO.out]
  have z2 := hb2.size
  have bF2 := bF1.below hb2 (by omega)
  have hr2 := HRR.out.below hb2 (by omega)
  have HB2 := Lib.hid (hB1.trans (hb2.mono (by omega)))
  have hp : (fun x => !(!Fm.right a' F G H x)) = (fun x => Fm.right a' F G H x) := by funext x; simp
  have HF : ∀ V x, Only w1.heap.size w2.heap.size w2 V → x ∈ soR a' b' → Calls Try.prog 73 #[Tv x, .pointer (some ⟨w.heap.size, 0, none⟩)] V fun e w' => e = .returned (.bool (!Fm.right a' F G H x)) ∧ Below V.heap.size V w' := fun V x hV hx => by
    obtain ⟨k, hk⟩ := List.mem_iff_getElem?.1 hx
    have hsc := (so_scheme HSO.out hk).1
    exact wrong_any a' b' A1 A2 A3 n1 n2 n3 c1 c2 c3 w.heap.size B F G H ⟨x.toArray⟩ (Fm.right a' F G H x) V (bF2.only hV (.inl (by omega))) (hr2.only hV (by omega) (by omega)) (by have := hV.size; omega) HOK.out hsc rfl
  by_cases hm0 : m = 0
  · subst hm0
    have hnil : soR a' b' = [] := List.eq_nil_of_length_eq_zero oL.rd.1
    have HD := deleteFunc0_any (fun x => !Fm.right a' F G H x) w.heap.size cL AL w2
    have HRN : Hid (Fm.sfR a' b' F G H = []) := Lib.hid (by rw [HR.out, hnil]; rfl)
    rw [hnil] at oL
    have HOL := Lib.hid oL
    clear q0 q1 q2 q3 q4 bF1 bF2 hb2 HF hp hr2 hnil oL
    go_wp2_with fail
    refine HD.mono ?_
    rintro e w3 ⟨rfl, hb3⟩
    have HB3 := Lib.hid (HB2.out.trans (hb3.mono (by omega)))
    have HO3 := Lib.hid (HOL.out.below hb3 (Nat.le_refl _))
    have z3 := hb3.size
    clear HD hb3
    go_wp2_with fail
    exact bodyPost_ret (v := .tuple #[.slice AL 0 cL, .int .i64 0]) (by simp [results, Try.results25, go_sem]) rfl (SC.mk_ HRN.out HC.out HO3.out (by omega) (by omega) (by omega) HB3.out)
  · obtain ⟨gs, x0, hgs, _, _, _, _, _, _⟩ := oL.at_ (show 0 < m by omega)
    subst hgs
    have HD := deleteFunc_any (fun x => !Fm.right a' F G H x) w.heap.size gs m cL w1.heap.size w2.heap.size (soR a' b') w2 oL (Nat.le_refl _) hm HF
    rw [hp] at HD
    clear q0 q1 q2 q3 q4 bF1 bF2 hb2 HF hp hr2 oL
    go_wp2_with fail
    refine HD.mono ?_
    rintro e w3 ⟨m', rfl, hm', ho3, hO3⟩
    have HB3 := Lib.hid (HB2.out.trans (hO3.below (by omega) (by omega)))
    have HO3 := Lib.hid ho3
    have z3 := hO3.size
    clear HD ho3 hO3
    go_wp2_with fail
    exact bodyPost_ret (v := .tuple #[.slice (some ⟨gs, 0, none⟩) m' cL, .int .i64 0]) (by simp [results, Try.results25, go_sem]) rfl (SC.mk_ HR.out HC.out HO3.out (by omega) (by omega) (by omega) HB3.out)
end Go.Proofs.Ytgplciodddfpbaa

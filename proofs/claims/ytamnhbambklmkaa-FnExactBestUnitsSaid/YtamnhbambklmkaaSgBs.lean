/- The contract of BestUnits, the model's: the same list and code as the program's. -/
import Derived.Test.YtamnhbambklmkaaSgSc
import Derived.Test.YtamnhbambklmkaaSgMath2
namespace Go.Proofs.Ytamnhbambklmkaa
open Go.RowKit

theorem Sg.rises_at : ∀ (L : List Int) (k : Nat) (x y : Int), L[k]? = some x → L[k + 1]? = some y → Sg.rises (L.drop k) = (decide (x < y) && Sg.rises (L.drop (k + 1))) := by
  intro L k x y hx hy
  have h1 : k < L.length := (List.getElem?_eq_some_iff.1 hx).1
  have h2 : k + 1 < L.length := (List.getElem?_eq_some_iff.1 hy).1
  have e1 : L.drop k = x :: L.drop (k + 1) := by
    rw [List.drop_eq_getElem_cons h1]
    congr 1
    exact (List.getElem?_eq_some_iff.1 hx).2
  have e2 : L.drop (k + 1) = y :: L.drop (k + 1 + 1) := by
    rw [List.drop_eq_getElem_cons h2]
    congr 1
    exact (List.getElem?_eq_some_iff.1 hy).2
  rw [e1, e2]
  rfl
theorem Sg.rises_end (L : List Int) (k : Nat) (h : L.length ≤ k + 1) : Sg.rises (L.drop k) = true := by
  have : (L.drop k).length ≤ 1 := by rw [List.length_drop]; omega
  match hq : L.drop k with
  | [] => rfl
  | [_] => rfl
  | _ :: _ :: _ => rw [hq] at this; simp at this

set_option maxHeartbeats 1000000 in
theorem l01Rises_any (A : Option Addr) (n c B : Nat) (L : List Int) (b : Bool) (w : World) (h : Rd I w B A n L) (hn : n ≤ 1048576) (hb : Sg.rises L = b) :
    Calls Try.prog 76 #[.slice A n c] w fun e w' => e = .returned (.bool b) ∧ Q w w' := by
  have HL : Hid (L.length = n) := h.1
  have HB := Lib.hid hb
  clear hb
  go_enter Try.func76, Try.ntmps76
  go_wp2
  go_loopw [3] (fun i wr => ∃ k : Nat, k ≤ n ∧ i = .int .i64 ((k : Int) + 1) ∧ Hid (Sg.rises L = Sg.rises (L.drop k)) ∧ Q w wr) (fun i _ => n + 1 - (intOf i).toNat)
  case atStart => exact ⟨0, Nat.zero_le _, rfl, Lib.hid rfl, Q.refl _⟩
  case round =>
    obtain ⟨k, hk, rfl, HC, hq⟩ := hrel
    have h := h.q hq
    by_cases hlt : k + 1 < n
    · obtain ⟨b1, o1, x, rfl, hbB, hx, hc⟩ := h.at_ (show k < n by omega)
      obtain ⟨b2, o2, y, e2, _, hy, hc2⟩ := h.at_ hlt
      injection e2 with e2
      injection e2 with e2 e3 _
      subst e2 e3
      have HS : Hid (Sg.rises (L.drop k) = (decide (x < y) && Sg.rises (L.drop (k + 1)))) := Lib.hid (Sg.rises_at L k x y hx hy)
      clear hx hy
      have hlt' : (k : Int) + 1 < (n : Int) := by omega
      have e1 : IntKind.i64.wrap ((k : Int) + 1 - 1) = (k : Int) := by rw [IntWalk.i64_in _ (by omega)]; omega
      have e4 : IntKind.i64.wrap ((k : Int) + 1 + 1) = (k : Int) + 1 + 1 := IntWalk.i64_in _ (by omega)
      obtain ⟨j, hj⟩ : ∃ j : Nat, j = k + 1 := ⟨_, rfl⟩
      have hji : (k : Int) + 1 = (j : Int) := by omega
      rw [← hj] at hc2
      have hjn : j < n := by omega
      have hkn : k < n := by omega
      rw [hji] at e1 e4 hlt' ⊢
      have HJ := Lib.hid hj
      have HJI := Lib.hid hji
      clear hj hji hlt
      by_cases hxy : x < y
      · go_wp2
        go_quiet (fail)
        go_wp2
        go_roundw
        case rel => exact ⟨k + 1, by have := HJ.out; omega, by rw [← HJI.out]; congr 1, Lib.hid (by rw [HC.out, HS.out]; simp [hxy]), hq.more _⟩
        case measure => simp [intOf]; have := HJ.out; omega
      · have hxy' : y ≤ x := by omega
        have HF : Hid (false = b) := Lib.hid (by rw [← HB.out, HC.out, HS.out]; simp [hxy])
        go_wp2
        go_quiet (fail)
        go_wp2
        go_ret
        exact ⟨ret_b HF.out, hq.more _⟩
    · have hlt' : (n : Int) ≤ (k : Int) + 1 := by omega
      have HF : Hid (true = b) := Lib.hid (by rw [← HB.out, HC.out, Sg.rises_end L k (by have := HL.out; omega)])
      go_wp2
      go_ret
      exact ⟨ret_b HF.out, hq⟩

theorem Sg.bu_no {p : Int} {L R : List Int} {C : Int} (h : Sg.canB p L = false) (hR : Sg.buR p L = R) (hC : Sg.buC p L = C) : R = [] ∧ C = 2 := by
  unfold Sg.buR at hR
  unfold Sg.buC at hC
  rw [h] at hR hC
  exact ⟨hR.symm, hC.symm⟩

set_option maxRecDepth 100000 in
set_option maxHeartbeats 2000000 in
theorem specBu_any (p : Int) (A : Option Addr) (n c B : Nat) (L R : List Int) (C : Int) (w : World) (h : Rd I w B A n L) (hB : B ≤ w.heap.size) (hn : n ≤ 1048576) (hR : Sg.buR p L = R) (hC : Sg.buC p L = C) :
    Calls Try.prog 33 #[.int .i64 p, .slice A n c] w fun e w' => LC w R C e w' := by
  have HL : Hid (L.length = n) := h.1
  have HR := Lib.hid hR
  have HC := Lib.hid hC
  clear hR hC
  by_cases hp : 1 ≤ p ∧ p ≤ 4096
  · have hip : Sg.inP p = true := decide_eq_true hp
    obtain ⟨p1, p2⟩ := hp
    by_cases hn0 : n = 0
    · subst hn0
      obtain ⟨r0, c0⟩ := Sg.bu_no (by rw [Sg.can_iff, List.eq_nil_of_length_eq_zero HL.out]; simp) HR.out HC.out
      have R0 := Lib.hid r0
      have C0 := Lib.hid c0
      clear r0 c0 hip
      go_enter Try.func33, Try.ntmps33
      go_wp2_with fail
      refine (l01In_yes _ _ _ _ p1 p2).mono ?_
      rintro e _ ⟨rfl, rfl⟩
      go_wp2_with fail
      go_ret2
      exact LC.nil_ R0.out C0.out (Below.refl _ _)
    have hn1 : 0 < n := by omega
    have hn2 : ¬ ((n : Int) = 0) := by omega
    have hn3 : ((n : Int) == 0) = false := by simpa using hn2
    clear hn0
    cases hr : Sg.rises L
    · obtain ⟨r0, c0⟩ := Sg.bu_no (by rw [Sg.can_iff, hr]; simp) HR.out HC.out
      have R0 := Lib.hid r0
      have C0 := Lib.hid c0
      have HRI := Lib.hid hr
      clear r0 c0 hip hr
      go_enter Try.func33, Try.ntmps33
      go_wp2_with fail
      refine (l01In_yes _ _ _ _ p1 p2).mono ?_
      rintro e _ ⟨rfl, rfl⟩
      go_wp2_with fail
      refine (l01Rises_any A n c B L false _ h hn HRI.out).mono ?_
      rintro e w1 ⟨rfl, hq1⟩
      go_wp2_with fail
      go_ret2
      exact LC.nil_ R0.out C0.out (hq1.below _)
    have HRI := Lib.hid hr
    have HIP := Lib.hid hip
    obtain ⟨i0, hi0, hz0, hz1, hz2⟩ := info_parts infoI
    clear hr hip
    go_enter Try.func33, Try.ntmps33
    go_wp2_with fail
    refine (l01In_yes _ _ _ _ p1 p2).mono ?_
    rintro e _ ⟨rfl, rfl⟩
    go_wp2_with fail
    refine (l01Rises_any A n c B L true _ h hn HRI.out).mono ?_
    rintro e w1 ⟨rfl, hq1⟩
    have HB1 := Lib.hid (hq1.below w.heap.size)
    have HH := Lib.hid h
    clear hq1 h
    go_wp2_with fail
    go_loopw [6] (fun i wr => ∃ k : Nat, k ≤ n ∧ i = .int .i64 (k : Int) ∧ Hid ((L.take k).all Sg.un = true) ∧ Below w.heap.size w wr) (fun i _ => n - (intOf i).toNat)
    case atStart => exact ⟨0, Nat.zero_le _, rfl, Lib.hid (by simp), HB1.out⟩
    case round =>
      obtain ⟨k, hk, rfl, HA, hb⟩ := hrel
      have h := HH.out.below hb hB
      have z := hb.size
      by_cases hlt : k < n
      · obtain ⟨b1, o1, x, rfl, hbB, hx, hc⟩ := h.at_ hlt
        have HX := Lib.hid hx
        clear hx
        cases hu : Sg.un x
        · have HU := Lib.hid hu
          obtain ⟨r0, c0⟩ := Sg.bu_no (by
            rw [Sg.can_iff]
            have : L.all Sg.un = false := by
              rw [List.all_eq_false]
              exact ⟨x, List.mem_of_getElem? HX.out, by rw [hu]; simp⟩
            rw [this]
            simp) HR.out HC.out
          have R0 := Lib.hid r0
          have C0 := Lib.hid c0
          clear r0 c0 hu
          go_wp2_with (go_at_call 30; refine (l06Unit_any x false _ HU.out).mono ?_; rintro e w2 ⟨rfl, hb2⟩)
          go_ret2
          exact LC.nil_ R0.out C0.out (hb.trans (hb2.mono z))
        · have HU := Lib.hid hu
          have HA' : Hid ((L.take (k + 1)).all Sg.un = true) := Lib.hid (by rw [take_next L k x HX.out, List.all_append, HA.out]; simp [hu])
          clear hu
          go_wp2_with (go_at_call 30; refine (l06Unit_any x true _ HU.out).mono ?_; rintro e w2 ⟨rfl, hb2⟩)
          go_roundw
          case rel => exact ⟨k + 1, by omega, by go_num, HA', hb.trans (hb2.mono z)⟩
          case measure => simp [intOf]; omega
      · obtain rfl : k = n := by omega
        have hall : L.all Sg.un = true := by
          have := HA.out
          rwa [List.take_of_length_le (by have := HL.out; omega)] at this
        have hcan : Sg.canB p L = true := by
          rw [Sg.can_iff, HIP.out, HRI.out, hall]
          have : L ≠ [] := by rintro rfl; have := HL.out; simp at this; omega
          simp [this]
        obtain ⟨u, t, hLu, _, _, hmin, hfit, hfst, hX1, hX2, hX3, hdot⟩ := Sg.bu_all hcan
        obtain ⟨X, hX⟩ : ∃ X, Sg.least p L = X := ⟨_, rfl⟩
        have R0 : Hid (R = (Sg.bs X L).1) := Lib.hid (by rw [← HR.out, ← hX]; unfold Sg.buR; rw [if_pos hcan])
        have C0 : Hid (C = 0) := Lib.hid (by rw [← HC.out]; unfold Sg.buC; rw [if_pos hcan])
        have hXe : Sg.ceil p u * u = X := by rw [← hX]; unfold Sg.least; rw [hfst]
        rw [hX] at hX1 hX3
        have hub := Sg.un_bd (Sg.fits_out hfit).2
        obtain ⟨b, o, x0, rfl, hbB, hx0, hc0⟩ := h.at_ hn1
        obtain rfl : u = x0 := by rw [hLu] at hx0; simpa using hx0
        rw [Nat.add_zero] at hc0
        obtain ⟨q, hq⟩ : ∃ q, Sg.ceil p u = q := ⟨_, rfl⟩
        rw [hq] at hXe
        have HQ : Hid ((p + u - 1) / u = q) := Lib.hid hq
        have e1 : IntKind.i64.wrap (q * u) = X := by rw [hXe]; exact IntWalk.i64_in _ (by omega)
        have HXX : Hid (0 ≤ X ∧ X ≤ 5000) := Lib.hid (by omega)
        have HALL := Lib.hid hall
        have HHN := Lib.hid h
        have hn6 : k ≤ 1099511627776 := by omega
        have e2 : IntKind.i64.wrap ((k : Int) - 1) = (k : Int) - 1 := IntWalk.i64_in _ (by omega)
        obtain ⟨w1', rfl⟩ : ∃ w1', w1' = wr := ⟨_, rfl⟩
        have HBW := Lib.hid hb
        have hcall : ∀ W, Calls Try.prog 69 #[.int .i64 p, .int .i64 u] W fun e w' => e = .returned (.int .i64 q) ∧ W = w' := fun W => l01Ceil_any p u q W (by omega) (by omega) (by omega) (by omega) HQ.out
        clear hall hcan hLu hmin hfit hfst hX1 hX2 hX3 hdot hX hXe hub hx0 h hq hb HR HC
        go_wp2_with fail
        go_quiet (first | (go_at_call 69; exact quiet_same (hcall _)))
        go_wp2_with (at_make; refine wp_fresh _ rfl _ _ 29 rfl 2 i0 (0 : Int) 8 Try.underlying29 hi0 hz0 hz1 hz2 rfl .i64 .i64 _ _ k rfl rfl rfl rfl (by omega) (by omega) ?_; intro g w3 ho3 hb3)
        have hB3 := (HBW.out.trans ((Q.drewN w1' _).below w.heap.size)).trans (hb3.mono z)
        have oL : w.heap.size ≤ g ∧ g < w3.heap.size := by
          have h1 := ho3.lt g rfl
          have h2 : w.heap.size ≤ w1'.heap.size := z
          have h3 : w1'.heap.size ≤ g := h1.1
          omega
        have HO3 : Hid (Own I w3 w.heap.size w3.heap.size 2 (.slice (some ⟨g, 0, none⟩) k k) (List.replicate k 0)) := Lib.hid (ho3.mono z (Nat.le_refl _))
        have HB3 := Lib.hid hB3
        clear hB3 ho3 hb3 hcall
        go_loopw [7, 9] (fun v i wr => ∃ m : Nat, m ≤ k ∧ i = .int .i64 ((m : Int) - 1) ∧ v = .int .i64 (Sg.bs X (L.drop m)).2 ∧ Own I wr w.heap.size w3.heap.size 2 (.slice (some ⟨g, 0, none⟩) k k) (List.replicate m 0 ++ (Sg.bs X (L.drop m)).1) ∧ Below w.heap.size w wr ∧ w3.heap.size ≤ wr.heap.size) (fun _ i _ => (intOf i + 1).toNat)
        case atStart =>
          have h1 : L.drop k = [] := List.drop_of_length_le (by have := HL.out; omega)
          exact ⟨k, Nat.le_refl _, rfl, by rw [h1]; rfl, by rw [h1]; simpa [Sg.bs] using HO3.out, HB3.out, Nat.le_refl _⟩
        case round =>
          obtain ⟨m, hm, rfl, rfl, ho, hb, hsz⟩ := hrel
          by_cases h0 : m = 0
          · subst h0
            have HOO := Lib.hid ho
            clear ho
            go_wp2
            go_ret2
            exact LC.mk_ R0.out C0.out (by simpa using HOO.out) (Nat.le_refl _) hsz hn hb
          · obtain ⟨j, rfl⟩ : ∃ j, m = j + 1 := ⟨m - 1, by omega⟩
            have hjk : j < k := by omega
            obtain ⟨b2, o2, y, e3, _, hy, hcy⟩ := (HH.out.below hb hB).at_ hjk
            injection e3 with e3
            injection e3 with e3 e4 _
            subst e3 e4
            have s1 := Sg.bs_step X L j y hy
            have s2 := Sg.bs_at X L j y hy
            have hyu : Sg.un y = true := by
              have := HALL.out
              rw [List.all_eq_true] at this
              exact this y (List.mem_of_getElem? hy)
            have hyb := Sg.un_bd hyu
            have hbd := Sg.bs_bd X HXX.out.1 (L.drop (j + 1)) (Sg.all_drop HALL.out (j + 1))
            have hX5 := HXX.out.2
            have HS1 := Lib.hid s1
            have HS2 : Hid ((Sg.bs X (L.drop j)).2 = (Sg.bs X (L.drop (j + 1))).2 % y) := Lib.hid (by rw [s2])
            generalize Sg.bs X (L.drop (j + 1)) = sb at ho HS1 HS2 hbd ⊢
            obtain ⟨ls, q2⟩ := sb
            simp only at ho hbd ⊢
            clear s1 s2 hy hyu
            obtain ⟨d, hd⟩ : ∃ d, q2 / y = d := ⟨_, rfl⟩
            obtain ⟨r, hr⟩ : ∃ r, q2 % y = r := ⟨_, rfl⟩
            have hdb : 0 ≤ d ∧ d ≤ 5000 := by
              have a1 := Int.ediv_nonneg (a := q2) (b := y) (by omega) (by omega)
              have a2 := Int.ediv_le_self (a := q2) y (by omega)
              omega
            have hrb : 0 ≤ r ∧ r ≤ 5000 := by
              have a1 := Int.emod_nonneg q2 (show y ≠ 0 by omega)
              have a2 := Int.emod_lt_of_pos q2 (show 0 < y by omega)
              omega
            have t1 : q2.tdiv y = d := by rw [Int.tdiv_eq_ediv_of_nonneg (by omega)]; exact hd
            have t2 : q2.tmod y = r := by rw [Int.tmod_eq_emod_of_nonneg (by omega)]; exact hr
            have y0 : ¬ y = 0 := by omega
            have f1 : IntKind.i64.wrap d = d := IntWalk.i64_in _ (by omega)
            have f2 : IntKind.i64.wrap r = r := IntWalk.i64_in _ (by omega)
            have ej : ((j + 1 : Nat) : Int) - 1 = (j : Int) := by omega
            have f3 : IntKind.i64.wrap ((j : Int) - 1) = (j : Int) - 1 := IntWalk.i64_in _ (by omega)
            obtain ⟨g', v0, eg, _, _, gV, _, cg, fg⟩ := ho.at_ hjk
            injection eg with eg
            injection eg with eg _ _
            subst eg
            have hset := ho.set_ (k := j) d
            have hs1 : (List.replicate (j + 1) 0 ++ ls).set j d = List.replicate j 0 ++ (Sg.bs X (L.drop j)).1 := by rw [← hd]; exact HS1.out
            rw [hs1] at hset
            have HSET := Lib.hid hset
            have HS3 : Hid ((Sg.bs X (L.drop j)).2 = r) := Lib.hid (by rw [HS2.out]; exact hr)
            have n1 : ¬ g = b := by omega
            have n2 : ¬ b = g := by omega
            have HBB := Lib.hid hb
            rw [ej]
            clear hset ho hb hs1 hd hr ej h0 HS1 HS2
            go_wp2
            go_roundw
            case rel => exact ⟨j, by omega, by go_num, by rw [HS3.out], HSET.out.1, HBB.out.trans (HSET.out.2.below (Nat.le_refl _) HBB.out.size), by simpa using hsz⟩
            case measure => simp [intOf]
  · have HP : Hid (p < 1 ∨ 4096 < p) := Lib.hid (by omega)
    obtain ⟨r0, c0⟩ := Sg.bu_no (by rw [Sg.can_iff]; unfold Sg.inP; rw [decide_eq_false hp]; rfl) HR.out HC.out
    have R0 := Lib.hid r0
    have C0 := Lib.hid c0
    clear r0 c0 hp
    go_enter Try.func33, Try.ntmps33
    go_wp2_with fail
    refine (l01In_no _ _ _ _ HP.out).mono ?_
    rintro e _ ⟨rfl, rfl⟩
    go_wp2_with fail
    go_ret2
    exact LC.nil_ R0.out C0.out (Below.refl _ _)
end Go.Proofs.Ytamnhbambklmkaa

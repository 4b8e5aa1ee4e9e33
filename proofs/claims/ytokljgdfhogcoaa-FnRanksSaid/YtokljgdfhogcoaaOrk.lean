/- Contracts of OrderOfRank, the model's and the program's: both answer orkR and orkC. -/
import Derived.Test.YtokljgdfhogcoaaRank
import Derived.Test.YtokljgdfhogcoaaDel
namespace Go.Proofs.Ytokljgdfhogcoaa
open Go.RowKit

def nums (n : Nat) : List Int := (List.range n).map fun (i : Nat) => (i : Int)
def rest (n : Nat) (out : List Int) : List Int := (nums n).filter fun y => decide (y ∉ out)
def oR (n : Nat) (r : Int) : Nat → Int
  | 0 => r
  | k + 1 => oR n r k % fac (n - (k + 1))
def oQ (n : Nat) (r : Int) (k : Nat) : Nat := (oR n r k / fac (n - (k + 1))).toNat
def oO (n : Nat) (r : Int) : Nat → List Int
  | 0 => []
  | k + 1 => oO n r k ++ [(rest n (oO n r k)).getD (oQ n r k) 0]
theorem nums_next (n : Nat) : nums (n + 1) = nums n ++ [(n : Int)] := by simp [nums, List.range_succ]
theorem nums_len (n : Nat) : (nums n).length = n := by simp [nums]
theorem nums_at (n i : Nat) (h : i < n) : (nums n)[i]? = some (i : Int) := by simp [nums, h]
theorem nums_nodup (n : Nat) : (nums n).Nodup := by
  induction n with
  | zero => simp [nums]
  | succ n ih =>
    rw [nums_next, List.nodup_append]
    refine ⟨ih, by simp, fun a ha b hb => ?_⟩
    simp [nums] at ha
    simp at hb
    obtain ⟨i, hi, rfl⟩ := ha
    omega
theorem rest_nil (n : Nat) : rest n [] = nums n := by simp [rest]
theorem erase_filter (x : Int) : ∀ (l : List Int) (q : Nat), l.Nodup → l[q]? = some x → l.eraseIdx q = l.filter fun y => decide (y ≠ x)
  | [], q, _, h => by simp at h
  | a :: t, 0, hd, h => by
    simp at h
    subst h
    have ha := (List.nodup_cons.1 hd).1
    have : ∀ y ∈ t, decide (y ≠ a) = true := fun y hy => by simp; rintro rfl; exact ha hy
    rw [List.eraseIdx_cons_zero, List.filter_cons_of_neg (by simp), List.filter_eq_self.2 this]
  | a :: t, q + 1, hd, h => by
    have h' : t[q]? = some x := by simpa using h
    have hx := List.mem_of_getElem? h'
    have ha := List.nodup_cons.1 hd
    have hne : a ≠ x := by rintro rfl; exact ha.1 hx
    rw [List.eraseIdx_cons_succ, erase_filter x t q ha.2 h', List.filter_cons_of_pos (by simpa using hne)]
theorem rest_next (n : Nat) (out : List Int) (q : Nat) (x : Int) (h : (rest n out)[q]? = some x) : (rest n out).eraseIdx q = rest n (out ++ [x]) := by
  have hd : (rest n out).Nodup := (nums_nodup n).filter _
  rw [erase_filter x _ q hd h]
  unfold rest
  rw [List.filter_filter]
  congr 1
  funext y
  rw [Bool.eq_iff_iff]
  simp
  constructor
  · rintro ⟨h1, h2⟩; exact ⟨h2, h1⟩
  · rintro ⟨h1, h2⟩; exact ⟨h2, h1⟩
theorem rest_up (m : Nat) (out : List Int) : rest (m + 1) out = rest m out ++ if (m : Int) ∉ out then [(m : Int)] else [] := by
  unfold rest
  rw [nums_next, List.filter_append]
  congr 1
  by_cases h : (m : Int) ∈ out <;> simp [h]
theorem rest_in (m n : Nat) (out : List Int) (h : m ≤ n) : ∃ t, rest n out = rest m out ++ t := by
  induction n with
  | zero => exact ⟨[], by rw [show m = 0 from by omega]; simp⟩
  | succ n ih =>
    by_cases e : m = n + 1
    · exact ⟨[], by rw [e]; simp⟩
    · obtain ⟨t, ht⟩ := ih (by omega)
      exact ⟨t ++ if (n : Int) ∉ out then [(n : Int)] else [], by rw [rest_up, ht, List.append_assoc]⟩
theorem rest_found (m n : Nat) (out : List Int) (h : m < n) (hm : (m : Int) ∉ out) : (rest n out)[(rest m out).length]? = some (m : Int) := by
  obtain ⟨t, ht⟩ := rest_in (m + 1) n out (by omega)
  rw [ht, rest_up, if_pos hm]
  simp
theorem ork_inv (n : Nat) (r : Int) (h0 : 0 ≤ r) (h1 : r < fac n) (k : Nat) (hk : k ≤ n) : 0 ≤ oR n r k ∧ oR n r k < fac (n - k) ∧ (rest n (oO n r k)).length = n - k ∧ (oO n r k).length = k := by
  induction k with
  | zero => exact ⟨h0, h1, by rw [show oO n r 0 = [] from rfl, rest_nil, nums_len]; rfl, rfl⟩
  | succ k ih =>
    obtain ⟨i1, i2, i3, i4⟩ := ih (by omega)
    have hf := fac_pos (n - (k + 1))
    have hd := fac_down n k (by omega)
    have hq0 : 0 ≤ oR n r k / fac (n - (k + 1)) := Int.ediv_nonneg i1 (by omega)
    have hq1 : oR n r k / fac (n - (k + 1)) < (n : Int) - k := Int.ediv_lt_of_lt_mul (by omega) (by rw [← hd]; exact i2)
    have hq : oQ n r k < n - k := by unfold oQ; omega
    refine ⟨Int.emod_nonneg _ (by omega), Int.emod_lt_of_pos _ (by omega), ?_, by simp [oO, i4]⟩
    have hx : (rest n (oO n r k))[oQ n r k]? = some ((rest n (oO n r k)).getD (oQ n r k) 0) := by
      rw [List.getD_eq_getElem?_getD, List.getElem?_eq_getElem (by omega)]
      rfl
    show (rest n (oO n r k ++ [_])).length = _
    rw [← rest_next n _ _ _ hx, List.length_eraseIdx, if_pos (by omega), i3]
    omega
theorem ork_q (n : Nat) (r : Int) (h0 : 0 ≤ r) (h1 : r < fac n) (k : Nat) (hk : k < n) : oR n r k / fac (n - (k + 1)) = (oQ n r k : Int) ∧ oQ n r k < n - k := by
  obtain ⟨i1, i2, _⟩ := ork_inv n r h0 h1 k (by omega)
  have hf := fac_pos (n - (k + 1))
  have hd := fac_down n k hk
  have hq0 : 0 ≤ oR n r k / fac (n - (k + 1)) := Int.ediv_nonneg i1 (by omega)
  have hq1 : oR n r k / fac (n - (k + 1)) < (n : Int) - k := Int.ediv_lt_of_lt_mul (by omega) (by rw [← hd]; exact i2)
  unfold oQ
  constructor <;> omega
theorem ork_x (n : Nat) (r : Int) (k : Nat) (x : Int) (hx : (rest n (oO n r k))[oQ n r k]? = some x) : oO n r (k + 1) = oO n r k ++ [x] := by
  show oO n r k ++ [_] = _
  rw [List.getD_eq_getElem?_getD, hx]
  rfl

def orkOk (n r : Int) : Prop := (0 ≤ n ∧ n ≤ 12) ∧ 0 ≤ r ∧ r < fac n.toNat
instance (n r : Int) : Decidable (orkOk n r) := by unfold orkOk; exact inferInstance
def orkR (n r : Int) : List Int := if orkOk n r then oO n.toNat r n.toNat else []
def orkC (n r : Int) : Int := if orkOk n r then 0 else 2

set_option maxHeartbeats 400000 in
theorem firstNumbers_any (n : Nat) (w : World) (hn : n ≤ 1048576) :
    Calls Try.prog 49 #[.int .i64 n] w fun e w' => ∃ g, e = .returned (.slice (some ⟨g, 0, none⟩) n n) ∧ Own I w' w.heap.size w'.heap.size 2 (.slice (some ⟨g, 0, none⟩) n n) (nums n) ∧ Below w.heap.size w w' := by
  obtain ⟨i0, hi0, hz0, hz1, hz2⟩ := info_parts infoI
  go_enter Try.func49, Try.ntmps49
  go_wp2_with (at_make; refine wp_fresh _ rfl _ _ 24 rfl 2 i0 (0 : Int) 8 Try.underlying24 hi0 hz0 hz1 hz2 rfl .i64 .i64 _ _ n rfl rfl rfl rfl (by omega) (by omega) ?_; intro g w1 ho1 hb1)
  have hs1 := hb1.size
  go_loopw [4, 9] (fun _ i wr => ∃ k : Nat, k ≤ n ∧ i = .int .i64 k ∧ Own I wr w.heap.size w1.heap.size 2 (.slice (some ⟨g, 0, none⟩) n n) ((nums n).take k ++ List.replicate (n - k) 0) ∧ Below w.heap.size w wr ∧ w1.heap.size ≤ wr.heap.size) (fun _ i _ => n - (intOf i).toNat)
  case atStart => exact ⟨0, Nat.zero_le _, rfl, by simpa using ho1, hb1, Nat.le_refl _⟩
  case round =>
    clear ho1
    obtain ⟨k, hk, rfl, ho, hb, hsz⟩ := hrel
    by_cases hlt : k < n
    · obtain ⟨g', z, hg, hg1, hg2, hg3, hz, hc2, hf2⟩ := ho.at_ hlt
      injection hg with hg
      injection hg with hg _ _
      subst hg
      have hset := ho.set_ (k := k) (k : Int)
      clear hz
      go_wp2
      go_roundw
      case rel =>
        refine ⟨k + 1, by omega, by go_num, ?_, hb.trans (hset.2.below (Nat.le_refl _) hb.size), Nat.le_trans hsz hset.2.size⟩
        have := hset.1
        rwa [copy_step (nums n) k n k (nums_len n) (nums_at n k hlt) hlt] at this
      case measure => simp [intOf]; omega
    · obtain rfl : k = n := by omega
      go_wp2
      go_ret
      refine ⟨g, rfl, ?_, hb⟩
      simpa [List.take_of_length_le (Nat.le_of_eq (nums_len k))] using ho.mono (Nat.le_refl _) hsz

/-- 'make([]T, 0, n)'. -/
theorem wp_fresh0 {α : Type} {enc : α → Value} {P : Program} (w : World) {ops : Array Oper} {rest : List Oper} {o : Oper} {a : Act} {Qx : Exit → Act → World → Prop} (hgd : o.guard = none) (lx cx : Operand) (t : TypeId) (hop : o.op = Op.makeSlice t lx cx)
    (e : TypeId) (i : TypeInfo) (z : Value) (bytes : Nat) (h1 : P.underlying t = some (.slice e)) (h2 : P.info? e = some i) (h3 : i.zero = some z) (h4 : i.size = 1) (hby : i.bytes = bytes)
    (kl kc : IntKind) (C : Int) (n : Nat) (hl : a.eval lx = .int kl 0) (hc : a.eval cx = .int kc C) (hC : C = (n : Int)) (hn : n ≤ 1099511627776) (hb : bytes ≤ 64)
    (h : ∀ g w', Own enc w' w.heap.size w'.heap.size e (.slice (some ⟨g, 0, none⟩) 0 n) ([] : List α) → Below w.heap.size w w' → wpList P ops Qx rest (a.put o.dst (.slice (some ⟨g, 0, none⟩) 0 n)) w') :
    wpList P ops Qx (o :: rest) a w := by
  have hbytes : bytes * n ≤ 64 * 1099511627776 := Nat.mul_le_mul hb hn
  refine wpList_make_own w hgd lx cx t hop w.heap.size e i z 1 h1 h2 h3 h4 kl kc C n hl hc hC (by rw [hby]; omega) (by unfold maxLen; omega) (Nat.le_refl _) ?_
  intro w' hown hg
  exact h _ w' (Own.here (by simpa using hown) (by simp)) ((Below.refl _ _).grown hg (Nat.le_refl _) (by simp))

set_option maxHeartbeats 2000000 in
theorem implOrk_any (n r : Int) (w : World) (hn : -9223372036854775808 ≤ n ∧ n ≤ 9223372036854775807) (hr : -9223372036854775808 ≤ r ∧ r ≤ 9223372036854775807) :
    Calls Try.prog 25 #[.int .i64 n, .int .i64 r] w fun e w' => LC w (orkR n r) (orkC n r) e w' := by
  by_cases h1 : n < 0
  · have HR : Hid (orkR n r = []) := by unfold orkR; rw [if_neg (fun hh => by have := hh.1.1; omega)]; exact rfl
    have HC : Hid (orkC n r = 2) := by unfold orkC; rw [if_neg (fun hh => by have := hh.1.1; omega)]; exact rfl
    go_enter Try.func25, Try.ntmps25
    go_wp2_with fail
    go_ret2
    exact LC.nil_ HR.out HC.out (Below.refl _ _)
  · have h1' : 0 ≤ n := by omega
    obtain ⟨m, rfl⟩ := Int.eq_ofNat_of_zero_le h1'
    by_cases h2 : 12 < m
    · have HR : Hid (orkR m r = []) := by unfold orkR; rw [if_neg (fun hh => by have := hh.1.2; omega)]; exact rfl
      have HC : Hid (orkC m r = 2) := by unfold orkC; rw [if_neg (fun hh => by have := hh.1.2; omega)]; exact rfl
      have h2' : (12 : Int) < (m : Int) := by omega
      go_enter Try.func25, Try.ntmps25
      go_wp2_with fail
      go_ret2
      exact LC.nil_ HR.out HC.out (Below.refl _ _)
    · have h2' : m ≤ 12 := by omega
      by_cases h3 : r < 0
      · have HR : Hid (orkR m r = []) := by unfold orkR; rw [if_neg (fun hh => by have := hh.2.1; omega)]; exact rfl
        have HC : Hid (orkC m r = 2) := by unfold orkC; rw [if_neg (fun hh => by have := hh.2.1; omega)]; exact rfl
        go_enter Try.func25, Try.ntmps25
        go_wp2_with fail
        go_ret2
        exact LC.nil_ HR.out HC.out (Below.refl _ _)
      · have h3' : 0 ≤ r := by omega
        by_cases h4 : r < fac m
        · have hok : orkOk m r := ⟨⟨by omega, by omega⟩, h3', by simpa using h4⟩
          have HR : Hid (orkR m r = oO m r m) := by unfold orkR; rw [if_pos hok]; exact rfl
          have HC : Hid (orkC m r = 0) := by unfold orkC; rw [if_pos hok]; exact rfl
          have H4 := Lib.hid h4
          have HN : Hid (nums m = rest m (oO m r 0)) := (rest_nil m).symm
          obtain ⟨i0, hi0, hz0, hz1, hz2⟩ := info_parts infoI
          clear hok h1 h2 h3 hr hn
          go_enter Try.func25, Try.ntmps25
          go_wp2_with fail
          refine (implFac_any m _ h2').mono ?_
          rintro e _ ⟨rfl, rfl⟩
          go_wp2_with fail
          refine (firstNumbers_any m _ (by omega)).mono ?_
          rintro e w1 ⟨g, rfl, ho1, hb1⟩
          have hz1' := hb1.size
          clear h4
          go_wp2_with (at_make; refine wp_fresh0 (enc := I) _ rfl _ _ 24 rfl 2 i0 (.int .i64 0) 8 Try.underlying24 hi0 hz0 hz1 hz2 .i64 .i64 _ m rfl rfl rfl (by omega) (by omega) ?_; intro g2 w2 ho2 hb2)
          have hz2' := hb2.size
          rw [HN.out] at ho1
          have ho1' := (ho1.below hb2 (Nat.le_refl _))
          have hb2' := hb1.trans (hb2.mono (by omega))
          go_loopw [1, 6, 7, 8, 9] (fun rr lf rs _ _ wr => ∃ k : Nat, k ≤ m ∧ rr = .int .i64 (oR m r k) ∧ (∃ cl, lf = .slice (some ⟨g, 0, none⟩) (m - k) cl ∧ Own I wr w.heap.size w1.heap.size 2 (.slice (some ⟨g, 0, none⟩) (m - k) cl) (rest m (oO m r k))) ∧
              (∃ A c, rs = .slice A k c ∧ Own I wr w1.heap.size wr.heap.size 2 (.slice A k c) (oO m r k)) ∧ Below w.heap.size w wr ∧ w2.heap.size ≤ wr.heap.size) (fun _ lf _ _ _ _ => match lf with | .slice _ q _ => q | _ => 0)
          case atStart => exact ⟨0, Nat.zero_le _, rfl, ⟨_, rfl, ho1'⟩, ⟨_, _, rfl, ho2⟩, hb2', Nat.le_refl _⟩
          case round =>
            clear ho1 ho1' ho2 hb2'
            obtain ⟨k, hk, rfl, ⟨cl, rfl, hol⟩, ⟨A, c, rfl, hor⟩, hb, hsz⟩ := hrel
            by_cases hlt : k < m
            · obtain ⟨i1, i2, i3, i4⟩ := ork_inv m r h3' H4.out k hk
              obtain ⟨hqe, hql⟩ := ork_q m r h3' H4.out k hlt
              obtain ⟨q, hqd⟩ : ∃ q, q = oQ m r k := ⟨_, rfl⟩
              rw [← hqd] at hqe hql
              have hf1 := fac_bd (m - (k + 1)) (by omega)
              have hf2 := fac_bd (m - k) (by omega)
              have hf3 := hf1.1
              have hf4 := hf1.2
              have hR1 : oR m r k ≤ 479001600 := by omega
              obtain ⟨g', x, hg, hg1, hg2, hg3, hx, hcx, hfx⟩ := hol.at_ hql
              injection hg with hg
              injection hg with hg _ _
              subst hg
              have HO : Hid (oO m r (k + 1) = oO m r k ++ [x]) := ork_x m r k x (by rw [← hqd]; exact hx)
              have HE : Hid ((rest m (oO m r k)).eraseIdx q = rest m (oO m r k ++ [x])) := rest_next m (oO m r k) q x hx
              have HRR : Hid (oR m r (k + 1) = oR m r k % fac (m - (k + 1))) := rfl
              have hpos : 0 < m - k := by omega
              clear i2 i3 i4 hqd hf1 hf2 hx
              go_wp2_with fail
              refine (implFac_int _ _ (by omega) (by omega)).mono ?_
              rintro e _ ⟨rfl, rfl⟩
              rw [show (((m - k : Nat) : Int) - 1).toNat = m - (k + 1) from by omega]
              go_wp2_with (at_builtin; refine wp_push _ rfl _ _ 24 rfl 2 i0 _ 8 Try.underlying24 hi0 hz0 hz1 hz2 rfl A k c _ _ _ rfl hor x rfl rfl (by omega) (by omega) (by omega) ?_; intro A4 c4 w4 ho4 hm4)
              have hz4 := hm4.size
              have hol4 := hol.only hm4 (.inl (Nat.le_refl _))
              have hb4 := hb.trans (hm4.below (by omega) (by omega))
              refine (delete_any g (m - k) cl _ _ q _ _ hol4 hql (by omega)).mono ?_
              rintro e w5 ⟨rfl, ho5, hm5⟩
              have hz5 := hm5.size
              have ho45 := ho4.only hm5 (.inr (Nat.le_refl _))
              have hb5 := hb4.trans (hm5.below (Nat.le_refl _) (by omega))
              rw [HE.out, ← HO.out] at ho5
              rw [← HO.out] at ho45
              have HZ : Hid (m - k - 1 = m - (k + 1)) := show m - k - 1 = m - (k + 1) by omega
              go_wp2_with fail
              go_roundw
              case rel => exact ⟨k + 1, by omega, by rw [HRR.out], ⟨cl, by rw [← HZ.out], by rw [← HZ.out]; exact ho5⟩, ⟨A4, c4, rfl, ho45.mono (Nat.le_refl _) hz5⟩, hb5, by omega⟩
              case measure => simp; omega
            · obtain rfl : k = m := by omega
              have hz : decide (0 < k - k) = false := by simp
              go_wp2_with fail
              go_ret2
              exact LC.mk_ HR.out HC.out hor (by omega) (Nat.le_refl _) (by omega) hb
        · have h4' : fac m ≤ r := by omega
          have hno : ¬ orkOk m r := fun hh => h4 (by simpa using hh.2.2)
          have HR : Hid (orkR m r = []) := by unfold orkR; rw [if_neg hno]; exact rfl
          have HC : Hid (orkC m r = 2) := by unfold orkC; rw [if_neg hno]; exact rfl
          clear hno
          go_enter Try.func25, Try.ntmps25
          go_wp2_with fail
          refine (implFac_any m _ h2').mono ?_
          rintro e _ ⟨rfl, rfl⟩
          go_wp2_with fail
          go_ret2
          exact LC.nil_ HR.out HC.out (Below.refl _ _)

theorem rest_len_le (x m : Nat) (out : List Int) (h : x ≤ m) : (rest x out).length ≤ (rest m out).length := by
  obtain ⟨t, ht⟩ := rest_in x m out h
  rw [ht, List.length_append]
  omega

set_option maxHeartbeats 4000000 in
theorem specOrk_any (n r : Int) (w : World) (hn : -9223372036854775808 ≤ n ∧ n ≤ 9223372036854775807) (hr : -9223372036854775808 ≤ r ∧ r ≤ 9223372036854775807) :
    Calls Try.prog 26 #[.int .i64 n, .int .i64 r] w fun e w' => LC w (orkR n r) (orkC n r) e w' := by
  by_cases h1 : 0 ≤ n ∧ n ≤ 12
  · obtain ⟨m, rfl⟩ := Int.eq_ofNat_of_zero_le h1.1
    have h2' : m ≤ 12 := by omega
    have hfm := fac_bd m h2'
    have hfm1 := hfm.1
    have hfm2 := hfm.2
    by_cases h4 : 0 ≤ r ∧ r ≤ fac m - 1
    · have hok : orkOk m r := ⟨h1, h4.1, by have := h4.2; simp; omega⟩
      have HR : Hid (orkR m r = oO m r m) := by unfold orkR; rw [if_pos hok]; exact rfl
      have HC : Hid (orkC m r = 0) := by unfold orkC; rw [if_pos hok]; exact rfl
      have h3' := h4.1
      have H4 : Hid (r < fac m) := show r < fac m by omega
      obtain ⟨i0, hi0, hz0, hz1, hz2⟩ := info_parts infoI
      have hl0 := Own.lit0 I w 2
      have hb3 : Below w.heap.size w (w.alloc (.cells #[] 2)) := (Below.refl _ _).alloc (Nat.le_refl _) _
      clear hok hn hr hfm
      go_enter Try.func26, Try.ntmps26
      go_wp2_with fail
      refine (l01In_yes _ _ _ _ h1.1 h1.2).mono ?_
      rintro e _ ⟨rfl, rfl⟩
      go_wp2_with fail
      refine (specFac_any m _ h2').mono ?_
      rintro e _ ⟨rfl, rfl⟩
      go_wp2_with fail
      refine (l01In_yes _ _ _ _ h4.1 h4.2).mono ?_
      rintro e _ ⟨rfl, rfl⟩
      clear h1 h4 hfm1 hfm2
      go_wp2_with fail
      go_loopw [1, 6, 7, 8, 9, 10] (fun rr rs i _ _ _ wr => ∃ k : Nat, k ≤ m ∧ i = .int .i64 k ∧ rr = .int .i64 (oR m r k) ∧
          (∃ A c, rs = .slice A k c ∧ Own I wr w.heap.size wr.heap.size 2 (.slice A k c) (oO m r k)) ∧ Below w.heap.size w wr ∧ w.heap.size ≤ wr.heap.size) (fun _ _ i _ _ _ _ => m - (intOf i).toNat)
      case atStart => exact ⟨0, Nat.zero_le _, rfl, rfl, ⟨_, _, rfl, hl0.mono (Nat.le_refl _) (by simp)⟩, hb3, by simp⟩
      case round =>
        clear hl0 hb3
        obtain ⟨k, hk, rfl, rfl, ⟨A, c, rfl, hor⟩, hb, hsz⟩ := hrel
        by_cases hlt : k < m
        · obtain ⟨i1, i2, i3, i4⟩ := ork_inv m r h3' H4.out k hk
          obtain ⟨hqe, hql⟩ := ork_q m r h3' H4.out k hlt
          obtain ⟨q, hqd⟩ : ∃ q, q = oQ m r k := ⟨_, rfl⟩
          rw [← hqd] at hqe hql
          have HQE := Lib.hid hqe
          have hf1 := fac_bd (m - (k + 1)) (by omega)
          have hf2 := fac_bd (m - k) (by omega)
          have hf3 := hf1.1
          have hf4 := hf1.2
          have hR1 : oR m r k ≤ 479001600 := by omega
          have HQD := Lib.hid hqd
          have HLN := Lib.hid i3
          have HRR : Hid (oR m r (k + 1) = oR m r k % fac (m - (k + 1))) := rfl
          clear i2 i3 i4 hqd hf1 hf2 hqe
          go_wp2_with fail
          refine (specFac_int _ _ (by omega) (by omega)).mono ?_
          rintro e _ ⟨rfl, rfl⟩
          rw [show ((m : Int) - (k : Int) - 1).toNat = m - (k + 1) from by omega]
          go_wp2_with fail
          go_loop [6, 9, 10] (fun rs sk x => ∃ j : Nat, j ≤ m ∧ x = .int .i64 j ∧ (rest j (oO m r k)).length ≤ q ∧ sk = .int .i64 ((q : Int) - (rest j (oO m r k)).length) ∧ rs = .slice A k c) (fun _ _ x => m - (intOf x).toNat)
          case atStart => exact ⟨0, Nat.zero_le _, rfl, by simp [rest, nums], by rw [HQE.out]; simp [rest, nums], rfl⟩
          case round =>
            obtain ⟨j, hj, rfl, hle, rfl, rfl⟩ := hrel
            have hjm : j < m := by
              rcases Nat.lt_or_ge j m with h | h
              · exact h
              · have hjm : j = m := by omega
                rw [hjm, HLN.out] at hle
                omega
            by_cases hm : (j : Int) ∈ oO m r k
            · have HM := Lib.hid hm
              have HU : Hid (rest (j + 1) (oO m r k) = rest j (oO m r k)) := by
                show _ = _
                rw [rest_up, if_neg (by simpa using hm), List.append_nil]
              clear hm
              go_wp2_with fail
              refine (l01Has_yes _ k c _ _ _ _ hor.rd (by omega) HM.out).mono ?_
              rintro e _ ⟨rfl, rfl⟩
              go_wp2_with fail
              go_round
              case rel => exact ⟨j + 1, by omega, by go_num, by rw [HU.out]; exact hle, by rw [HU.out], rfl⟩
              case measure => simp [intOf]; omega
            · have HM := Lib.hid hm
              have HU : Hid (rest (j + 1) (oO m r k) = rest j (oO m r k) ++ [(j : Int)]) := by
                show _ = _
                rw [rest_up, if_pos hm]
              have HF := Lib.hid (rest_found j m (oO m r k) hjm hm)
              clear hm
              by_cases hz : (rest j (oO m r k)).length = q
              · have HO : Hid (oO m r (k + 1) = oO m r k ++ [(j : Int)]) := ork_x m r k j (by rw [← HQD.out, ← hz]; exact HF.out)
                have hz0 : (((q : Int) - (rest j (oO m r k)).length) == 0) = true := by simp; omega
                clear hz
                go_wp2_with fail
                refine (l01Has_no _ k c _ _ _ _ hor.rd (by omega) HM.out).mono ?_
                rintro e _ ⟨rfl, rfl⟩
                go_wp2_with (at_builtin; refine wp_push _ rfl _ _ 24 rfl 2 i0 _ 8 Try.underlying24 hi0 ‹_› hz1 hz2 rfl A k c _ _ _ rfl hor (j : Int) rfl rfl (by omega) (by omega) (by omega) ?_; intro A4 c4 w4 ho4 hm4)
                go_roundw
                case rel => exact ⟨k + 1, by omega, by go_num, by rw [HRR.out], ⟨A4, c4, rfl, by rw [HO.out]; exact ho4⟩, hb.trans (hm4.below (Nat.le_refl _) (by omega)), Nat.le_trans hsz hm4.size⟩
                case measure => simp [intOf]; omega
              · have hz0 : (((q : Int) - (rest j (oO m r k)).length) == 0) = false := by simp; omega
                have hlt2 : (rest j (oO m r k)).length < q := by omega
                have hlt3 : ((rest j (oO m r k)).length : Int) < (q : Int) := by omega
                clear hz
                go_wp2_with fail
                refine (l01Has_no _ k c _ _ _ _ hor.rd (by omega) HM.out).mono ?_
                rintro e _ ⟨rfl, rfl⟩
                go_wp2_with fail
                go_round
                case rel => exact ⟨j + 1, by omega, by go_num, by rw [HU.out, List.length_append]; exact hlt2, by rw [HU.out, List.length_append]; go_num, rfl⟩
                case measure => simp [intOf]; omega
        · obtain rfl : k = m := by omega
          go_wp2_with fail
          go_ret2
          exact LC.mk_ HR.out HC.out hor (Nat.le_refl _) (Nat.le_refl _) (by omega) hb
    · have hno : ¬ orkOk m r := fun hh => h4 ⟨hh.2.1, by have := hh.2.2; simp at this; omega⟩
      have HR : Hid (orkR m r = []) := by unfold orkR; rw [if_neg hno]; exact rfl
      have HC : Hid (orkC m r = 2) := by unfold orkC; rw [if_neg hno]; exact rfl
      have H4 : Hid (r < 0 ∨ fac m - 1 < r) := show r < 0 ∨ fac m - 1 < r by omega
      clear hno h4
      go_enter Try.func26, Try.ntmps26
      go_wp2_with fail
      refine (l01In_yes _ _ _ _ h1.1 h1.2).mono ?_
      rintro e _ ⟨rfl, rfl⟩
      go_wp2_with fail
      refine (specFac_any m _ h2').mono ?_
      rintro e _ ⟨rfl, rfl⟩
      go_wp2_with fail
      refine (l01In_no _ _ _ _ H4.out).mono ?_
      rintro e _ ⟨rfl, rfl⟩
      go_wp2_with fail
      go_ret2
      exact LC.nil_ HR.out HC.out (Below.refl _ _)
  · have hno : ¬ orkOk n r := fun hh => h1 hh.1
    have HR : Hid (orkR n r = []) := by unfold orkR; rw [if_neg hno]; exact rfl
    have HC : Hid (orkC n r = 2) := by unfold orkC; rw [if_neg hno]; exact rfl
    have H1 : Hid (n < 0 ∨ 12 < n) := show n < 0 ∨ 12 < n by omega
    clear hno h1
    go_enter Try.func26, Try.ntmps26
    go_wp2_with fail
    refine (l01In_no _ _ _ _ H1.out).mono ?_
    rintro e _ ⟨rfl, rfl⟩
    go_wp2_with fail
    go_ret2
    exact LC.nil_ HR.out HC.out (Below.refl _ _)
end Go.Proofs.Ytokljgdfhogcoaa

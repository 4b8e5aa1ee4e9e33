/- Contracts of the helpers of the laws over lists of texts: equal lists are told equal, marks are written and read back. -/
import Derived.Test.YtgplciodddfpbaaFoSc
import Derived.Test.YtgplciodddfpbaaStr
import Derived.Deep.QuietTactic
import Derived.BigQuiet
import Derived.Deep.RegionLaw
namespace Go.Proofs.Ytgplciodddfpbaa
open Go.RowKit

theorem run_str1 (W : World) (a : Addr) (c : Nat) (d : Nat) (hd : d < 256) (hc : W.cell? a = some (.int .u8 (d : Int))) :
    (convert 22 9 (.slice (some a) 1 c)).run Try.prog W = .ok (.string ⟨#[UInt8.ofNat d]⟩) W := by
  refine run_convert_bytes_back W _ _ _ a c [UInt8.ofNat d] Try.underlying22 Try.underlying5 Try.underlying9 fun j hj => ?_
  match j, hj with
  | 0, _ =>
    have e : ((UInt8.ofNat d).toNat : Int) = d := by simp [UInt8.toNat_ofNat']; omega
    simp only [List.getElem_cons_zero, e]
    rw [show a.add 0 = a from by unfold Addr.add; rfl]
    exact hc
/-- The digits of a number, at most f of them. -/
def dig : Nat → Nat → List UInt8
  | 0, _ => []
  | f + 1, k => if k = 0 then [] else dig f (k / 10) ++ [UInt8.ofNat (48 + k % 10)]
def mtx (k : Nat) : List UInt8 := 109 :: dig 12 k
theorem dig_zero (f : Nat) : dig f 0 = [] := by cases f <;> rfl
theorem dig_step (f k : Nat) (h : 0 < k) : dig (f + 1) k = dig f (k / 10) ++ [UInt8.ofNat (48 + k % 10)] := by
  rw [dig, if_neg (by omega)]

set_option maxRecDepth 100000 in
set_option maxHeartbeats 1000000 in
theorem markText_any (k : Nat) (w : World) (h0 : 0 < k) (h1 : k ≤ 2000000000) :
    Calls Try.prog 85 #[.int .i64 (k : Int)] w fun e w' => e = .returned (Tv (mtx k)) ∧ Below w.heap.size w w' := by
  go_enter Try.func85, Try.ntmps85
  go_wp2_with fail
  go_loopw [0, 3] (fun u v wr => ∃ (j f : Nat) (o : ByteArray), u = .int .i64 (j : Int) ∧ v = .string o ∧ j ≤ 2000000000 ∧ o.size ≤ 12 ∧ Hid (j < 10 ^ f ∧ f + o.size = 12 ∧ dig f j ++ o.data.toList = dig 12 k) ∧ Below w.heap.size w wr) (fun u _ _ => (intOf u).toNat)
  case atStart => exact ⟨k, 12, ⟨#[]⟩, rfl, rfl, h1, by decide, Lib.hid ⟨by omega, rfl, by simp⟩, Below.refl _ _⟩
  case round =>
    obtain ⟨j, f, o, rfl, rfl, hj, ho, HF, hb⟩ := hrel
    have hz := hb.size
    by_cases hlt : 0 < j
    · obtain ⟨f', hf'⟩ : ∃ f', f = f' + 1 := by
        rcases f with _ | f'
        · have := HF.out.1; omega
        · exact ⟨f', rfl⟩
      subst hf'
      obtain ⟨m, hm⟩ : ∃ m, m = j / 10 := ⟨_, rfl⟩
      obtain ⟨d, hd⟩ : ∃ d, d = j % 10 := ⟨_, rfl⟩
      have hd10 : d < 10 := by omega
      obtain ⟨b, hbb⟩ : ∃ b : ByteArray, b = ⟨#[UInt8.ofNat (48 + d)]⟩ := ⟨_, rfl⟩
      have hb1 : b.size = 1 := by rw [hbb]; rfl
      have HN : Hid (m < 10 ^ f' ∧ f' + (b ++ o).size = 12 ∧ dig f' m ++ (b ++ o).data.toList = dig 12 k) := by
        obtain ⟨q1, q2, q3⟩ := HF.out
        rw [Nat.pow_succ] at q1
        refine Lib.hid ⟨by omega, by rw [ByteArray.size_append]; omega, ?_⟩
        rw [← q3, dig_step f' j hlt, ← hm, ← hd, app_toList, hbb]
        simp
      have hsz : (b ++ o).size ≤ 12 := by have := HN.out.2.1; omega
      have hsum : ¬ b.size + o.size > 9223372036854775807 := by omega
      have hcv : ∀ W : World, (convert 22 9 (.slice (some ⟨W.heap.size, 0, none⟩) 1 1)).run Try.prog (W.alloc (.cells #[.int .u8 (48 + (d : Int))] 5)) = .ok (.string b) (W.alloc (.cells #[.int .u8 (48 + (d : Int))] 5)) := fun W => by
        rw [hbb]
        exact run_str1 _ _ _ (48 + d) (by omega) (by simp [World.cell?_alloc_new])
      have e1 : (j : Int).tdiv 10 = (m : Int) := by rw [Int.tdiv_eq_ediv_of_nonneg (by omega)]; omega
      have e1' : (j : Int) / 10 = (m : Int) := by omega
      have e1w : IntKind.i64.wrap (m : Int) = (m : Int) := IntWalk.i64_in _ (by omega)
      have e2 : (j : Int).tmod 10 = (d : Int) := by rw [Int.tmod_eq_emod_of_nonneg (by omega)]; omega
      have e2w : IntKind.i64.wrap (d : Int) = (d : Int) := IntWalk.i64_in _ (by omega)
      have e3 : IntKind.i64.wrap (48 + (d : Int)) = 48 + (d : Int) := IntWalk.i64_in _ (by omega)
      have e4 : IntKind.u8.wrap (48 + (d : Int)) = 48 + (d : Int) := by
        show (48 + (d : Int)) % 256 = _
        omega
      have hmj : m < j := by omega
      clear hm hd hbb hb1
      go_wp2_with fail
      go_roundw
      case rel => exact ⟨m, f', b ++ o, rfl, rfl, by omega, hsz, HN, hb.alloc hz _⟩
      case measure => simp [intOf]; omega
    · obtain rfl : j = 0 := by omega
      have HR : Hid ((⟨#[109]⟩ : ByteArray) ++ o = ⟨(mtx k).toArray⟩) := by
        have q3 := HF.out.2.2
        rw [dig_zero, List.nil_append] at q3
        refine Lib.hid ?_
        unfold mtx
        rw [← q3]
        obtain ⟨⟨l⟩⟩ := o
        rfl
      go_wp2_with fail
      go_ret
      exact ⟨by show Ending.returned (Value.string ((⟨#[109]⟩ : ByteArray) ++ o)) = _; rw [HR.out], hb⟩

set_option maxRecDepth 100000 in
set_option maxHeartbeats 1000000 in
theorem eqStringS_true (A A' : Option Addr) (n c c' B B' : Nat) (l : List (List UInt8)) (w : World) (h : Rd Tv w B A n l) (h' : Rd Tv w B' A' n l) (hn : n ≤ 1048576) :
    Calls Try.prog 41 #[.slice A n c, .slice A' n c'] w fun e w' => e = .returned (.bool true) ∧ Q w w' := by
  go_enter Try.func41, Try.ntmps41
  go_wp2
  go_loopw [5] (fun i wr => ∃ k : Nat, k ≤ n ∧ i = .int .i64 k ∧ Q w wr) (fun i _ => n - (intOf i).toNat)
  case atStart => exact ⟨0, Nat.zero_le _, rfl, Q.refl _⟩
  case round =>
    obtain ⟨k, hk, rfl, hq⟩ := hrel
    have h := h.q hq
    have h' := h'.q hq
    by_cases hlt : k < n
    · obtain ⟨b, o, x, rfl, hbB, hx, hc⟩ := h.at_ hlt
      obtain ⟨b', o', x', rfl, hbB', hx', hc'⟩ := h'.at_ hlt
      obtain rfl : x = x' := by rw [hx] at hx'; injection hx'
      obtain ⟨s, hs⟩ : ∃ s : ByteArray, s = ⟨x.toArray⟩ := ⟨_, rfl⟩
      replace hc : wr.cell? ⟨b, o + k, none⟩ = some (.string s) := by rw [hs]; exact hc
      replace hc' : wr.cell? ⟨b', o' + k, none⟩ = some (.string s) := by rw [hs]; exact hc'
      clear hx hx' hs
      go_wp2
      go_quiet (fail)
      go_wp2
      go_roundw
      case rel => exact ⟨k + 1, by omega, by go_num, hq.more _⟩
      case measure => simp [intOf]; omega
    · obtain rfl : k = n := by omega
      go_wp2
      go_ret
      exact ⟨rfl, hq⟩

def marksT (n q : Nat) : List (List UInt8) := (List.range n).map fun j : Nat => mtx (q + j)
theorem marksT_len (n q : Nat) : (marksT n q).length = n := by simp [marksT]
theorem marksT_at (n q j : Nat) (h : j < n) : (marksT n q)[j]? = some (mtx (q + j)) := by simp [marksT, h]
theorem markT_step {α : Type} (m l : List α) (k n : Nat) (x : α) (hm : m.length = n) (hl : l.length = n) (hx : m[k]? = some x) (hk : k < n) :
    (m.take k ++ l.drop k).set k x = m.take (k + 1) ++ l.drop (k + 1) := by
  rw [List.drop_eq_getElem_cons (by omega), set_mid _ _ _ _ _ (by simp; omega), take_next m k x hx]
  simp

set_option maxRecDepth 100000 in
set_option maxHeartbeats 1000000 in
theorem markStringS_any (A : Option Addr) (n c lo hi q : Nat) (l : List (List UInt8)) (w : World) (h : Own Tv w lo hi 9 (.slice A n c) l) (hn : n ≤ 1048576) (h0 : 0 < q) (h1 : q ≤ 1073741824) (hhi : hi ≤ w.heap.size) :
    Calls Try.prog 42 #[.slice A n c, .int .i64 (q : Int)] w fun e w' => e = .returned (.int .i64 ((q : Int) + n)) ∧ Own Tv w' lo hi 9 (.slice A n c) (marksT n q) ∧ Only lo hi w w' := by
  have HL : Hid (l.length = n) := h.rd.1
  go_enter Try.func42, Try.ntmps42
  go_wp2
  go_loopw [1, 5] (fun q' i wr => ∃ k z : Nat, k ≤ n ∧ i = .int .i64 k ∧ q' = .int .i64 (z : Int) ∧ Hid (z = q + k) ∧ Own Tv wr lo hi 9 (.slice A n c) ((marksT n q).take k ++ l.drop k) ∧ Only lo hi w wr) (fun _ i _ => n - (intOf i).toNat)
  case atStart => exact ⟨0, q, Nat.zero_le _, rfl, rfl, Lib.hid rfl, by simpa using h, Only.refl _ _ _⟩
  case round =>
    obtain ⟨k, z, hk, rfl, rfl, HZ, ho, hb⟩ := hrel
    have hsz := hb.size
    by_cases hlt : k < n
    · have hz0 : 0 < z := by have := HZ.out; omega
      have hz1 : z ≤ 1073741824 + 1048576 := by have := HZ.out; omega
      have HO := Lib.hid ho
      have HBB := Lib.hid hb
      clear ho hb
      go_wp2_with fail
      refine (markText_any z _ hz0 (by omega)).mono ?_
      rintro e w5 ⟨rfl, hb5⟩
      have ho5 := HO.out.below hb5 (by omega)
      obtain ⟨g, y, rfl, hg1, hg2, hg3, hy, hc2, hf2⟩ := ho5.at_ hlt
      have hset := ho5.set_ (k := k) (mtx z)
      have HS : Hid (Own Tv (w5.setCell ⟨g, k, none⟩ (Tv (mtx z))) lo hi 9 (.slice (some ⟨g, 0, none⟩) n c) ((marksT n q).take (k + 1) ++ l.drop (k + 1))) := by
        have := hset.1
        rw [markT_step (marksT n q) l k n (mtx z) (marksT_len n q) HL.out (by rw [marksT_at n q k hlt, HZ.out]) hlt] at this
        exact Lib.hid this
      have HB5 : Hid (Only lo hi w (w5.setCell ⟨g, k, none⟩ (Tv (mtx z)))) := Lib.hid ((HBB.out.trans (Only.of_below hb5 _ _)).trans hset.2)
      clear hy hset ho5 hb5
      go_wp2
      go_roundw
      case rel => exact ⟨k + 1, z + 1, by omega, by go_num, by go_num, Lib.hid (by rw [HZ.out]; omega), HS.out, HB5.out⟩
      case measure => simp [intOf]; omega
    · obtain rfl : k = n := by omega
      go_wp2
      go_ret
      have hle := HL.out
      have hm := marksT_len k q
      exact ⟨ret_i (by rw [HZ.out]; simp), by simpa [List.take_of_length_le (Nat.le_of_eq hm), List.drop_of_length_le (Nat.le_of_eq hle)] using ho, hb⟩

set_option maxRecDepth 100000 in
set_option maxHeartbeats 1000000 in
theorem heldStringS_any (A : Option Addr) (n c B q : Nat) (w : World) (h : Rd Tv w B A n (marksT n q)) (hB : B ≤ w.heap.size) (hn : n ≤ 1048576) (h0 : 0 < q) (h1 : q ≤ 1073741824) :
    Calls Try.prog 43 #[.slice A n c, .int .i64 (q : Int)] w fun e w' => e = .returned (.int .i64 ((q : Int) + n)) ∧ Below w.heap.size w w' := by
  go_enter Try.func43, Try.ntmps43
  go_wp2
  go_loopw [1, 5] (fun q' i wr => ∃ k z : Nat, k ≤ n ∧ i = .int .i64 k ∧ q' = .int .i64 (z : Int) ∧ Hid (z = q + k) ∧ Below w.heap.size w wr) (fun _ i _ => n - (intOf i).toNat)
  case atStart => exact ⟨0, q, Nat.zero_le _, rfl, rfl, Lib.hid rfl, Below.refl _ _⟩
  case round =>
    obtain ⟨k, z, hk, rfl, rfl, HZ, hb⟩ := hrel
    have hsz := hb.size
    by_cases hlt : k < n
    · have hz0 : 0 < z := by have := HZ.out; omega
      have hz1 : z ≤ 1073741824 + 1048576 := by have := HZ.out; omega
      obtain ⟨b, o, x, rfl, hbB, hx, hc⟩ := (h.below hb hB).at_ hlt
      obtain rfl : x = mtx z := by rw [marksT_at n q k hlt, ← HZ.out] at hx; injection hx with hx; exact hx.symm
      obtain ⟨t, ht⟩ : ∃ t : ByteArray, t = ⟨(mtx z).toArray⟩ := ⟨_, rfl⟩
      have hmt : ∀ W, Calls Try.prog 85 #[.int .i64 (z : Int)] W fun e w' => e = .returned (.string t) ∧ Below W.heap.size W w' := fun W => by rw [ht]; exact markText_any z W hz0 (by omega)
      replace hc : wr.cell? ⟨b, o + k, none⟩ = some (.string t) := by rw [ht]; exact hc
      have hbz : b < wr.heap.size := by omega
      clear hx ht
      go_wp2_with fail
      go_region_law (go_simp; go_at_call 85; refine (hmt _).mono ?_; rintro e w5 ⟨rfl, hb5⟩; have hc5 := (hb5.cell (p := ⟨b, o + k, none⟩) (by show b < _; simpa using hbz)).trans hc)
      all_goals
        have HB5 := Lib.hid (hb.trans ((Below.refl _ wr).drew.trans (hb5.mono (show w.heap.size ≤ _ from hsz))))
        clear hb5 hc5
        go_wp2
        go_roundw
        case rel => exact ⟨k + 1, z + 1, by omega, by go_num, by go_num, Lib.hid (by rw [HZ.out]; omega), HB5.out⟩
        case measure => simp [intOf]; omega
    · obtain rfl : k = n := by omega
      go_wp2
      go_ret
      exact ⟨ret_i (by rw [HZ.out]; simp), hb⟩
end Go.Proofs.Ytgplciodddfpbaa

/- Contracts of the two functions that tell whether a string is folds, the model's and the program's: both answer St.foldsB. -/
import Derived.Test.YtjpfbonnohodhaaDoorStr
import Derived.Test.YtjpfbonnohodhaaDoorShelf
import Derived.Test.YtjpfbonnohodhaaDoorStMath
import Derived.Shelf.Strings.SlTrimAscii
import Derived.WalkSpells
namespace Go.Proofs.YtjpfbonnohodhaaDoor
open Go.RowKit Go.Shelf

theorem all_drop (p : UInt8 → Bool) (l : List UInt8) : l.dropWhile p = [] ↔ l.all p = true := by
  induction l with
  | nil => simp
  | cons b l ih =>
    rw [List.dropWhile_cons, List.all_cons]
    by_cases hb : p b = true
    · rw [if_pos hb, ih, hb, Bool.true_and]
    · rw [if_neg hb]
      simp [hb]
theorem trim_nil (l : List UInt8) : Lib.trimS l [76, 82] = [] ↔ l.all St.isLR = true := by
  have hp : ∀ b : UInt8, ([76, 82] : List UInt8).contains b = St.isLR b := by
    intro b
    simp only [St.isLR, List.contains_cons, List.contains_nil, Bool.or_false]
  unfold Lib.trimS Lib.trimLeftS Lib.trimRightS
  simp only [hp]
  rw [all_drop]
  constructor
  · intro h
    rw [List.all_eq_true] at h ⊢
    intro x hx
    have hx' : x ∈ l.reverse := List.mem_reverse.2 hx
    rw [← List.takeWhile_append_dropWhile (p := St.isLR) (l := l.reverse), List.mem_append] at hx'
    rcases hx' with hx' | hx'
    · exact List.all_eq_true.1 List.all_takeWhile x hx'
    · exact h x (List.mem_reverse.2 hx')
  · intro h
    have : l.reverse.dropWhile (fun b => St.isLR b) = [] := by
      rw [all_drop, List.all_reverse]
      exact h
    rw [this]
    rfl
theorem folds_no_len {l : List UInt8} (h : 6 < l.length) : St.foldsB l = false := by
  unfold St.foldsB
  rw [decide_eq_false (by omega), Bool.and_false]
theorem folds_no_at {l : List UInt8} {k : Nat} {c : UInt8} (hc : l[k]? = some c) (h : St.isLR c = false) : St.foldsB l = false := by
  unfold St.foldsB
  have : l.all St.isLR = false := by
    rw [← Bool.not_eq_true, List.all_eq_true]
    intro h'
    have := h' c (List.mem_of_getElem? hc)
    rw [h] at this
    cases this
  rw [this, Bool.false_and]
theorem all_next {l : List UInt8} {k : Nat} {c : UInt8} (hc : l[k]? = some c) (h : (l.take k).all St.isLR = true) (h' : St.isLR c = true) : (l.take (k + 1)).all St.isLR = true := by
  rw [take_more l k c hc, List.all_append, h]
  simp [h']

set_option maxRecDepth 100000 in
set_option maxHeartbeats 1000000 in
theorem specIsFolds_any (s : ByteArray) (w : World) (hs : s.size ≤ 1048576) :
    Calls Tryd.prog 24 #[.string s] w fun e w' => e = .returned (.bool (St.foldsB s.data.toList)) ∧ w = w' := by
  go_enter Tryd.func24, Tryd.ntmps24
  go_wp2_with fail
  go_loop [3] (fun i => ∃ k : Nat, k ≤ s.size ∧ i = .int .i64 k ∧ Hid ((s.data.toList.take k).all St.isLR = true)) (fun i => s.size - (intOf i).toNat)
  case atStart => exact ⟨0, Nat.zero_le _, rfl, Lib.hid (by simp)⟩
  case round =>
    obtain ⟨k, hk, rfl, ha⟩ := hrel
    by_cases hlt : k < s.size
    · obtain ⟨c, hc⟩ := str_get s k hlt
      have hix := index_str s k c hc
      have HC := Lib.hid hc
      have hcl : c.toNat < 256 := c.toNat_lt
      clear hc
      by_cases h76 : c.toNat = 76
      · have HL : Hid (St.isLR c = true) := by
          have : c = 76 := UInt8.toNat_inj.mp h76
          subst this
          exact Lib.hid rfl
        rw [h76] at hix
        clear h76
        go_wp2_with fail
        go_round
        case rel => exact ⟨k + 1, by omega, by go_num, Lib.hid (all_next HC.out ha.out HL.out)⟩
        case measure => simp [intOf]; omega
      · by_cases h82 : c.toNat = 82
        · have HL : Hid (St.isLR c = true) := by
            have : c = 82 := UInt8.toNat_inj.mp h82
            subst this
            exact Lib.hid rfl
          rw [h82] at hix
          clear h82 h76
          go_wp2_with fail
          go_round
          case rel => exact ⟨k + 1, by omega, by go_num, Lib.hid (all_next HC.out ha.out HL.out)⟩
          case measure => simp [intOf]; omega
        · have HL : Hid (St.foldsB s.data.toList = false) := by
            refine Lib.hid (folds_no_at HC.out ?_)
            simp only [St.isLR, Bool.or_eq_false_iff, beq_eq_false_iff_ne]
            exact ⟨fun h => h76 (by rw [h]; rfl), fun h => h82 (by rw [h]; rfl)⟩
          have n1 : ¬ ((c.toNat : Int) = 76) := by omega
          have n2 : ¬ ((c.toNat : Int) = 82) := by omega
          have m1 : ((c.toNat : Int) != 76) = true := by simp; omega
          have m2 : ((c.toNat : Int) != 82) = true := by simp; omega
          clear h76 h82
          go_wp2_with fail
          go_ret
          exact ⟨ret_b HL.out.symm, rfl⟩
    · obtain rfl : k = s.size := by omega
      have HE : Hid (St.foldsB s.data.toList = decide (s.size ≤ 6)) := by
        have h := ha.out
        rw [List.take_of_length_le (Nat.le_of_eq (toList_len s))] at h
        unfold St.foldsB
        rw [h, Bool.true_and, toList_len]
        exact Lib.hid rfl
      go_wp2_with fail
      go_ret
      exact ⟨ret_b (by rw [HE.out]; simp; omega), rfl⟩

set_option maxRecDepth 100000 in
set_option maxHeartbeats 1000000 in
theorem implIsFolds_any (s : ByteArray) (w : World) (hs : s.size ≤ 1048576) :
    Calls Tryd.prog 23 #[.string s] w fun e w' => e = .returned (.bool (St.foldsB s.data.toList)) ∧ Below w.heap.size w w' := by
  by_cases h6 : s.size ≤ 6
  · have hcon := fun W => Any.strings_Trim_laid Tryd.lays160 (by kernel_rfl) s ⟨#[76, 82]⟩ W (by omega) (by decide) (ascii_of_all (by decide))
    change ∀ W, Calls Tryd.prog 46 _ W (fun e w' => e = .returned (.string ⟨(Lib.trimS s.data.toList [76, 82]).toArray⟩) ∧ Below W.heap.size W w') at hcon
    have HT : Hid (St.foldsB s.data.toList = s.data.toList.all St.isLR) := by
      unfold St.foldsB
      rw [decide_eq_true (by rw [toList_len]; exact h6), Bool.and_true]
      exact Lib.hid rfl
    by_cases ht : Lib.trimS s.data.toList [76, 82] = []
    · have HA := Lib.hid ((trim_nil _).1 ht)
      rw [ht] at hcon
      clear ht
      go_enter Tryd.func23, Tryd.ntmps23
      go_wp2_with fail
      refine (hcon _).mono ?_
      rintro e w1 ⟨rfl, hb⟩
      go_wp2_with fail
      go_ret
      exact ⟨ret_b (by rw [HT.out, HA.out]), hb⟩
    · have HA : Hid (s.data.toList.all St.isLR = false) := by
        refine Lib.hid ?_
        rw [← Bool.not_eq_true]
        exact fun h => ht ((trim_nil _).2 h)
      obtain ⟨r, hr⟩ : ∃ r : ByteArray, r = ⟨(Lib.trimS s.data.toList [76, 82]).toArray⟩ := ⟨_, rfl⟩
      have hn : ¬ (r.toList = []) := by
        rw [ByteArray.toList_eq, hr]
        simpa using ht
      rw [← hr] at hcon
      clear hr ht
      go_enter Tryd.func23, Tryd.ntmps23
      go_wp2_with fail
      refine (hcon _).mono ?_
      rintro e w1 ⟨rfl, hb⟩
      go_wp2_with fail
      go_ret
      exact ⟨ret_b (by rw [HT.out, HA.out]; cases hrl : r.toList <;> simp_all), hb⟩
  · have HE : Hid (St.foldsB s.data.toList = false) := Lib.hid (folds_no_len (by rw [toList_len]; omega))
    have h6' : 6 < s.size := by omega
    clear h6
    go_enter Tryd.func23, Tryd.ntmps23
    go_wp2_with fail
    go_ret
    exact ⟨ret_b HE.out.symm, Below.refl _ _⟩
end Go.Proofs.YtjpfbonnohodhaaDoor

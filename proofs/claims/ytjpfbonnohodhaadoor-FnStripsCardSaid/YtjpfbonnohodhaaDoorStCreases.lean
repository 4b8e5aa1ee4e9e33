/- The walk of the law FnCreases. -/
import Derived.Test.YtjpfbonnohodhaaDoorStDraw
import Derived.Test.YtjpfbonnohodhaaDoorStCr2
namespace Go.Proofs.YtjpfbonnohodhaaDoor
open Go.RowKit Go.Shelf

theorem big_any (A : Option Addr) (N C : Nat) (w : World) :
    Calls Tryd.prog 10 #[.slice A N C] w fun e w' => e = .returned (.bool (decide (4096 < N))) ∧ w = w' := by
  go_enter Tryd.func10, Tryd.ntmps10
  go_wp2
  go_ret
  exact ⟨ret_b (by simp; omega), rfl⟩

def DrT (w : World) (e : Ending) (w' : World) : Prop := ∃ t : ByteArray, e = .returned (.string t) ∧ t.size ≤ 7 ∧ Below w.heap.size w w'
theorem DrawCr_any (N C B : Nat) (A : Option Addr) (l : List Int) (w : World) (hc : Rd U w B A N l) (hl : inByte l) (hB : B ≤ w.heap.size) (hN : N ≤ 1048576) :
    Calls Tryd.prog 25 #[.slice A N C] w fun e w' => DrT w e w' := by
  go_enter Tryd.func25, Tryd.ntmps25
  go_wp2_with fail
  refine (l01From_ex N C B A l _ hc hl hB).mono ?_
  rintro e w1 ⟨g, rfl, hg, hs1, hb1⟩
  have hz1 := hb1.size
  have hlt := hs1.lt
  go_wp2_with fail
  refine (l03Draw_any g N C B A l _ hs1 (hc.below hb1 hB) hl (by omega) hN).mono ?_
  rintro e w2 ⟨t, rfl, ht, hs2, ho2⟩
  have HB : Hid (DrT w (.returned (.string t)) w2) := ⟨t, rfl, ht, hb1.trans (ho2.below hg hz1)⟩
  clear ht hs2 ho2 hs1 hb1
  go_wp2_with fail
  go_ret
  exact HB.out

namespace St
/-- Valleys less mountains. -/
def tal (l : List UInt8) : Int := l.foldl (fun n b => if b = 86 then n + 1 else n - 1) 0
theorem tal_next (l : List UInt8) (k : Nat) (c : UInt8) (h : l[k]? = some c) : tal (l.take (k + 1)) = if c = 86 then tal (l.take k) + 1 else tal (l.take k) - 1 := by
  have : l.take (k + 1) = l.take k ++ [c] := by rw [List.take_add_one, h]; rfl
  rw [this]
  unfold tal
  rw [List.foldl_append]
  rfl
theorem tal_near (l : List UInt8) : ∀ n : Int, -(l.length : Int) ≤ l.foldl (fun n b => if b = 86 then n + 1 else n - 1) n - n ∧ l.foldl (fun n b => if b = 86 then n + 1 else n - 1) n - n ≤ l.length := by
  induction l with
  | nil => intro n; simp
  | cons a l ih =>
    intro n
    have := ih (if a = 86 then n + 1 else n - 1)
    rw [List.foldl_cons, List.length_cons]
    split at this <;> rename_i h <;> simp only [h, if_true, if_false] <;> omega
theorem tal_crB (L : List Nat) (h : ∀ x ∈ L, x = 86 ∨ x = 77) : ∀ n : Int, (crB L).foldl (fun n b => if b = 86 then n + 1 else n - 1) n = L.foldl (fun n b => if b = 86 then n + 1 else n - 1) n := by
  induction L with
  | nil => intro n; rfl
  | cons a L ih =>
    intro n
    have := ih (fun x hx => h x (List.mem_cons_of_mem _ hx))
    rcases h a (List.mem_cons_self ..) with rfl | rfl
    · exact this (n + 1)
    · exact this (n - 1)
theorem crI_two (l : List UInt8) : ∀ x ∈ crI l, x = 86 ∨ x = 77 := by
  intro x hx
  unfold crI crIof at hx
  obtain ⟨c, _, rfl⟩ := List.mem_map.1 hx
  split <;> simp
end St

set_option maxRecDepth 100000 in
set_option maxHeartbeats 2000000 in
theorem w_FnCreases (A : Option Addr) (N C : Nat) (l : List Int) (w : World) (h : Rd U w w.heap.size A N l) (hl : inByte l) :
    Calls Tryd.prog 4 #[.slice A N C] w fun e w' => e = .returned (.bool true) ∧ Below w.heap.size w w' := by
  by_cases hN : N ≤ 4096
  · have HF : Hid (decide (4096 < N) = false) := decide_eq_false (by omega)
    go_enter Tryd.func4, Tryd.ntmps4
    go_wp2_with fail
    refine (big_any A N C _).mono ?_
    rintro e _ ⟨rfl, rfl⟩
    rw [HF.out]
    go_wp2_with fail
    refine (DrawCr_any N C w.heap.size A l w h hl (Nat.le_refl _) (by omega)).mono ?_
    rintro e w1 ⟨s, rfl, hs7, hb1⟩
    have hz1 := hb1.size
    have HB1 := Lib.hid hb1
    obtain ⟨t, ht⟩ : ∃ v, crR s.data.toList = v := ⟨_, rfl⟩
    obtain ⟨c, hc⟩ : ∃ v, fsC s.data.toList = v := ⟨_, rfl⟩
    have HT := Lib.hid ht
    have HC := Lib.hid hc
    clear ht hc hb1
    go_wp2_with fail
    refine (implCr_any s _ (by omega)).mono ?_
    rintro e w2 ⟨rfl, hb2⟩
    rw [HT.out, HC.out]
    have HB2 := Lib.hid (HB1.out.trans (hb2.mono hz1))
    have hz2 := hb2.size
    clear hb2
    go_wp2_with fail
    refine (specCr_any s _ (by omega)).mono ?_
    rintro e w3 ⟨rfl, hb3⟩
    rw [HT.out, HC.out]
    have HB3 := Lib.hid (HB2.out.trans (hb3.mono (by omega)))
    clear hb3
    by_cases hf : St.foldsB s.data.toList = true
    · obtain rfl : c = 0 := by rw [← HC.out]; unfold fsC; rw [if_pos hf]
      have h6 : s.size ≤ 6 := St.folds_len hf
      by_cases hn : s.data.toList = []
      · have hn0 : s = ⟨#[]⟩ := by cases s; simp_all
        subst hn0
        clear hn hf
        go_wp2_with fail
        go_ret
        exact ⟨rfl, HB3.out⟩
      · have hno := (St.cr_facts hf).one hn
        have HTT : Hid (t.data.toList = St.crB (St.crI s.data.toList)) := by
          rw [← HT.out]; unfold crR; rw [if_pos hf]; exact Lib.hid rfl
        have HTA : Hid (St.tal t.data.toList = 1) := by
          rw [HTT.out]
          exact (St.tal_crB _ (St.crI_two _) 0).trans hno.1
        have hts : t.size + 1 = 2 ^ s.size := by
          have : t.data.toList.length = _ := congrArg List.length HTT.out
          rw [toList_len] at this
          rw [this, ← toList_len s, ← hno.2]
          simp [St.crB]
        have hp := pow_le6 h6
        clear hno hf
        have huw : IntKind.u64.wrap (s.size : Int) = (s.size : Int) := by
          show (s.size : Int) % 18446744073709551616 = _
          omega
        have hsh2 : IntKind.i64.wrap (2 ^ s.size) = (t.size : Int) + 1 := by
          have := shl_one' s.size h6
          rw [this]
          have : ((2 ^ s.size : Nat) : Int) = (t.size : Int) + 1 := by omega
          simpa using this
        have ht63 : t.size ≤ 63 := by omega
        have HTS := Lib.hid hts
        have hne : ¬ s.toList = [] := by rw [Lib.toList_data]; exact hn
        have hne2 : s.toList.isEmpty = false := by simpa using hne
        clear hts hp hn
        go_wp2_with fail
        go_loopw [8, 9] (fun n i wr => ∃ k : Nat, k ≤ t.size ∧ i = .int .i64 (k : Int) ∧ n = .int .i64 (St.tal (t.data.toList.take k)) ∧ Below w.heap.size w wr) (fun _ i _ => t.size - (intOf i).toNat)
        case atStart => exact ⟨0, Nat.zero_le _, rfl, rfl, HB3.out⟩
        case round =>
          obtain ⟨k, hk, rfl, rfl, hb⟩ := hrel
          obtain ⟨x, hx⟩ : ∃ x, St.tal (t.data.toList.take k) = x := ⟨_, rfl⟩
          have hnear := St.tal_near (t.data.toList.take k) 0
          have HX := Lib.hid hx
          have hxb : -63 ≤ x ∧ x ≤ 63 := by
            have hl : (t.data.toList.take k).length ≤ 63 := by rw [List.length_take, toList_len]; omega
            unfold St.tal at hx
            rw [hx] at hnear
            omega
          obtain ⟨hx1, hx2⟩ := hxb
          clear hnear
          rw [hx]
          clear hx
          by_cases hlt : k < t.size
          · obtain ⟨ch, hch⟩ := str_get t k hlt
            have hix := index_str t k ch hch
            have HNX := Lib.hid (St.tal_next _ k ch hch)
            clear hch
            have e1 : IntKind.i64.wrap (x + 1) = x + 1 := IntWalk.i64_in _ (by omega)
            have e2 : IntKind.i64.wrap (x - 1) = x - 1 := IntWalk.i64_in _ (by omega)
            have hk' : decide ((k : Int) < (t.size : Int)) = true := by simp; omega
            by_cases hv : ch = 86
            · subst hv
              have hv2 : (((86 : UInt8).toNat : Int) == 86) = true := by decide
              have hb' := Lib.hid hb
              clear hb
              go_wp2_with fail
              go_roundw
              case rel => exact ⟨k + 1, by omega, by go_num, by rw [HNX.out, if_pos rfl, HX.out], hb'.out⟩
              case measure => simp [intOf]; omega
            · have hv1 : ¬ ((ch.toNat : Int) = 86) := fun h => hv (by
                have : ch.toNat = 86 := by omega
                exact UInt8.toNat_inj.1 this)
              have hv2 : (((ch.toNat : Int)) == 86) = false := by simpa using hv1
              have HV := Lib.hid hv
              have hb' := Lib.hid hb
              clear hb hv
              go_wp2_with fail
              go_roundw
              case rel => exact ⟨k + 1, by omega, by go_num, by rw [HNX.out, if_neg HV.out, HX.out], hb'.out⟩
              case measure => simp [intOf]; omega
          · obtain rfl : k = t.size := by omega
            obtain rfl : x = 1 := by
              have := HX.out
              rw [List.take_of_length_le (Nat.le_of_eq (toList_len t)), HTA.out] at this
              exact this.symm
            have e3 : IntKind.i64.wrap ((t.size : Int) + 1) = (t.size : Int) + 1 := IntWalk.i64_in _ (by omega)
            go_wp2_with fail
            go_ret
            exact ⟨rfl, hb⟩
    · obtain rfl : c = 1 := by rw [← HC.out]; unfold fsC; rw [if_neg hf]
      clear hf
      go_wp2_with fail
      go_ret
      exact ⟨rfl, HB3.out⟩
  · have HF : Hid (decide (4096 < N) = true) := decide_eq_true (by omega)
    go_enter Tryd.func4, Tryd.ntmps4
    go_wp2_with fail
    refine (big_any A N C _).mono ?_
    rintro e _ ⟨rfl, rfl⟩
    rw [HF.out]
    go_wp2_with fail
    go_ret
    exact ⟨rfl, Below.refl _ _⟩
end Go.Proofs.YtjpfbonnohodhaaDoor

/- Contracts of the model's readers of digits and lengths. -/
import Derived.Test.YtbhofhobnbhhhaaDoorReadMath
namespace Go.Proofs.YtbhofhobnbhhhaaDoor
open Go.RowKit

theorem at_toList (s : ByteArray) (j : Nat) (h : j < s.size) : s.data.toList[j]? = some s[j] := by
  obtain ⟨⟨l⟩⟩ := s
  have h' : j < l.length := h
  simp [List.getElem?_eq_getElem h']
  rfl
theorem toList_len (s : ByteArray) : s.data.toList.length = s.size := rfl

/-- How a call of a reader ends: a number and a bool that keep R, in a world that has at most grown. -/
def RdE (R : Int → Bool → Prop) (w : World) (e : Ending) (w' : World) : Prop := ∃ x b, e = .returned (.tuple #[.int .i64 x, .bool b]) ∧ R x b ∧ Below w.heap.size w w'
theorem RdE.mk_ {R : Int → Bool → Prop} {w w' : World} {x : Int} {b : Bool} (h : R x b) (hb : Below w.heap.size w w') : RdE R w (.returned (.tuple #[.int .i64 x, .bool b])) w' := ⟨x, b, rfl, h, hb⟩

theorem take_more (l : List UInt8) (k : Nat) (x : UInt8) (hx : l[k]? = some x) : l.take (k + 1) = l.take k ++ [x] := by
  rw [List.take_add_one, hx]
  rfl

theorem DigR.eq_ {s t : ByteArray} {m : Nat} (hm : m = val s.data.toList) (hl : m < 10000000000) (ht : t = dec m) : DigR s m (t.toList == s.toList) := by
  rw [ByteArray.toList_eq, ByteArray.toList_eq]
  by_cases h : t = s
  · rw [h, show (s.data.toList == s.data.toList) = true from by simp]
    exact DigR.yes hl (ht.symm.trans h)
  · have : (t.data.toList == s.data.toList) = false := by
      rw [beq_eq_false_iff_ne]
      intro he
      exact h (by obtain ⟨⟨a⟩⟩ := t; obtain ⟨⟨b⟩⟩ := s; simp at he; rw [he])
    rw [this]
    exact DigR.no hm (fun he => h (ht.trans he)) _

set_option maxHeartbeats 1000000 in
theorem l01Digits_any (s : ByteArray) (w : World) :
    Calls Tryd.prog 99 #[.string s] w (RdE (DigR s) w) := by
  by_cases h1 : s.size < 1
  · have hD := Lib.hid (DigR.len (.inl h1) 0)
    go_enter Tryd.func99, Tryd.ntmps99
    go_wp2_with fail
    go_ret2
    exact RdE.mk_ hD.out (Below.refl _ _)
  · by_cases h2 : 10 < s.size
    · have hD := Lib.hid (DigR.len (.inr h2) 0)
      go_enter Tryd.func99, Tryd.ntmps99
      go_wp2_with fail
      go_ret2
      exact RdE.mk_ hD.out (Below.refl _ _)
    · have h1' : 1 ≤ s.size := by omega
      have h2' : s.size ≤ 10 := by omega
      clear h1 h2
      go_enter Tryd.func99, Tryd.ntmps99
      go_wp2_with fail
      go_loop [4, 5] (fun v i => ∃ j : Nat, ∃ m : Nat, j ≤ s.size ∧ i = .int .i64 j ∧ v = .int .i64 m ∧ Hid (m = val (s.data.toList.take j)) ∧ Hid (∀ c ∈ s.data.toList.take j, isDig c)) (fun _ i => s.size - (intOf i).toNat)
      case atStart => exact ⟨0, 0, Nat.zero_le _, rfl, rfl, Lib.hid rfl, Lib.hid (by simp)⟩
      case round =>
        obtain ⟨j, m, hj, rfl, rfl, hm, hd⟩ := hrel
        have hml : m < 10000000000 := by
          rw [hm.out]
          exact val_lt _ hd.out (by rw [List.length_take, toList_len]; omega)
        by_cases hlt : j < s.size
        · have hx := at_toList s j hlt
          obtain ⟨c, hc⟩ : ∃ c, c = s[j] := ⟨_, rfl⟩
          rw [← hc] at hx
          have hix : ∀ W, (Instr.index 9 (.string s) (.int .i64 (j : Int))).run Tryd.prog W = .ok (.int .u8 (c.toNat : Int)) W := fun W => by
            rw [run_index_string W _ _ _ _ Tryd.underlying9, dif_pos ⟨by omega, by omega⟩, hc]
            rfl
          have HX := Lib.hid hx
          have hcl : c.toNat < 256 := c.toNat_lt
          clear hx hc
          by_cases hg1 : c.toNat < 48
          · have hD := Lib.hid (DigR.bad HX.out (fun h => absurd h.1 (by omega)) 0)
            go_wp2_with fail
            go_ret2
            exact RdE.mk_ hD.out (Below.refl _ _)
          · by_cases hg2 : 57 < c.toNat
            · have hD := Lib.hid (DigR.bad HX.out (fun h => absurd h.2 (by omega)) 0)
              go_wp2_with fail
              go_ret2
              exact RdE.mk_ hD.out (Below.refl _ _)
            · have e1 : IntKind.u8.wrap ((c.toNat : Int) - 48) = ((c.toNat - 48 : Nat) : Int) := by
                show ((c.toNat : Int) - 48) % 256 = _
                omega
              have hg1' : 48 ≤ c.toNat := by omega
              have hg2' : c.toNat ≤ 57 := by omega
              clear hg1 hg2
              obtain ⟨d, hdd⟩ : ∃ d, d = c.toNat - 48 := ⟨_, rfl⟩
              rw [← hdd] at e1
              have hdl : d < 10 := by omega
              have HDD := Lib.hid hdd
              clear hdd
              go_wp2_with fail
              go_round
              case rel =>
                refine ⟨j + 1, 10 * m + d, by omega, by go_num, by go_num, Lib.hid ?_, Lib.hid ?_⟩
                · rw [take_more _ _ _ HX.out, val_snoc, hm.out, HDD.out]
                · intro x hx
                  rw [take_more _ _ _ HX.out, List.mem_append, List.mem_singleton] at hx
                  rcases hx with hx | rfl
                  · exact hd.out x hx
                  · exact ⟨hg1', hg2'⟩
              case measure => simp [intOf]; omega
        · obtain rfl : j = s.size := by omega
          have hmv : m = val s.data.toList := by
            rw [hm.out, List.take_of_length_le (Nat.le_of_eq (toList_len s))]
          obtain ⟨t, ht⟩ : ∃ t, t = dec m := ⟨_, rfl⟩
          have HT := Lib.hid ht
          clear ht
          have HM := Lib.hid hmv
          clear hmv
          have hD := Lib.hid (DigR.eq_ HM.out hml HT.out)
          go_wp2_with fail
          refine (l01Dec_any 18 m _ (by omega) (by omega) (by omega)).mono ?_
          rintro e w1 ⟨rfl, hb1⟩
          rw [← HT.out]
          go_wp2_with fail
          go_ret2
          exact RdE.mk_ hD.out hb1

/-- Strings as values. -/
abbrev St (b : ByteArray) : Value := .string b
theorem infoS : (Tryd.prog.info? 9).map (fun i => (i.zero, i.size, i.bytes)) = some (some (.string ⟨#[]⟩), 1, 16) := by kernel_rfl

/-- How the call of the parter ends: a list of the call's own. -/
def SplE (R : List ByteArray) (w : World) (e : Ending) (w' : World) : Prop := ∃ A c, e = .returned (.slice A R.length c) ∧ Own St w' w.heap.size w'.heap.size 9 (.slice A R.length c) R ∧ Below w.heap.size w w'
theorem SplE.mk_ {R l : List ByteArray} {w w' : World} {A : Option Addr} {n c : Nat} (h : Own St w' w.heap.size w'.heap.size 9 (.slice A n c) l) (hl : l = R) (hb : Below w.heap.size w w') : SplE R w (.returned (.slice A n c)) w' := by
  have hn : l.length = n := h.rd.1
  subst hl hn
  exact ⟨A, c, rfl, h, hb⟩

theorem part_bytes (s : ByteArray) (i j : Nat) (h : j ≤ s.size) : (⟨((s.data.toList.take j).drop i).toArray⟩ : ByteArray) = s.extract i j := by
  obtain ⟨⟨l⟩⟩ := s
  rw [ByteArray.extract_mk]
  congr 1
  apply Array.toList_inj.mp
  simp [List.drop_take]

set_option maxRecDepth 100000 in
set_option maxHeartbeats 2000000 in
theorem l01Split_any (s : ByteArray) (m : UInt8) (w : World) (hs : s.size ≤ 1048576) :
    Calls Tryd.prog 70 #[.string s, .int .u8 (m.toNat : Int)] w (SplE (spl m [] [] s.data.toList) w) := by
  obtain ⟨i0, hi0, hz0, hz1, hz2⟩ := info_parts infoS
  obtain ⟨R, hR⟩ : ∃ R, R = spl m [] [] s.data.toList := ⟨_, rfl⟩
  rw [← hR]
  have HR := Lib.hid hR
  clear hR
  have hml : m.toNat < 256 := m.toNat_lt
  have hl0 := Own.lit0 St w 9
  have hb3 : Below w.heap.size w (w.alloc (.cells #[] 9)) := (Below.refl _ _).alloc (Nat.le_refl _) _
  go_enter Tryd.func70, Tryd.ntmps70
  go_wp2_with fail
  go_loopw [5, 6, 7] (fun v f i wr => ∃ (j fr n : Nat) (done : List ByteArray), n ≤ j ∧ fr ≤ j ∧ i = .int .i64 j ∧ f = .int .i64 fr ∧ (∃ A3 c3, v = .slice A3 n c3 ∧ Own St wr w.heap.size wr.heap.size 9 (.slice A3 n c3) done) ∧ Below w.heap.size w wr ∧ w.heap.size ≤ wr.heap.size ∧
    Hid ((j ≤ s.size ∧ spl m done ((s.data.toList.take j).drop fr) (s.data.toList.drop j) = R) ∨ (j = s.size + 1 ∧ done = R))) (fun _ _ i _ => s.size + 1 - (intOf i).toNat)
  case atStart => exact ⟨0, 0, 0, [], Nat.zero_le _, Nat.zero_le _, rfl, rfl, ⟨_, _, rfl, by simpa using hl0.mono (Nat.le_refl _) (by simp)⟩, hb3, by simp, Lib.hid (.inl ⟨Nat.zero_le _, by simpa using HR.out.symm⟩)⟩
  case round =>
    clear hl0 hb3
    obtain ⟨j, fr, n, done, hn, hfr, rfl, rfl, ⟨A3, c3, rfl, ho⟩, hb, hsz, hI⟩ := hrel
    by_cases hj : j ≤ s.size
    · have hsp : Hid (spl m done ((s.data.toList.take j).drop fr) (s.data.toList.drop j) = R) := by
        rcases hI.out with ⟨_, h⟩ | ⟨h, _⟩
        · exact h
        · omega
      clear hI
      obtain ⟨p, hp⟩ : ∃ p, p = s.extract fr j := ⟨_, rfl⟩
      have hsl : ∀ W, (Instr.slice 9 (.string s) (some (.int .i64 (fr : Int))) (some (.int .i64 (j : Int))) none).run Tryd.prog W = .ok (.string p) W := fun W => by
        rw [run_slice_string_if W _ _ _ _ _ _ Tryd.underlying9, if_pos ⟨by omega, by omega⟩, if_pos ⟨by omega, by omega⟩, hp]
        rfl
      have HP : Hid ((⟨((s.data.toList.take j).drop fr).toArray⟩ : ByteArray) = p) := by rw [hp]; exact part_bytes s fr j hj
      clear hp
      by_cases he : j = s.size
      · subst he
        go_wp2_with (at_builtin; refine wp_push _ rfl _ _ 97 rfl 9 i0 _ 16 Tryd.underlying97 hi0 hz0 hz1 hz2 rfl A3 n c3 _ _ _ rfl ho p rfl rfl (by omega) (by omega) (by omega) ?_; intro A4 c4 w4 ho4 hm4)
        go_roundw
        case rel =>
          refine ⟨s.size + 1, s.size + 1, n + 1, done ++ [p], by omega, by omega, by go_num, by go_num, ⟨_, _, rfl, ho4⟩, hb.trans (hm4.below (by omega) (by omega)), Nat.le_trans hsz hm4.size, Lib.hid (.inr ⟨rfl, ?_⟩)⟩
          have h := hsp.out
          rw [List.drop_of_length_le (Nat.le_of_eq (toList_len s)), spl, HP.out] at h
          exact h
        case measure => simp [intOf]
      · have hlt : j < s.size := by omega
        have hx := at_toList s j hlt
        obtain ⟨c, hc⟩ : ∃ c, c = s[j] := ⟨_, rfl⟩
        rw [← hc] at hx
        have hix : ∀ W, (Instr.index 9 (.string s) (.int .i64 (j : Int))).run Tryd.prog W = .ok (.int .u8 (c.toNat : Int)) W := fun W => by
          rw [run_index_string W _ _ _ _ Tryd.underlying9, dif_pos ⟨by omega, by omega⟩, hc]
          rfl
        have HX := Lib.hid hx
        have hcl : c.toNat < 256 := c.toNat_lt
        have HDR : Hid (s.data.toList.drop j = c :: s.data.toList.drop (j + 1)) := by
          rw [List.drop_eq_getElem_cons (by rw [toList_len]; exact hlt)]
          congr 1
          have := HX.out
          rw [List.getElem?_eq_getElem (by rw [toList_len]; exact hlt)] at this
          injection this
        clear hx hc he
        by_cases hcm : c.toNat = m.toNat
        · have HCM := Lib.hid (UInt8.toNat_inj.mp hcm)
          rw [hcm] at hix
          clear hcm
          go_wp2_with (at_builtin; refine wp_push _ rfl _ _ 97 rfl 9 i0 _ 16 Tryd.underlying97 hi0 hz0 hz1 hz2 rfl A3 n c3 _ _ _ rfl ho p rfl rfl (by omega) (by omega) (by omega) ?_; intro A4 c4 w4 ho4 hm4)
          go_roundw
          case rel =>
            refine ⟨j + 1, j + 1, n + 1, done ++ [p], by omega, by omega, by go_num, by go_num, ⟨_, _, rfl, ho4⟩, hb.trans (hm4.below (by omega) (by omega)), Nat.le_trans hsz hm4.size, Lib.hid (.inl ⟨by omega, ?_⟩)⟩
            have h := hsp.out
            rw [HDR.out, spl, if_pos HCM.out, HP.out] at h
            rw [List.drop_of_length_le (by rw [List.length_take]; omega)]
            exact h
          case measure => simp [intOf]; omega
        · have HCM : Hid (¬ c = m) := fun h => hcm (by rw [h])
          have t1 : ((j : Int) == (s.size : Int)) = false := by rw [beq_eq_false_iff_ne]; omega
          have t2 : ((c.toNat : Int) == (m.toNat : Int)) = false := by rw [beq_eq_false_iff_ne]; omega
          go_wp2_with fail
          go_roundw
          case rel =>
            refine ⟨j + 1, fr, n, done, by omega, by omega, by go_num, by go_num, ⟨_, _, rfl, ho⟩, hb, hsz, Lib.hid (.inl ⟨by omega, ?_⟩)⟩
            have h := hsp.out
            rw [HDR.out, spl, if_neg HCM.out] at h
            rw [take_more _ _ _ HX.out, List.drop_append_of_le_length (by rw [List.length_take, toList_len]; omega)]
            exact h
          case measure => simp [intOf]; omega
    · have hI' : done = R := by
        rcases hI.out with ⟨h, _⟩ | ⟨_, h⟩
        · omega
        · exact h
      have HI := Lib.hid hI'
      clear hI hI'
      go_wp2
      go_ret
      exact SplE.mk_ ho HI.out hb

theorem dec_small_size (n : Nat) : (dec n).size = 1 ↔ n < 10 := by
  constructor
  · intro h
    rcases Nat.lt_or_ge n 10 with h' | h'
    · exact h'
    · exfalso
      rw [dec_big n h'] at h
      have h2 : 0 < (Lib.decDigits (n / 10)).length := by
        rcases Nat.eq_zero_or_pos (Lib.decDigits (n / 10)).length with h | h
        · exact absurd (List.eq_nil_of_length_eq_zero h) (decDigits_ne _)
        · exact h
      have h3 : (dec (n / 10)).size = (Lib.decDigits (n / 10)).length := by simp [dec, ByteArray.size]
      rw [ByteArray.size_append, h3] at h
      have h4 : (⟨#[UInt8.ofNat (48 + n % 10)]⟩ : ByteArray).size = 1 := rfl
      omega
  · intro h
    rw [dec_small n h]
    rfl
theorem DigR.num {s : ByteArray} {x : Int} {n : Nat} (h : DigR s x true) (he : s = dec n) : x = n ∧ n < 10000000000 := by
  rcases h with ⟨_, m, hx, hm, hs⟩ | ⟨h, _⟩
  · have e := congrArg (fun s => val s.data.toList) (hs.symm.trans he)
    simp only [dec_data, val_decDigits] at e
    subst e
    exact ⟨hx, hm⟩
  · cases h
theorem DigR.has {s : ByteArray} {x : Int} (h : DigR s x true) : ∃ n : Nat, x = n ∧ n < 10000000000 ∧ s = dec n := by
  rcases h with ⟨_, h⟩ | ⟨h, _⟩
  · exact h
  · cases h
theorem DigR.hasnt {s : ByteArray} {x : Int} (h : DigR s x false) : ∀ n : Nat, n < 10000000000 → s ≠ dec n := by
  rcases h with ⟨h, _⟩ | ⟨_, h⟩
  · cases h
  · exact h
theorem list_two {α : Type} {l : List α} (h : l.length = 2) : ∃ a b, l = [a, b] := by
  match l, h with
  | [a, b], _ => exact ⟨a, b, rfl⟩

end Go.Proofs.YtbhofhobnbhhhaaDoor

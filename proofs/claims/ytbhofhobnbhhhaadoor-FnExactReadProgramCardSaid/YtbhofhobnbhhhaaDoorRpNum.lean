/- Contracts of the model's readers of numbers that may be negative. -/
import Derived.Test.YtbhofhobnbhhhaaDoorRpMath
import Derived.Test.YtbhofhobnbhhhaaDoorReadSpec
import Derived.Test.YtbhofhobnbhhhaaDoorIn
import Derived.OwnWalk
namespace Go.Proofs.YtbhofhobnbhhhaaDoor
open Go.RowKit
set_option linter.unusedVariables false

def SgnR (s : ByteArray) (x : Int) (b : Bool) : Prop := ∀ n : Nat, n < 10000000000 → s = dec n → b = true ∧ x = n
theorem SgnR.of_dig {s : ByteArray} {x : Int} {b : Bool} (h : DigR s x b) : SgnR s x b := by
  intro n hn he
  cases b with
  | true => exact ⟨rfl, (h.num he).1⟩
  | false => exact absurd he (h.hasnt n hn)
theorem SgnR.bad {s : ByteArray} {c : UInt8} (hc : s.data.toList[0]? = some c) (h : c.toNat = 45) (x : Int) (b : Bool) : SgnR s x b := by
  intro n _ he
  subst he
  have := decDigits_digs n c (List.mem_of_getElem? (by rw [← dec_data]; exact hc))
  unfold isDig at this
  omega

set_option maxRecDepth 100000 in
set_option maxHeartbeats 1000000 in
theorem l01Signed_any (s : ByteArray) (w : World) :
    Calls Tryd.prog 88 #[.string s] w (RdE (SgnR s) w) := by
  by_cases h0 : s.size = 0
  · have hg : ¬ (0 : Int) < (s.size : Int) := by omega
    go_enter Tryd.func88, Tryd.ntmps88
    go_wp2_with fail
    refine (l01Digits_any s _).mono ?_
    rintro e w1 ⟨x, b, rfl, hd, hb1⟩
    have hD := Lib.hid (SgnR.of_dig hd)
    clear hd
    go_wp2_with fail
    go_ret2
    exact RdE.mk_ hD.out hb1
  · have hlt : 0 < s.size := by omega
    have hx := at_toList s 0 hlt
    obtain ⟨c, hc⟩ : ∃ c, c = s[0] := ⟨_, rfl⟩
    rw [← hc] at hx
    have hix : ∀ W, (Instr.index 9 (.string s) (.int .i64 0)).run Tryd.prog W = .ok (.int .u8 (c.toNat : Int)) W := fun W => by
      rw [run_index_string W _ _ _ _ Tryd.underlying9, dif_pos ⟨by omega, by omega⟩, hc]
      rfl
    have HX := Lib.hid hx
    have hcl : c.toNat < 256 := c.toNat_lt
    have hg : (0 : Int) < (s.size : Int) := by omega
    clear hx hc h0
    by_cases h45 : c.toNat = 45
    · have HB := Lib.hid (fun x b => SgnR.bad HX.out h45 x b)
      obtain ⟨p, hp⟩ : ∃ p, p = s.extract 1 s.size := ⟨_, rfl⟩
      have hsl : ∀ W, (Instr.slice 9 (.string s) (some (.int .i64 1)) none none).run Tryd.prog W = .ok (.string p) W := fun W => by
        rw [run_slice_string_from_if W _ _ _ _ Tryd.underlying9, if_pos ⟨by omega, by omega⟩, hp]
        rfl
      clear hp
      rw [h45] at hix
      clear h45
      go_enter Tryd.func88, Tryd.ntmps88
      go_wp2_with fail
      refine (l01Digits_any p _).mono ?_
      rintro e w1 ⟨x, b, rfl, hd, hb1⟩
      clear hd
      cases b
      · go_wp2_with fail
        go_ret2
        exact RdE.mk_ (HB.out _ _) hb1
      · go_wp2_with fail
        go_ret2
        exact RdE.mk_ (HB.out _ _) hb1
    · have hne : ((c.toNat : Int) == 45) = false := by rw [beq_eq_false_iff_ne]; omega
      go_enter Tryd.func88, Tryd.ntmps88
      go_wp2_with fail
      refine (l01Digits_any s _).mono ?_
      rintro e w1 ⟨x, b, rfl, hd, hb1⟩
      have hD := Lib.hid (SgnR.of_dig hd)
      clear hd
      go_wp2_with fail
      go_ret2
      exact RdE.mk_ hD.out hb1

def NumE (WL : List ByteArray) (w : World) (e : Ending) (w' : World) : Prop :=
  ∃ A n c b NL, e = .returned (.tuple #[.slice A n c, .bool b]) ∧ Own I w' w.heap.size w'.heap.size 2 (.slice A n c) NL ∧ Px.NumR WL NL b ∧ Below w.heap.size w w'
theorem NumE.mk_ {WL : List ByteArray} {w w' : World} {A : Option Addr} {n c : Nat} {b : Bool} {NL : List Int} (ho : Own I w' w.heap.size w'.heap.size 2 (.slice A n c) NL) (h : Px.NumR WL NL b) (hb : Below w.heap.size w w') : NumE WL w (.returned (.tuple #[.slice A n c, .bool b])) w' := ⟨A, n, c, b, NL, rfl, ho, h, hb⟩
/-- The numbers read so far. -/
def NumP (WL : List ByteArray) (NL : List Int) (k : Nat) : Prop := ∀ ns : List Nat, (∀ n ∈ ns, n < 10000000000) → WL = ns.map dec → NL = (ns.take k).map fun n : Nat => (n : Int)
theorem NumP.next {WL : List ByteArray} {NL : List Int} {k : Nat} {s : ByteArray} {x : Int} {b : Bool} (h : NumP WL NL k) (hs : WL[k]? = some s) (hx : SgnR s x b) : NumP WL (NL ++ [x]) (k + 1) := fun ns hn hW => by
  rw [hW, List.getElem?_map] at hs
  cases hc : ns[k]? with
  | none => rw [hc] at hs; simp at hs
  | some n =>
    rw [hc] at hs
    simp at hs
    rw [h ns hn hW, List.take_add_one, hc, (hx n (hn n (List.mem_of_getElem? hc)) hs.symm).2]
    simp
theorem NumP.bad {WL : List ByteArray} {NL : List Int} {k : Nat} {s : ByteArray} {x : Int} (hs : WL[k]? = some s) (hx : SgnR s x false) : Px.NumR WL NL false := fun ns hn hW => by
  rw [hW, List.getElem?_map] at hs
  cases hc : ns[k]? with
  | none => rw [hc] at hs; simp at hs
  | some n =>
    rw [hc] at hs
    simp at hs
    exact absurd (hx n (hn n (List.mem_of_getElem? hc)) hs.symm).1 (by decide)
theorem NumP.all {WL : List ByteArray} {NL : List Int} {k : Nat} (h : NumP WL NL k) (hk : WL.length = k) : Px.NumR WL NL true := fun ns hn hW => by
  refine ⟨rfl, ?_⟩
  rw [h ns hn hW, List.take_of_length_le (by have := congrArg List.length hW; simp at this; omega)]

set_option maxRecDepth 100000 in
set_option maxHeartbeats 2000000 in
theorem l01Numbers_any (A : Option Addr) (n c B : Nat) (WL : List ByteArray) (w : World) (h : Rd St w B A n WL) (hB : B ≤ w.heap.size) (hn : n ≤ 1048577) :
    Calls Tryd.prog 71 #[.slice A n c] w (NumE WL w) := by
  obtain ⟨i0, hi0, hz0, hz1, hz2⟩ := info_parts infoI
  have hl0 := Own.lit0 I w 2
  have hb3 : Below w.heap.size w (w.alloc (.cells #[] 2)) := (Below.refl _ _).alloc (Nat.le_refl _) _
  have HL := Lib.hid h.1
  go_enter Tryd.func71, Tryd.ntmps71
  go_wp2_with fail
  go_loopw [4, 5] (fun v i wr => ∃ (k : Nat) (A2 : Option Addr) (c2 : Nat) (NL : List Int), k ≤ n ∧ i = .int .i64 k ∧ v = .slice A2 k c2 ∧ Own I wr w.heap.size wr.heap.size 2 (.slice A2 k c2) NL ∧ Hid (NumP WL NL k) ∧ Below w.heap.size w wr ∧ w.heap.size ≤ wr.heap.size) (fun _ i _ => n - (intOf i).toNat)
  case atStart => exact ⟨0, _, _, [], Nat.zero_le _, rfl, rfl, by simpa using hl0.mono (Nat.le_refl _) (by simp), Lib.hid (fun _ _ _ => by simp), hb3, by simp⟩
  case round =>
    clear hl0 hb3
    obtain ⟨k, A2, c2, NL, hk, rfl, rfl, ho, HP, hb, hsz⟩ := hrel
    by_cases hlt : k < n
    · obtain ⟨b1, o, x, rfl, hbB, hx, c0⟩ := (h.below hb hB).at_ hlt
      have HX := Lib.hid hx
      clear hx
      go_wp2_with fail
      refine (l01Signed_any x _).mono ?_
      rintro e w1 ⟨y, b, rfl, hd, hb1⟩
      have ho1 := ho.below hb1 (Nat.le_refl _)
      have hbb := hb.trans (hb1.mono hsz)
      have hs1 := hb1.size
      clear ho c0
      cases b
      · have HN : Hid (Px.NumR WL [] false) := Lib.hid (NumP.bad HX.out hd)
        clear hd
        go_wp2_with fail
        go_ret2
        exact NumE.mk_ Own.nil_ HN.out hbb
      · have HN : Hid (NumP WL (NL ++ [y]) (k + 1)) := Lib.hid (HP.out.next HX.out hd)
        clear hd
        go_wp2_with (at_builtin; refine wp_push _ rfl _ _ 37 rfl 2 i0 _ 8 Tryd.underlying37 hi0 hz0 hz1 hz2 rfl A2 k c2 _ _ _ rfl ho1 _ rfl rfl (by omega) (by omega) (by omega) ?_; intro A4 c4 w4 ho4 hm4)
        go_roundw
        case rel => exact ⟨k + 1, A4, c4, _, by omega, by go_num, rfl, ho4, HN, hbb.trans (hm4.below (by omega) (by omega)), Nat.le_trans hsz (Nat.le_trans hs1 hm4.size)⟩
        case measure => simp [intOf]; omega
    · have hkn : k = n := by omega
      have HN : Hid (Px.NumR WL NL true) := Lib.hid (HP.out.all (by rw [HL.out, hkn]))
      clear hkn
      go_wp2_with fail
      go_ret2
      exact NumE.mk_ ho HN.out hb
end Go.Proofs.YtbhofhobnbhhhaaDoor

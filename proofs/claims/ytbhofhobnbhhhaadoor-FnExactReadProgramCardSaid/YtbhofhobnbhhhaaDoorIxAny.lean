/- strings.IndexAny of a short word that may hold bytes of any kind, in "|-". -/
import Derived.Test.YtbhofhobnbhhhaaDoorShelf2
import Derived.Test.YtbhofhobnbhhhaaDoorWords
import Derived.Lib.OthersKept
import Derived.Laws.RangeAny
import Derived.Laws.Runes
import Derived.Deep.LoopGhost
import Derived.WalkMore
import Derived.Deep.RegionLaw
import Derived.Deep.RegionHeld3
import Derived.Deep.RegionWith
import Derived.WalkSpells
import Derived.OwnWalk
namespace Go.Proofs.YtbhofhobnbhhhaaDoor
open Go.RowKit
set_option linter.unusedVariables false

theorem encode_size (r : Int) (h : 128 ≤ r) : 2 ≤ (Utf8.encode r).size ∧ (Utf8.encode r).size ≤ 4 := by
  unfold Utf8.encode
  obtain ⟨c, hc⟩ : ∃ c, c = (if Utf8.valid r = true then r.toNat else Utf8.runeError) := ⟨_, rfl⟩
  have h1 : 128 ≤ c := by
    rw [hc]
    split
    · omega
    · decide
  simp only [← hc]
  rw [if_neg (by omega)]
  split
  · exact ⟨by show 2 ≤ 2; omega, by show 2 ≤ 4; omega⟩
  · split
    · exact ⟨by show 2 ≤ 3; omega, by show 3 ≤ 4; omega⟩
    · exact ⟨by show 2 ≤ 4; omega, by show 4 ≤ 4; omega⟩
theorem encode_two (r : Int) (h : 128 ≤ r) (h2 : (Utf8.encode r).size = 2) : ∃ c : UInt8, 128 ≤ c.toNat ∧ ∃ hl : 1 < (Utf8.encode r).size, (Utf8.encode r)[1] = c := by
  refine ⟨_, ?_, by omega, rfl⟩
  revert h2
  unfold Utf8.encode
  obtain ⟨c, hc⟩ : ∃ c, c = (if Utf8.valid r = true then r.toNat else Utf8.runeError) := ⟨_, rfl⟩
  have h1 : 128 ≤ c := by
    rw [hc]
    split
    · omega
    · decide
  simp only [← hc]
  intro h2
  by_cases h3 : c < 128
  · omega
  · by_cases h4 : c < 2048
    · simp only [if_neg h3, if_pos h4]
      show 128 ≤ (UInt8.ofNat (128 + c % 64)).toNat
      rw [UInt8.toNat_ofNat']
      omega
    · exfalso
      simp only [if_neg h3, if_neg h4] at h2
      split at h2
      · exact absurd h2 (by show ¬ 3 = 2; omega)
      · exact absurd h2 (by show ¬ 4 = 2; omega)

def AnyB (w : World) (e : Ending) (w' : World) : Prop := ∃ b, e = .returned (.bool b) ∧ w = w'
theorem AnyB.mk_ {w : World} {b : Bool} : AnyB w (.returned (.bool b)) w := ⟨b, rfl, rfl⟩
def AnyI (w : World) (e : Ending) (w' : World) : Prop := ∃ v, e = .returned (.int .i64 v) ∧ Below w.heap.size w w'
theorem AnyI.mk_ {w w' : World} {v : Int} (h : Below w.heap.size w w') : AnyI w (.returned (.int .i64 v)) w' := ⟨v, rfl, h⟩
theorem validRune_any (r : Int) (w : World) (h : 128 ≤ r) :
    Calls Tryd.prog 121 #[.int .i32 r] w (AnyB w) := by
  have h0 : 0 ≤ r := by omega
  by_cases h1 : r < 55296
  · go_enter Tryd.func121, Tryd.ntmps121
    go_wp2_with fail
    go_ret
    exact AnyB.mk_
  · by_cases h2 : 57343 < r
    · by_cases h3 : r ≤ 1114111
      · go_enter Tryd.func121, Tryd.ntmps121
        go_wp2_with fail
        go_ret
        exact AnyB.mk_
      · go_enter Tryd.func121, Tryd.ntmps121
        go_wp2_with fail
        go_ret
        exact AnyB.mk_
    · go_enter Tryd.func121, Tryd.ntmps121
      go_wp2_with fail
      go_ret
      exact AnyB.mk_

abbrev sgS : ByteArray := ⟨#[124, 45]⟩
set_option maxRecDepth 100000 in
set_option maxHeartbeats 4000000 in
theorem runeErr_any (w : World) :
    Calls Tryd.prog 106 #[.string sgS, .int .i32 65533] w (AnyI w) := by
  go_enter Tryd.func106, Tryd.ntmps106
  go_wp2_with fail
  go_loopg [5, 6] 2 (fun g _ _ wx => ∃ i : Nat, i + g = 2 ∧ wx = w.iter sgS i)
  case atStart => exact ⟨0, by omega, rfl⟩
  case round =>
    obtain ⟨i, hig, rfl⟩ := hrel
    cases gk with
    | zero =>
      obtain rfl : i = 2 := by omega
      have hnx := run_next_end (P := Tryd.prog) w sgS 2
      go_wp2_with fail
      go_ret
      exact AnyI.mk_ ((Below.refl _ _).alloc (Nat.le_refl _) _)
    | succ g =>
      have hi : i < sgS.size := by show i < 2; omega
      have hx128 : (sgS[i]'hi).toNat < 128 := by
        have : i = 0 ∨ i = 1 := by omega
        rcases this with rfl | rfl
        · show (124 : UInt8).toNat < 128
          decide
        · show (45 : UInt8).toNat < 128
          decide
      obtain ⟨x, hx⟩ : ∃ x : UInt8, sgS[i]'hi = x := ⟨_, rfl⟩
      have hnx := fun ty => run_next_ascii (P := Tryd.prog) w sgS i ty hi hx128
      rw [hx] at hnx hx128
      have hne : ((x.toNat : Int) == 65533) = false := by rw [beq_eq_false_iff_ne]; omega
      clear hx
      go_wp2_with fail
      go_roundg g
      case measure => omega
      case rel => exact ⟨i + 1, by omega, rfl⟩

set_option maxRecDepth 100000 in
set_option maxHeartbeats 4000000 in
theorem runeHigh_sg (sg : ByteArray) (hsg : sg = sgS) (r : Int) (w : World) (h : 128 ≤ r) :
    Calls Tryd.prog 106 #[.string sg, .int .i32 r] w (AnyI w) := by
  by_cases hE : r = 65533
  · subst hE hsg
    exact runeErr_any w
  · have hsz : (sg.size : Int) = 2 := by rw [hsg]; rfl
    have hsz2 : (2 : Int) ≤ (sg.size : Int) := by omega
    have h0 : 0 ≤ r := by omega
    have h1 : ¬ r < 128 := by omega
    have hEb : (r == 65533) = false := by rw [beq_eq_false_iff_ne]; exact hE
    have hes := encode_size r h
    have het := Lib.hid (encode_two r h)
    obtain ⟨rs, hrs⟩ : ∃ v, v = Utf8.encode r := ⟨_, rfl⟩
    rw [← hrs] at hes het
    obtain ⟨z, hz⟩ : ∃ v, v = rs.size := ⟨_, rfl⟩
    have hcv : ∀ W, (convert 21 9 (.int .i32 r)).run Tryd.prog W = .ok (.string rs) W := fun W => by
      rw [hrs]
      exact run_convert_int_string W _ _ _ _ (by kernel_rfl) Tryd.underlying9
    have HV := Lib.hid (fun W => validRune_any r W h)
    have ha : ∀ W, (Instr.index 9 (.string sg) (.int .i64 1)).run Tryd.prog W = .ok (.int .u8 45) W := fun W => by
      rw [run_index_string W _ _ _ _ Tryd.underlying9, dif_pos ⟨by omega, by omega⟩]
      subst hsg
      rfl
    have hem : sg.extract 2 sg.size = ByteArray.empty := by subst hsg; rfl
    have hs : ∀ W, (Instr.slice 9 (.string sg) (some (.int .i64 2)) none none).run Tryd.prog W = .ok (.string (sg.extract 2 sg.size)) W := fun W => by
      rw [run_slice_string_from_if W _ _ _ _ Tryd.underlying9, if_pos ⟨by omega, by omega⟩]
      rfl
    have hci : ∀ c W, Calls Tryd.prog 120 #[.string (sg.extract 2 sg.size), .int .u8 c] W fun e w' => e = .returned (.int .i64 (-1)) ∧ W = w' := fun c W => by
      rw [hem]
      exact (Tryd.strings_IndexByte ByteArray.empty c W).mono fun _ _ h => ⟨h.1, h.2.symm⟩
    have hu9 := Tryd.underlying9
    clear hE hrs hem hsg hs
    go_enter Tryd.func106, Tryd.ntmps106
    go_wp2_with fail
    refine (HV.out _).mono ?_
    rintro e _ ⟨b, rfl, rfl⟩
    cases b
    · go_wp2_with fail
      go_ret
      exact AnyI.mk_ (Below.refl _ _)
    · go_wp2_with fail
      go_step3
      have hl : (rs.size : Int) = (z : Int) := by rw [hz]
      by_cases hz2 : z = 2
      · obtain ⟨c, hcc, hl1, hc⟩ := het.out (by omega)
        have hcl : c.toNat < 256 := c.toNat_lt
        have hb : ∀ W, (Instr.index 9 (.string rs) (.int .i64 1)).run Tryd.prog W = .ok (.int .u8 (c.toNat : Int)) W := fun W => by
          rw [run_index_string W _ _ _ _ Tryd.underlying9, dif_pos ⟨by omega, by omega⟩, ← hc]
          rfl
        have hne : ((45 : Int) == (c.toNat : Int)) = false := by rw [beq_eq_false_iff_ne]; omega
        have hne2 : ((45 : Int) != (c.toNat : Int)) = true := by simp only [bne, hne]; rfl
        have t1 : IntKind.i64.wrap ((rs.size : Int) - 1) = 1 := by rw [hl, hz2]; rfl
        clear het hc hl1 hl hz
        go_wp2_with fail
        go_loop [9] (fun i => i = .int .i64 1) (fun _ => 0)
        case atStart => rfl
        case round =>
          subst hrel
          go_wp2_with fail
          (try go_step3)
          (try go_wp2_with fail)
          rename_i K4 hK4
          go_region
          apply hK4
          clear hK4
          go_wp2_with fail
          rename_i K5 hK5
          go_region_with (first | (go_at_call 120; refine (hci _ _).mono ?_; rintro e w5 ⟨rfl, rfl⟩))
          all_goals
            apply hK5
            clear hK5
            go_wp2_with fail
            rw [Exit.noGoto_ret]
            simp only [Exit.inBlock]
            go_ret
            exact AnyI.mk_ (below_drewN' (Below.refl _ _) 2)
      · have hz3 : 3 ≤ z := by omega
        have t1 : IntKind.i64.wrap ((rs.size : Int) - 1) = (z : Int) - 1 := by rw [hl]; exact IntWalk.i64_in _ (by omega)
        have t2 : ¬ ((z : Int) - 1 < 2) := by omega
        go_wp2_with fail
        go_loop [9] (fun i => i = .int .i64 ((z : Int) - 1)) (fun _ => 0)
        case atStart => rfl
        case round =>
          subst hrel
          go_wp2_with fail
          (try rw [Exit.noGoto_ret])
          go_ret
          exact AnyI.mk_ (Below.refl _ _)

theorem runeHigh_any (r : Int) (w : World) (h : 128 ≤ r) :
    Calls Tryd.prog 106 #[.string sgS, .int .i32 r] w (AnyI w) := runeHigh_sg sgS rfl r w h
theorem width_one (s : ByteArray) (pos : Nat) (h : pos < s.size) : 1 ≤ (Utf8.decode s pos).2 := by
  by_cases ha : (s[pos]'h).toNat < 128
  · rw [decode_ascii s pos h ha]
    exact Nat.le_refl _
  · exact (decode_high s pos h (by omega)).2
theorem rune_any (r : Int) (w : World) (h : 0 ≤ r) :
    Calls Tryd.prog 106 #[.string sgS, .int .i32 r] w (AnyI w) := by
  by_cases h1 : r < 128
  · refine (Any.strings_IndexRune_ascii { Tryd.lays153 with } sgS r w h h1).mono ?_
    rintro e w' ⟨rfl, rfl⟩
    exact AnyI.mk_ (Below.refl _ _)
  · exact runeHigh_any r w (by omega)
theorem indexAny_lt (chars : List UInt8) : ∀ l : List UInt8, Lib.indexAny l chars < l.length
  | [] => by show (-1 : Int) < 0; omega
  | b :: l => by
    have ih := indexAny_lt chars l
    unfold Lib.indexAny
    split
    · simp only [List.length_cons]; omega
    · split
      · simp only [List.length_cons]; omega
      · simp only [List.length_cons]; omega
/-- Where IndexAny points. -/
def IxE (s : ByteArray) (w : World) (e : Ending) (w' : World) : Prop :=
  ∃ r : Int, e = .returned (.int .i64 r) ∧ (-1 ≤ r ∧ r < s.size) ∧ ((∀ (j : Nat) b, s.data.toList[j]? = some b → b.toNat < 128) → r = Lib.indexAny s.data.toList [124, 45]) ∧ Below w.heap.size w w'
theorem IxE.mk_ {s : ByteArray} {w w' : World} {r : Int} (h1 : -1 ≤ r) (h2 : r < s.size) (hn : ¬ ∀ (j : Nat) b, s.data.toList[j]? = some b → b.toNat < 128) (h : Below w.heap.size w w') : IxE s w (.returned (.int .i64 r)) w' := ⟨r, rfl, ⟨h1, h2⟩, fun h => absurd h hn, h⟩
set_option maxRecDepth 100000 in
set_option maxHeartbeats 4000000 in
theorem indexAny_any (s : ByteArray) (w : World) (hs : s.size ≤ 1048576) :
    Calls Tryd.prog 90 #[.string s, .string sgS] w (IxE s w) := by
  have hlt : Lib.indexAny s.data.toList [124, 45] < (s.size : Int) := indexAny_lt _ _
  have hge := Lib.indexAny_ge [124, 45] s.data.toList
  by_cases h8 : s.size ≤ 8
  · by_cases ha : ∀ (j : Nat) b, s.data.toList[j]? = some b → b.toNat < 128
    · refine (Tryd.strings_IndexAny_short s sgS w (by show 2 ≤ 2; omega) h8 ha).mono ?_
      rintro e w' ⟨rfl, pos, rfl⟩
      exact ⟨_, rfl, ⟨hge, hlt⟩, fun _ => rfl, (Below.refl _ _).alloc (Nat.le_refl _) _⟩
    · have HA := Lib.hid ha
      have hsz : sgS.size = 2 := rfl
      have h8z : decide ((8 : Int) < (s.size : Int)) = false := decide_eq_false (by omega)
      have HC : Hid (∀ W, Calls Tryd.prog 107 #[.int .i64 (s.size : Int)] W fun e w' => e = .returned (.bool false) ∧ w' = W) := Lib.hid fun W => by
        refine (Any.strings_shouldUseASCIISet { Tryd.lays153 with } (s.size : Int) W).mono ?_
        rintro e w' ⟨rfl, rfl⟩
        rw [h8z]
        exact ⟨rfl, rfl⟩
      clear ha hlt hge h8z
      go_enter Tryd.func90, Tryd.ntmps90
      go_wp2_with fail
      refine (HC.out _).mono ?_
      rintro e w' ⟨rfl, rfl⟩
      go_wp2_with fail
      go_loopg [9, 10] s.size (fun g _ _ wx => ∃ pos : Nat, wx.heap[w'.heap.size]? = some (.stringIter s pos) ∧ Below w'.heap.size w' wx ∧ s.size ≤ pos + g)
      case atStart => exact ⟨0, World.iter_heap w' s 0, (Below.refl _ _).alloc (Nat.le_refl _) _, by omega⟩
      case round =>
        obtain ⟨pos, hit, hb, hg⟩ := hrel
        have hli : w'.heap.size < wr.heap.size := (Array.getElem?_eq_some_iff.1 hit).1
        by_cases hlt : pos < s.size
        · obtain ⟨g', rfl⟩ : ∃ g', gk = g' + 1 := ⟨gk - 1, by omega⟩
          have hnx : ∀ ty, (Instr.next (.pointer (some ⟨w'.heap.size, 0, none⟩)) true ty).run Tryd.prog wr = _ := fun ty => Lib.run_next_any_at wr w'.heap.size s pos ty hit hlt
          have hwd := width_one s pos hlt
          obtain ⟨R, hR⟩ : ∃ R, (Utf8.decode s pos).1 = R := ⟨_, rfl⟩
          obtain ⟨K, hK⟩ : ∃ K, (Utf8.decode s pos).2 = K := ⟨_, rfl⟩
          rw [hR, hK] at hnx
          rw [hK] at hwd
          have hit2 := Lib.iterAt_heap wr w'.heap.size s pos (pos + K) hit
          have hb2 := Lib.below_iterAt hb (k := w'.heap.size) (Nat.le_refl _) s (pos + K)
          have hs2 := Lib.iterAt_size wr w'.heap.size s (pos + K)
          obtain ⟨W, hWd⟩ : ∃ W, wr.iterAt w'.heap.size s (pos + K) = W := ⟨_, rfl⟩
          rw [hWd] at hnx hit2 hb2 hs2
          have HR := Lib.hid (fun V => rune_any (R : Int) V (by omega))
          clear hit hb hR hK hWd
          go_wp2_with fail
          refine (HR.out _).mono ?_
          rintro e w5 ⟨v, rfl, hb5⟩
          have hit5 : w5.heap[w'.heap.size]? = some (.stringIter s (pos + K)) := (hb5.block _ (by omega)).trans hit2
          have hbb := hb2.trans (hb5.mono (by omega))
          by_cases hv : 0 ≤ v
          · go_wp2_with fail
            go_ret
            exact IxE.mk_ (by omega) (by omega) HA.out hbb
          · go_wp2_with fail
            go_roundg g'
            case measure => omega
            case rel => exact ⟨pos + K, hit5, hbb, by omega⟩
        · have hnx := fun ty => Lib.run_next_end_at (P := Tryd.prog) wr w'.heap.size s pos ty hit hlt
          go_wp2_with fail
          go_ret
          exact IxE.mk_ (by omega) (by omega) HA.out hb
  · refine (Tryd.strings_IndexAny_long (fun w => by kernel_rfl) s sgS w (by show 2 ≤ 2; omega) (by omega) (by omega) (by show 2 < 4294967281; omega) (by
      intro j b h
      have : j = 0 ∨ j = 1 ∨ 2 ≤ j := by omega
      rcases this with rfl | rfl | h2
      · simp at h; subst h; decide
      · simp at h; subst h; decide
      · rw [List.getElem?_eq_none (by simpa using h2)] at h; cases h)).mono ?_
    rintro e w' ⟨rfl, rfl⟩
    exact ⟨_, rfl, ⟨hge, hlt⟩, fun _ => rfl, ((Below.refl _ _).alloc (Nat.le_refl _) _).alloc (by simp) _⟩
end Go.Proofs.YtbhofhobnbhhhaaDoor

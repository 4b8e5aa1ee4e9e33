/- Contracts of MirrorScheme, the model's and the program's: both answer msR and the code. -/
import Derived.Test.YtcagljdebplmcaaRepl
import Derived.Test.YtcagljdebplmcaaFoIm
namespace Go.Proofs.Ytcagljdebplmcaa
open Go.RowKit

/-- What MirrorScheme answers. -/
def msR (a b : Int) (l : List UInt8) : ByteArray := if Fo.code a b l = 0 then ⟨(l.map swB).toArray⟩ else ⟨#[]⟩

set_option maxRecDepth 100000 in
set_option maxHeartbeats 2000000 in
theorem specMs_any (a b : Int) (s : ByteArray) (w : World) (hs : s.size ≤ 1048577) :
    Calls Try.prog 38 #[.int .i64 a, .int .i64 b, .string s] w fun e w' => e = .returned (.tuple #[.string (msR a b s.data.toList), .int .i64 (Fo.code a b s.data.toList)]) ∧ Below w.heap.size w w' := by
  obtain ⟨C, hC⟩ : ∃ C, C = Fo.code a b s.data.toList := ⟨_, rfl⟩
  have hch : ∀ W, Calls Try.prog 51 #[.int .i64 a, .int .i64 b, .string s] W fun e w' => e = .returned (.int .i64 C) ∧ W = w' := fun W => by rw [hC]; exact specCode_any a b s W hs
  obtain ⟨r, hr⟩ : ∃ r, r = msR a b s.data.toList := ⟨_, rfl⟩
  rw [← hC, ← hr]
  by_cases h0 : C = 0
  · have HRr : Hid (r = ⟨(s.data.toList.map swB).toArray⟩) := by rw [hr]; unfold msR; rw [if_pos (by rw [← hC, h0])]; exact Lib.hid rfl
    have hcv : ∀ W, (convert 9 22 (.string s)).run Try.prog W = .ok (.slice (some ⟨W.heap.size, 0, none⟩) s.size (grownCap W s.size 0 5)) (Lib.bytesWorld W 5 s) := fun W => Lib.run_convert_string_bytes W _ _ _ s Try.underlying9 Try.underlying22 Try.underlying5
    have hby := Byt.new w s
    have hbb := below_bytesR w s
    subst h0
    clear hC hr
    go_enter Try.func38, Try.ntmps38
    go_wp2_with fail
    refine (hch _).mono ?_
    rintro e _ ⟨rfl, rfl⟩
    go_wp2_with fail
    generalize grownCap w s.size 0 5 = cap
    generalize Lib.bytesWorld w 5 s = w1 at hby hbb ⊢
    go_loopw [10] (fun i wr => ∃ k : Nat, k ≤ s.size ∧ i = .int .i64 (k : Int) ∧ Byt wr w.heap.size (repTo s.data.toList k) ∧ Below w.heap.size w wr) (fun i _ => s.size - (intOf i).toNat)
    case atStart => exact ⟨0, Nat.zero_le _, rfl, by rw [repTo_zero]; exact hby, hbb⟩
    case round =>
      clear hby hbb
      obtain ⟨k, hk, rfl, ho, hb⟩ := hrel
      by_cases hlt : k < s.size
      · obtain ⟨x, hx⟩ := str_get s k hlt
        have hc0 := ho.cell k (repTo_get _ k x hx)
        have hf0 := ho.free k (by rw [repTo_len, toList_len]; exact hlt)
        have HX := Lib.hid hx
        have HO := Lib.hid ho
        have hxl : x.toNat < 256 := x.toNat_lt
        clear hx ho
        by_cases h76 : x.toNat = 76
        · have hxx : x = 76 := UInt8.toNat_inj.mp h76
          have HN : Hid (Byt (wr.setCell ⟨w.heap.size, k, none⟩ (.int .u8 82)) w.heap.size (repTo s.data.toList (k + 1))) := by
            have := HO.out.set k (swB x)
            rw [repTo_step _ k x HX.out, hxx] at this
            exact Lib.hid this
          rw [h76] at hc0
          clear h76
          go_wp2_with fail
          go_roundw
          case rel => exact ⟨k + 1, by omega, by go_num, HN.out, hb.setCell (Nat.le_refl _) _⟩
          case measure => simp [intOf]; omega
        by_cases h82 : x.toNat = 82
        · have hxx : x = 82 := UInt8.toNat_inj.mp h82
          have HN : Hid (Byt (wr.setCell ⟨w.heap.size, k, none⟩ (.int .u8 76)) w.heap.size (repTo s.data.toList (k + 1))) := by
            have := HO.out.set k (swB x)
            rw [repTo_step _ k x HX.out, hxx] at this
            exact Lib.hid this
          rw [h82] at hc0
          clear h82 h76
          go_wp2_with fail
          go_roundw
          case rel => exact ⟨k + 1, by omega, by go_num, HN.out, hb.setCell (Nat.le_refl _) _⟩
          case measure => simp [intOf]; omega
        · have HN : Hid (Byt wr w.heap.size (repTo s.data.toList (k + 1))) := by
            have hsw : swB x = x := by
              unfold swB
              rw [if_neg (fun h => h76 (by rw [h]; rfl)), if_neg (fun h => h82 (by rw [h]; rfl))]
            rw [repTo_same _ k x HX.out hsw]
            exact Lib.hid HO.out
          have n1 : ¬ ((x.toNat : Int) = 76) := by omega
          have n2 : ¬ ((x.toNat : Int) = 82) := by omega
          clear h76 h82
          go_wp2_with fail
          go_roundw
          case rel => exact ⟨k + 1, by omega, by go_num, HN.out, hb⟩
          case measure => simp [intOf]; omega
      · obtain rfl : k = s.size := by omega
        have hrun := run_convert_bytes_back (P := Try.prog) wr 22 9 5 ⟨w.heap.size, 0, none⟩ cap (s.data.toList.map swB) Try.underlying22 Try.underlying5 Try.underlying9 fun j hj => by
          have he : repTo s.data.toList s.size = s.data.toList.map swB := by rw [← toList_len]; exact repTo_end _
          rw [he] at ho
          rw [addr_zero]
          exact ho.cell j (List.getElem?_eq_getElem hj)
        rw [List.length_map, toList_len, ← HRr.out] at hrun
        clear ho
        go_wp2_with fail
        go_ret2
        exact ⟨rfl, hb⟩
  · have HRr : Hid (r = ⟨#[]⟩) := by rw [hr]; unfold msR; rw [if_neg (by rw [← hC]; exact h0)]; exact Lib.hid rfl
    rw [HRr.out]
    clear hC hr
    go_enter Try.func38, Try.ntmps38
    go_wp2_with fail
    refine (hch _).mono ?_
    rintro e _ ⟨rfl, rfl⟩
    go_wp2_with fail
    go_ret2
    exact ⟨rfl, Below.refl _ _⟩

set_option maxRecDepth 100000 in
set_option maxHeartbeats 2000000 in
theorem implMs_any (a b : Int) (s : ByteArray) (w : World) (hs6 : s.size ≤ 1048576) :
    Calls Try.prog 37 #[.int .i64 a, .int .i64 b, .string s] w fun e w' => e = .returned (.tuple #[.string (msR a b s.data.toList), .int .i64 (Fo.code a b s.data.toList)]) ∧ Below w.heap.size w w' := by
  have hs : s.size ≤ 1048577 := by omega
  obtain ⟨C, hC⟩ : ∃ C, C = Fo.code a b s.data.toList := ⟨_, rfl⟩
  have hch : ∀ W, Calls Try.prog 49 #[.int .i64 a, .int .i64 b, .string s] W fun e w' => e = .returned (.int .i64 C) ∧ W = w' := fun W => by rw [hC]; exact checkScheme_any a b s W hs
  obtain ⟨r, hr⟩ : ∃ r, r = msR a b s.data.toList := ⟨_, rfl⟩
  rw [← hC, ← hr]
  by_cases h0 : C = 0
  · have HRr : Hid (r = ⟨(s.data.toList.map swB).toArray⟩) := by rw [hr]; unfold msR; rw [if_pos (by rw [← hC, h0])]; exact Lib.hid rfl
    subst h0
    clear hC hr
    go_enter Try.func37, Try.ntmps37
    go_wp2_with fail
    refine (hch _).mono ?_
    rintro e _ ⟨rfl, rfl⟩
    go_wp2_with fail
    have hg : Blk (w.alloc (.cells lrrl.toArray 9)) w.heap.size lrrl.toArray 9 := Blk.new _ _ rfl
    have hb2 : Below w.heap.size w (w.alloc (.cells lrrl.toArray 9)) := (Below.refl _ _).alloc (Nat.le_refl _) _
    refine (newReplacer_any w.heap.size _ hg).mono ?_
    rintro e w3 ⟨b1, g1, c1, rfl, hb, hbk, ho, hne, hb3⟩
    have hz3 := hb2.size
    have hb4 := hb2.trans (hb3.mono hz3)
    have hlt : w.heap.size ≤ b1 := by omega
    go_wp2_with fail
    refine (replace_any b1 w.heap.size s _ hs6 ⟨g1, c1, _, hb, hbk, ho, hne⟩ hlt).mono ?_
    rintro e w5 ⟨rfl, hb5⟩
    rw [← HRr.out]
    have hb6 := hb4.trans hb5
    go_wp2_with fail
    go_ret2
    exact ⟨rfl, hb6⟩
  · have HRr : Hid (r = ⟨#[]⟩) := by rw [hr]; unfold msR; rw [if_neg (by rw [← hC]; exact h0)]; exact Lib.hid rfl
    rw [HRr.out]
    clear hC hr
    go_enter Try.func37, Try.ntmps37
    go_wp2_with fail
    refine (hch _).mono ?_
    rintro e _ ⟨rfl, rfl⟩
    go_wp2_with fail
    go_ret2
    exact ⟨rfl, Below.refl _ _⟩
end Go.Proofs.Ytcagljdebplmcaa

/- The closure of the program's SchemesFor, and slices.IndexFunc over it. -/
import Derived.Test.YtgplciodddfpbaaFmSf
import Derived.Test.YtgplciodddfpbaaFmRd
namespace Go.Proofs.Ytgplciodddfpbaa
open Go.RowKit

theorem wrong_any (a b : Int) (A1 A2 A3 : Option Addr) (n1 n2 n3 c1 c2 c3 g B : Nat) (F G H : List Int) (s : ByteArray) (r : Bool) (w : World)
    (hg : FBx w g ⟨a, b, A1, n1, c1, A2, n2, c2, A3, n3, c3⟩) (h : RF w B ⟨a, b, A1, n1, c1, A2, n2, c2, A3, n3, c3⟩ F G H) (hB : B ≤ w.heap.size) (hok : Fm.ok a b F G H) (hsc : Fo.scheme a b s.data.toList = true)
    (hr : Fm.right a F G H s.data.toList = r) :
    Calls Try.prog 73 #[.string s, .pointer (some ⟨g, 0, none⟩)] w fun e w' => e = .returned (.bool (!r)) ∧ Below w.heap.size w w' := by
  have hc := isRight_any a b A1 A2 A3 n1 n2 n3 c1 c2 c3 g B F G H s r w hg h hB hok hsc hr
  clear hr
  cases r
  · go_enter Try.func73, Try.ntmps73
    go_wp2_with fail
    refine hc.mono ?_
    rintro e w1 ⟨rfl, hb⟩
    clear hc
    go_wp2_with fail
    go_ret
    exact ⟨rfl, hb⟩
  · go_enter Try.func73, Try.ntmps73
    go_wp2_with fail
    refine hc.mono ?_
    rintro e w1 ⟨rfl, hb⟩
    clear hc
    go_wp2_with fail
    go_ret
    exact ⟨rfl, hb⟩
set_option maxRecDepth 100000 in
set_option maxHeartbeats 4000000 in
theorem indexFunc_any (p : List UInt8 → Bool) (g : Nat) (A : Option Addr) (n c B : Nat) (L : List (List UInt8)) (w : World) (h : Rd Tv w B A n L) (hB : B ≤ w.heap.size) (hn : n ≤ 4096)
    (HF : ∀ V x, Below w.heap.size w V → x ∈ L → Calls Try.prog 73 #[Tv x, .pointer (some ⟨g, 0, none⟩)] V fun e w' => e = .returned (.bool (p x)) ∧ Below V.heap.size V w') :
    Calls Try.prog 99 #[.slice A n c, .func (.func 73) #[] #[.pointer (some ⟨g, 0, none⟩)]] w fun e w' =>
      ((∃ (k : Nat) (x : List UInt8), e = .returned (.int .i64 (k : Int)) ∧ k < n ∧ L[k]? = some x ∧ p x = true ∧ (∀ y ∈ L.take k, p y = false)) ∨ (e = .returned (.int .i64 (-1)) ∧ ∀ y ∈ L, p y = false)) ∧ Below w.heap.size w w' := by
  have HL : Hid (L.length = n) := Lib.hid h.1
  have HFF := Lib.hid HF
  clear HF
  go_enter Try.func99, Try.ntmps99
  go_wp2_with fail
  go_loopw [5, 8] (fun _ i wr => ∃ k : Nat, k ≤ n ∧ i = .int .i64 k ∧ Hid (∀ y ∈ L.take k, p y = false) ∧ Hid (Below w.heap.size w wr)) (fun _ i _ => n - (intOf i).toNat)
  case atStart => exact ⟨0, Nat.zero_le _, rfl, Lib.hid (by simp), Lib.hid (Below.refl _ _)⟩
  case round =>
    obtain ⟨k, hk, rfl, HN, HB⟩ := hrel
    have hz := HB.out.size
    by_cases hlt : k < n
    · obtain ⟨bb, oo, x, rfl, hbB, hx, hc⟩ := (h.below HB.out hB).at_ hlt
      have HX := Lib.hid hx
      have hcl := HFF.out wr x HB.out (List.mem_of_getElem? hx)
      obtain ⟨r, hr⟩ : ∃ r, p x = r := ⟨_, rfl⟩
      rw [hr] at hcl
      have HRr := Lib.hid hr
      clear hx hr
      go_wp2_with fail
      refine hcl.mono ?_
      rintro e w1 ⟨rfl, hb1⟩
      have HB1 := Lib.hid (HB.out.trans (hb1.mono hz))
      clear hcl hb1
      cases r
      · go_wp2_with fail
        go_roundw
        case rel =>
          refine ⟨k + 1, by omega, by go_num, Lib.hid ?_, HB1⟩
          rw [take_next L k x HX.out]
          intro y hy
          rcases List.mem_append.1 hy with hy | hy
          · exact HN.out y hy
          · rw [List.mem_singleton.1 hy]; exact HRr.out
        case measure => simp [intOf]; omega
      · go_wp2_with fail
        go_ret
        exact ⟨.inl ⟨k, x, rfl, hlt, HX.out, HRr.out, HN.out⟩, HB1.out⟩
    · obtain rfl : k = n := by omega
      have HA : Hid (∀ y ∈ L, p y = false) := Lib.hid (by have := HN.out; rwa [List.take_of_length_le (Nat.le_of_eq HL.out)] at this)
      go_wp2_with fail
      go_ret
      exact ⟨.inr ⟨rfl, HA.out⟩, HB.out⟩
end Go.Proofs.Ytgplciodddfpbaa

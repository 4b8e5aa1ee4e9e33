/- Whether a book is valid, the model's answer. -/
import Derived.Test.YtoanopgafihjiaaDoorBook
namespace Go.Proofs.YtoanopgafihjiaaDoor
open Go.RowKit

/-- A list of at most 20 numbers of 1..200. -/
def withB (l : List Int) : Bool := decide (l.length ≤ 20 ∧ ∀ c ∈ l, 1 ≤ c ∧ c ≤ 200)
set_option maxHeartbeats 1000000 in
theorem l01Within_any (A : Option Addr) (n c B : Nat) (l : List Int) (w : World) (h : Rd I w B A n l) (hn : n ≤ 1048576) :
    Calls Tryd.prog 57 #[.slice A n c, .int .i64 20, .int .i64 1, .int .i64 200] w fun e w' => e = .returned (.bool (withB l)) ∧ w = w' := by
  have HL : Hid (l.length = n) := h.1
  go_enter Tryd.func57, Tryd.ntmps57
  go_wp2_with fail
  go_loop [9] (fun i => ∃ k : Nat, k ≤ n ∧ i = .int .i64 k ∧ ∀ c ∈ l.take k, 1 ≤ c ∧ c ≤ 200) (fun i => n - (intOf i).toNat)
  case atStart => exact ⟨0, Nat.zero_le _, rfl, by simp⟩
  case round =>
    obtain ⟨k, hk, rfl, hall⟩ := hrel
    have HA := Lib.hid hall
    clear hall
    by_cases hlt : k < n
    · obtain ⟨b, o, x, rfl, hbB, hx, hc⟩ := h.at_ hlt
      have HX := Lib.hid hx
      clear hx
      by_cases hok : 1 ≤ x ∧ x ≤ 200
      · obtain ⟨x0, x1⟩ := hok
        go_wp2_with fail
        refine (l01In_yes _ _ _ _ x0 x1).mono ?_
        rintro e _ ⟨rfl, rfl⟩
        go_wp2_with fail
        go_round
        case rel => 
          refine ⟨k + 1, by omega, by go_num, ?_⟩
          rw [take_next l k x HX.out]
          intro y hy
          rcases List.mem_append.1 hy with hy | hy
          · exact HA.out y hy
          · simp at hy; subst hy; exact ⟨x0, x1⟩
        case measure => simp [intOf]; omega
      · have HN : Hid (withB l = false) := decide_eq_false (fun hp => hok (hp.2 x (List.mem_of_getElem? HX.out)))
        have hok' : Hid (x < 1 ∨ 200 < x) := show x < 1 ∨ 200 < x by omega
        clear hok
        go_wp2_with fail
        refine (l01In_no _ _ _ _ hok'.out).mono ?_
        rintro e _ ⟨rfl, rfl⟩
        go_wp2_with fail
        go_ret
        exact ⟨ret_b HN.out.symm, rfl⟩
    · obtain rfl : k = n := by omega
      have HN : Hid (withB l = decide ((k : Int) ≤ 20)) := by
        show _ = _
        have h1 := HL.out
        have h2 : ∀ c ∈ l, 1 ≤ c ∧ c ≤ 200 := fun y hy => HA.out y (by rw [List.take_of_length_le (Nat.le_of_eq HL.out)]; exact hy)
        unfold withB
        rw [Bool.eq_iff_iff]
        simp only [decide_eq_true_eq]
        exact ⟨fun hp => by have := hp.1; omega, fun hp => ⟨by omega, h2⟩⟩
      go_wp2_with fail
      go_ret
      exact ⟨ret_b HN.out.symm, rfl⟩

theorem with_yes (A : Option Addr) (n c B : Nat) (l : List Int) (w : World) (b : Bool) (h : Rd I w B A n l) (hn : n ≤ 1048576) (hb : withB l = b) :
    Calls Tryd.prog 57 #[.slice A n c, .int .i64 20, .int .i64 1, .int .i64 200] w fun e w' => e = .returned (.bool b) ∧ w = w' := by
  subst hb
  exact l01Within_any A n c B l w h hn

set_option maxHeartbeats 1000000 in
theorem specIsBook_any (f : Int) (A : Option Addr) (n c B : Nat) (r : Bool) (l : List Int) (w : World) (h : Rd I w B A n l) (hB : B ≤ w.heap.size) (hn : n ≤ 1048576) :
    Calls Tryd.prog 39 #[BK f A n c r] w fun e w' => e = .returned (.bool (okB f l)) ∧ Below w.heap.size w w' := by
  have HL : Hid (l.length = n) := h.1
  have h2 := h.alloc hB (Obj.cells #[.int .i64 f, .slice A n c, .bool r] 26)
  by_cases hf : 0 ≤ f ∧ f ≤ 40
  · obtain ⟨f0, f1⟩ := hf
    by_cases hp : 0 < n
    · obtain ⟨b, hb⟩ : ∃ b, withB l = b := ⟨_, rfl⟩
      have HN : Hid (okB f l = b) := by
        show _ = _
        have h1 := HL.out
        rw [← hb]
        unfold okB withB
        rw [Bool.eq_iff_iff]
        simp only [decide_eq_true_eq]
        unfold okP
        exact ⟨fun hh => ⟨hh.2.1.2, hh.2.2⟩, fun hh => ⟨⟨f0, f1⟩, ⟨by omega, hh.1⟩, hh.2⟩⟩
      have HB := Lib.hid hb
      clear hb
      go_enter Tryd.func39, Tryd.ntmps39
      go_wp2_with fail
      refine (l01In_yes _ _ _ _ f0 f1).mono ?_
      rintro e _ ⟨rfl, rfl⟩
      go_wp2_with fail
      refine (with_yes _ _ _ _ _ _ _ h2 hn HB.out).mono ?_
      rintro e _ ⟨rfl, rfl⟩
      go_wp2_with fail
      go_ret
      exact ⟨ret_b HN.out.symm, (Below.refl _ _).alloc (Nat.le_refl _) _⟩
    · have HN : Hid (okB f l = false) := okB_no (fun hh => by have := hh.2.1.1; have := HL.out; omega)
      obtain rfl : n = 0 := by omega
      go_enter Tryd.func39, Tryd.ntmps39
      go_wp2_with fail
      refine (l01In_yes _ _ _ _ f0 f1).mono ?_
      rintro e _ ⟨rfl, rfl⟩
      go_wp2_with fail
      go_ret
      exact ⟨ret_b HN.out.symm, (Below.refl _ _).alloc (Nat.le_refl _) _⟩
  · have HN : Hid (okB f l = false) := okB_no (fun hh => hf hh.1)
    have hf' : Hid (f < 0 ∨ 40 < f) := show f < 0 ∨ 40 < f by omega
    clear hf
    go_enter Tryd.func39, Tryd.ntmps39
    go_wp2_with fail
    refine (l01In_no _ _ _ _ hf'.out).mono ?_
    rintro e _ ⟨rfl, rfl⟩
    go_wp2_with fail
    go_ret
    exact ⟨ret_b HN.out.symm, (Below.refl _ _).alloc (Nat.le_refl _) _⟩
end Go.Proofs.YtoanopgafihjiaaDoor

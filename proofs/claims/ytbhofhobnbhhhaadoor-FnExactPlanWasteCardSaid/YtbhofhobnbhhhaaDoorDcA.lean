/- Contracts of the model's decimal numerals. -/
import Derived.Test.YtbhofhobnbhhhaaDoorIn
import Derived.Lib.ItoaNum
import Derived.KernelRfl
import Derived.WalkSpells
import Derived.Deep.RegionLaw
import Derived.Deep.DrawnRows
namespace Go.Proofs.YtbhofhobnbhhhaaDoor
open Go.RowKit

/-- The decimal numeral of n, as a string. -/
def dec (n : Nat) : ByteArray := ⟨(Lib.decDigits n).toArray⟩
theorem dec_size (f n : Nat) (h : n < 10 ^ f) (hf : 1 ≤ f) : (dec n).size ≤ f := by
  induction f generalizing n with
  | zero => omega
  | succ f ih =>
    unfold dec
    rw [Lib.decDigits]
    split
    · simp [ByteArray.size]
    · rename_i hn
      have hf1 : 1 ≤ f := by
        rcases Nat.eq_zero_or_pos f with h0 | h0
        · subst h0; simp at h; omega
        · exact h0
      have := ih (n / 10) (by rw [Nat.pow_succ] at h; omega) hf1
      simp [dec, ByteArray.size] at this ⊢
      exact this
theorem dec_small (n : Nat) (h : n < 10) : dec n = ⟨#[UInt8.ofNat (48 + n)]⟩ := by
  unfold dec
  rw [Lib.decDigits, dif_pos h]
theorem dec_big (n : Nat) (h : 10 ≤ n) : dec n = dec (n / 10) ++ ⟨#[UInt8.ofNat (48 + n % 10)]⟩ := by
  unfold dec
  rw [Lib.decDigits, dif_neg (by omega)]
  rfl

theorem run_str1 (W : World) (a : Addr) (c : Nat) (d : Nat) (hd : d < 256) (hc : W.cell? a = some (.int .u8 (d : Int))) :
    (convert 22 9 (.slice (some a) 1 c)).run Tryd.prog W = .ok (.string ⟨#[UInt8.ofNat d]⟩) W := by
  refine run_convert_bytes_back W _ _ _ a c [UInt8.ofNat d] Tryd.underlying22 Tryd.underlying5 Tryd.underlying9 fun j hj => ?_
  match j, hj with
  | 0, _ =>
    have e : ((UInt8.ofNat d).toNat : Int) = d := by simp [UInt8.toNat_ofNat']; omega
    simp only [List.getElem_cons_zero, e]
    rw [show a.add 0 = a from by unfold Addr.add; rfl]
    exact hc

set_option maxHeartbeats 2000000 in
theorem l01Dec_any (f : Nat) : ∀ (n : Nat) (w : World), n < 10 ^ f → f ≤ 18 → 1 ≤ f →
    Calls Tryd.prog 66 #[.int .i64 n] w fun e w' => e = .returned (.string (dec n)) ∧ Below w.heap.size w w' := by
  induction f with
  | zero => intro n w _ _ h; omega
  | succ f ih =>
    intro n w h1 hf _
    have hp : n ≤ 1000000000000000000 := by
      have : 10 ^ (f + 1) ≤ 10 ^ 18 := Nat.pow_le_pow_right (by omega) hf
      omega
    by_cases hn : n < 10
    · have HD := Lib.hid (dec_small n hn)
      obtain ⟨b, hb⟩ : ∃ b : ByteArray, b = ⟨#[UInt8.ofNat (48 + n)]⟩ := ⟨_, rfl⟩
      have hcv : ∀ W : World, (convert 22 9 (.slice (some ⟨W.heap.size, 0, none⟩) 1 1)).run Tryd.prog (W.alloc (.cells #[.int .u8 (48 + (n : Int))] 5)) = .ok (.string b) (W.alloc (.cells #[.int .u8 (48 + (n : Int))] 5)) := fun W => by
        rw [hb]
        exact run_str1 _ _ _ (48 + n) (by omega) (by simp [World.cell?_alloc_new])
      have HB := Lib.hid hb
      clear hb
      clear ih h1
      go_enter Tryd.func66, Tryd.ntmps66
      go_wp2_with fail
      go_ret
      exact ⟨by rw [HD.out, ← HB.out]; rfl, (Below.refl _ _).alloc (Nat.le_refl _) _⟩
    · have hn' : 10 ≤ n := by omega
      have HD := Lib.hid (dec_big n hn')
      have hf1 : 1 ≤ f := by
        rcases Nat.eq_zero_or_pos f with h0 | h0
        · subst h0; simp at h1; omega
        · exact h0
      obtain ⟨m, hm⟩ : ∃ m, m = n / 10 := ⟨_, rfl⟩
      obtain ⟨d, hd⟩ : ∃ d, d = n % 10 := ⟨_, rfl⟩
      rw [← hm, ← hd] at HD
      have h10 : m < 10 ^ f := by rw [Nat.pow_succ] at h1; omega
      have hd10 : d < 10 := by omega
      have hsz := dec_size f m h10 hf1
      have IH := Lib.hid (fun W => ih m W h10 (by omega) hf1)
      obtain ⟨s, hs⟩ : ∃ s, s = dec m := ⟨_, rfl⟩
      obtain ⟨b, hb⟩ : ∃ b : ByteArray, b = ⟨#[UInt8.ofNat (48 + d)]⟩ := ⟨_, rfl⟩
      rw [← hs] at hsz IH HD
      rw [← hb] at HD
      have hb1 : b.size = 1 := by rw [hb]; rfl
      have hsum : ¬ s.size + b.size > 9223372036854775807 := by omega
      have hcv : ∀ W : World, (convert 22 9 (.slice (some ⟨W.heap.size, 0, none⟩) 1 1)).run Tryd.prog (W.alloc (.cells #[.int .u8 (48 + (d : Int))] 5)) = .ok (.string b) (W.alloc (.cells #[.int .u8 (48 + (d : Int))] 5)) := fun W => by
        rw [hb]
        exact run_str1 _ _ _ (48 + d) (by omega) (by simp [World.cell?_alloc_new])
      have hcvd : ∀ W : World, (convert 22 9 (.slice (some ⟨W.heap.size, 0, none⟩) 1 1)).run Tryd.prog (W.alloc (.cells #[.int .u8 (48 + (d : Int))] 5)).drew = .ok (.string b) (W.alloc (.cells #[.int .u8 (48 + (d : Int))] 5)).drew := fun W => by
        rw [hb]
        exact run_str1 _ _ _ (48 + d) (by omega) (show (W.alloc _).cell? _ = _ by simp [World.cell?_alloc_new])
      have hcv1 : Hid (∀ (W W1 : World) (g : Nat), g = W.heap.size → Below (W.heap.size + 1) (W.alloc (.cells #[.int .u8 (48 + (d : Int))] 5)) W1 → (convert 22 9 (.slice (some ⟨g, 0, none⟩) 1 1)).run Tryd.prog W1 = .ok (.string b) W1) := fun W W1 g hg h => by
        subst hg
        rw [hb]
        exact run_str1 _ _ _ (48 + d) (by omega) (by rw [h.cell (p := ⟨W.heap.size, 0, none⟩) (by simp)]; simp [World.cell?_alloc_new])
      have e1 : IntKind.i64.wrap ((n : Int) / 10) = (m : Int) := by rw [show (n : Int) / 10 = (m : Int) from by omega]; exact IntWalk.i64_in _ (by omega)
      have e2 : (n : Int).tmod 10 = (d : Int) := by rw [Int.tmod_eq_emod_of_nonneg (by omega)]; omega
      have e3 : IntKind.i64.wrap (48 + (d : Int)) = 48 + (d : Int) := IntWalk.i64_in _ (by omega)
      have e4 : IntKind.u8.wrap (48 + (d : Int)) = 48 + (d : Int) := by
        show (48 + (d : Int)) % 256 = _
        omega
      clear ih h1 hs hb hm hd hb1 h10 hp
      go_enter Tryd.func66, Tryd.ntmps66
      go_wp2_with fail
      go_region_law ((go_simp; go_at_call 66; refine (IH.out _).mono ?_; rintro e w1 ⟨rfl, hb1⟩; (try (have hcv2 := hcv1.out w.drew w1 w.heap.size rfl (hb1.mono (by simp))))))
      all_goals
        go_wp2_with fail
        go_ret
        refine ⟨by rw [HD.out]; rfl, ?_⟩
        first
          | exact ((Below.refl w.heap.size w).drew.trans hb1).alloc hb1.size _
          | exact ((Below.refl w.heap.size w).drew.alloc (Nat.le_refl _) _).trans (hb1.mono (by simp))

theorem l01Dec_int (x : Int) (w : World) (h0 : 0 ≤ x) (h1 : x ≤ 1000000000) :
    Calls Tryd.prog 66 #[.int .i64 x] w fun e w' => e = .returned (.string (dec x.toNat)) ∧ Below w.heap.size w w' := by
  obtain ⟨n, rfl⟩ := Int.eq_ofNat_of_zero_le h0
  exact l01Dec_any 18 n w (by omega) (by omega) (by omega)
end Go.Proofs.YtbhofhobnbhhhaaDoor

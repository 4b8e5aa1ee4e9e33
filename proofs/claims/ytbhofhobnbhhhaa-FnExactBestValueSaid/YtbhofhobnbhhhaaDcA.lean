/- Contracts of the model's decimal numerals. -/
import Derived.Test.YtbhofhobnbhhhaaIn
import Derived.Lib.ItoaNum
import Derived.KernelRfl
import Derived.WalkSpells
import Derived.Deep.RegionLaw
import Derived.Deep.DrawnRows
namespace Go.Proofs.Ytbhofhobnbhhhaa
open Go.RowKit

/-- The decimal numeral of n, as a string. -/
def dec (n : Nat) : ByteArray := ⟨(Lib.decDigits n).toArray⟩
theorem dec_size (f n : Nat) (h : n < 10 ^ f) (hf : 1 ≤ f) : (dec n).size ≤ f := by
  induction f generalizing n with
  | zero => omega
  | succ f ih =>
    unfold dec
    rw [Lib.decDigits]
    split
    · simp [ByteArray.size]
    · rename_i hn
      have hf1 : 1 ≤ f := by
        rcases Nat.eq_zero_or_pos f with h0 | h0
        · subst h0; simp at h; omega
        · exact h0
      have := ih (n / 10) (by rw [Nat.pow_succ] at h; omega) hf1
      simp [dec, ByteArray.size] at this ⊢
      exact this
theorem dec_small (n : Nat) (h : n < 10) : dec n = ⟨#[UInt8.ofNat (48 + n)]⟩ := by
  unfold dec
  rw [Lib.decDigits, dif_pos h]
theorem dec_big (n : Nat) (h : 10 ≤ n) : dec n = dec (n / 10) ++ ⟨#[UInt8.ofNat (48 + n % 10)]⟩ := by
  unfold dec
  rw [Lib.decDigits, dif_neg (by omega)]
  rfl

end Go.Proofs.Ytbhofhobnbhhhaa

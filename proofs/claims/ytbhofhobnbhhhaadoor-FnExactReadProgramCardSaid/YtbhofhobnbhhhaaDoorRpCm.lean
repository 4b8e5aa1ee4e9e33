/- The words of cuts, as the program's reader takes them apart. -/
import Derived.Test.YtbhofhobnbhhhaaDoorIxAny
import Derived.Test.YtbhofhobnbhhhaaDoorCtR
import Derived.Test.YtbhofhobnbhhhaaDoorReadImpl
namespace Go.Proofs.YtbhofhobnbhhhaaDoor
open Go.RowKit
set_option linter.unusedVariables false
namespace Px
theorem ctL_ascii (c : Ct) : ∀ (j : Nat) b, (ctL c)[j]? = some b → b.toNat < 128 := fun j b h => by
  have hm := List.mem_of_getElem? h
  unfold ctL at hm
  simp only [List.mem_append, List.mem_cons] at hm
  rcases hm with hm | hm | hm
  · have := decDigits_digs _ b hm
    unfold isDig at this
    omega
  · rw [hm]
    rcases sign_two c with hs | hs <;> rw [hs] <;> decide
  · have := decDigits_digs _ b hm
    unfold isDig at this
    omega
theorem ctL_index (c : Ct) : Lib.indexAny (ctL c) [124, 45] = ((Lib.decDigits c.i.toNat).length : Int) := by
  refine Lib.indexAny_hit (x := sign c) ?_ ?_ ?_
  · intro j b hj hb
    unfold ctL at hb
    rw [List.getElem?_append_left hj] at hb
    have := decDigits_digs _ b (List.mem_of_getElem? hb)
    unfold isDig at this
    have h1 : b ≠ 124 := fun e => by subst e; exact absurd this.2 (by decide)
    have h2 : b ≠ 45 := fun e => by subst e; exact absurd this.1 (by decide)
    simp [h1, h2]
  · unfold ctL
    rw [List.getElem?_append_right (Nat.le_refl _), Nat.sub_self]
    rfl
  · rcases sign_two c with hs | hs <;> rw [hs] <;> rfl
theorem ext_list (s : ByteArray) (i j : Nat) (h : j ≤ s.size) : (s.extract i j).data.toList = (s.data.toList.take j).drop i := by
  rw [← part_bytes s i j h]
theorem ct_first (c : Ct) : (ctS c).extract 0 (Lib.decDigits c.i.toNat).length = dec c.i.toNat := by
  apply bytes_ext
  have hl : (Lib.decDigits c.i.toNat).length ≤ (ctS c).size := by
    rw [← toList_len, ctS_data]
    unfold ctL
    simp
  rw [ext_list _ _ _ hl, ctS_data, List.drop_zero]
  unfold ctL
  rw [List.take_left' rfl]
  rfl
theorem ct_rest (c : Ct) : (ctS c).extract ((Lib.decDigits c.i.toNat).length + 1) (ctS c).size = dec c.t.toNat := by
  apply bytes_ext
  rw [ext_list _ _ _ (Nat.le_refl _), ← toList_len, List.take_length, ctS_data]
  unfold ctL
  rw [← List.drop_drop, List.drop_left' rfl]
  rfl
theorem ct_sign (c : Ct) : (ctS c).extract (Lib.decDigits c.i.toNat).length ((Lib.decDigits c.i.toNat).length + 1) = ⟨#[sign c]⟩ := by
  apply bytes_ext
  have hl : (Lib.decDigits c.i.toNat).length + 1 ≤ (ctS c).size := by
    rw [← toList_len, ctS_data]
    unfold ctL
    simp
  rw [ext_list _ _ _ hl, ctS_data, List.drop_take]
  unfold ctL
  rw [List.drop_left' rfl, show (Lib.decDigits c.i.toNat).length + 1 - (Lib.decDigits c.i.toNat).length = 1 by omega]
  rfl
theorem dec_reads {x : Int} (h0 : 0 ≤ x) (h1 : x ≤ 20000) : Lib.atoiAll (dec x.toNat).data.toList = .ok x := by
  have hl := decDigits_len x.toNat (by omega)
  rw [dec_data, atoi_digs _ (decDigits_ne _) (by omega) (decDigits_digs _), val_decDigits]
  congr 1
  omega
/-- What a reader of one word answers, so far as it matters. -/
def WordR (s : ByteArray) (x : Ct) (b : Bool) : Prop := ∀ c, okC c = true → s = ctS c → x = c ∧ b = true
theorem WordR.none_ {s : ByteArray} {r : Int} (hr : (∀ (j : Nat) b, s.data.toList[j]? = some b → b.toNat < 128) → r = Lib.indexAny s.data.toList [124, 45]) (h : r < 0) (x : Ct) (b : Bool) : WordR s x b := fun c hc hs => by
  subst hs
  rw [ctS_data] at hr
  have := hr (ctL_ascii c)
  rw [ctL_index] at this
  omega
/-- The parts at the sign, if the word is a cut's. -/
def PartR (s p q m : ByteArray) : Prop := ∀ c, s = ctS c → p = dec c.i.toNat ∧ q = dec c.t.toNat ∧ m = ⟨#[sign c]⟩
theorem PartR.mk_ {s : ByteArray} {k : Nat} (hr : (∀ (j : Nat) b, s.data.toList[j]? = some b → b.toNat < 128) → (k : Int) = Lib.indexAny s.data.toList [124, 45]) : PartR s (s.extract 0 k) (s.extract (k + 1) s.size) (s.extract k (k + 1)) := fun c hs => by
  subst hs
  rw [ctS_data] at hr
  have := hr (ctL_ascii c)
  rw [ctL_index] at this
  obtain rfl : k = (Lib.decDigits c.i.toNat).length := by omega
  exact ⟨ct_first c, ct_rest c, ct_sign c⟩
theorem WordR.bad1 {s p q m : ByteArray} (h : PartR s p q m) (hv : ∀ v, Lib.atoiAll p.data.toList ≠ .ok v) (x : Ct) (b : Bool) : WordR s x b := fun c hc hs => by
  have hb := okC_iff.1 hc
  exact absurd (by rw [(h c hs).1]; exact dec_reads hb.1 hb.2.1) (hv c.i)
theorem WordR.bad2 {s p q m : ByteArray} (h : PartR s p q m) (hv : ∀ v, Lib.atoiAll q.data.toList ≠ .ok v) (x : Ct) (b : Bool) : WordR s x b := fun c hc hs => by
  have hb := okC_iff.1 hc
  exact absurd (by rw [(h c hs).2.1]; exact dec_reads hb.2.2.1 hb.2.2.2) (hv c.t)
theorem WordR.good {s p q m : ByteArray} {v u : Int} {d : Bool} (h : PartR s p q m) (hv : Lib.atoiAll p.data.toList = .ok v) (hu : Lib.atoiAll q.data.toList = .ok u) (hd : d = (m.toList == (⟨#[45]⟩ : ByteArray).toList)) : WordR s ⟨v, d, u⟩ true := fun c hc hs => by
  have hb := okC_iff.1 hc
  obtain ⟨h1, h2, h3⟩ := h c hs
  rw [h1, dec_reads hb.1 hb.2.1] at hv
  rw [h2, dec_reads hb.2.2.1 hb.2.2.2] at hu
  injection hv with hv
  injection hu with hu
  refine ⟨?_, rfl⟩
  obtain ⟨ci, ca, ct⟩ := c
  simp only at hv hu
  rw [← hv, ← hu, hd, h3, ByteArray.toList_eq, ByteArray.toList_eq]
  unfold sign
  cases ca <;> rfl
end Px
end Go.Proofs.YtbhofhobnbhhhaaDoor

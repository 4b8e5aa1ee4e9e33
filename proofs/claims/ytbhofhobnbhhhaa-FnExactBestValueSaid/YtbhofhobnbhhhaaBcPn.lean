/- Contract of the model's best plan. -/
import Derived.Test.YtbhofhobnbhhhaaBcBp
import Derived.Test.YtbhofhobnbhhhaaBcBv
import Derived.Test.YtbhofhobnbhhhaaStr
import Derived.Deep.RegionHeld3
namespace Go.Proofs.Ytbhofhobnbhhhaa
open Go.RowKit
set_option linter.unusedVariables false

/-- The table of the best values reads so. -/
def TabR (w : World) (B : Nat) (tA : Option Addr) (W0 H0 : Nat) (l : List Kd) : Prop :=
  ∀ j k, j ≤ W0 → k ≤ H0 → ∃ b o c1 b1 o1, tA = some ⟨b, o, none⟩ ∧ b < B ∧ b1 < B ∧ w.cell? ⟨b, o + j, none⟩ = some (.slice (some ⟨b1, o1, none⟩) (H0 + 1) c1) ∧ w.cell? ⟨b1, o1 + k, none⟩ = some (.int .i64 (Bc.V l j k))
theorem TabR.keep {w w' : World} {B W0 H0 : Nat} {tA : Option Addr} {l : List Kd} (h : TabR w B tA W0 H0 l) (hk : ∀ p : Addr, p.block < B → w'.cell? p = w.cell? p) : TabR w' B tA W0 H0 l := by
  intro j k hj hk'
  obtain ⟨b, o, c1, b1, o1, e, h1, h2, h3, h4⟩ := h j k hj hk'
  exact ⟨b, o, c1, b1, o1, e, h1, h2, (hk _ h1).trans h3, (hk _ h2).trans h4⟩
theorem TabR.below {w w' : World} {B B' W0 H0 : Nat} {tA : Option Addr} {l : List Kd} (h : TabR w B tA W0 H0 l) (hb : Below B' w w') (hB : B ≤ B') : TabR w' B tA W0 H0 l := h.keep fun _ hp => hb.cell (by omega)
theorem TabR.q {w w' : World} {B W0 H0 : Nat} {tA : Option Addr} {l : List Kd} (h : TabR w B tA W0 H0 l) (hq : Q w w') : TabR w' B tA W0 H0 l := by
  obtain ⟨m, rfl⟩ := hq
  exact h.keep fun _ _ => rfl
theorem sz_drewP {w w' : World} {B k : Nat} (h : Below B (w.drewN k) w') : w.heap.size ≤ w'.heap.size := h.size
/-- A string and what it says. -/
def StrP (P : List UInt8 → Prop) (w : World) (e : Ending) (w' : World) : Prop := ∃ s : ByteArray, e = .returned (.string s) ∧ P s.data.toList ∧ Below w.heap.size w w'
theorem StrP.mk_ {P : List UInt8 → Prop} {w w' : World} {s : ByteArray} (h : P s.data.toList) (hb : Below w.heap.size w w') : StrP P w (.returned (.string s)) w' := ⟨s, rfl, h, hb⟩
theorem cut_bytes (c : UInt8) (x : Nat) (a b : ByteArray) : ((⟨#[c]⟩ : ByteArray) ++ dec x ++ ⟨#[40]⟩ ++ a ++ ⟨#[41, 40]⟩ ++ b ++ ⟨#[41]⟩).data.toList = Bc.cutL c x a.data.toList b.data.toList := by
  have e : (dec x).data.toList = Lib.decDigits x := rfl
  unfold Bc.cutL
  simp [e]
theorem slice_abc (k : Nat) (hk : k < 6) (W : World) : (Instr.slice 9 (.string ⟨#[97, 98, 99, 100, 101, 102]⟩) (some (.int .i64 (k : Int))) (some (.int .i64 ((k : Int) + 1))) none).run Try.prog W = .ok (.string ⟨#[Bc.ltr k]⟩) W := by
  have hs : (⟨#[97, 98, 99, 100, 101, 102]⟩ : ByteArray).size = 6 := rfl
  rw [run_slice_string_if W _ _ _ _ _ _ Try.underlying9, if_pos ⟨by omega, by omega⟩, if_pos ⟨by omega, by omega⟩]
  have h9 : ∀ k : Fin 6, (⟨#[97, 98, 99, 100, 101, 102]⟩ : ByteArray).extract k.val (k.val + 1) = ⟨#[Bc.ltr k.val]⟩ := by decide
  have h := h9 ⟨k, hk⟩
  have e1 : ((k : Int)).toNat = k := by omega
  have e2 : ((k : Int) + 1).toNat = k + 1 := by omega
  rw [e1, e2]
  exact congrArg (fun s => Result.ok (Value.string s) W) h
end Go.Proofs.Ytbhofhobnbhhhaa

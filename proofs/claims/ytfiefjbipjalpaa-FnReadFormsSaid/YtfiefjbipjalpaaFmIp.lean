/- Contract of the program's ImposeSheet. -/
import Derived.Test.YtfiefjbipjalpaaFmSh
namespace Go.Proofs.Ytfiefjbipjalpaa
open Go.RowKit

namespace Fm
/-- What ImposeSheet answers. -/
def ipR (a b : Int) (s : List UInt8) : Int × Int × List Int × List Int × List Int × Int :=
  if Fo.code a b s = 0 then (a, b, imF a (2 ^ s.length) (LVs s) (2 ^ s.length), imB a (2 ^ s.length) (LVs s) (2 ^ s.length), imH a (2 ^ s.length) (LVs s) (2 ^ s.length), 0) else (0, 0, [], [], [], Fo.code a b s)
theorem ip_bad {a b C : Int} {s : List UInt8} {u0 u1 v : Int} {L1 L2 L3 : List Int} (hR : ipR a b s = (u0, u1, L1, L2, L3, C)) (hv : Fo.code a b s = v) (h0 : v ≠ 0) : u0 = 0 ∧ u1 = 0 ∧ L1 = [] ∧ L2 = [] ∧ L3 = [] ∧ C = v := by
  unfold ipR at hR
  rw [hv, if_neg h0] at hR
  obtain ⟨h1, h2, h3, h4, h5, h6⟩ := tup6 hR
  exact ⟨h1.symm, h2.symm, h3.symm, h4.symm, h5.symm, h6.symm⟩
theorem ip_good {a b C : Int} {s : List UInt8} {u0 u1 : Int} {L1 L2 L3 : List Int} (hR : ipR a b s = (u0, u1, L1, L2, L3, C)) (hv : Fo.code a b s = 0) : u0 = a ∧ u1 = b ∧ L1 = imF a (2 ^ s.length) (LVs s) (2 ^ s.length) ∧ L2 = imB a (2 ^ s.length) (LVs s) (2 ^ s.length) ∧ L3 = imH a (2 ^ s.length) (LVs s) (2 ^ s.length) ∧ C = 0 := by
  unfold ipR at hR
  rw [hv, if_pos rfl] at hR
  obtain ⟨h1, h2, h3, h4, h5, h6⟩ := tup6 hR
  exact ⟨h1.symm, h2.symm, h3.symm, h4.symm, h5.symm, h6.symm⟩
theorem imF_zero (w : Int) (n : Nat) (lv : List Lv) : imF w n lv 0 = List.replicate n 0 := rfl
theorem imB_zero (w : Int) (n : Nat) (lv : List Lv) : imB w n lv 0 = List.replicate n 0 := rfl
theorem imH_zero (w : Int) (n : Nat) (lv : List Lv) : imH w n lv 0 = List.replicate n 0 := rfl
end Fm

theorem Own.cellAt {w : World} {lo hi g n c k : Nat} {l : List Int} (h : Own I w lo hi 2 (.slice (some ⟨g, 0, none⟩) n c) l) (hk : k < n) : ∃ x, w.cell? ⟨g, k, none⟩ = some (I x) ∧ w.frozen? ⟨g, k, none⟩ = false ∧ lo ≤ g ∧ g < hi := by
  obtain ⟨g', x, hg, h1, h2, _, _, hc, hf⟩ := h.at_ hk
  injection hg with hg
  injection hg with hg _ _
  subst hg
  exact ⟨x, hc, hf, h1, h2⟩
end Go.Proofs.Ytfiefjbipjalpaa

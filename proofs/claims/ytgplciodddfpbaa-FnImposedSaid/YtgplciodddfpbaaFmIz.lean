/- What the form of a scheme answers, all at once. No program is called here. -/
import Derived.Test.YtgplciodddfpbaaFmIo
import Derived.Test.YtgplciodddfpbaaFmDw
namespace Go.Proofs.Ytgplciodddfpbaa
namespace Fm

theorem sh_right {w : Int} {n : Nat} {s : List UInt8} (T : Tab w n (LVs s)) (hn : n = 2 ^ s.length) (h1 : 1 ≤ n) (y : Int) : right w (shF w n (LVs s) y) (shB w n (LVs s) y) (imH w n (LVs s) n) s = true := by
  refine right_yes fun i hi => ?_
  rw [sh_read T i (by rw [hn]; exact hi), sh_lst T h1]
  congr 1
  omega
/-- All facts of the form of a scheme. -/
structure ImF (a b : Int) (s : List UInt8) (L1 L2 L3 : List Int) : Prop where
  ok : okB a b L1 L2 L3 = true
  code0 : code a b L1 L2 L3 s = 0
  ri : riR a b L1 L2 L3 s = true
  rlen : (reR a b L1 L2 L3 s).length = 2 * 2 ^ s.length
  rat : ∀ i : Nat, i < 2 * 2 ^ s.length → (reR a b L1 L2 L3 s)[i]? = some ((i : Int) + 1)
  sh : shR a b L1 L2 L3 16 = (a, b, L1.map (· + 16), L2.map (· + 16), L3, 0)
  code1 : code a b (L1.map (· + 16)) (L2.map (· + 16)) L3 s = 0
  ri1 : riR a b (L1.map (· + 16)) (L2.map (· + 16)) L3 s = true
  area : a * b = ((2 ^ s.length : Nat) : Int)
  sides : 1 ≤ a ∧ a ≤ 8 ∧ 1 ≤ b ∧ b ≤ 8
  small : 2 ^ s.length ≤ 64
  n1 : near L1
  n2 : near L2
  n3 : near (L1.map (· + 16))
  n4 : near (L2.map (· + 16))
theorem im_all {a b u0 u1 : Int} {s : List UInt8} {L1 L2 L3 : List Int} (hR : ipR a b s = (u0, u1, L1, L2, L3, 0)) : u0 = a ∧ u1 = b ∧ ImF a b s L1 L2 L3 := by
  have hc : Fo.code a b s = 0 := by
    by_cases h : Fo.code a b s = 0
    · exact h
    · have := (ip_bad hR rfl h).2.2.2.2.2
      omega
  obtain ⟨e0, e1, eL1, eL2, eL3, _⟩ := ip_good hR hc
  have hs := Fo.code_zero hc
  have T := tab_of hs
  have hsh := scheme_sheet hs
  have hab := scheme_cells hs
  obtain ⟨W, H', eW, eH, W1, W8, H1, H8, _, _, _⟩ := cells_of hsh
  obtain ⟨n, hn⟩ : ∃ n, n = 2 ^ s.length := ⟨_, rfl⟩
  have h64 : n ≤ 64 := by rw [hn]; exact pow_le6' (Fo.scheme_len hs).1
  have h1 : 1 ≤ n := by rw [hn]; exact Nat.two_pow_pos _
  rw [← hn] at T eL1 eL2 eL3 hab
  have z1 : shF a n (LVs s) 0 = L1 := by rw [eL1]; unfold shF; simp
  have z2 : shB a n (LVs s) 0 = L2 := by rw [eL2]; unfold shB; simp
  have y1 : shF a n (LVs s) 16 = L1.map (· + 16) := by rw [eL1]; rfl
  have y2 : shB a n (LVs s) 16 = L2.map (· + 16) := by rw [eL2]; rfl
  have k0 := sh_ok T hsh hab h1 (y := 0) (by omega)
  have k1 := sh_ok T hsh hab h1 (y := 16) (by omega)
  have r0 := sh_right T hn h1 0
  have r1 := sh_right T hn h1 16
  have rd0 := fun i (hi : i < 2 * n) => sh_read T (y := 0) i hi
  rw [z1, z2, ← eL3] at k0 r0 rd0
  rw [y1, y2, ← eL3] at k1 r1
  have b0 := okB_yes k0
  have b1 := okB_yes k1
  have c0 : code a b L1 L2 L3 s = 0 := by unfold code; rw [if_pos b0]; exact hc
  have c1 : code a b (L1.map (· + 16)) (L2.map (· + 16)) L3 s = 0 := by unfold code; rw [if_pos b1]; exact hc
  have hr : reR a b L1 L2 L3 s = readL a L1 L2 L3 (LVs s) := by unfold reR; rw [if_pos c0]
  have hF1 : ∀ x ∈ L1, 0 ≤ x ∧ x ≤ 128 := fun x hx => by rw [eL1] at hx; have := imF_small _ _ _ _ x hx; omega
  have hF2 : ∀ x ∈ L2, 0 ≤ x ∧ x ≤ 128 := fun x hx => by rw [eL2] at hx; have := imB_small _ _ _ _ x hx; omega
  have hsc : shC a b L1 L2 L3 16 = 0 := by
    unfold shC
    rw [if_pos b0, if_pos (by omega), if_pos b1]
  refine ⟨e0, e1, ⟨b0, c0, ?_, ?_, fun i hi => ?_, ?_, c1, ?_, by rw [← hn]; exact hab, ⟨by omega, by omega, by omega, by omega⟩, by rw [← hn]; exact h64, fun x hx => by have := hF1 x hx; omega, fun x hx => by have := hF2 x hx; omega, near_map hF1 (by omega), near_map hF2 (by omega)⟩⟩
  · unfold riR; rw [if_pos c0]; exact r0
  · rw [hr, readL_len, LVs_len]
  · rw [hr, rd0 i (by rw [hn]; exact hi)]
    congr 1
  · unfold shR
    rw [if_pos hsc]
  · unfold riR; rw [if_pos c1]; exact r1
end Fm
end Go.Proofs.Ytgplciodddfpbaa

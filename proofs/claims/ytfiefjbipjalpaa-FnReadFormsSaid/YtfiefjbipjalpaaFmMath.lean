/- The mathematics of forms: the least page, when a form is valid, what the form of a scheme is, what is read from a form. No program is called here. -/
import Derived.Test.YtfiefjbipjalpaaFoCe
namespace Go.Proofs.Ytfiefjbipjalpaa
namespace Fm

/-- The least number of a list. -/
def lst : List Int → Int
  | [] => 0
  | x :: l => l.foldl min x
theorem foldl_min (l : List Int) : ∀ x : Int, (l.foldl min x = x ∨ l.foldl min x ∈ l) ∧ l.foldl min x ≤ x ∧ ∀ y ∈ l, l.foldl min x ≤ y := by
  induction l with
  | nil => intro x; simp
  | cons a l ih =>
    intro x
    obtain ⟨h1, h2, h3⟩ := ih (min x a)
    rw [List.foldl_cons]
    refine ⟨?_, by omega, ?_⟩
    · rcases h1 with h1 | h1
      · rw [h1]
        rcases Int.le_total x a with h | h
        · left; omega
        · right; rw [show min x a = a by omega]; simp
      · right; exact List.mem_cons_of_mem _ h1
    · intro y hy
      rcases List.mem_cons.1 hy with rfl | hy
      · omega
      · exact h3 y hy
def isLst (m : Int) (L : List Int) : Prop := m ∈ L ∧ ∀ x ∈ L, m ≤ x
theorem lst_is {L : List Int} (h : L ≠ []) : isLst (lst L) L := by
  cases L with
  | nil => exact absurd rfl h
  | cons a l =>
    obtain ⟨h1, h2, h3⟩ := foldl_min l a
    refine ⟨?_, ?_⟩
    · show l.foldl min a ∈ a :: l
      rcases h1 with h1 | h1
      · rw [h1]; simp
      · exact List.mem_cons_of_mem _ h1
    · intro x hx
      rcases List.mem_cons.1 hx with rfl | hx
      · exact h2
      · exact h3 x hx
theorem isLst.eq {m m' : Int} {L : List Int} (h : isLst m L) (h' : isLst m' L) : m = m' := by
  have h1 := h.2 _ h'.1
  have h2 := h'.2 _ h.1
  omega
theorem lst_of {m : Int} {L : List Int} (h : isLst m L) : lst L = m := by
  have hne : L ≠ [] := by
    rintro rfl
    exact absurd h.1 (by simp)
  exact (lst_is hne).eq h
theorem lst_mem {L L' : List Int} (h : L ≠ []) (hm : ∀ x, x ∈ L ↔ x ∈ L') : lst L = lst L' := by
  symm
  obtain ⟨h1, h2⟩ := lst_is h
  exact lst_of ⟨(hm _).1 h1, fun x hx => h2 x ((hm _).2 hx)⟩

/-- The pages follow one another without a gap. -/
def runIn (m : Int) (L : List Int) : Prop := (∀ x ∈ L, x < m + (L.length : Int)) ∧ L.Nodup
def run (F B : List Int) : Prop := 1 ≤ lst (F ++ B) ∧ lst (F ++ B) ≤ 1000000000 ∧ runIn (lst (F ++ B)) (F ++ B)
def bits (H : List Int) : Prop := ∀ x ∈ H, 0 ≤ x ∧ x ≤ 1
instance (m : Int) (L : List Int) : Decidable (runIn m L) := by unfold runIn; exact inferInstance
instance (F B : List Int) : Decidable (run F B) := by unfold run; exact inferInstance
instance (H : List Int) : Decidable (bits H) := by unfold bits; exact inferInstance
/-- A form is valid. -/
def ok (w h : Int) (F B H : List Int) : Prop := Fo.sheet w h = true ∧ ((F.length : Int) = w * h ∧ (B.length : Int) = w * h ∧ (H.length : Int) = w * h) ∧ bits H ∧ run F B
instance (w h : Int) (F B H : List Int) : Decidable (ok w h F B H) := by unfold ok; exact inferInstance
def okB (w h : Int) (F B H : List Int) : Bool := decide (ok w h F B H)
theorem okB_no {w h : Int} {F B H : List Int} (hn : ¬ ok w h F B H) : okB w h F B H = false := decide_eq_false hn
theorem okB_yes {w h : Int} {F B H : List Int} (hn : ok w h F B H) : okB w h F B H = true := decide_eq_true hn
theorem okB_ok {w h : Int} {F B H : List Int} (hn : okB w h F B H = true) : ok w h F B H := of_decide_eq_true hn
theorem okB_iff {w h : Int} {F B H : List Int} {b : Bool} (hs : Fo.sheet w h = true) (h1 : (F.length : Int) = w * h) (h2 : (B.length : Int) = w * h) (h3 : (H.length : Int) = w * h) (h4 : bits H) (hb : decide (run F B) = b) : okB w h F B H = b := by
  subst hb
  unfold okB
  rw [Bool.eq_iff_iff]
  simp only [decide_eq_true_eq]
  exact ⟨fun h => h.2.2.2, fun h => ⟨hs, ⟨h1, h2, h3⟩, h4, h⟩⟩
/-- A sheet has 1 to 64 cells. -/
theorem side_is {n : Int} (h : Fo.side n = true) : n = 1 ∨ n = 2 ∨ n = 4 ∨ n = 8 := by
  rcases Fo.side_cases h with h | h | h | h <;> omega
theorem cells_of {w h : Int} (hs : Fo.sheet w h = true) : ∃ W H : Nat, w = (W : Int) ∧ h = (H : Int) ∧ 1 ≤ W ∧ W ≤ 8 ∧ 1 ≤ H ∧ H ≤ 8 ∧ w * h = ((W * H : Nat) : Int) ∧ 1 ≤ W * H ∧ W * H ≤ 64 := by
  obtain ⟨h1, h2⟩ := Fo.sheet_parts hs
  have q1 := side_is h1
  have q2 := side_is h2
  obtain ⟨W, rfl⟩ := Int.eq_ofNat_of_zero_le (show 0 ≤ w by omega)
  obtain ⟨H, rfl⟩ := Int.eq_ofNat_of_zero_le (show 0 ≤ h by omega)
  refine ⟨W, H, rfl, rfl, by omega, by omega, by omega, by omega, by push_cast; rfl, Nat.mul_pos (by omega) (by omega), Nat.mul_le_mul (show W ≤ 8 by omega) (show H ≤ 8 by omega)⟩
theorem cells_pos {w h : Int} (hs : Fo.sheet w h = true) : ∃ n : Nat, w * h = (n : Int) ∧ 1 ≤ n ∧ n ≤ 64 := by
  obtain ⟨W, H, _, _, _, _, _, _, h1, h2, h3⟩ := cells_of hs
  exact ⟨W * H, h1, h2, h3⟩

/-- The two codes of a form and a scheme. -/
def code (w h : Int) (F B H : List Int) (s : List UInt8) : Int := if okB w h F B H = true then Fo.code w h s else 1

/-- The cell of a leaf, on the front and on the back. -/
def fc (w : Int) (v : Lv) : Nat := (v.y * w + v.x).toNat
def bc (w : Int) (v : Lv) : Nat := (v.y * w + (w - 1 - v.x)).toNat
/-- The leaf is one of the sheet. -/
def On (w h : Int) (v : Lv) : Prop := 0 ≤ v.x ∧ v.x < w ∧ 0 ≤ v.y ∧ v.y < h
theorem cell_at {w h x y : Int} (hs : Fo.sheet w h = true) (hx : 0 ≤ x) (hx' : x < w) (hy : 0 ≤ y) (hy' : y < h) : 0 ≤ y * w + x ∧ y * w + x < w * h ∧ 0 ≤ y * w ∧ y * w ≤ 64 := by
  obtain ⟨W, H, rfl, rfl, h1, h2, h3, h4, h5, h6, h7⟩ := cells_of hs
  obtain ⟨X, rfl⟩ := Int.eq_ofNat_of_zero_le hx
  obtain ⟨Y, rfl⟩ := Int.eq_ofNat_of_zero_le hy
  have e : (Y : Int) * (W : Int) = ((Y * W : Nat) : Int) := by push_cast; rfl
  have e2 : W * H = H * W := Nat.mul_comm _ _
  have l1 : Y * W + W ≤ H * W := by
    have := Nat.mul_le_mul_right W (show Y + 1 ≤ H by omega)
    rwa [Nat.add_mul, Nat.one_mul] at this
  rw [h5, e]
  omega
theorem fc_at {w h : Int} {v : Lv} (hs : Fo.sheet w h = true) (ho : On w h v) : v.y * w + v.x = (fc w v : Int) ∧ (fc w v : Int) < w * h ∧ 0 ≤ v.y * w ∧ v.y * w ≤ 64 := by
  have := cell_at hs ho.1 ho.2.1 ho.2.2.1 ho.2.2.2
  unfold fc
  omega
theorem bc_at {w h : Int} {v : Lv} (hs : Fo.sheet w h = true) (ho : On w h v) : v.y * w + (w - 1 - v.x) = (bc w v : Int) ∧ (bc w v : Int) < w * h := by
  have := cell_at hs (show 0 ≤ w - 1 - v.x by have := ho.2.1; omega) (show w - 1 - v.x < w by have := ho.1; omega) ho.2.2.1 ho.2.2.2
  unfold bc
  omega
theorem LVs_on {w h : Int} {s : List UInt8} (hs : Fo.scheme w h s = true) {j : Nat} {v : Lv} (hv : (LVs s)[j]? = some v) : On w h v := by
  obtain ⟨h1, h2, h3⟩ := LVs_cell hv
  have := cell_in hs h1
  unfold On
  rw [h2, h3]
  exact this
theorem scheme_cells {w h : Int} {s : List UInt8} (hs : Fo.scheme w h s = true) : w * h = ((2 ^ s.length : Nat) : Int) := by
  obtain ⟨ha, hb⟩ := sheet_side hs
  have hn := Fo.nX_add_nY s.reverse
  rw [List.length_reverse] at hn
  rw [ha, hb, ← hn, Nat.pow_add]
  push_cast
  rfl
theorem scheme_sheet {w h : Int} {s : List UInt8} (hs : Fo.scheme w h s = true) : Fo.sheet w h = true := by
  unfold Fo.scheme at hs
  simp only [Bool.and_eq_true] at hs
  exact hs.1.1.1

/-- The form of a scheme, when some leaves have got their pages. -/
def up (k : Nat) (v : Lv) : Int := if v.down then 2 * (k : Int) + 2 else 2 * (k : Int) + 1
def dn (k : Nat) (v : Lv) : Int := if v.down then 2 * (k : Int) + 1 else 2 * (k : Int) + 2
def imF (w : Int) (n : Nat) (lv : List Lv) : Nat → List Int
  | 0 => List.replicate n 0
  | k + 1 => match lv[k]? with
    | some v => (imF w n lv k).set (fc w v) (up k v)
    | none => imF w n lv k
def imB (w : Int) (n : Nat) (lv : List Lv) : Nat → List Int
  | 0 => List.replicate n 0
  | k + 1 => match lv[k]? with
    | some v => (imB w n lv k).set (bc w v) (dn k v)
    | none => imB w n lv k
def imH (w : Int) (n : Nat) (lv : List Lv) : Nat → List Int
  | 0 => List.replicate n 0
  | k + 1 => match lv[k]? with
    | some v => if v.fy = true then (imH w n lv k).set (fc w v) 1 else imH w n lv k
    | none => imH w n lv k
theorem imF_next {w : Int} {n k : Nat} {lv : List Lv} {v : Lv} (h : lv[k]? = some v) : imF w n lv (k + 1) = (imF w n lv k).set (fc w v) (up k v) := by rw [imF, h]
theorem imB_next {w : Int} {n k : Nat} {lv : List Lv} {v : Lv} (h : lv[k]? = some v) : imB w n lv (k + 1) = (imB w n lv k).set (bc w v) (dn k v) := by rw [imB, h]
theorem imH_next {w : Int} {n k : Nat} {lv : List Lv} {v : Lv} (h : lv[k]? = some v) : imH w n lv (k + 1) = if v.fy = true then (imH w n lv k).set (fc w v) 1 else imH w n lv k := by rw [imH, h]
theorem imF_len (w : Int) (n : Nat) (lv : List Lv) (k : Nat) : (imF w n lv k).length = n := by
  induction k with
  | zero => simp [imF]
  | succ k ih => rw [imF]; split <;> simp [ih]
theorem imB_len (w : Int) (n : Nat) (lv : List Lv) (k : Nat) : (imB w n lv k).length = n := by
  induction k with
  | zero => simp [imB]
  | succ k ih => rw [imB]; split <;> simp [ih]
theorem imH_len (w : Int) (n : Nat) (lv : List Lv) (k : Nat) : (imH w n lv k).length = n := by
  induction k with
  | zero => simp [imH]
  | succ k ih => rw [imH]; split <;> (try split) <;> simp [ih]

/-- What is read of a leaf: its upper page and its lower one. -/
def pg (w : Int) (F B : List Int) (v : Lv) (lo : Bool) : Int := if (v.down != lo) = true then B.getD (bc w v) 0 else F.getD (fc w v) 0
def rd (w : Int) (F B H : List Int) (v : Lv) (lo : Bool) : Int := if (v.fy != (H.getD (fc w v) 0 == 1)) = true then -pg w F B v lo else pg w F B v lo
def readL (w : Int) (F B H : List Int) (lv : List Lv) : List Int := lv.flatMap fun v => [rd w F B H v false, rd w F B H v true]
theorem readL_len (w : Int) (F B H : List Int) (lv : List Lv) : (readL w F B H lv).length = 2 * lv.length := by
  unfold readL
  induction lv with
  | nil => rfl
  | cons v lv ih => rw [List.flatMap_cons, List.length_append, ih, List.length_cons]; simp; omega
theorem readL_at (w : Int) (F B H : List Int) (lv : List Lv) : ∀ (i : Nat) (v : Lv), lv[i / 2]? = some v → (readL w F B H lv)[i]? = some (rd w F B H v (i % 2 == 1)) := by
  unfold readL
  induction lv with
  | nil => intro i v h; simp at h
  | cons a lv ih =>
    intro i v h
    rw [List.flatMap_cons]
    match i, h with
    | 0, h => simp at h; subst h; rfl
    | 1, h => simp at h; subst h; rfl
    | i + 2, h =>
      rw [show (i + 2) / 2 = i / 2 + 1 from by omega, List.getElem?_cons_succ] at h
      have := ih i v h
      rw [show (i + 2) % 2 = i % 2 from by omega, ← this]
      rfl
theorem readL_next (w : Int) (F B H : List Int) (lv : List Lv) (k : Nat) (v : Lv) (h : lv[k]? = some v) : readL w F B H (lv.take (k + 1)) = readL w F B H (lv.take k) ++ [rd w F B H v false, rd w F B H v true] := by
  unfold readL
  rw [take_next lv k v h, List.flatMap_append]
  simp
/-- What ReadForm hands back. -/
def reR (w h : Int) (F B H : List Int) (s : List UInt8) : List Int := if code w h F B H s = 0 then readL w F B H (LVs s) else []
/-- The pages that are read follow one another from the least one on. -/
def right (w : Int) (F B H : List Int) (s : List UInt8) : Bool := decide (∀ i : Nat, i < 2 * 2 ^ s.length → (readL w F B H (LVs s))[i]? = some (lst (F ++ B) + (i : Int)))
def riR (w h : Int) (F B H : List Int) (s : List UInt8) : Bool := if code w h F B H s = 0 then right w F B H s else false
theorem right_no {w : Int} {F B H : List Int} {s : List UInt8} {i : Nat} {x : Int} (hx : (readL w F B H (LVs s))[i]? = some x) (hne : x ≠ lst (F ++ B) + (i : Int)) : right w F B H s = false := by
  refine decide_eq_false fun h => hne ?_
  have hi : i < 2 * 2 ^ s.length := by
    have := (List.getElem?_eq_some_iff.1 hx).1
    rwa [readL_len, LVs_len] at this
  have := h i hi
  rw [hx] at this
  exact Option.some.inj this
theorem right_yes {w : Int} {F B H : List Int} {s : List UInt8} (h : ∀ i : Nat, i < 2 * 2 ^ s.length → (readL w F B H (LVs s))[i]? = some (lst (F ++ B) + (i : Int))) : right w F B H s = true := decide_eq_true h

theorem code_zero {w h : Int} {F B H : List Int} {s : List UInt8} (hc : code w h F B H s = 0) : ok w h F B H ∧ Fo.code w h s = 0 := by
  unfold code at hc
  by_cases hb : okB w h F B H = true
  · rw [if_pos hb] at hc
    exact ⟨okB_ok hb, hc⟩
  · rw [if_neg hb] at hc
    omega
end Fm
end Go.Proofs.Ytfiefjbipjalpaa

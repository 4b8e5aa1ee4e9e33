/- The contract of the model's CreasesOf. -/
import Derived.Test.YtjpfbonnohodhaaGreatDoorStCr
import Derived.BigRegion
namespace Go.Proofs.YtjpfbonnohodhaaGreatDoor
open Go.RowKit Go.Shelf

/-- Numbers as bytes. -/
abbrev EN (x : Nat) : Value := .int .u8 (x : Int)
theorem neUI : (5 : TypeId) ≠ 2 := by decide
theorem neUL : (5 : TypeId) ≠ 27 := by decide
/-- What lies in blocks of another type than bytes stays where only block g of bytes is written. -/
theorem Own.apart {α : Type} {enc : α → Value} {w w' : World} {lo hi g : Nat} {e : TypeId} {v : Value} {l : List α} {cs : Array Value} {fr : Nat × Nat} (h : Own enc w lo hi e v l) (hg : w.heap[g]? = some (.cells cs 5 fr)) (ht : (5 : TypeId) ≠ e) (ho : Only g (g + 1) w w') : Own enc w' lo hi e v l :=
  h.keepT fun b cs' fr' _ hb => ho.block b (Array.getElem?_eq_some_iff.1 hb).1 (by
    have hne : b ≠ g := by
      rintro rfl
      have := hg.symm.trans hb
      injection this with this
      injection this with _ this
      exact ht this
    omega)
theorem Stk.apart {w w' : World} {lo n c g : Nat} {A : Option Addr} {ls : List (List Int)} {cs : Array Value} {fr : Nat × Nat} (h : Stk w lo A n c ls) (hg : w.heap[g]? = some (.cells cs 5 fr)) (ho : Only g (g + 1) w w') : Stk w' lo A n c ls := by
  obtain ⟨hs, h1, h2, h3⟩ := h
  refine ⟨hs, (h1.apart hg neUL ho).mono (Nat.le_refl _) ho.size, ⟨h2.1, fun j hh hj => ?_⟩, h3⟩
  obtain ⟨l, hl, hd⟩ := h2.2 j hh hj
  exact ⟨l, hl, (Own.apart hd hg neUI ho).mono (Nat.le_refl _) ho.size⟩
theorem Own.heap {α : Type} {enc : α → Value} {w : World} {lo hi g n c : Nat} {e : TypeId} {l : List α} (h : Own enc w lo hi e (.slice (some ⟨g, 0, none⟩) n c) l) (_hn : 0 < n ∨ True) : (∃ cs fr, w.heap[g]? = some (.cells cs e fr)) := by
  rcases h.1.2 with ⟨hv, _⟩ | ⟨g', cap, cur, hv, hlo, hg, _⟩
  · cases hv
  · injection hv with hv _ _
    injection hv with hv
    injection hv with hv _ _
    subst hv
    exact ⟨cur, _, hg⟩
theorem Own.only1 {α : Type} {enc : α → Value} {w : World} {lo hi g n c k : Nat} {e : TypeId} {l : List α} (_h : Own enc w lo hi e (.slice (some ⟨g, 0, none⟩) n c) l) (x : α) : Only g (g + 1) w (w.setCell ⟨g, k, none⟩ (enc x)) :=
  ⟨rfl, rfl, rfl, by simp, fun b _ hne => heap_setCell_other w ⟨g, k, none⟩ b _ (fun e => by have e' : b = g := e; omega)⟩
theorem toN_small (l : List UInt8) (i : Nat) : ∀ v ∈ St.crToN l i, v < 256 := by
  have hin : ∀ (left right : List Int) (k : Nat) (out : List Nat), (∀ v ∈ out, v < 256) → ∀ v ∈ St.crInN left right out k, v < 256 := by
    intro left right k
    induction k with
    | zero => intro out h; exact h
    | succ k ih =>
      intro out h v hv
      rw [St.crInN_next] at hv
      rcases List.mem_or_eq_of_mem_set hv with hv | hv
      · exact ih out h v hv
      · subst hv
        unfold St.crVal
        split <;> omega
  induction i with
  | zero => intro v hv; simp [St.crToN] at hv; omega
  | succ i ih => exact hin _ _ _ _ ih

theorem crB_get (l : List Nat) (j : Nat) (hj : j < (St.crB l).length) (z : Nat) (hz : l[j]? = some z) (h : z < 256) : (((St.crB l)[j]).toNat : Int) = (z : Int) := by
  have h1 : (St.crB l)[j]? = some (UInt8.ofNat z) := by simp [St.crB, hz]
  rw [(List.getElem?_eq_some_iff.1 h1).2]
  simp [UInt8.toNat_ofNat']
  omega

end Go.Proofs.YtjpfbonnohodhaaGreatDoor

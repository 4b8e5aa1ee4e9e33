/- One cut is appended in a region of any order; words that a program's text has. -/
import Derived.Test.YtbhofhobnbhhhaaDoorCtK
import Derived.Test.YtbhofhobnbhhhaaDoorRpMath
import Derived.Test.YtbhofhobnbhhhaaDoorReadSpec
namespace Go.Proofs.YtbhofhobnbhhhaaDoor
open Go.RowKit
set_option linter.unusedVariables false

theorem step_pushKCt (w : World) {ops : Array Oper} {o : Oper} {a : Act} {K : Act → World → Prop} {Qx : Exit → Act → World → Prop} {E : Prop} (hgd : o.guard = none) (s x : Operand) (ts : TypeId)
    (ho : o.op = .call { callee := .builtin .append, args := #[s, x], argTypes := #[ts, ts] }) (ht : Tryd.prog.underlying ts = some (.slice 76))
    (A : Option Addr) (n c : Nat) (l : List Ct) (lo hi' : Nat) (hs : a.eval s = .slice A n c) (hown : OwnS Ct.S w lo hi' (.slice A n c) l) (y : Ct) (G : Nat)
    (hx : a.eval x = .slice (some ⟨G, 0, none⟩) 1 1) (hG : w.heap.size = G) (hn : n ≤ 1048577) (hbase : lo ≤ w.heap.size)
    (h : ∀ A' c' w', OwnS Ct.S w' lo w'.heap.size (.slice A' (n + 1) c') (l ++ [y]) → Only lo hi' w w' → Kept w w' (.slice A n c) (.slice A' (n + 1) c') → K (a.put o.dst (.slice A' (n + 1) c')) w') :
    if Region.wanted o (yielded ops a.tmps) = true then Oper.wp Tryd.prog o a (w.alloc (.cells #[.int .i64 y.i, .bool y.a, .int .i64 y.t] 76)) K Qx else E := by
  subst hG
  obtain ⟨i0, hi0, hz0, hz1, hz2⟩ := info_parts infoCt
  have hl : l.length = n := hown.rd.1
  have hr := hown.1
  rw [hl] at hr
  refine step_append_lies (w := w.alloc (.cells #[.int .i64 y.i, .bool y.a, .int .i64 y.t] 76)) hgd s x ts ho lo 76 i0 _ 3 24 ht hi0 hz0 hz1 hz2 rfl (by omega) (.slice A n c) n (l.flatMap Ct.S.enc) hs (hr.alloc _) ⟨w.heap.size, 0, none⟩ 1 1 y.enc hx rfl (World.news_of_block (heap_alloc_new w _)) (Ct.S.one y) (by omega) (by unfold maxLen; omega) (by omega) (by simp; omega) (w.heap.size + 1) (by simp) ?_
  intro g cap w' hown' hg hwhere _
  have hmap : l.flatMap Ct.S.enc ++ y.enc = (l ++ [y]).flatMap Ct.S.enc := by simp [Ct.S]
  rw [hmap] at hown'
  refine h (some ⟨g, 0, none⟩) cap w' (OwnS.here hown' (by simp [hl])) ?_ ?_
  · refine (Only.of_below ((Below.refl _ _).alloc (Nat.le_refl _) _) lo hi').trans (Only.grown hg fun g hg' => ?_)
    have := hown.lt g hg'
    omega
  · intro k hk hfar
    refine ⟨?_, ?_⟩
    · rw [hg.block k (by simp; omega) (fun e => hfar e.symm)]
      exact Below.heap_alloc w _ k hk
    · intro e
      simp only [Value.ownBlock, Option.some.injEq] at e
      rcases hwhere with hw | hw
      · exact hfar (by rw [hw, e])
      · omega
theorem atWc {P : Program} (w : World) {c : Prop} [Decidable c] {o : Oper} {a : Act} {K : Act → World → Prop} {Qx : Exit → Act → World → Prop} {E : Prop} (h : if c then Oper.wp P o a w K Qx else E) : if c then Oper.wp P o a w K Qx else E := h
namespace Px
theorem spl_size (m : UInt8) (l : List UInt8) : ∀ done cur x, x ∈ spl m done cur l → x ∈ done ∨ x.size ≤ cur.length + l.length := by
  induction l with
  | nil =>
    intro done cur x h
    simp [spl] at h
    rcases h with h | h
    · exact .inl h
    · right
      rw [h]
      simp [ByteArray.size]
  | cons c r ih =>
    intro done cur x h
    rw [spl] at h
    split at h
    · rcases ih _ _ x h with h | h
      · rw [List.mem_append, List.mem_singleton] at h
        rcases h with h | h
        · exact .inl h
        · right
          rw [h]
          simp [ByteArray.size]
      · right
        simp at h ⊢
        omega
    · rcases ih _ _ x h with h | h
      · exact .inl h
      · right
        simp at h ⊢
        omega
theorem spl_part {m : UInt8} {s x : ByteArray} {k : Nat} (h : (spl m [] [] s.data.toList)[k]? = some x) : x.size ≤ s.size := by
  rcases spl_size m s.data.toList [] [] x (List.mem_of_getElem? h) with h | h
  · simp at h
  · rw [toList_len] at h
    simpa using h
theorem spl_count (m : UInt8) (s : ByteArray) : 1 ≤ (spl m [] [] s.data.toList).length ∧ (spl m [] [] s.data.toList).length ≤ 1 + s.size := by
  have := spl_len m s.data.toList [] []
  rw [toList_len] at this
  simpa using this
theorem bad_word {x : ByteArray} {m : UInt8} {NL : List Int} {b : Bool} (hm : m = if (spl 45 [] [] x.data.toList).length = 2 then 45 else 124) (hN : NumR (spl m [] [] x.data.toList) NL b) (h : b = false ∨ NL.length ≠ 2 ∨ ∃ p q, NL = [p, q] ∧ (p < 0 ∨ q < 0)) : ∀ c, okC c = true → x ≠ ctS c := fun c hc hx => by
  rw [by_ct hx hm] at hN
  obtain ⟨h1, h2⟩ := NumR.of_ct hc hx hN
  have hb := okC_iff.1 hc
  rcases h with h | h | ⟨p, q, h, h3⟩
  · rw [h] at h1; cases h1
  · exact h (by rw [h2]; rfl)
  · rw [h2] at h
    simp at h
    omega
theorem good_word {x : ByteArray} {m : UInt8} {NL : List Int} {b d : Bool} {p q : Int} (hm : m = if (spl 45 [] [] x.data.toList).length = 2 then 45 else 124) (hN : NumR (spl m [] [] x.data.toList) NL b) (hNL : NL = [p, q]) (hd : d = decide (m = 45)) : ∀ c, okC c = true → x = ctS c → (⟨p, d, q⟩ : Ct) = c := fun c hc hx => by
  have hs := by_ct hx hm
  rw [hs] at hN hd
  obtain ⟨_, h2⟩ := NumR.of_ct hc hx hN
  rw [hNL] at h2
  simp at h2
  obtain ⟨ci, ca, ct⟩ := c
  simp only at h2
  obtain ⟨rfl, rfl⟩ := h2
  rw [hd]
  unfold sign
  cases ca <;> rfl
theorem words_len {s : ByteArray} {W : List ByteArray} (hW : ∀ g, ptS g = s → W = g.map ctS) {k : Nat} (hk : W.length = k) : ∀ g, ptS g = s → g.length ≤ k := fun g hg => by
  have := congrArg List.length (hW g hg)
  simp at this
  omega
theorem RP.len {s : ByteArray} {R : List Ct} {b : Bool} (h : RP s R b) : R.length ≤ 79 := by
  rcases h with ⟨_, h1, h2⟩ | ⟨_, h1, _⟩
  · by_cases hs : s = ⟨#[]⟩
    · rw [h2 hs]; simp
    · exact (of_pt h1 hs).2.1
  · rw [h1]; simp
end Px
/-- How a reader of programs ends: a list of its own and a bool. -/
def RpE (s : ByteArray) (w : World) (e : Ending) (w' : World) : Prop :=
  ∃ A n c R b, e = .returned (.tuple #[.slice A n c, .bool b]) ∧ OwnS Ct.S w' w.heap.size w'.heap.size (.slice A n c) R ∧ Px.RP s R b ∧ Below w.heap.size w w'
theorem RpE.mk_ {s : ByteArray} {w w' : World} {A : Option Addr} {n c : Nat} {R : List Ct} {b : Bool} (ho : OwnS Ct.S w' w.heap.size w'.heap.size (.slice A n c) R) (h : Px.RP s R b) (hb : Below w.heap.size w w') : RpE s w (.returned (.tuple #[.slice A n c, .bool b])) w' := ⟨A, n, c, R, b, rfl, ho, h, hb⟩
theorem cell_same {w w' : World} {g i : Nat} (h : w'.heap[g]? = w.heap[g]?) : w'.cell? ⟨g, i, none⟩ = w.cell? ⟨g, i, none⟩ := World.cell?_of_block h
end Go.Proofs.YtbhofhobnbhhhaaDoor

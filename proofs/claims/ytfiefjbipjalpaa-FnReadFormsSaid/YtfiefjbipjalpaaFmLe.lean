/- Contracts of the least page of a form, the model's and the program's. -/
import Derived.Test.YtfiefjbipjalpaaFmW
import Derived.BigRegion
namespace Go.Proofs.Ytfiefjbipjalpaa
open Go.RowKit

/-- slices.Min of a list that is not empty. -/
theorem take1 {L : List Int} {x : Int} (h : L[0]? = some x) : L.take 1 = [x] := by
  cases L with
  | nil => simp at h
  | cons a l => simp at h; subst h; rfl
theorem Fm.isLst.next {m x : Int} {L : List Int} {k : Nat} (h : Fm.isLst m (L.take k)) (hx : L[k]? = some x) : Fm.isLst (min m x) (L.take (k + 1)) := by
  rw [take_next L k x hx]
  obtain ⟨h1, h2⟩ := h
  rcases Int.le_total m x with hc | hc
  · rw [show min m x = m by omega]
    refine ⟨List.mem_append_left _ h1, fun y hy => ?_⟩
    rcases List.mem_append.1 hy with hy | hy
    · exact h2 y hy
    · simp at hy; omega
  · rw [show min m x = x by omega]
    refine ⟨by simp, fun y hy => ?_⟩
    rcases List.mem_append.1 hy with hy | hy
    · have := h2 y hy; omega
    · simp at hy; omega
set_option maxHeartbeats 1000000 in
theorem min_any (A : Option Addr) (n c B : Nat) (L : List Int) (w : World) (h : Rd I w B A n L) (hn : n ≤ 1048576) (hp : 0 < n) :
    Calls Try.prog 123 #[.slice A n c] w fun e w' => e = .returned (.int .i64 (Fm.lst L)) ∧ w = w' := by
  have HL : Hid (L.length = n) := h.1
  obtain ⟨b0, o0, x0, rfl, hb0, hx0, hc0⟩ := h.at_ hp
  have H1 : Hid (Fm.isLst x0 (L.take 1)) := by rw [take1 hx0]; exact Lib.hid ⟨by simp, by simp⟩
  have hc0' : w.cell? ⟨b0, o0, none⟩ = some (.int .i64 x0) := by simpa using hc0
  clear hx0 hc0
  go_enter Try.func123, Try.ntmps123
  go_wp2
  go_loop [3, 4] (fun m i => ∃ (k : Nat) (x : Int), 1 ≤ k ∧ k ≤ n ∧ i = .int .i64 k ∧ m = .int .i64 x ∧ Hid (Fm.isLst x (L.take k))) (fun _ i => n - (intOf i).toNat)
  case atStart => exact ⟨1, x0, Nat.le_refl _, hp, rfl, rfl, H1⟩
  case round =>
    clear H1
    obtain ⟨k, m, hk1, hk, rfl, rfl, HM⟩ := hrel
    by_cases hlt : k < n
    · obtain ⟨b, o, x, he, hbB, hx, hc⟩ := h.at_ hlt
      injection he with he
      injection he with he1 he2 _
      subst he1 he2
      have HX := Lib.hid hx
      clear hx
      go_wp2
      go_round
      case rel => exact ⟨k + 1, _, by omega, by omega, by go_num, rfl, Lib.hid (HM.out.next HX.out)⟩
      case measure => simp [intOf]; omega
    · obtain rfl : k = n := by omega
      have HE : Hid (Fm.lst L = m) := by
        have := HM.out
        rw [List.take_of_length_le (Nat.le_of_eq HL.out)] at this
        exact Lib.hid (Fm.lst_of this)
      go_wp2
      go_ret
      exact ⟨ret_i HE.out.symm, rfl⟩

theorem lst_two {F G : List Int} (hF : F ≠ []) (hG : G ≠ []) : min (Fm.lst F) (Fm.lst G) = Fm.lst (F ++ G) := by
  obtain ⟨f1, f2⟩ := Fm.lst_is hF
  obtain ⟨g1, g2⟩ := Fm.lst_is hG
  symm
  refine Fm.lst_of ⟨?_, fun x hx => ?_⟩
  · rcases Int.le_total (Fm.lst F) (Fm.lst G) with h | h
    · rw [show min (Fm.lst F) (Fm.lst G) = Fm.lst F by omega]; exact List.mem_append_left _ f1
    · rw [show min (Fm.lst F) (Fm.lst G) = Fm.lst G by omega]; exact List.mem_append_right _ g1
  · rcases List.mem_append.1 hx with hx | hx
    · have := f2 x hx; omega
    · have := g2 x hx; omega
theorem ne_of_len {L : List Int} {n : Nat} (h : L.length = n) (hp : 0 < n) : L ≠ [] := by
  rintro rfl
  simp at h
  omega
set_option maxRecDepth 100000 in
set_option maxHeartbeats 1000000 in
theorem leastPage_any (f : Fv) (g B : Nat) (F G H : List Int) (w : World) (hg : FBx w g f) (h : RF w B f F G H) (hn : f.le 1048576) (h1 : 0 < f.n1) (h2 : 0 < f.n2) :
    Calls Try.prog 100 #[.pointer (some ⟨g, 0, none⟩)] w fun e w' => e = .returned (.int .i64 (Fm.lst (F ++ G))) ∧ Q w w' := by
  have HE : Hid (min (Fm.lst F) (Fm.lst G) = Fm.lst (F ++ G)) := Lib.hid (lst_two (ne_of_len h.len.1 h1) (ne_of_len h.len.2.1 h2))
  obtain ⟨k0, k1, k2, k3, k4⟩ := hg.fcell
  go_enter Try.func100, Try.ntmps100
  go_wp2_with fail
  have m1 : ∀ k, Calls Try.prog 123 #[.slice f.A1 f.n1 f.c1] (w.drewN k) fun e w' => e = .returned (.int .i64 (Fm.lst F)) ∧ ∃ m, w' = w.drewN m := fun k => quiet_same (min_any f.A1 f.n1 f.c1 B F _ (h.r1.drewN _) hn.1 h1)
  have m2 : ∀ k, Calls Try.prog 123 #[.slice f.A2 f.n2 f.c2] (w.drewN k) fun e w' => e = .returned (.int .i64 (Fm.lst G)) ∧ ∃ m, w' = w.drewN m := fun k => quiet_same (min_any f.A2 f.n2 f.c2 B G _ (h.r2.drewN _) hn.2.1 h2)
  go_quiet (first | (go_at_call 123; with_reducible exact m1 _) | (go_at_call 123; with_reducible exact m2 _))
  go_wp2_with fail
  go_ret
  exact ⟨ret_i HE.out, Q.drewN _ _⟩

/-- The least page found so far. -/
def two (m : Int) (F G : List Int) (k : Nat) : Prop := (m ∈ F ∨ m ∈ G) ∧ ∀ x, x ∈ F.take k ∨ x ∈ G.take k → m ≤ x
theorem two.next {m x y : Int} {F G : List Int} {k : Nat} (h : two m F G k) (hx : F[k]? = some x) (hy : G[k]? = some y) : two (min m (min x y)) F G (k + 1) := by
  obtain ⟨h1, h2⟩ := h
  refine ⟨?_, fun z hz => ?_⟩
  · have : min m (min x y) = m ∨ min m (min x y) = x ∨ min m (min x y) = y := by omega
    rcases this with e | e | e <;> rw [e]
    · exact h1
    · exact .inl (List.mem_of_getElem? hx)
    · exact .inr (List.mem_of_getElem? hy)
  · rw [take_next F k x hx, take_next G k y hy] at hz
    simp only [List.mem_append, List.mem_singleton] at hz
    rcases hz with (hz | hz) | (hz | hz)
    · have := h2 z (.inl hz); omega
    · omega
    · have := h2 z (.inr hz); omega
    · omega
theorem two.all {m : Int} {F G : List Int} {n : Nat} (h : two m F G n) (hF : F.length = n) (hG : G.length = n) : Fm.lst (F ++ G) = m := by
  obtain ⟨h1, h2⟩ := h
  rw [List.take_of_length_le (Nat.le_of_eq hF), List.take_of_length_le (Nat.le_of_eq hG)] at h2
  exact Fm.lst_of ⟨List.mem_append.2 h1, fun x hx => h2 x (List.mem_append.1 hx)⟩
set_option maxRecDepth 100000 in
set_option maxHeartbeats 1000000 in
theorem specLeast_any (f : Fv) (B : Nat) (F G H : List Int) (w : World) (h : RF w B f F G H) (hB : B ≤ w.heap.size) (hn : f.le 1048576) (h1 : 0 < f.n1) (h2 : f.n2 = f.n1) :
    Calls Try.prog 101 #[f.v] w fun e w' => e = .returned (.int .i64 (Fm.lst (F ++ G))) ∧ Below w.heap.size w w' := by
  obtain ⟨a, b, A1, n, c1, A2, n2, c2, A3, n3, c3⟩ := f
  obtain rfl : n2 = n := h2
  have hbx := FBx.new w ⟨a, b, A1, n2, c1, A2, n2, c2, A3, n3, c3⟩
  have hB0 := below_alloc w (.cells (Fv.cs ⟨a, b, A1, n2, c1, A2, n2, c2, A3, n3, c3⟩) 26)
  have hr := h.alloc hB (.cells (Fv.cs ⟨a, b, A1, n2, c1, A2, n2, c2, A3, n3, c3⟩) 26)
  obtain ⟨n1b, _, _⟩ := hn
  simp only at h1 n1b
  have HF : Hid (F.length = n2) := Lib.hid hr.len.1
  have HG : Hid (G.length = n2) := Lib.hid hr.len.2.1
  obtain ⟨k0, k1, k2, k3, k4⟩ := hbx.fcell
  obtain ⟨b0, o0, x0, he0, hb0, hx0, hc0⟩ := hr.r1.at_ h1
  simp only at he0 k0 k1 k2 k3 k4
  subst he0
  have H0 : Hid (two x0 F G 0) := Lib.hid ⟨.inl (List.mem_of_getElem? hx0), fun x hx => by simp at hx⟩
  have hc0' : (w.alloc (.cells (Fv.cs ⟨a, b, some ⟨b0, o0, none⟩, n2, c1, A2, n2, c2, A3, n3, c3⟩) 26)).cell? ⟨b0, o0, none⟩ = some (.int .i64 x0) := by simpa using hc0
  clear hx0 hc0 hbx
  go_enter Try.func101, Try.ntmps101
  go_wp2
  go_loopw [3, 4] (fun m i wr => ∃ (k : Nat) (x : Int), k ≤ n2 ∧ i = .int .i64 k ∧ m = .int .i64 x ∧ Hid (two x F G k) ∧ Q (w.alloc (.cells (Fv.cs ⟨a, b, some ⟨b0, o0, none⟩, n2, c1, A2, n2, c2, A3, n3, c3⟩) 26)) wr) (fun _ i _ => n2 - (intOf i).toNat)
  case atStart => exact ⟨0, x0, Nat.zero_le _, rfl, rfl, H0, Q.refl _⟩
  case round =>
    clear H0 hc0'
    obtain ⟨k, m, hk, rfl, rfl, HM, hq⟩ := hrel
    obtain ⟨q, rfl⟩ := hq
    by_cases hlt : k < n2
    · obtain ⟨b1, o1, x, he, hbB, hx, hc⟩ := hr.r1.at_ hlt
      obtain ⟨b2, o2, y, he2, hbB2, hy, hd⟩ := hr.r2.at_ hlt
      simp only at he he2
      injection he with he
      injection he with e1 e2 _
      subst e1 e2 he2
      have HX := Lib.hid hx
      have HY := Lib.hid hy
      clear hx hy
      go_wp2
      go_region
      go_wp2
      go_roundw
      case rel => exact ⟨k + 1, _, by omega, by go_num, rfl, Lib.hid (HM.out.next HX.out HY.out), Q.drewN _ _⟩
      case measure => simp [intOf]; omega
    · obtain rfl : k = n2 := by omega
      have HE : Hid (Fm.lst (F ++ G) = m) := Lib.hid (HM.out.all HF.out HG.out)
      go_wp2
      go_ret
      exact ⟨ret_i HE.out.symm, below_drewN' hB0 _⟩
end Go.Proofs.Ytfiefjbipjalpaa

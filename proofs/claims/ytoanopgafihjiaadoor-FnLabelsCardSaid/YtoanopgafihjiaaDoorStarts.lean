/- Contracts of the first pages of the chapters, the model's l02Starts. -/
import Derived.Test.YtoanopgafihjiaaDoorBook2
namespace Go.Proofs.YtoanopgafihjiaaDoor
open Go.RowKit Pg

/-- Cells of a book in block g. -/
abbrev BC (f : Int) (A : Option Addr) (n c : Nat) (r : Bool) : Array Value := #[.int .i64 f, .slice A n c, .bool r]

theorem up_cases (r : Bool) (m : Int) : (r = false ∧ up r m = m) ∨ (r = true ∧ m % 2 = 0 ∧ up r m = m + 1) ∨ (r = true ∧ ¬ m % 2 = 0 ∧ up r m = m) := by
  cases r
  · exact .inl ⟨rfl, by simp [up]⟩
  · by_cases h : m % 2 = 0
    · exact .inr (.inl ⟨rfl, h, by simp [up, h]⟩)
    · exact .inr (.inr ⟨rfl, h, by simp [up, h]⟩)

/-- Bounds under which pages are counted. -/
def mild (f : Int) (l : List Int) : Prop := -1 ≤ f ∧ f ≤ 1000 ∧ l.length ≤ 1000 ∧ ∀ c ∈ l, 0 ≤ c ∧ c ≤ 1000
theorem mild_take {f : Int} {l : List Int} (h : mild f l) (r : Bool) (k : Nat) : 0 ≤ stop r (f + 1) (l.take k) ∧ stop r (f + 1) (l.take k) ≤ 1002001 := by
  obtain ⟨h0, h1, h2, h3⟩ := h
  have a := stop_ge r (f + 1) (l.take k) (fun c hc => (h3 c (List.mem_of_mem_take hc)).1)
  have b := stop_le r (f + 1) (l.take k) 1000 (fun c hc => (h3 c (List.mem_of_mem_take hc)).2)
  have d : ((l.take k).length : Int) ≤ 1000 := by simp; omega
  constructor <;> omega
theorem mild_ok {f : Int} {l : List Int} (h : okP f l) : mild f l := by
  obtain ⟨⟨h0, h1⟩, ⟨h2, h3⟩, h4⟩ := h
  exact ⟨by omega, by omega, by omega, fun c hc => by have := h4 c hc; omega⟩

/-- The first pages and the number behind the last page are handed back. -/
def SP (w : World) (r : Bool) (f : Int) (l : List Int) (e : Ending) (w' : World) : Prop :=
  ∃ A n c, e = .returned (.tuple #[.slice A n c, .int .i64 (stop r (f + 1) l)]) ∧ n = l.length ∧ Own I w' w.heap.size w'.heap.size 2 (.slice A n c) (starts r (f + 1) l) ∧ Below w.heap.size w w'
theorem SP.mk_ {w w' : World} {r : Bool} {f m : Int} {l : List Int} {A : Option Addr} {n c lo : Nat} (hm : stop r (f + 1) l = m) (hn : l.length = n) (ho : Own I w' lo w'.heap.size 2 (.slice A n c) (starts r (f + 1) l)) (h1 : w.heap.size ≤ lo) (hb : Below w.heap.size w w') :
    SP w r f l (.returned (.tuple #[.slice A n c, .int .i64 m])) w' := by
  subst hm
  exact ⟨A, n, c, rfl, hn.symm, ho.mono h1 (Nat.le_refl _), hb⟩

set_option maxRecDepth 100000 in
set_option maxHeartbeats 2000000 in
theorem l02Starts_any (f : Int) (A : Option Addr) (n c B : Nat) (r : Bool) (l : List Int) (w : World) (h : Rd I w B A n l) (hB : B ≤ w.heap.size) (hmi : mild f l) :
    Calls Tryd.prog 40 #[BK f A n c r] w fun e w' => SP w r f l e w' := by
  have HL : Hid (l.length = n) := h.1
  have HM := Lib.hid hmi
  have hf0 := hmi.1
  have hf1 := hmi.2.1
  have hn : n ≤ 1000 := by have h1 := HL.out; have := hmi.2.2.1; omega
  obtain ⟨i0, hi0, hz0, hz1, hz2⟩ := info_parts infoI
  have e0 : IntKind.i64.wrap (f + 1) = f + 1 := IntWalk.i64_in _ (by omega)
  clear hmi
  have hlit := Own.lit0 I (w.alloc (.cells (BC f A n c r) 26)) 2
  go_enter Tryd.func40, Tryd.ntmps40
  go_wp2_with fail
  go_loopw [4, 5, 6] (fun v m i wr => ∃ k : Nat, k ≤ n ∧ i = .int .i64 k ∧ m = .int .i64 (stop r (f + 1) (l.take k)) ∧ (∃ A3 c3, v = .slice A3 k c3 ∧ Own I wr (w.heap.size + 1) wr.heap.size 2 (.slice A3 k c3) (starts r (f + 1) (l.take k))) ∧ Below w.heap.size w wr ∧ Blk wr w.heap.size (BC f A n c r) 26) (fun _ _ i _ => n - (intOf i).toNat)
  case atStart => 
    exact ⟨0, Nat.zero_le _, rfl, by simp [stop], ⟨_, _, rfl, by simpa [starts] using hlit.mono (by simp) (by simp)⟩, ((Below.refl w.heap.size w).alloc (Nat.le_refl _) _).alloc (by simp) _, (Blk.new _ _ rfl).alloc _⟩
  case round =>
    clear hlit e0
    obtain ⟨k, hk, rfl, rfl, ⟨A3, c3, rfl, ho⟩, hb, hbl⟩ := hrel
    have c0 := hbl.cell 0 (v := .int .i64 f) rfl
    have c1 := hbl.cell 1 (v := .slice A n c) rfl
    have c2 := hbl.cell 2 (v := .bool r) rfl
    have hsz := hbl.lt
    have hbd := mild_take HM.out r k
    obtain ⟨m, hm⟩ : ∃ m, stop r (f + 1) (l.take k) = m := ⟨_, rfl⟩
    rw [hm] at hbd ⊢
    obtain ⟨m0, m1⟩ := hbd
    by_cases hlt : k < n
    · obtain ⟨b, o, x, rfl, hbB, hx, hc⟩ := (h.below hb hB).at_ hlt
      have hx' := HM.out.2.2.2 x (List.mem_of_getElem? hx)
      obtain ⟨x0, x1⟩ := hx'
      have HX : Hid (starts r (f + 1) (l.take (k + 1)) = starts r (f + 1) (l.take k) ++ [up r m] ∧ stop r (f + 1) (l.take (k + 1)) = up r m + x) := by
        rw [Pg.take_snoc l k x hx, starts_snoc, stop_snoc, hm]
        exact ⟨rfl, rfl⟩
      have hcB : ∀ w', Only (w.heap.size + 1) wr.heap.size wr w' → w'.cell? ⟨b, o + k, none⟩ = some (I x) := fun w' ho' => (World.cell?_of_block (ho'.block b (by omega) (.inl (by omega)))).trans hc
      have HCB := Lib.hid hcB
      clear hx hm hcB
      rcases up_cases r m with ⟨hr, hu⟩ | ⟨hr, h2, hu⟩ | ⟨hr, h2, hu⟩
      all_goals
        rw [hu] at HX
        subst hr
        clear hu
        go_wp2_with (at_builtin; refine wp_push _ rfl _ _ 24 rfl 2 i0 _ 8 Tryd.underlying24 hi0 hz0 hz1 hz2 rfl A3 k c3 _ _ _ rfl ho _ rfl rfl (by omega) (by omega) (by omega) ?_; intro A4 c4 w4 ho4 hm4; have hbl4 := hbl.only hm4 (.inl (by omega)); have d0 := hbl4.cell 0 (v := .int .i64 f) rfl; have d1 := hbl4.cell 1 (v := .slice (some ⟨b, o, none⟩) n c) rfl; have hc4 := HCB.out _ hm4)
        go_roundw
        case rel =>
          refine ⟨k + 1, by omega, by go_num, by rw [HX.out.2], ⟨_, _, rfl, ?_⟩, hb.trans (hm4.below (by omega) (by omega)), hbl4⟩
          rw [HX.out.1]
          exact ho4
        case measure => simp [intOf]; omega
    · obtain rfl : k = n := by omega
      have HT : Hid (l.take k = l) := List.take_of_length_le (Nat.le_of_eq HL.out)
      rw [HT.out] at ho hm
      have HM2 := Lib.hid hm
      clear hm
      go_wp2
      go_ret2
      exact SP.mk_ HM2.out HL.out ho (Nat.le_succ _) hb
end Go.Proofs.YtoanopgafihjiaaDoor

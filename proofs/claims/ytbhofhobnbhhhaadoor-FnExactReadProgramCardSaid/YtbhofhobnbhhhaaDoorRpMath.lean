/- Which program has a text: what the readers of programs compute, in lists. -/
import Derived.Test.YtbhofhobnbhhhaaDoorPxMath
import Derived.Test.YtbhofhobnbhhhaaDoorReadMath2
import Derived.Lib.Split
namespace Go.Proofs.YtbhofhobnbhhhaaDoor
namespace Px
theorem not_dig {m : UInt8} (h : ¬ isDig m) (n : Nat) : m ∉ Lib.decDigits n := fun hm => h (decDigits_digs n m hm)
theorem sign_two (c : Ct) : sign c = 45 ∨ sign c = 124 := by
  unfold sign
  split
  · exact .inl rfl
  · exact .inr rfl
theorem sign_not (c : Ct) (n : Nat) : sign c ∉ Lib.decDigits n := by
  rcases sign_two c with h | h
  · rw [h]; exact not_dig (by unfold isDig; decide) n
  · rw [h]; exact not_dig (by unfold isDig; decide) n
theorem ctS_list (c : Ct) : ctS c = ⟨(ctL c).toArray⟩ := by
  apply bytes_ext
  rw [ctS_data]
theorem ctL_no {c : Ct} {m : UInt8} (h : ¬ isDig m) (h1 : m ≠ 45) (h2 : m ≠ 124) : m ∉ ctL c := by
  unfold ctL
  simp only [List.mem_append, List.mem_cons, not_or]
  refine ⟨not_dig h _, ?_, not_dig h _⟩
  rcases sign_two c with hs | hs
  · rw [hs]; exact h1
  · rw [hs]; exact h2
theorem ctL_blank (c : Ct) : (32 : UInt8) ∉ ctL c := ctL_no (by unfold isDig; decide) (by decide) (by decide)
theorem joinTail_cons (sep b : List UInt8) (r : List (List UInt8)) : Lib.joinTail sep (b :: r) = sep ++ b ++ Lib.joinTail sep r := by simp [Lib.joinTail]
theorem spl_tail (r : List Ct) : ∀ (a : Ct) (done : List ByteArray), spl 32 done [] (ctL a ++ Lib.joinTail [32] (r.map ctL)) = done ++ (a :: r).map ctS := by
  induction r with
  | nil =>
    intro a done
    rw [List.map_nil, show Lib.joinTail [32] [] = [] from rfl, List.append_nil, spl_none 32 _ (ctL_blank a), List.nil_append, ← ctS_list]
    rfl
  | cons b r ih =>
    intro a done
    rw [List.map_cons, joinTail_cons, show ctL a ++ ([32] ++ ctL b ++ Lib.joinTail [32] (r.map ctL)) = ctL a ++ 32 :: (ctL b ++ Lib.joinTail [32] (r.map ctL)) from by simp, spl_mark 32 _ _ (ctL_blank a), List.nil_append, ← ctS_list, ih b]
    simp
theorem joinL_cons (a : Ct) (r : List Ct) : joinL (a :: r) = ctL a ++ Lib.joinTail [32] (r.map ctL) := by
  unfold joinL
  rw [List.map_cons, Lib.join_cons]
theorem spl_join {g : List Ct} (h : g ≠ []) : spl 32 [] [] (joinL g) = g.map ctS := by
  cases g with
  | nil => exact absurd rfl h
  | cons a r => rw [joinL_cons, spl_tail r a []]; rfl
theorem ct_spl (c : Ct) : spl (sign c) [] [] (ctS c).data.toList = [dec c.i.toNat, dec c.t.toNat] := by
  rw [ctS_data]
  unfold ctL
  rw [spl_mark _ _ _ (sign_not c _), spl_none _ _ (sign_not c _)]
  simp [dec]
theorem ct_spl45 (c : Ct) (h : c.a = false) : spl 45 [] [] (ctS c).data.toList = [ctS c] := by
  have h1 : (45 : UInt8) ∉ ctL c := by
    unfold ctL
    simp only [List.mem_append, List.mem_cons, not_or]
    refine ⟨not_dig (by unfold isDig; decide) _, ?_, not_dig (by unfold isDig; decide) _⟩
    unfold sign
    rw [h]
    decide
  rw [ctS_data, spl_none _ _ h1, List.nil_append, List.nil_append, ← ctS_list]
theorem ctL_inj {c d : Ct} (hc : okC c = true) (hd : okC d = true) (h : ctL c = ctL d) : c = d := by
  have hs : sign c = sign d := by
    have h1 : sign c ∈ ctL d := by rw [← h]; simp [ctL]
    unfold ctL at h1
    simp only [List.mem_append, List.mem_cons] at h1
    rcases h1 with h1 | h1 | h1
    · exact absurd h1 (sign_not c _)
    · exact h1
    · exact absurd h1 (sign_not c _)
  unfold ctL at h
  rw [← hs] at h
  obtain ⟨h1, h2⟩ := part_eq (sign_not c _) (sign_not c _) h
  have e1 := congrArg val h1
  have e2 := congrArg val h2
  rw [val_decDigits, val_decDigits] at e1 e2
  have bc := okC_iff.1 hc
  have bd := okC_iff.1 hd
  have ha : c.a = d.a := by
    unfold sign at hs
    cases h3 : c.a <;> cases h4 : d.a <;> simp [h3, h4] at hs <;> rfl
  obtain ⟨ci, ca, ctt⟩ := c
  obtain ⟨di, da, dtt⟩ := d
  simp only at *
  subst ha
  rw [show ci = di by omega, show ctt = dtt by omega]
theorem map_inj {g k : List Ct} (hg : g.all okC = true) (hk : k.all okC = true) (h : g.map ctS = k.map ctS) : g = k := by
  induction g generalizing k with
  | nil =>
    cases k with
    | nil => rfl
    | cons d r => simp at h
  | cons c g ih =>
    cases k with
    | nil => simp at h
    | cons d r =>
      rw [List.map_cons, List.map_cons, List.cons.injEq] at h
      rw [List.all_cons, Bool.and_eq_true] at hg hk
      have h1 : ctL c = ctL d := by rw [← ctS_data, ← ctS_data, h.1]
      rw [ctL_inj hg.1 hk.1 h1, ih hg.2 hk.2 h.2]
/-- Programs of a text that is not empty. -/
theorem of_pt {g : List Ct} {s : ByteArray} (h : ptS g = s) (hs : s ≠ ⟨#[]⟩) : g.all okC = true ∧ g.length ≤ 79 ∧ g ≠ [] ∧ s.data.toList = joinL g := by
  unfold ptS at h
  split at h
  · rename_i ho
    unfold okG at ho
    rw [Bool.and_eq_true, decide_eq_true_eq] at ho
    refine ⟨ho.2, ho.1, fun e => hs ?_, ?_⟩
    · rw [← h, e]; rfl
    · rw [← h]; rfl
  · exact absurd h.symm hs
theorem of_words {g : List Ct} {s : ByteArray} (h : ptS g = s) (hs : s ≠ ⟨#[]⟩) : spl 32 [] [] s.data.toList = g.map ctS := by
  obtain ⟨_, _, h3, h4⟩ := of_pt h hs
  rw [h4, spl_join h3]
theorem pt_inj {g k : List Ct} {s : ByteArray} (hg : ptS g = s) (hk : ptS k = s) (hs : s ≠ ⟨#[]⟩) : g = k :=
  map_inj (of_pt hg hs).1 (of_pt hk hs).1 ((of_words hg hs).symm.trans (of_words hk hs))

/-- What the readers of programs answer. -/
def RP (s : ByteArray) (R : List Ct) (b : Bool) : Prop :=
  (b = true ∧ ptS R = s ∧ (s = ⟨#[]⟩ → R = [])) ∨ (b = false ∧ R = [] ∧ s ≠ ⟨#[]⟩ ∧ ∀ g, ptS g ≠ s)
theorem RP.same {s : ByteArray} {R K : List Ct} {a b : Bool} (h : RP s R a) (k : RP s K b) : R = K ∧ a = b := by
  by_cases hs : s = ⟨#[]⟩
  · rcases h with ⟨ha, _, h2⟩ | ⟨_, _, h2, _⟩
    · rcases k with ⟨hb, _, k2⟩ | ⟨_, _, k2, _⟩
      · exact ⟨(h2 hs).trans (k2 hs).symm, ha.trans hb.symm⟩
      · exact absurd hs k2
    · exact absurd hs h2
  · rcases h with ⟨ha, h1, _⟩ | ⟨ha, h1, _, h3⟩
    · rcases k with ⟨hb, k1, _⟩ | ⟨_, _, _, k3⟩
      · exact ⟨pt_inj h1 k1 hs, ha.trans hb.symm⟩
      · exact absurd h1 (k3 _)
    · rcases k with ⟨_, k1, _⟩ | ⟨hb, k1, _, _⟩
      · exact absurd k1 (h3 _)
      · exact ⟨h1.trans k1.symm, ha.trans hb.symm⟩
/-- The cuts read so far are the first k of every program that has the text. -/
def Pre (s : ByteArray) (R : List Ct) (k : Nat) : Prop := ∀ g, ptS g = s → R = g.take k
theorem Pre.zero (s : ByteArray) : Pre s [] 0 := fun g _ => by simp
theorem RP.empty : RP ⟨#[]⟩ [] true := .inl ⟨rfl, rfl, fun _ => rfl⟩
theorem RP.none_ {s : ByteArray} (hs : s ≠ ⟨#[]⟩) (h : ∀ g, ptS g ≠ s) : RP s [] false := .inr ⟨rfl, rfl, hs, h⟩
theorem RP.reads {s : ByteArray} {R : List Ct} (hs : s ≠ ⟨#[]⟩) (h : ptS R = s) : RP s R true := .inl ⟨rfl, h, fun e => absurd e hs⟩
/-- At the last word: another text means that no program has it. -/
theorem RP.differs {s : ByteArray} {R : List Ct} {k : Nat} (hs : s ≠ ⟨#[]⟩) (hp : Pre s R k) (hk : ∀ g, ptS g = s → g.length ≤ k) (h : ¬ ptS R = s) : RP s [] false :=
  RP.none_ hs fun g hg => h (by rw [hp g hg, List.take_of_length_le (hk g hg)]; exact hg)
/-- A word that is none of a program's. -/
theorem RP.word {s x : ByteArray} {W : List ByteArray} {k : Nat} (hs : s ≠ ⟨#[]⟩) (hW : ∀ g, ptS g = s → W = g.map ctS) (hx : W[k]? = some x) (h : ∀ c, okC c = true → x ≠ ctS c) : RP s [] false :=
  RP.none_ hs fun g hg => by
    have e := hW g hg
    rw [e, List.getElem?_map] at hx
    cases hc : g[k]? with
    | none => rw [hc] at hx; simp at hx
    | some c =>
      rw [hc] at hx
      simp at hx
      exact h c (List.all_eq_true.1 (of_pt hg hs).1 c (List.mem_of_getElem? hc)) hx.symm
theorem Pre.next {s x : ByteArray} {W : List ByteArray} {R : List Ct} {k : Nat} {c : Ct} (hs : s ≠ ⟨#[]⟩) (hp : Pre s R k) (hW : ∀ g, ptS g = s → W = g.map ctS) (hx : W[k]? = some x) (h : ∀ d, okC d = true → x = ctS d → c = d) : Pre s (R ++ [c]) (k + 1) := fun g hg => by
  have e := hW g hg
  rw [e, List.getElem?_map] at hx
  cases hc : g[k]? with
  | none => rw [hc] at hx; simp at hx
  | some d =>
    rw [hc] at hx
    simp at hx
    rw [h d (List.all_eq_true.1 (of_pt hg hs).1 d (List.mem_of_getElem? hc)) hx.symm, hp g hg, List.take_add_one, hc]
    rfl

/-- What a reader of numbers answers, so far as it matters. -/
def NumR (WL : List ByteArray) (NL : List Int) (b : Bool) : Prop := ∀ ns : List Nat, (∀ n ∈ ns, n < 10000000000) → WL = ns.map dec → b = true ∧ NL = ns.map fun n : Nat => (n : Int)
theorem NumR.of_ct {x : ByteArray} {c : Ct} {NL : List Int} {b : Bool} (hc : okC c = true) (hx : x = ctS c) (h : NumR (spl (sign c) [] [] x.data.toList) NL b) : b = true ∧ NL = [c.i, c.t] := by
  have hb := okC_iff.1 hc
  have := h [c.i.toNat, c.t.toNat] (by intro n hn; simp at hn; omega) (by rw [hx, ct_spl]; rfl)
  refine ⟨this.1, this.2.trans ?_⟩
  simp
  omega
/-- The sign that the model looks for. -/
theorem by_ct {x : ByteArray} {c : Ct} {m : UInt8} (hx : x = ctS c) (hm : m = if (spl 45 [] [] x.data.toList).length = 2 then 45 else 124) : m = sign c := by
  subst hx
  cases ha : c.a
  · rw [ct_spl45 c ha] at hm
    rw [hm]
    unfold sign
    rw [ha]
    rfl
  · have := ct_spl c
    have hs : sign c = 45 := by unfold sign; rw [ha]; rfl
    rw [hs] at this
    rw [this] at hm
    rw [hm, hs]
    rfl
end Px
end Go.Proofs.YtbhofhobnbhhhaaDoor

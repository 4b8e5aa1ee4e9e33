/- The program's contracts of a unit's letter, of the tests of set-ups, of LayersAfter and SchemeOfSetup. -/
import Derived.Test.YtnfnmdeiaihgnaaSuEf
import Derived.Test.YtnfnmdeiaihgnaaSuCh
import Derived.Test.YtnfnmdeiaihgnaaLen
import Derived.Test.YtnfnmdeiaihgnaaRkM
import Derived.Test.YtnfnmdeiaihgnaaPush
namespace Go.Proofs.Ytnfnmdeiaihgnaa
open Go.RowKit
set_option linter.unusedVariables false

abbrev Su.i64 (r : Int) : Prop := -9223372036854775808 ≤ r ∧ r ≤ 9223372036854775807
theorem letter_any (x : Un) (w : World) :
    Calls Try.prog 64 #[x.agg] w fun e w' => e = .returned (.int .u8 (Su.ltU x).toNat) ∧ Below w.heap.size w w' := by
  have hb2 : Below w.heap.size w (w.alloc (.cells #[.bool x.a, .int .i64 x.g, .bool x.o] 83)) := (Below.refl _ _).alloc (Nat.le_refl _) _
  obtain ⟨a, g, o⟩ := x
  have HL : Hid (Su.ltU ⟨a, g, o⟩ = if a then (if o then 76 else 82) else (if o then 84 else 66)) := Lib.hid rfl
  dsimp only at hb2
  cases a <;> cases o
  all_goals
    rw [HL.out]
    go_enter Try.func64, Try.ntmps64
    go_wp2_with fail
    go_ret
    exact ⟨rfl, hb2⟩
/-- All of several lists are set-ups. -/
def Su.allU (ls : List (List Un)) : Bool := ls.all Su.okU
theorem Su.allU_bad {ls : List (List Un)} {k : Nat} {l : List Un} (h : ls[k]? = some l) (hb : Su.okU l = false) : Su.allU ls = false := by
  cases e : Su.allU ls
  · rfl
  · rw [List.all_eq_true.1 e l (List.mem_of_getElem? h)] at hb
    cases hb
theorem Su.allU_ok {ls : List (List Un)} (h : ∀ j l, j < ls.length → ls[j]? = some l → Su.okU l = true) : Su.allU ls = true := by
  unfold Su.allU
  rw [List.all_eq_true]
  intro l hl
  obtain ⟨j, hj, e⟩ := List.getElem_of_mem hl
  exact h j l hj (by rw [List.getElem?_eq_getElem hj, e])
set_option maxRecDepth 100000 in
set_option maxHeartbeats 4000000 in
theorem areSetups_any (A : Option Addr) (n c B : Nat) (us : List UB) (b : Bool) (w : World) (h : RdU w B A n us) (hB : B ≤ w.heap.size) (hn : n ≤ 1048576) (hb : Su.allU (Su.lsU us) = b) :
    Calls Try.prog 63 #[.slice A n c] w fun e w' => e = .returned (.bool b) ∧ Below w.heap.size w w' := by
  have HL := Lib.hid h.len
  have HO := Lib.hid hb
  clear hb
  go_enter Try.func63, Try.ntmps63
  go_wp2_with fail
  go_loopw [9] (fun i wr => ∃ k : Nat, k ≤ n ∧ i = .int .i64 k ∧ Hid (∀ j l, j < k → (Su.lsU us)[j]? = some l → Su.okU l = true) ∧ Below w.heap.size w wr) (fun i _ => n - (intOf i).toNat)
  case atStart => exact ⟨0, Nat.zero_le _, rfl, Lib.hid (by intro j y h; omega), Below.refl _ _⟩
  case round =>
    obtain ⟨k, hk, rfl, HK, hbw⟩ := hrel
    obtain ⟨wo, rfl⟩ : ∃ wo, wo = wr := ⟨_, rfl⟩
    by_cases hlt : k < n
    · obtain ⟨b1, o, q, rfl, hbB, hx, c0, hr, hqn⟩ := (h.below hbw hB).at_ hlt
      obtain ⟨qa, qn, qc, ql⟩ := q
      dsimp only at c0 hr hqn
      have HX := Lib.hid (Su.lsU_at hx)
      have HQ := Lib.hid hr.1
      clear hx
      by_cases h6 : 6 < qn
      · have h6i : (6 : Int) < (qn : Int) := by omega
        have HE : Hid (b = false) := Lib.hid (by rw [← HO.out]; exact Su.allU_bad HX.out (by unfold Su.okU; rw [HQ.out, decide_eq_false (by omega)]; rfl))
        go_wp2_with fail
        go_ret
        exact ⟨ret_b HE.out.symm, hbw⟩
      · have h6i : ((6 : Int) < (qn : Int)) = False := eq_false (by omega)
        go_wp2_with fail
        go_loopw [18] (fun i wi => ∃ m : Nat, m ≤ qn ∧ i = .int .i64 m ∧ Hid (∀ j y, j < m → ql[j]? = some y → Su.okG y = true) ∧ Below w.heap.size w wi ∧ Below B wo wi) (fun i _ => qn - (intOf i).toNat)
        case atStart => exact ⟨0, Nat.zero_le _, rfl, Lib.hid (by intro j y h; omega), hbw, Below.refl _ _⟩
        case round =>
          obtain ⟨m, hm, rfl, HM, hbi, hbo⟩ := hrel
          have hzi := hbi.size
          by_cases hlm : m < qn
          · obtain ⟨b2, o2, x, rfl, hbB2, hx, c1, c2, c3⟩ := (hr.below hbo (Nat.le_refl _)).at_Un hlm
            have HY := Lib.hid hx
            have hb5 : Below w.heap.size w (wr.alloc (.cells #[.bool x.a, .int .i64 x.g, .bool x.o] 83)) := hbi.alloc hzi _
            have hb6 : Below B wo (wr.alloc (.cells #[.bool x.a, .int .i64 x.g, .bool x.o] 83)) := hbo.alloc (by omega) _
            clear hx
            by_cases hv : 0 ≤ x.g ∧ x.g ≤ 1000000000
            · have hi := fun W => isLen_yes x.g W hv.1 hv.2
              have HKX : Hid (Su.okG x = true) := Lib.hid (decide_eq_true hv)
              clear hv
              go_wp2_with fail
              refine (hi _).mono ?_
              rintro e _ ⟨rfl, rfl⟩
              go_wp2_with fail
              go_roundw
              case rel =>
                refine ⟨m + 1, by omega, by go_num, Lib.hid fun j y hj hy => ?_, hb5, hb6⟩
                by_cases he : j = m
                · subst he
                  have := HY.out.symm.trans hy
                  injection this with this
                  rw [← this]
                  exact HKX.out
                · exact HM.out j y (by omega) hy
              case measure => simp [intOf]; omega
            · have hi := fun W => isLen_no x.g W (by omega)
              have HE : Hid (b = false) := Lib.hid (by rw [← HO.out]; exact Su.allU_bad HX.out (Su.okU_at HY.out (decide_eq_false hv)))
              clear hv
              go_wp2_with fail
              refine (hi _).mono ?_
              rintro e _ ⟨rfl, rfl⟩
              go_wp2_with fail
              go_ret
              exact ⟨ret_b HE.out.symm, hb5⟩
          · obtain rfl : m = qn := by omega
            have HN : Hid (Su.okU ql = true) := Lib.hid (by
              refine Su.okU_iff.2 ⟨by rw [HQ.out]; omega, fun u hu => ?_⟩
              obtain ⟨j, hj⟩ := List.getElem?_of_mem hu
              exact HM.out j u (by have := (List.getElem?_eq_some_iff.1 hj).1; have := HQ.out; omega) hj)
            go_wp2_with fail
            go_roundw
            case rel =>
              refine ⟨k + 1, by omega, by go_num, Lib.hid fun j l hj hl => ?_, hbi⟩
              by_cases he : j = k
              · subst he
                have := HX.out.symm.trans hl
                injection this with this
                rw [← this]
                exact HN.out
              · exact HK.out j l (by omega) hl
            case measure => simp [intOf]; omega
    · obtain rfl : k = n := by omega
      have HE : Hid (b = true) := Lib.hid (by rw [← HO.out]; exact Su.allU_ok (by rw [Su.lsU_len, HL.out]; exact HK.out))
      go_wp2_with fail
      go_ret
      exact ⟨ret_b HE.out.symm, hbw⟩
/-- One list among several, laid in a block of its own. -/
theorem RdU.lit1 {w : World} {A : Option Addr} {n c B : Nat} {l : List Un} (h : RdS Un.S w B A n l) (hB : B ≤ w.heap.size) (hn : n ≤ 1048576) :
    RdU (w.alloc (.cells #[.slice A n c] 28)) (w.heap.size + 1) (some ⟨w.heap.size, 0, none⟩) 1 [⟨A, n, c, l⟩] := by
  refine ⟨⟨rfl, fun _ => ⟨w.heap.size, 0, rfl, by omega, fun j x hx => ?_⟩⟩, fun q hq => ?_⟩
  · match j, hx with
    | 0, hx =>
      simp at hx
      subst hx
      rw [show (0 + 0 : Nat) = 0 from rfl]
      exact (Blk.new (w := w) (g := w.heap.size) #[.slice A n c] 28 rfl).cell 0 rfl
  · simp at hq
    subst hq
    exact ⟨(h.alloc hB _).more (by omega), hn⟩
theorem RdU.lit2 {w : World} {A A2 : Option Addr} {n c n2 c2 B B2 : Nat} {l m : List Un} (h : RdS Un.S w B A n l) (h2 : RdS Un.S w B2 A2 n2 m) (hB : B ≤ w.heap.size) (hB2 : B2 ≤ w.heap.size) (hn : n ≤ 1048576) (hn2 : n2 ≤ 1048576) :
    RdU (w.alloc (.cells #[.slice A n c, .slice A2 n2 c2] 28)) (w.heap.size + 1) (some ⟨w.heap.size, 0, none⟩) 2 [⟨A, n, c, l⟩, ⟨A2, n2, c2, m⟩] := by
  refine ⟨⟨rfl, fun _ => ⟨w.heap.size, 0, rfl, by omega, fun j x hx => ?_⟩⟩, fun q hq => ?_⟩
  · match j, hx with
    | 0, hx =>
      simp at hx
      subst hx
      rw [show (0 + 0 : Nat) = 0 from rfl]
      exact (Blk.new (w := w) (g := w.heap.size) #[.slice A n c, .slice A2 n2 c2] 28 rfl).cell 0 rfl
    | 1, hx =>
      simp at hx
      subst hx
      rw [show (0 + 1 : Nat) = 1 from rfl]
      exact (Blk.new (w := w) (g := w.heap.size) #[.slice A n c, .slice A2 n2 c2] 28 rfl).cell 1 rfl
  · simp at hq
    rcases hq with rfl | rfl
    · exact ⟨(h.alloc hB _).more (by omega), hn⟩
    · exact ⟨(h2.alloc hB2 _).more (by omega), hn2⟩
theorem Su.allU1 (l : List Un) (A : Option Addr) (n c : Nat) : Su.allU (Su.lsU [⟨A, n, c, l⟩]) = Su.okU l := by simp [Su.allU, Su.lsU]
theorem Su.allU2 (l m : List Un) (A A2 : Option Addr) (n c n2 c2 : Nat) : Su.allU (Su.lsU [⟨A, n, c, l⟩, ⟨A2, n2, c2, m⟩]) = (Su.okU l && Su.okU m) := by simp [Su.allU, Su.lsU]
set_option maxRecDepth 100000 in
theorem checkSetups_any (A : Option Addr) (n c B : Nat) (us : List UB) (C : Int) (w : World) (h : RdU w B A n us) (hB : B ≤ w.heap.size) (hn : n ≤ 1048576) (hC : Su.jbC (Su.lsU us) = C) :
    Calls Try.prog 69 #[.slice A n c] w fun e w' => e = .returned (.int .i64 C) ∧ Below w.heap.size w w' := by
  obtain ⟨b, hb⟩ : ∃ b, Su.allU (Su.lsU us) = b := ⟨_, rfl⟩
  have hu := areSetups_any A n c B us b w h hB hn hb
  have HL := Lib.hid h.len
  have HC : Hid (C = if b = true then (if n ≤ 7 then 0 else 2) else 1) := Lib.hid (by
    rw [← hC, ← hb]
    unfold Su.jbC Su.allU
    rw [Su.lsU_len, HL.out])
  clear hC hb
  go_enter Try.func69, Try.ntmps69
  go_wp2_with fail
  refine hu.mono ?_
  rintro e w1 ⟨rfl, hb1⟩
  cases b
  · go_wp2_with fail
    go_ret
    exact ⟨ret_i HC.out.symm, hb1⟩
  · by_cases h7 : n ≤ 7
    · have h7i : ((7 : Int) < (n : Int)) = False := eq_false (by omega)
      have HE : Hid (C = 0) := Lib.hid (by rw [HC.out, if_pos rfl, if_pos h7])
      go_wp2_with fail
      go_ret
      exact ⟨ret_i HE.out.symm, hb1⟩
    · have h7i : (7 : Int) < (n : Int) := by omega
      have HE : Hid (C = 2) := Lib.hid (by rw [HC.out, if_pos rfl, if_neg h7])
      go_wp2_with fail
      go_ret
      exact ⟨ret_i HE.out.symm, hb1⟩
set_option maxRecDepth 100000 in
theorem implLa_any (A : Option Addr) (n c B : Nat) (l : List Un) (k R C : Int) (w : World) (h : RdS Un.S w B A n l) (hB : B ≤ w.heap.size) (hn : n ≤ 1048576) (hc : n ≤ c) (hk : Su.i64 k) (hR : Su.laR l k = R) (hC : Su.laC l k = C) :
    Calls Try.prog 23 #[.slice A n c, .int .i64 k] w fun e w' => e = .returned (.tuple #[.int .i64 R, .int .i64 C]) ∧ Below w.heap.size w w' := by
  obtain ⟨b, hb⟩ : ∃ b, Su.okU l = b := ⟨_, rfl⟩
  have hu := areSetups_any (some ⟨w.heap.size, 0, none⟩) 1 1 (w.heap.size + 1) [⟨A, n, c, l⟩] b _ (RdU.lit1 (c := c) h hB hn) (by simp) (by omega) (by rw [Su.allU1]; exact hb)
  have hb0 : Below w.heap.size w (w.alloc (.cells #[.slice A n c] 28)) := (Below.refl _ _).alloc (Nat.le_refl _) _
  have HL := Lib.hid h.1
  cases b
  · have HR : Hid (R = 0) := Lib.hid (by rw [← hR]; unfold Su.laR; rw [hb]; rfl)
    have HC : Hid (C = 1) := Lib.hid (by rw [← hC]; unfold Su.laC; rw [hb]; rfl)
    clear hb hR hC
    go_enter Try.func23, Try.ntmps23
    go_wp2_with fail
    refine hu.mono ?_
    rintro e w1 ⟨rfl, hb1⟩
    go_wp2_with fail
    go_ret2
    exact ⟨ret2U HR.out.symm HC.out.symm, hb0.trans (hb1.mono (by simp))⟩
  · by_cases hk2 : 0 ≤ k ∧ k ≤ (l.length : Int)
    · have h6 := (Su.okU_iff.1 hb).1
      obtain ⟨m, rfl⟩ : ∃ m : Nat, k = (m : Int) := ⟨k.toNat, by omega⟩
      have HR : Hid (R = ((2 ^ m : Nat) : Int)) := Lib.hid (by rw [← hR]; unfold Su.laR; rw [hb, if_pos rfl, if_pos hk2]; rfl)
      have HC : Hid (C = 0) := Lib.hid (by rw [← hC]; unfold Su.laC; rw [hb, if_pos rfl, if_pos hk2])
      rw [HL.out] at hk2
      have g1 : ((n : Int) < (m : Int)) = False := eq_false (by omega)
      have g0 : ((m : Int) < 0) = False := eq_false (by omega)
      have hm6 : m ≤ 6 := by have := HL.out; omega
      have hsh := shl_oneU m hm6
      clear hb hR hC hk2 h6 hk
      go_enter Try.func23, Try.ntmps23
      go_wp2_with fail
      refine hu.mono ?_
      rintro e w1 ⟨rfl, hb1⟩
      go_wp2_with fail
      go_ret2
      exact ⟨ret2U HR.out.symm HC.out.symm, hb0.trans (hb1.mono (by simp))⟩
    · have HR : Hid (R = 0) := Lib.hid (by rw [← hR]; unfold Su.laR; rw [hb, if_pos rfl, if_neg hk2])
      have HC : Hid (C = 2) := Lib.hid (by rw [← hC]; unfold Su.laC; rw [hb, if_pos rfl, if_neg hk2])
      rw [HL.out] at hk2
      clear hb hR hC
      by_cases h0 : k < 0
      · clear hk2 hk
        go_enter Try.func23, Try.ntmps23
        go_wp2_with fail
        refine hu.mono ?_
        rintro e w1 ⟨rfl, hb1⟩
        go_wp2_with fail
        go_ret2
        exact ⟨ret2U HR.out.symm HC.out.symm, hb0.trans (hb1.mono (by simp))⟩
      · have g1 : (n : Int) < k := by omega
        have g0 : (k < 0) = False := eq_false h0
        clear hk2 hk h0
        go_enter Try.func23, Try.ntmps23
        go_wp2_with fail
        refine hu.mono ?_
        rintro e w1 ⟨rfl, hb1⟩
        go_wp2_with fail
        go_ret2
        exact ⟨ret2U HR.out.symm HC.out.symm, hb0.trans (hb1.mono (by simp))⟩
abbrev B8 (x : UInt8) : Value := .int .u8 x.toNat
theorem infoB8 : (Try.prog.info? 5).map (fun i => (i.zero, i.size, i.bytes)) = some (some (.int .u8 0), 1, 1) := by kernel_rfl
theorem bytes_back {w : World} {lo hi n c : Nat} {A : Option Addr} {l : List UInt8} {T : ByteArray} (h : Own B8 w lo hi 5 (.slice A n c) l) (hT : T.data.toList = l) (hA : ∃ g, A = some ⟨g, 0, none⟩) :
    (convert 22 9 (.slice A n c)).run Try.prog w = .ok (.string T) w := by
  have hn : l.length = n := h.rd.1
  obtain ⟨g, rfl⟩ := hA
  subst hn
  have := run_convert_bytes_back (P := Try.prog) w 22 9 5 ⟨g, 0, none⟩ c l Try.underlying22 Try.underlying5 Try.underlying9 fun j hj => by
    obtain ⟨g', z, hg, _, _, _, hz, hc, _⟩ := h.at_ hj
    injection hg with hg
    injection hg with hg _ _
    subst hg
    rw [List.getElem?_eq_getElem hj] at hz
    injection hz with hz
    subst hz
    rw [addr_zero]
    exact hc
  rw [this]
  rw [show (⟨l.toArray⟩ : ByteArray) = T from bytes_extU (by rw [hT])]
set_option maxRecDepth 100000 in
set_option maxHeartbeats 4000000 in
theorem implSc_any (A : Option Addr) (n c B : Nat) (l : List Un) (T : ByteArray) (C : Int) (w : World) (h : RdS Un.S w B A n l) (hB : B ≤ w.heap.size) (hn : n ≤ 1048576) (hc : n ≤ c) (hT : T.data.toList = Su.scR l) (hC : Su.scC l = C) :
    Calls Try.prog 20 #[.slice A n c] w fun e w' => e = .returned (.tuple #[.string T, .int .i64 C]) ∧ Below w.heap.size w w' := by
  obtain ⟨i0, hi0, hz0, hz1, hz2⟩ := info_parts infoB8
  obtain ⟨b, hb⟩ : ∃ b, Su.okU l = b := ⟨_, rfl⟩
  have hu := areSetups_any (some ⟨w.heap.size, 0, none⟩) 1 1 (w.heap.size + 1) [⟨A, n, c, l⟩] b _ (RdU.lit1 (c := c) h hB hn) (by simp) (by omega) (by rw [Su.allU1]; exact hb)
  have hb0 : Below w.heap.size w (w.alloc (.cells #[.slice A n c] 28)) := (Below.refl _ _).alloc (Nat.le_refl _) _
  have HL := Lib.hid h.1
  cases b
  · have HT : Hid ((⟨#[]⟩ : ByteArray) = T) := Lib.hid (bytes_extU (by rw [hT]; unfold Su.scR; rw [hb]; rfl))
    have HC : Hid (1 = C) := Lib.hid (by rw [← hC]; unfold Su.scC; rw [hb]; rfl)
    clear hb hT hC
    go_enter Try.func20, Try.ntmps20
    go_wp2_with fail
    refine hu.mono ?_
    rintro e w1 ⟨rfl, hb1⟩
    go_wp2_with fail
    go_ret2
    exact ⟨retSU HT.out HC.out, hb0.trans (hb1.mono (by simp))⟩
  · have HT : Hid (T.data.toList = l.map Su.ltU) := Lib.hid (by rw [hT]; unfold Su.scR; rw [hb]; rfl)
    have HC : Hid (0 = C) := Lib.hid (by rw [← hC]; unfold Su.scC; rw [hb]; rfl)
    clear hb hT hC
    go_enter Try.func20, Try.ntmps20
    go_wp2_with fail
    refine hu.mono ?_
    rintro e w1 ⟨rfl, hb1_⟩
    have hb1 := hb0.trans (hb1_.mono (by simp))
    have hs1 := hb1.size
    clear hb0 hb1_ hu
    go_wp2_with (at_make; refine wp_fresh0 (enc := B8) _ rfl _ _ 22 rfl 5 i0 (.int .u8 0) 1 Try.underlying22 hi0 hz0 hz1 hz2 .i64 .i64 _ n rfl rfl rfl (by omega) (by omega) ?_; intro g2 w2 ho2 hb2)
    have hb3 := hb1.trans (hb2.mono hs1)
    have hs2 := hb2.size
    have ho3 := ho2.mono (lo' := w.heap.size) (hi' := w2.heap.size) hs1 (Nat.le_refl _)
    clear hb1 hb2 ho2
    go_loopw [4, 16] (fun p i wr => ∃ (k : Nat) (A5 : Option Addr) (c5 : Nat), k ≤ n ∧ i = .int .i64 k ∧ p = .slice A5 k c5 ∧ (∃ g, A5 = some ⟨g, 0, none⟩) ∧ Own B8 wr w.heap.size wr.heap.size 5 (.slice A5 k c5) ((l.take k).map Su.ltU) ∧ Below w.heap.size w wr) (fun _ i _ => n - (intOf i).toNat)
    case atStart => exact ⟨0, _, _, Nat.zero_le _, rfl, rfl, ⟨_, rfl⟩, by simpa using ho3, hb3⟩
    case round =>
      clear hb3 ho3 hs2 hs1
      obtain ⟨k, A5, c5, hk, rfl, rfl, hA5, ho, hbw⟩ := hrel
      have hz := hbw.size
      by_cases hlt : k < n
      · obtain ⟨b1, o, x, rfl, hbB, hx, d0, d1, d2⟩ := (h.below hbw hB).at_Un hlt
        have HN := Lib.hid (Su.map_next hx)
        have hlet := letter_any x
        have hb5 := (Below.refl wr.heap.size wr).alloc (Nat.le_refl _) (.cells #[.bool x.a, .int .i64 x.g, .bool x.o] 83)
        have ho5 := ho.below hb5 (Nat.le_refl _)
        have hbw5 := hbw.trans (hb5.mono hz)
        clear hx hb5 ho hbw
        go_wp2_with fail
        refine (hlet _).mono ?_
        rintro e w6 ⟨rfl, hb6⟩
        have ho6 := ho5.below hb6 (by simp)
        have hbw6 := hbw5.trans (hb6.mono (by simp; omega))
        have hz6 := hb6.size
        have hz7 : wr.heap.size + 1 ≤ w6.heap.size := by simpa using hz6
        have ho7 := ho6.mono (lo' := w.heap.size) (hi' := w6.heap.size) (Nat.le_refl _) (by omega)
        clear ho5 hbw5 hb6 ho6 hz6
        go_wp2_with (at_builtin; refine wp_push3 (enc := B8) w6 rfl _ _ 22 rfl 5 i0 _ 1 Try.underlying22 hi0 hz0 hz1 hz2 rfl A5 k c5 _ _ _ (by rfl) ho7 (Su.ltU x) (by rfl) rfl (by omega) (by omega) (by omega) ?_; intro A8 c8 w8 ho8 hm8 hk8; have HB8 := Lib.hid (hbw6.trans (hm8.below (Nat.le_refl _) hbw6.size)); have HO8 := Lib.hid ho8; clear ho8 hm8 hk8)
        go_roundw
        case rel => exact ⟨k + 1, A8, c8, by omega, by go_num, rfl, by obtain ⟨A', c', e1, _⟩ := HO8.out.form; rcases HO8.out.1.2 with ⟨e2, _⟩ | ⟨g, cap, cur, e2, _⟩ <;> injection e2 with e2 e3 <;> first | exact ⟨_, e2⟩ | (simp at e3), by rw [HN.out]; exact HO8.out, HB8.out⟩
        case measure => simp [intOf]; omega
      · obtain rfl : k = n := by omega
        have hcv := bytes_back ho (by rw [HT.out, List.take_of_length_le (Nat.le_of_eq HL.out)]) hA5
        clear ho hA5
        go_wp2_with fail
        go_ret2
        exact ⟨retSU rfl HC.out, hbw⟩
end Go.Proofs.Ytnfnmdeiaihgnaa

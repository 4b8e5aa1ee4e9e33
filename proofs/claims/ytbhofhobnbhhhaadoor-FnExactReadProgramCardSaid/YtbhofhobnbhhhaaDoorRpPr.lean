/- Contract of the program's ReadProgram. -/
import Derived.Test.YtbhofhobnbhhhaaDoorRpIm
namespace Go.Proofs.YtbhofhobnbhhhaaDoor
open Go.RowKit
set_option linter.unusedVariables false

set_option maxRecDepth 100000 in
set_option maxHeartbeats 8000000 in
theorem implRp_any (s : ByteArray) (w : World) (h : Lb w) (hs : s.size ≤ 1048576) :
    Calls Tryd.prog 44 #[.string s] w (RpE s w) := by
  by_cases h0 : s = ⟨#[]⟩
  · subst h0
    clear h
    go_enter Tryd.func44, Tryd.ntmps44
    go_wp2_with fail
    go_ret2
    exact RpE.mk_ OwnS.nil_ Px.RP.empty (Below.refl _ _)
  · have HS := Lib.hid h0
    have hne : (s.toList == []) = false := by
      rw [beq_eq_false_iff_ne, ByteArray.toList_eq]
      intro he
      exact h0 (Px.bytes_ext he)
    have HW := Lib.hid (Px.words_split h0)
    have hsp := splitN_any s w h hs
    obtain ⟨W, hW⟩ : ∃ v, v = Lib.splitB ⟨#[32]⟩ 0 (min 80 (s.size + 1) - 1) s := ⟨_, rfl⟩
    have HWZ : Hid (∀ (k : Nat) (x : ByteArray), W[k]? = some x → x.size ≤ 1048576) := Lib.hid fun k x hx => by
      have := split_size _ _ s x (List.mem_of_getElem? (by rw [← hW]; exact hx))
      omega
    rw [← hW] at HW hsp
    have HSP := Lib.hid hsp
    have HL := Lib.hid h
    clear hW hsp h0 h
    go_enter Tryd.func44, Tryd.ntmps44
    go_wp2_with fail
    refine HSP.out.mono ?_
    rintro e w1 ⟨m, c1, rfl, hm80, hml, hcw, hb1, hz1⟩
    have HMW := Lib.hid hml
    have HCW := Lib.hid hcw
    clear hcw hml
    have hL1 := HL.out.below hb1
    have HL1 := Lib.hid hL1
    clear hL1
    go_wp2_with fail
    go_loopw [4, 14] (fun v i wr => ∃ (k : Nat) (A2 : Option Addr) (c2 : Nat) (R : List Ct), k ≤ m ∧ i = .int .i64 k ∧ v = .slice A2 k c2 ∧ OwnS Ct.S wr w1.heap.size wr.heap.size (.slice A2 k c2) R ∧ Hid (Px.Pre s R k) ∧ Below w1.heap.size w1 wr) (fun _ i _ => m - (intOf i).toNat)
    case atStart => exact ⟨0, _, _, [], Nat.zero_le _, rfl, rfl, OwnS.nil_, Lib.hid (Px.Pre.zero s), Below.refl _ _⟩
    case round =>
      obtain ⟨k, A2, c2, R, hk, rfl, rfl, ho, HP, hb⟩ := hrel
      have hz := hb.size
      by_cases hlt : k < m
      · obtain ⟨x, hx⟩ : ∃ x, W[k]? = some x := ⟨_, List.getElem?_eq_getElem (by rw [HMW.out]; exact hlt)⟩
        have HX := Lib.hid hx
        have c0 : wr.cell? ⟨w.heap.size, k, none⟩ = some (.string x) := (hb.cell (p := ⟨w.heap.size, k, none⟩) (by show w.heap.size < w1.heap.size; omega)).trans (HCW.out k x hx)
        have hxz := HWZ.out k x hx
        have HLr := HL1.out.below hb
        have hrc := readCut_any x wr HLr hxz
        clear hx hxz HLr
        go_wp2_with fail
        refine hrc.mono ?_
        rintro e w5 ⟨y, b, rfl, hwd, hb5⟩
        have hz5 := hb5.size
        have ho5 := (ho.below hb5 (Nat.le_refl _)).mono (Nat.le_refl _) hz5
        have hbb := hb.trans (hb5.mono hz)
        clear hrc ho c0
        have HB3 : Hid (Below w5.heap.size w5 (w5.alloc (.cells #[.int .i64 y.i, .bool y.a, .int .i64 y.t] 76))) := Lib.hid ((Below.refl _ _).alloc (Nat.le_refl _) _)
        cases b
        · have HRP : Hid (Px.RP s [] false) := Lib.hid (Px.RP.word HS.out HW.out HX.out fun c hc hx => by have := (hwd c hc hx).2; cases this)
          have HBB : Hid (Below w.heap.size w _) := Lib.hid ((hb1.trans (hbb.mono (by omega))).trans (HB3.out.mono (by omega)))
          clear hwd ho5
          go_wp2_with fail
          go_ret2
          exact RpE.mk_ OwnS.nil_ HRP.out HBB.out
        · have HPN : Hid (Px.Pre s (R ++ [y]) (k + 1)) := Lib.hid (Px.Pre.next HS.out HP.out HW.out HX.out fun c hc hx => (hwd c hc hx).1)
          have ho3 := ho5.below HB3.out (Nat.le_refl _)
          have hb3 := hbb.trans (HB3.out.mono (by omega))
          have hz3 := hb3.size
          clear hwd ho5
          go_wp2_with (at_builtin; refine wp_pushCt (w5.alloc (.cells #[.int .i64 y.i, .bool y.a, .int .i64 y.t] 76)) rfl (.tmp 25) (.tmp 27) 54 rfl Tryd.underlying54 A2 k c2 R w1.heap.size w5.heap.size (by rfl) ho3 y (w5.alloc (.cells #[.int .i64 y.i, .bool y.a, .int .i64 y.t] 76)).heap.size (by simp [go_sem]) rfl (by omega) (by omega) ?_; intro A6 c6 w6 ho6 hm6)
          go_roundw
          case rel => exact ⟨k + 1, A6, c6, _, by omega, by go_num, rfl, ho6, HPN, hb3.trans (hm6.below (Nat.le_refl _) (by omega))⟩
          case measure => simp [intOf]; omega
      · obtain rfl : m = k := by omega
        obtain ⟨T, hT⟩ : ∃ v, Px.ptS R = v := ⟨_, rfl⟩
        have HT := Lib.hid hT
        clear hT
        have hLr := HL1.out.below hb
        have hpt := implPt_any A2 m c2 wr.heap.size R T wr ho.rd (Nat.le_refl _) (by omega) hLr.tab HT.out
        clear hLr
        go_wp2_with fail
        refine hpt.mono ?_
        rintro e w8 ⟨rfl, hb8⟩
        have hbb : Below w.heap.size w w8 := (hb1.trans (hb.mono (by omega))).trans (hb8.mono (by omega))
        by_cases hTs : T = s
        · subst hTs
          have HRP : Hid (Px.RP T R true) := Lib.hid (Px.RP.reads HS.out HT.out)
          have ho8 := (ho.below hb8 (Nat.le_refl _)).mono (lo' := w.heap.size) (by omega) hb8.size
          clear ho
          go_wp2_with fail
          go_ret2
          exact RpE.mk_ ho8 HRP.out hbb
        · have HRP : Hid (Px.RP s [] false) := Lib.hid (Px.RP.differs HS.out HP.out (Px.words_len HW.out HMW.out) (by rw [HT.out]; exact hTs))
          have hneT : (T.toList == s.toList) = false := by
            rw [beq_eq_false_iff_ne, ByteArray.toList_eq, ByteArray.toList_eq]
            intro he
            exact hTs (Px.bytes_ext he)
          clear ho
          go_wp2_with fail
          go_ret2
          exact RpE.mk_ OwnS.nil_ HRP.out hbb
end Go.Proofs.YtbhofhobnbhhhaaDoor

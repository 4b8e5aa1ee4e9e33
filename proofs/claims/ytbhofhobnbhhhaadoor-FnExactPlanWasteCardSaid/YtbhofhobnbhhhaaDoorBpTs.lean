/- The program's table of best usages, and BestValue. -/
import Derived.Test.YtbhofhobnbhhhaaDoorBpUs
import Derived.Deep.RegionLaw
namespace Go.Proofs.YtbhofhobnbhhhaaDoor
open Go.RowKit
set_option linter.unusedVariables false

set_option maxRecDepth 100000 in
theorem sizeUT : Tryd.t110.zero.map (fun z => z.cells.size) = some 8405 := by kernel_rfl
theorem infoUT : Tryd.prog.info? 110 = some Tryd.t110 := by kernel_rfl
/-- The zero table: so many cells. -/
theorem zeroUT : ∃ Z : Array Value, Z.size = 8405 ∧ ∀ W, (zeroValue 110).run Tryd.prog W = .ok (.agg Z) W := by
  have h3 := infoUT
  have h2 := sizeUT
  generalize Tryd.t110 = i at h2 h3
  cases hz : i.zero with
  | none => rw [hz] at h2; cases h2
  | some z =>
    rw [hz] at h2
    have h2 : z.cells.size = 8405 := by injection h2
    have hZ : ∃ Z, z = .agg Z := by
      cases z <;> first | exact ⟨_, rfl⟩ | (exfalso; simp [Value.cells] at h2)
    obtain ⟨Z, rfl⟩ := hZ
    refine ⟨Z, h2, fun W => ?_⟩
    have hp : (program).run Tryd.prog W = .ok Tryd.prog W := rfl
    simp [zeroValue, typeInfo, hp, h3, hz]
theorem set_at {cs : Array Value} {i j : Nat} {v : Value} (h : i < cs.size) (e : i = j) : (cs.setIfInBounds i v)[j]? = some v := by
  subst e
  rw [Array.getElem?_setIfInBounds, if_pos rfl, if_pos h]
theorem set_ne {cs : Array Value} {i j : Nat} {v : Value} (e : i ≠ j) : (cs.setIfInBounds i v)[j]? = cs[j]? := by
  rw [Array.getElem?_setIfInBounds, if_neg e]
theorem UsT.start (l : List Kd) {cs : Array Value} (SH : Nat) (h : cs.size = 8405) : UsT l cs 1 1 SH := ⟨h, fun a b h1 h2 h3 h4 => by omega⟩
theorem UsT.row {l : List Kd} {cs : Array Value} {W SH : Nat} (h : UsT l cs W (SH + 1) SH) : UsT l cs (W + 1) 1 SH := ⟨h.1, fun a b h1 h2 h3 h4 => h.2 a b h1 h2 h3 (by omega)⟩
theorem UsT.put {l : List Kd} {cs : Array Value} {W H SH t : Nat} {mk : ByteArray} {ac : Bool} {v : Int} (h : UsT l cs W H SH) (hW : W ≤ 40) (hS : SH ≤ 40) (hH : H ≤ SH) (hu : Bc.UsR l W H mk.data.toList ac t v) :
    UsT l (((((cs.setIfInBounds (W * 205 + H * 5) (.string mk)).setIfInBounds (W * 205 + H * 5 + 1) (.int .i64 0)).setIfInBounds (W * 205 + H * 5 + 2) (.bool ac)).setIfInBounds (W * 205 + H * 5 + 3) (.int .i64 (t : Int))).setIfInBounds (W * 205 + H * 5 + 4) (.int .i64 v)) W (H + 1) SH := by
  have hs := h.1
  refine ⟨by simpa using hs, fun a b h1 h2 h3 h4 => ?_⟩
  by_cases he : a = W ∧ b = H
  · obtain ⟨rfl, rfl⟩ := he
    refine ⟨mk, ac, t, v, hu, ?_, ?_, ?_, ?_, ?_⟩
    · rw [set_ne (by omega), set_ne (by omega), set_ne (by omega), set_ne (by omega)]; exact set_at (by omega) rfl
    · rw [set_ne (by omega), set_ne (by omega), set_ne (by omega)]; exact set_at (by simp; omega) rfl
    · rw [set_ne (by omega), set_ne (by omega)]; exact set_at (by simp; omega) rfl
    · rw [set_ne (by omega)]; exact set_at (by simp; omega) rfl
    · exact set_at (by simp; omega) rfl
  · obtain ⟨mk', ac', t', v', h5, c0, c1, c2, c3, c4⟩ := h.2 a b h1 h2 h3 (by omega)
    have hne : ∀ i j, i < 5 → j < 5 → W * 205 + H * 5 + i ≠ a * 205 + b * 5 + j := fun i j hi hj => by omega
    have k : ∀ j, j < 5 → (((((cs.setIfInBounds (W * 205 + H * 5) (.string mk)).setIfInBounds (W * 205 + H * 5 + 1) (.int .i64 0)).setIfInBounds (W * 205 + H * 5 + 2) (.bool ac)).setIfInBounds (W * 205 + H * 5 + 3) (.int .i64 (t : Int))).setIfInBounds (W * 205 + H * 5 + 4) (.int .i64 v))[a * 205 + b * 5 + j]? = cs[a * 205 + b * 5 + j]? := fun j hj => by
      rw [set_ne (hne 4 j (by omega) hj), set_ne (hne 3 j (by omega) hj), set_ne (hne 2 j (by omega) hj), set_ne (hne 1 j (by omega) hj), set_ne (by have := hne 0 j (by omega) hj; omega)]
    exact ⟨mk', ac', t', v', h5, (k 0 (by omega)).trans c0, (k 1 (by omega)).trans c1, (k 2 (by omega)).trans c2, (k 3 (by omega)).trans c3, (k 4 (by omega)).trans c4⟩
theorem bestUsage_un (A : Option Addr) (n c B : Nat) (l : List Kd) (g : Nat) (cs : Array Value) (W H SH : Nat) (w : World) (h : RdS Kd.S w B A n l) (hB : B ≤ w.heap.size) (hok : Bc.okL l = true) (hg : Blk w g cs 110) (hU : UsT l cs W H SH) (hW : 1 ≤ W ∧ W ≤ 40) (hH : 1 ≤ H ∧ H ≤ SH) (hS : SH ≤ 40) :
    Calls Tryd.prog 77 #[.slice A n c, .pointer (some ⟨g, 0, none⟩), .agg #[.int .i64 (W : Int), .int .i64 (H : Int)]] w fun e w' => ∃ (mk : ByteArray) (ac : Bool) (t : Nat) (v : Int), e = .returned (.agg #[.string mk, .int .i64 0, .bool ac, .int .i64 (t : Int), .int .i64 v]) ∧ Bc.UsR l W H mk.data.toList ac t v ∧ Below w.heap.size w w' := bestUsage_any A n c B l g cs W H SH w h hB hok hg hU hW hH hS
/-- A table that is handed back. -/
def TsE (l : List Kd) (W H : Nat) (w : World) (e : Ending) (w' : World) : Prop := ∃ (G : Nat) (cs : Array Value), e = .returned (.pointer (some ⟨G, 0, none⟩)) ∧ Blk w' G cs 110 ∧ w.heap.size ≤ G ∧ UsT l cs (W + 1) 1 H ∧ Below w.heap.size w w'
theorem TsE.mk_ {l : List Kd} {W H G : Nat} {cs : Array Value} {w w' : World} (h : Blk w' G cs 110) (hG : w.heap.size ≤ G) (hU : UsT l cs (W + 1) 1 H) (hb : Below w.heap.size w w') : TsE l W H w (.returned (.pointer (some ⟨G, 0, none⟩))) w' := ⟨G, cs, rfl, h, hG, hU, hb⟩
set_option maxRecDepth 100000 in
set_option maxHeartbeats 8000000 in
theorem usages_any (A : Option Addr) (n c B : Nat) (l : List Kd) (SW SH : Nat) (w : World) (h : RdS Kd.S w B A n l) (hB : B ≤ w.heap.size) (hok : Bc.okL l = true) (hW : 1 ≤ SW ∧ SW ≤ 40) (hH : 1 ≤ SH ∧ SH ≤ 40) :
    Calls Tryd.prog 50 #[.slice A n c, .agg #[.int .i64 (SW : Int), .int .i64 (SH : Int)]] w fun e w' => TsE l SW SH w e w' := by
  obtain ⟨Z, hZ, hzero⟩ := zeroUT
  have HZ := Lib.hid hZ
  have HOK := Lib.hid hok
  have p0 := ((Blk.new (w := w) (g := w.heap.size) #[.int .i64 (SW : Int), .int .i64 (SH : Int)] 67 rfl).alloc (.cells Z 110))
  have t0 := Blk.new (w := w.alloc (.cells #[.int .i64 (SW : Int), .int .i64 (SH : Int)] 67)) (g := w.heap.size + 1) Z 110 (by simp)
  have hb0 : Below w.heap.size w ((w.alloc (.cells #[.int .i64 (SW : Int), .int .i64 (SH : Int)] 67)).alloc (.cells Z 110)) := ((below_new9 w _).alloc (by simp) _)
  have HU0 := Lib.hid (UsT.start l SH hZ)
  clear hZ hok
  go_enter Tryd.func50, Tryd.ntmps50
  go_wp2_with fail
  go_loopw [6] (fun i wr => ∃ (W : Nat) (cs : Array Value), 1 ≤ W ∧ W ≤ SW + 1 ∧ i = .int .i64 (W : Int) ∧ Blk wr w.heap.size #[.int .i64 (SW : Int), .int .i64 (SH : Int)] 67 ∧ Blk wr (w.heap.size + 1) cs 110 ∧ Below w.heap.size w wr ∧ Hid (UsT l cs W 1 SH)) (fun i _ => 50 - (intOf i).toNat)
  case atStart => exact ⟨1, Z, Nat.le_refl _, by omega, rfl, p0, t0, hb0, HU0⟩
  case round =>
    clear p0 t0 hb0 HU0
    obtain ⟨W, cs, hw1, hw2, rfl, hp, ht, hb, HU⟩ := hrel
    obtain ⟨wo, hwo⟩ : ∃ wo, wo = wr := ⟨_, rfl⟩
    subst hwo
    have HP := Lib.hid hp
    have HT := Lib.hid ht
    have HB := Lib.hid hb
    have c0 := hp.cell 0 (v := .int .i64 (SW : Int)) rfl
    clear hp ht hb
    by_cases hle : W ≤ SW
    · have hleI : (W : Int) ≤ (SW : Int) := by omega
      go_wp2_with fail
      go_loopw [7] (fun i wi => ∃ (H : Nat) (cs : Array Value), 1 ≤ H ∧ H ≤ SH + 1 ∧ i = .int .i64 (H : Int) ∧ Blk wi w.heap.size #[.int .i64 (SW : Int), .int .i64 (SH : Int)] 67 ∧ Blk wi (w.heap.size + 1) cs 110 ∧ Below w.heap.size w wi ∧ Hid (UsT l cs W H SH)) (fun i _ => 50 - (intOf i).toNat)
      case atStart => exact ⟨1, cs, Nat.le_refl _, by omega, rfl, HP.out, HT.out, HB.out, HU⟩
      case round =>
        clear HP HT HB HU c0
        obtain ⟨H, cs, hh1, hh2, rfl, hp, ht, hb, HU⟩ := hrel
        obtain ⟨wi, hwi⟩ : ∃ wi, wi = wr := ⟨_, rfl⟩
        subst hwi
        have HP := Lib.hid hp
        have HT := Lib.hid ht
        have HB := Lib.hid hb
        have c1 := hp.cell 1 (v := .int .i64 (SH : Int)) rfl
        have hz := hb.size
        have hsz := HU.out.1
        have hbu := fun q1 q2 => bestUsage_un A n c B l (w.heap.size + 1) cs W H SH wi.drew (h.below (below_drewN' hb 1) hB) (by show B ≤ wi.heap.size; omega) HOK.out ht HU.out q1 q2 hH.2
        have HCS := Lib.hid hsz
        clear hp ht hb hsz
        by_cases hleh : H ≤ SH
        · have hbu := hbu ⟨hw1, by omega⟩ ⟨hh1, hleh⟩
          have hlehI : (H : Int) ≤ (SH : Int) := by omega
          have x1 : (W : Int) < 41 := by omega
          have x2 : (H : Int) < 41 := by omega
          have eH : IntKind.i64.wrap ((H : Int) + 1) = (H : Int) + 1 := IntWalk.i64_in _ (by omega)
          go_wp2_with fail
          go_region_held3 (fun _ => True) (first | exact True.intro)
            (first | (go_at_call 77; with_reducible refine hbu.mono ?_; rintro e' w5 ⟨mk, ac, t, v, rfl, hu, hbk⟩; have HX := Lib.hid (HT.out.below (below_drewN' (Below.refl _ _) 1 |>.trans hbk) HT.out.lt); have g0 := HX.out.cell (W * 205 + H * 5) (v := cs[W * 205 + H * 5]!) (by have := HCS.out; rw [getElem!_pos cs _ (by omega)]; exact Array.getElem?_eq_getElem _); have g1 := HX.out.cell (W * 205 + H * 5 + 1) (v := cs[W * 205 + H * 5 + 1]!) (by have := HCS.out; rw [getElem!_pos cs _ (by omega)]; exact Array.getElem?_eq_getElem _); have g2 := HX.out.cell (W * 205 + H * 5 + 2) (v := cs[W * 205 + H * 5 + 2]!) (by have := HCS.out; rw [getElem!_pos cs _ (by omega)]; exact Array.getElem?_eq_getElem _); have g3 := HX.out.cell (W * 205 + H * 5 + 3) (v := cs[W * 205 + H * 5 + 3]!) (by have := HCS.out; rw [getElem!_pos cs _ (by omega)]; exact Array.getElem?_eq_getElem _); have g4 := HX.out.cell (W * 205 + H * 5 + 4) (v := cs[W * 205 + H * 5 + 4]!) (by have := HCS.out; rw [getElem!_pos cs _ (by omega)]; exact Array.getElem?_eq_getElem _); have f0 := HX.out.free (W * 205 + H * 5); have f1 := HX.out.free (W * 205 + H * 5 + 1); have f2 := HX.out.free (W * 205 + H * 5 + 2); have f3 := HX.out.free (W * 205 + H * 5 + 3); have f4 := HX.out.free (W * 205 + H * 5 + 4)))
          have HN := Lib.hid (HU.out.put (by omega) hH.2 hleh hu)
          have HT9 := Lib.hid (((((HX.out.set (W * 205 + H * 5) (.string mk)).set (W * 205 + H * 5 + 1) (.int .i64 0)).set (W * 205 + H * 5 + 2) (.bool ac)).set (W * 205 + H * 5 + 3) (.int .i64 (t : Int))).set (W * 205 + H * 5 + 4) (.int .i64 v))
          have HP9 := Lib.hid ((((((HP.out.below ((below_drewN' (Below.refl _ _) 1).trans hbk) HP.out.lt).other ⟨w.heap.size + 1, W * 205 + H * 5, none⟩ (.string mk) (show w.heap.size ≠ w.heap.size + 1 by omega)).other ⟨w.heap.size + 1, W * 205 + H * 5 + 1, none⟩ (.int .i64 0) (show w.heap.size ≠ w.heap.size + 1 by omega)).other ⟨w.heap.size + 1, W * 205 + H * 5 + 2, none⟩ (.bool ac) (show w.heap.size ≠ w.heap.size + 1 by omega)).other ⟨w.heap.size + 1, W * 205 + H * 5 + 3, none⟩ (.int .i64 (t : Int)) (show w.heap.size ≠ w.heap.size + 1 by omega)).other ⟨w.heap.size + 1, W * 205 + H * 5 + 4, none⟩ (.int .i64 v) (show w.heap.size ≠ w.heap.size + 1 by omega))
          have HB9 := Lib.hid (below_set9 (below_set9 (below_set9 (below_set9 (below_set9 (HB.out.trans (((below_drewN' (Below.refl _ _) 1).trans hbk).mono hz)) (b := ⟨w.heap.size + 1, W * 205 + H * 5, none⟩) (v := .string mk) (show w.heap.size ≤ w.heap.size + 1 by omega)) (b := ⟨w.heap.size + 1, W * 205 + H * 5 + 1, none⟩) (v := .int .i64 0) (show w.heap.size ≤ w.heap.size + 1 by omega)) (b := ⟨w.heap.size + 1, W * 205 + H * 5 + 2, none⟩) (v := .bool ac) (show w.heap.size ≤ w.heap.size + 1 by omega)) (b := ⟨w.heap.size + 1, W * 205 + H * 5 + 3, none⟩) (v := .int .i64 (t : Int)) (show w.heap.size ≤ w.heap.size + 1 by omega)) (b := ⟨w.heap.size + 1, W * 205 + H * 5 + 4, none⟩) (v := .int .i64 v) (show w.heap.size ≤ w.heap.size + 1 by omega))
          clear hbk hu g0 g1 g2 g3 g4 f0 f1 f2 f3 f4 HX
          go_wp2_with fail
          go_roundw
          case rel => exact ⟨H + 1, _, by omega, by omega, by simp, HP9.out, HT9.out, HB9.out, HN⟩
          case measure => simp [intOf]; omega
        · have hleF : ((H : Int) ≤ (SH : Int)) = False := eq_false (by omega)
          obtain rfl : H = SH + 1 := by omega
          have HN := Lib.hid HU.out.row
          have eW : IntKind.i64.wrap ((W : Int) + 1) = (W : Int) + 1 := IntWalk.i64_in _ (by omega)
          clear hbu
          go_wp2_with fail
          go_roundw
          case rel => exact ⟨W + 1, cs, by omega, by omega, by simp, HP.out, HT.out, HB.out, HN⟩
          case measure => simp [intOf]; omega
    · have hleF : ((W : Int) ≤ (SW : Int)) = False := eq_false (by omega)
      obtain rfl : W = SW + 1 := by omega
      go_wp2_with fail
      go_ret
      exact TsE.mk_ HT.out (by omega) HU.out HB.out
theorem usages_un (A : Option Addr) (n c B : Nat) (l : List Kd) (SW SH : Nat) (w : World) (h : RdS Kd.S w B A n l) (hB : B ≤ w.heap.size) (hok : Bc.okL l = true) (hW : 1 ≤ SW ∧ SW ≤ 40) (hH : 1 ≤ SH ∧ SH ≤ 40) :
    Calls Tryd.prog 50 #[.slice A n c, .agg #[.int .i64 (SW : Int), .int .i64 (SH : Int)]] w fun e w' => ∃ (G : Nat) (cs : Array Value), e = .returned (.pointer (some ⟨G, 0, none⟩)) ∧ Blk w' G cs 110 ∧ w.heap.size ≤ G ∧ UsT l cs (SW + 1) 1 SH ∧ Below w.heap.size w w' := usages_any A n c B l SW SH w h hB hok hW hH
set_option maxRecDepth 100000 in
set_option maxHeartbeats 4000000 in
theorem implBv_any (w0 h0 : Int) (A : Option Addr) (n c B : Nat) (l : List Kd) (R C : Int) (w : World) (h : RdS Kd.S w B A n l) (hB : B ≤ w.heap.size) (hn : n ≤ 1048577) (hc : n ≤ c) (b1 : Bc.i64 w0) (b2 : Bc.i64 h0) (hR : Bc.bvR w0 h0 l = R) (hC : Bc.code w0 h0 l = C) :
    Calls Tryd.prog 15 #[.int .i64 w0, .int .i64 h0, .slice A n c] w fun e w' => e = .returned (.tuple #[.int .i64 R, .int .i64 C]) ∧ Below w.heap.size w w' := by
  have hco := checkCut_any w0 h0 A n c B l C w h hB hn hc hC
  clear b1 b2
  by_cases hc0 : C = 0
  · subst hc0
    obtain ⟨hok, hos⟩ := Bc.code0 hC
    have hs := Bc.okS_iff.1 hos
    obtain ⟨W, rfl⟩ : ∃ W : Nat, w0 = (W : Int) := ⟨w0.toNat, by omega⟩
    obtain ⟨H, rfl⟩ : ∃ H : Nat, h0 = (H : Int) := ⟨h0.toNat, by omega⟩
    have HR : Hid (Bc.V l W H = R) := Lib.hid (by rw [← hR]; unfold Bc.bvR; rw [if_pos hC]; rfl)
    have hs' : (1 ≤ W ∧ W ≤ 40) ∧ (1 ≤ H ∧ H ≤ 40) := by omega
    have hof := fun G V => of12_any G W H V hs'.1.2 hs'.2.2
    have HOK := Lib.hid hok
    clear hR hC hok hos hs
    go_enter Tryd.func15, Tryd.ntmps15
    go_wp2_with fail
    refine hco.mono ?_
    rintro e w1 ⟨rfl, hb1⟩
    have z1 := hb1.size
    clear hco
    have BX := Lib.hid (Blk.new (w := w1) (g := w1.heap.size) #[.int .i64 (W : Int), .int .i64 (H : Int)] 67 rfl)
    have HB1 := Lib.hid (hb1.trans ((below_new9 w1 (.cells #[.int .i64 (W : Int), .int .i64 (H : Int)] 67)).mono z1))
    have zA : (w1.alloc (.cells #[.int .i64 (W : Int), .int .i64 (H : Int)] 67)).heap.size = w1.heap.size + 1 := by simp
    go_wp2_with fail
    generalize w1.alloc (.cells #[.int .i64 (W : Int), .int .i64 (H : Int)] 67) = w2 at BX HB1 zA ⊢
    have hus := usages_un A n c B l W H w2.drew (h.below (below_drewN' HB1.out 1) hB) (by show B ≤ w2.heap.size; omega) HOK.out hs'.1 hs'.2
    have x0 := BX.out.cell 0 (v := .int .i64 (W : Int)) rfl
    have x1 := BX.out.cell 1 (v := .int .i64 (H : Int)) rfl
    have l1 : w1.heap.size < w2.heap.size := by omega
    go_region_law (first
        | (go_simp; go_at_call 55; refine (hof G _).mono ?_; rintro e' w6 ⟨rfl, hbkB⟩; have tv := (hT5.out.below hbkB hT5.out.lt).cell _ (hV5.out))
        | (go_simp; go_at_call 50; refine hus.mono ?_; rintro e' w5 ⟨G, cs, rfl, hT, hG, hU, hbkA⟩; have hV5 := Lib.hid ((hU.value (a := W) (b := H) (by omega) (by omega) (by omega) (by omega)).trans (by rw [HR.out])); have hT5 := Lib.hid hT; have zG := szD12 hbkA; have y0 : w5.cell? ⟨w1.heap.size, 0, none⟩ = some (.int .i64 (W : Int)) := (hbkA.cell (by exact l1)).trans x0; have y1 : w5.cell? ⟨w1.heap.size, 1, none⟩ = some (.int .i64 (H : Int)) := (hbkA.cell (by exact l1)).trans x1; clear hT hU))
    all_goals
      have HBF := Lib.hid (HB1.out.trans (((below_drewN' (Below.refl _ _) 1).trans (hbkA.trans (hbkB.mono (show w2.drew.heap.size ≤ w5.heap.size from zG)))).mono (by show w.heap.size ≤ w2.heap.size; omega)))
      clear hbkA hbkB
      go_wp2_with fail
      go_ret2
      exact ⟨rfl, HBF.out⟩
  · have hc0' : (C != 0) = true := by simpa using hc0
    obtain rfl : R = 0 := by rw [← hR]; unfold Bc.bvR; rw [hC, if_neg hc0]
    clear hR hC
    go_enter Tryd.func15, Tryd.ntmps15
    go_wp2_with fail
    refine hco.mono ?_
    rintro e w1 ⟨rfl, hb1⟩
    go_wp2_with fail
    go_ret2
    exact ⟨rfl, hb1⟩
end Go.Proofs.YtbhofhobnbhhhaaDoor

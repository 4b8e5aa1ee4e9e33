/- The program's best usage of a sheet, over a table that has those of all smaller ones. -/
import Derived.Test.YtbhofhobnbhhhaaDoorBpKn
import Derived.Test.YtbhofhobnbhhhaaDoorBpMath
import Derived.Test.YtbhofhobnbhhhaaDoorGuPa
import Derived.Test.YtbhofhobnbhhhaaDoorBcPn
import Derived.Laws.Rows
namespace Go.Proofs.YtbhofhobnbhhhaaDoor
open Go.RowKit
set_option linter.unusedVariables false

theorem of12_any (g a b : Nat) (w : World) (ha : a ≤ 40) (hb : b ≤ 40) :
    Calls Tryd.prog 55 #[.pointer (some ⟨g, 0, none⟩), .agg #[.int .i64 (a : Int), .int .i64 (b : Int)]] w fun e w' => e = .returned (.pointer (some ⟨g, a * 205 + b * 5, none⟩)) ∧ Below w.heap.size w w' := by
  have HBx := Lib.hid (below_new9 w (.cells #[.int .i64 (a : Int), .int .i64 (b : Int)] 67))
  go_enter Tryd.func55, Tryd.ntmps55
  go_wp2_with fail
  go_quiet (fail)
  go_wp2_with fail
  go_ret
  exact ⟨rfl, below_drewN' HBx.out nq⟩
theorem partsV_any (W H q m : Nat) (w : World) (hW : 1 ≤ W ∧ W ≤ 40) (hH : 1 ≤ H ∧ H ≤ 40) (h1 : 1 ≤ q) (h2 : q < W) (hm : m + q = W) :
    Calls Tryd.prog 78 #[.agg #[.int .i64 (W : Int), .int .i64 (H : Int)], .agg #[.int .i64 0, .bool false, .int .i64 (q : Int)]] w fun e w' => e = .returned (.tuple #[.agg #[.int .i64 (q : Int), .int .i64 (H : Int)], .agg #[.int .i64 (m : Int), .int .i64 (H : Int)]]) ∧ Below w.heap.size w w' := by
  have h := parts_any ⟨(W : Int), (H : Int)⟩ 0 false (q : Int) w (Gu.okP_iff.2 ⟨by show (1 : Int) ≤ W; omega, by show (W : Int) ≤ 20000; omega, by show (1 : Int) ≤ H; omega, by show (H : Int) ≤ 20000; omega⟩) (by omega) (by show (q : Int) < (W : Int); omega)
  rw [show (m : Int) = (W : Int) - (q : Int) by omega]
  exact h
theorem partsH_any (W H q m : Nat) (w : World) (hW : 1 ≤ W ∧ W ≤ 40) (hH : 1 ≤ H ∧ H ≤ 40) (h1 : 1 ≤ q) (h2 : q < H) (hm : m + q = H) :
    Calls Tryd.prog 78 #[.agg #[.int .i64 (W : Int), .int .i64 (H : Int)], .agg #[.int .i64 0, .bool true, .int .i64 (q : Int)]] w fun e w' => e = .returned (.tuple #[.agg #[.int .i64 (W : Int), .int .i64 (q : Int)], .agg #[.int .i64 (W : Int), .int .i64 (m : Int)]]) ∧ Below w.heap.size w w' := by
  have h := parts_any ⟨(W : Int), (H : Int)⟩ 0 true (q : Int) w (Gu.okP_iff.2 ⟨by show (1 : Int) ≤ W; omega, by show (W : Int) ≤ 20000; omega, by show (1 : Int) ≤ H; omega, by show (H : Int) ≤ 20000; omega⟩) (by omega) (by show (q : Int) < (H : Int); omega)
  rw [show (m : Int) = (H : Int) - (q : Int) by omega]
  exact h
theorem szD12 {w w' : World} {B : Nat} (h : Below B w.drew w') : w.heap.size ≤ w'.heap.size := h.size
/-- The cells of the table: the best usages of all sheets that come ahead of W, H. -/
def UsT (l : List Kd) (cs : Array Value) (W H SH : Nat) : Prop := cs.size = 8405 ∧
  ∀ a b, 1 ≤ a → 1 ≤ b → b ≤ SH → (a < W ∨ (a = W ∧ b < H)) → ∃ (mk : ByteArray) (ac : Bool) (t : Nat) (v : Int), Bc.UsR l a b mk.data.toList ac t v ∧
    cs[a * 205 + b * 5]? = some (.string mk) ∧ cs[a * 205 + b * 5 + 1]? = some (.int .i64 0) ∧ cs[a * 205 + b * 5 + 2]? = some (.bool ac) ∧ cs[a * 205 + b * 5 + 3]? = some (.int .i64 (t : Int)) ∧ cs[a * 205 + b * 5 + 4]? = some (.int .i64 v)
theorem UsT.value {l : List Kd} {cs : Array Value} {W H SH a b : Nat} (h : UsT l cs W H SH) (h1 : 1 ≤ a) (h2 : 1 ≤ b) (h3 : b ≤ SH) (h4 : a < W ∨ (a = W ∧ b < H)) : cs[a * 205 + b * 5 + 4]? = some (.int .i64 (Bc.V l a b)) := by
  obtain ⟨mk, ac, t, v, hu, _, _, _, _, hc⟩ := h.2 a b h1 h2 h3 h4
  rw [← hu.1]
  exact hc
/-- The boxes of the sheet, of the result and of the best usage so far. -/
structure BuM (w : World) (W H : Nat) (mk : ByteArray) (ac : Bool) (t : Nat) (v : Int) (V : World) : Prop where
  p : Blk V w.heap.size #[.int .i64 (W : Int), .int .i64 (H : Int)] 67
  r : Blk V (w.heap.size + 1) #[.string ⟨#[]⟩, .int .i64 0, .bool false, .int .i64 0, .int .i64 0] 78
  u : Blk V (w.heap.size + 1 + 1) #[.string mk, .int .i64 0, .bool ac, .int .i64 (t : Int), .int .i64 v] 78
  b : Below w.heap.size w V
structure BuC (w : World) (G W H : Nat) (mk : ByteArray) (ac : Bool) (t : Nat) (v : Int) (ax : Bool) (q : Nat) (V : World) : Prop where
  m : BuM w W H mk ac t v V
  c : Blk V G #[.int .i64 0, .bool ax, .int .i64 (q : Int)] 76
  g : w.heap.size + 3 ≤ G
section
variable {w V V' : World} {W H G t q : Nat} {mk : ByteArray} {ac ax : Bool} {v : Int}
theorem BuM.below (h : BuM w W H mk ac t v V) (hb : Below V.heap.size V V') : BuM w W H mk ac t v V' :=
  ⟨h.p.below hb h.p.lt, h.r.below hb h.r.lt, h.u.below hb h.u.lt, h.b.trans (hb.mono h.b.size)⟩
theorem BuM.put (h : BuM w W H mk ac t v V) (mk' : ByteArray) (ac' : Bool) (t' : Nat) (v' : Int) : BuM w W H mk' ac' t' v' (((((V.setCell ⟨w.heap.size + 1 + 1, 0, none⟩ (.string mk')).setCell ⟨w.heap.size + 1 + 1, 1, none⟩ (.int .i64 0)).setCell ⟨w.heap.size + 1 + 1, 2, none⟩ (.bool ac')).setCell ⟨w.heap.size + 1 + 1, 3, none⟩ (.int .i64 (t' : Int))).setCell ⟨w.heap.size + 1 + 1, 4, none⟩ (.int .i64 v')) := by
  have hz : w.heap.size ≤ V.heap.size := h.b.size
  refine ⟨?_, ?_, ?_, ?_⟩
  · exact ((((h.p.other _ _ (show _ ≠ w.heap.size + 1 + 1 by omega)).other _ _ (show _ ≠ w.heap.size + 1 + 1 by omega)).other _ _ (show _ ≠ w.heap.size + 1 + 1 by omega)).other _ _ (show _ ≠ w.heap.size + 1 + 1 by omega)).other _ _ (show _ ≠ w.heap.size + 1 + 1 by omega)
  · exact ((((h.r.other _ _ (show _ ≠ w.heap.size + 1 + 1 by omega)).other _ _ (show _ ≠ w.heap.size + 1 + 1 by omega)).other _ _ (show _ ≠ w.heap.size + 1 + 1 by omega)).other _ _ (show _ ≠ w.heap.size + 1 + 1 by omega)).other _ _ (show _ ≠ w.heap.size + 1 + 1 by omega)
  · exact ((((h.u.set 0 (.string mk')).set 1 (.int .i64 0)).set 2 (.bool ac')).set 3 (.int .i64 (t' : Int))).set 4 (.int .i64 v')
  · exact below_set9 (below_set9 (below_set9 (below_set9 (below_set9 h.b (show _ ≤ w.heap.size + 1 + 1 by omega)) (show _ ≤ w.heap.size + 1 + 1 by omega)) (show _ ≤ w.heap.size + 1 + 1 by omega)) (show _ ≤ w.heap.size + 1 + 1 by omega)) (show _ ≤ w.heap.size + 1 + 1 by omega)
theorem BuC.below (h : BuC w G W H mk ac t v ax q V) (hb : Below V.heap.size V V') : BuC w G W H mk ac t v ax q V' := ⟨h.m.below hb, h.c.below hb h.c.lt, h.g⟩
theorem BuC.put (h : BuC w G W H mk ac t v ax q V) (mk' : ByteArray) (ac' : Bool) (t' : Nat) (v' : Int) : BuC w G W H mk' ac' t' v' ax q (((((V.setCell ⟨w.heap.size + 1 + 1, 0, none⟩ (.string mk')).setCell ⟨w.heap.size + 1 + 1, 1, none⟩ (.int .i64 0)).setCell ⟨w.heap.size + 1 + 1, 2, none⟩ (.bool ac')).setCell ⟨w.heap.size + 1 + 1, 3, none⟩ (.int .i64 (t' : Int))).setCell ⟨w.heap.size + 1 + 1, 4, none⟩ (.int .i64 v')) := by
  have hg := h.g
  exact ⟨h.m.put mk' ac' t' v', ((((h.c.other _ _ (show _ ≠ w.heap.size + 1 + 1 by omega)).other _ _ (show _ ≠ w.heap.size + 1 + 1 by omega)).other _ _ (show _ ≠ w.heap.size + 1 + 1 by omega)).other _ _ (show _ ≠ w.heap.size + 1 + 1 by omega)).other _ _ (show _ ≠ w.heap.size + 1 + 1 by omega), h.g⟩
theorem BuC.next (h : BuC w G W H mk ac t v ax q V) (x : Int) (hx : x = ((q + 1 : Nat) : Int)) : BuC w G W H mk ac t v ax (q + 1) (V.setCell ⟨G, 2, none⟩ (.int .i64 x)) := by
  have hg := h.g
  subst hx
  exact ⟨⟨h.m.p.other _ _ (show _ ≠ G by omega), h.m.r.other _ _ (show _ ≠ G by omega), h.m.u.other _ _ (show _ ≠ G by omega), below_set9 h.m.b (show _ ≤ G by omega)⟩, h.c.set 2 _, hg⟩
end
def UsE (l : List Kd) (W H : Nat) (w : World) (e : Ending) (w' : World) : Prop := ∃ (mk : ByteArray) (ac : Bool) (t : Nat) (v : Int), e = .returned (.agg #[.string mk, .int .i64 0, .bool ac, .int .i64 (t : Int), .int .i64 v]) ∧ Bc.UsR l W H mk.data.toList ac t v ∧ Below w.heap.size w w'
theorem UsE.mk_ {l : List Kd} {W H t : Nat} {mk : ByteArray} {ac : Bool} {v : Int} {w w' : World} (h : Bc.UsR l W H mk.data.toList ac t v) (hb : Below w.heap.size w w') : UsE l W H w (.returned (.agg #[.string mk, .int .i64 0, .bool ac, .int .i64 (t : Int), .int .i64 v])) w' := ⟨mk, ac, t, v, rfl, h, hb⟩
theorem ixF (w : World) : (Instr.index 132 (.agg #[.bool false, .bool true]) (.int .i64 0)).run Tryd.prog w = .ok (.bool false) w := by kernel_rfl
theorem ixT (w : World) : (Instr.index 132 (.agg #[.bool false, .bool true]) (.int .i64 1)).run Tryd.prog w = .ok (.bool true) w := by kernel_rfl

set_option maxRecDepth 100000 in
set_option maxHeartbeats 8000000 in
theorem bestUsage_any (A : Option Addr) (n c B : Nat) (l : List Kd) (g : Nat) (cs : Array Value) (W H SH : Nat) (w : World) (h : RdS Kd.S w B A n l) (hB : B ≤ w.heap.size) (hok : Bc.okL l = true) (hg : Blk w g cs 110) (hU : UsT l cs W H SH) (hW : 1 ≤ W ∧ W ≤ 40) (hH : 1 ≤ H ∧ H ≤ SH) (hS : SH ≤ 40) :
    Calls Tryd.prog 77 #[.slice A n c, .pointer (some ⟨g, 0, none⟩), .agg #[.int .i64 (W : Int), .int .i64 (H : Int)]] w fun e w' => UsE l W H w e w' := by
  have HL := Lib.hid h.1
  have HOK := Lib.hid (Bc.okL_iff.1 hok)
  have hn6 : n ≤ 6 := by have := (HOK.out).2; have := HL.out; omega
  have HU := Lib.hid hU
  have HG := Lib.hid hg
  have hgl := hg.lt
  have hix0 := ixF
  have hix1 := ixT
  clear hok hU hg
  have p0 := (((Blk.new (w := w) (g := w.heap.size) #[.int .i64 (W : Int), .int .i64 (H : Int)] 67 rfl).alloc (.cells #[.string ⟨#[]⟩, .int .i64 0, .bool false, .int .i64 0, .int .i64 0] 78)).alloc (.cells #[.string ⟨#[46]⟩, .int .i64 0, .bool false, .int .i64 0, .int .i64 0] 78))
  have p1 := ((Blk.new (w := w.alloc (.cells #[.int .i64 (W : Int), .int .i64 (H : Int)] 67)) (g := w.heap.size + 1) #[.string ⟨#[]⟩, .int .i64 0, .bool false, .int .i64 0, .int .i64 0] 78 (by simp)).alloc (.cells #[.string ⟨#[46]⟩, .int .i64 0, .bool false, .int .i64 0, .int .i64 0] 78))
  have p2 := Blk.new (w := (w.alloc (.cells #[.int .i64 (W : Int), .int .i64 (H : Int)] 67)).alloc (.cells #[.string ⟨#[]⟩, .int .i64 0, .bool false, .int .i64 0, .int .i64 0] 78)) (g := w.heap.size + 1 + 1) #[.string ⟨#[46]⟩, .int .i64 0, .bool false, .int .i64 0, .int .i64 0] 78 (by simp)
  have hb0 : Below w.heap.size w (((w.alloc (.cells #[.int .i64 (W : Int), .int .i64 (H : Int)] 67)).alloc (.cells #[.string ⟨#[]⟩, .int .i64 0, .bool false, .int .i64 0, .int .i64 0] 78)).alloc (.cells #[.string ⟨#[46]⟩, .int .i64 0, .bool false, .int .i64 0, .int .i64 0] 78)) := (((below_new9 w _).alloc (by simp) _).alloc (by simp; omega) _)
  have hM : BuM w W H ⟨#[46]⟩ false 0 0 (((w.alloc (.cells #[.int .i64 (W : Int), .int .i64 (H : Int)] 67)).alloc (.cells #[.string ⟨#[]⟩, .int .i64 0, .bool false, .int .i64 0, .int .i64 0] 78)).alloc (.cells #[.string ⟨#[46]⟩, .int .i64 0, .bool false, .int .i64 0, .int .i64 0] 78)) := ⟨p0, p1, p2, hb0⟩
  clear p0 p1 p2 hb0
  go_enter Tryd.func77, Tryd.ntmps77
  go_wp2_with fail
  go_loopw [19] (fun i wr => ∃ (k : Nat) (mk : ByteArray) (v : Int), k ≤ n ∧ i = .int .i64 k ∧ BuM w W H mk false 0 v wr ∧ Hid (Bc.FK l (W : Int) (H : Int) k v mk.data.toList)) (fun i _ => n - (intOf i).toNat)
  case atStart => exact ⟨0, ⟨#[46]⟩, 0, Nat.zero_le _, rfl, hM, Lib.hid (Bc.FK.start _ _ _)⟩
  case round =>
    clear hM
    obtain ⟨k, mk, v, hk, rfl, hM, HF⟩ := hrel
    have HM := Lib.hid hM
    have hz := hM.b.size
    by_cases hlt : k < n
    · have hltI : (k : Int) < (n : Int) := by omega
      obtain ⟨b1, o, x, rfl, hbB, hx, c0, c1, c2⟩ := (h.below hM.b hB).at_Kd hlt
      have HX := Lib.hid hx
      have l1 : b1 < wr.heap.size := by omega
      have KB := Blk.new (w := wr) (g := wr.heap.size) #[.int .i64 x.w, .int .i64 x.h, .int .i64 x.v] 42 rfl
      have MA := hM.below (below_new9 wr (.cells #[.int .i64 x.w, .int .i64 x.h, .int .i64 x.v] 42))
      have q0 := MA.p.cell 0 (v := .int .i64 (W : Int)) rfl
      have q1 := MA.p.cell 1 (v := .int .i64 (H : Int)) rfl
      have HKB := Lib.hid KB
      have HMA := Lib.hid MA
      obtain ⟨d, hd⟩ : ∃ d, decide (x.w ≤ (W : Int) ∧ x.h ≤ (H : Int)) = d := ⟨_, rfl⟩
      have hft := fun V => fits_any x ⟨(W : Int), (H : Int)⟩ d V hd
      have HD := Lib.hid hd
      clear hx KB MA hM hd
      cases d
      · have HN := Lib.hid (HF.out.keep HX.out (fun h => of_decide_eq_false HD.out ⟨h.1, h.2.1⟩))
        go_wp2_with fail
        refine (hft _).mono ?_
        rintro e w5 ⟨rfl, hb5⟩
        have HM5 := Lib.hid (HMA.out.below hb5)
        clear hb5
        go_wp2_with fail
        go_roundw
        case rel => exact ⟨k + 1, mk, v, by omega, by go_num, HM5.out, HN⟩
        case measure => simp [intOf]; omega
      · by_cases hgt : v < x.v
        · have HN := Lib.hid (HF.out.up HX.out (of_decide_eq_true HD.out).1 (of_decide_eq_true HD.out).2 hgt)
          have hsl := slice_abc k (by omega)
          have e1 : IntKind.i64.wrap ((k : Int) + 1) = (k : Int) + 1 := IntWalk.i64_in _ (by omega)
          go_wp2_with fail
          refine (hft _).mono ?_
          rintro e w5 ⟨rfl, hb5⟩
          have K5 := HKB.out.below hb5 HKB.out.lt
          have M5 := HMA.out.below hb5
          have k2 := K5.cell 2 (v := .int .i64 x.v) rfl
          have u0 := M5.u.cell 0 (v := .string mk) rfl
          have u1 := M5.u.cell 1 (v := .int .i64 0) rfl
          have u2 := M5.u.cell 2 (v := .bool false) rfl
          have u3 := M5.u.cell 3 (v := .int .i64 0) rfl
          have u4 := M5.u.cell 4 (v := .int .i64 v) rfl
          have f0 := M5.u.free 0
          have f1 := M5.u.free 1
          have f2 := M5.u.free 2
          have f3 := M5.u.free 3
          have f4 := M5.u.free 4
          have HM6 := Lib.hid ((M5.below (below_drewN' (Below.refl _ _) 1)).put ⟨#[Bc.ltr k]⟩ false 0 x.v)
          clear hb5 M5 K5
          go_wp2_with fail
          go_region
          go_wp2_with fail
          go_roundw
          case rel => exact ⟨k + 1, ⟨#[Bc.ltr k]⟩, x.v, by omega, by go_num, HM6.out, HN⟩
          case measure => simp [intOf]; omega
        · have HN := Lib.hid (HF.out.keep HX.out (fun h => hgt h.2.2))
          have hgtF : (v < x.v) = False := eq_false hgt
          go_wp2_with fail
          refine (hft _).mono ?_
          rintro e w5 ⟨rfl, hb5⟩
          have K5 := HKB.out.below hb5 HKB.out.lt
          have M5 := HMA.out.below hb5
          have k2 := K5.cell 2 (v := .int .i64 x.v) rfl
          have u4 := M5.u.cell 4 (v := .int .i64 v) rfl
          have HM5 := Lib.hid M5
          clear hb5 M5 K5
          go_wp2_with fail
          go_roundw
          case rel => exact ⟨k + 1, mk, v, by omega, by go_num, HM5.out, HN⟩
          case measure => simp [intOf]; omega
    · obtain rfl : k = n := by omega
      have HF2 : Hid (Bc.FK l (W : Int) (H : Int) l.length v mk.data.toList) := Lib.hid (by rw [HL.out]; exact HF.out)
      clear hM HF hlt hk
      go_wp2_with fail
      go_loopw [43] (fun i wo => ∃ (mk : ByteArray) (ac : Bool) (t : Nat) (v : Int), BuM w W H mk ac t v wo ∧ ((i = .int .i64 0 ∧ t = 0 ∧ ac = false ∧ Hid (Bc.FK l (W : Int) (H : Int) l.length v mk.data.toList)) ∨ (i = .int .i64 1 ∧ ac = false ∧ Hid (Bc.SX l W H (W / 2) mk.data.toList t v)) ∨ (i = .int .i64 2 ∧ Hid (Bc.SY l W H (H / 2) mk.data.toList ac t v)))) (fun i _ => 2 - (intOf i).toNat)
      case atStart => exact ⟨mk, false, 0, v, HM.out, .inl ⟨rfl, rfl, rfl, HF2⟩⟩
      case round =>
        clear HM HF2
        obtain ⟨mk, ac, t, v, hM, hC⟩ := hrel
        have HM := Lib.hid hM
        obtain ⟨wo, hwo⟩ : ∃ wo, wo = wr := ⟨_, rfl⟩
        subst hwo
        have hz := hM.b.size
        have hz2 := hM.u.lt
        rcases hC with ⟨rfl, rfl, rfl, HF⟩ | ⟨rfl, rfl, HF⟩ | ⟨rfl, HF⟩
        · clear hM
          have hz1 := HM.out.u.lt
          have CB := Blk.new (w := wo) (g := wo.heap.size) #[.int .i64 0, .bool false, .int .i64 1] 76 rfl
          have MA := HM.out.below (below_new9 wo (.cells #[.int .i64 0, .bool false, .int .i64 1] 76))
          go_wp2_with fail
          go_loopw [] (fun wi => ∃ (q : Nat) (mk : ByteArray) (t : Nat) (v : Int), 1 ≤ q ∧ q ≤ W / 2 + 1 ∧ BuC w wo.heap.size W H mk false t v false q wi ∧ Hid (Bc.SX l W H (q - 1) mk.data.toList t v)) (fun wi => 50 - (intOf ((wi.cell? ⟨wo.heap.size, 2, none⟩).getD undef)).toNat)
          case atStart => exact ⟨1, mk, 0, v, by omega, by omega, ⟨MA, CB, by omega⟩, Lib.hid (Bc.SX.start HF.out)⟩
          case round =>
            clear CB MA HM HF
            obtain ⟨q, mk, t, v, hq1, hq2, hC, HS⟩ := hrel
            have HC := Lib.hid hC
            obtain ⟨ws, hws⟩ : ∃ ws, ws = wr := ⟨_, rfl⟩
            subst hws
            have hzs := hC.c.lt
            have hgs : g < ws.heap.size := by have := hC.m.b.size; omega
            have c0 := hC.c.cell 0 (v := .int .i64 0) rfl
            have c1 := hC.c.cell 1 (v := .bool false) rfl
            have c2 := hC.c.cell 2 (v := .int .i64 (q : Int)) rfl
            have p0 := hC.m.p.cell 0 (v := .int .i64 (W : Int)) rfl
            have p1 := hC.m.p.cell 1 (v := .int .i64 (H : Int)) rfl
            have lp := hC.m.p.lt
            have HCO := Lib.hid c2
            have hdv := fun V => divided_any w.heap.size 0 false (q : Int) V
            have e2 : IntKind.i64.wrap (2 * (q : Int)) = 2 * (q : Int) := IntWalk.i64_in _ (by omega)
            have hCM := HC
            clear hC
            by_cases hle : 2 * q ≤ W
            · have hleI : 2 * (q : Int) ≤ (W : Int) := by omega
              obtain ⟨m, hm⟩ : ∃ m, m + q = W := ⟨W - q, by omega⟩
              have hpa := fun V => partsV_any W H q m V hW ⟨hH.1, by omega⟩ hq1 (by omega) hm
              have hof1 := fun V => of12_any g q H V (by omega) (by omega)
              have hof2 := fun V => of12_any g m H V (by omega) (by omega)
              obtain ⟨z1, hv1⟩ : ∃ z, Bc.V l q H = z := ⟨_, rfl⟩
              obtain ⟨z2, hv2⟩ : ∃ z, Bc.V l m H = z := ⟨_, rfl⟩
              have bz1 := Bc.V_le HOK.out.1 (W := q) (H := H) (by omega) (by omega)
              have bz2 := Bc.V_le HOK.out.1 (W := m) (H := H) (by omega) (by omega)
              have t1 := HU.out.value (a := q) (b := H) (by omega) (by omega) (by omega) (by omega)
              have t2 := HU.out.value (a := m) (b := H) (by omega) (by omega) (by omega) (by omega)
              rw [hv1] at bz1 t1
              rw [hv2] at bz2 t2
              have HT1 := Lib.hid t1
              have HT2 := Lib.hid t2
              have ez : IntKind.i64.wrap (z1 + z2) = z1 + z2 := IntWalk.i64_in _ (by omega)
              have eq1 : IntKind.i64.wrap ((q : Int) + 1) = (q : Int) + 1 := IntWalk.i64_in _ (by omega)
              have HZ : Hid (Bc.V l q H + Bc.V l (W - q) H = z1 + z2) := Lib.hid (by rw [show W - q = m by omega, hv1, hv2])
              have HM2 := Lib.hid hm
              clear hv1 hv2 bz1 bz2 t1 t2 hm
              go_wp2_with fail
              go_region_held3 (fun V => V.cell? ⟨wo.heap.size, 0, none⟩ = some (.int .i64 0) ∧ V.cell? ⟨wo.heap.size, 1, none⟩ = some (.bool false) ∧ V.cell? ⟨wo.heap.size, 2, none⟩ = some (.int .i64 (q : Int)) ∧ V.cell? ⟨w.heap.size, 0, none⟩ = some (.int .i64 (W : Int)) ∧ V.cell? ⟨w.heap.size, 1, none⟩ = some (.int .i64 (H : Int)))
                (first | go_keep | (refine ⟨?_, ?_, ?_, ?_, ?_⟩ <;> (first | go_keep | (rw [hbk.cell (by first | omega | (simp; done) | (simp; omega))]; first | assumption | go_keep))))
                (first | (go_at_call 93; with_reducible refine (hdv _).mono ?_; rintro e' w5 ⟨rfl, hbk⟩))
              have HC5 := Lib.hid (HC.out.below ((below_drewN' (Below.refl _ _) 1).trans (hbk.mono (by first | omega | (simp; omega) | simp))))
              have hz5 : ws.heap.size ≤ w5.heap.size := hbk.size
              have d0 := HC5.out.c.cell 0 (v := .int .i64 0) rfl
              have d1 := HC5.out.c.cell 1 (v := .bool false) rfl
              have d2 := HC5.out.c.cell 2 (v := .int .i64 (q : Int)) rfl
              have g0 := HC5.out.m.p.cell 0 (v := .int .i64 (W : Int)) rfl
              have g1 := HC5.out.m.p.cell 1 (v := .int .i64 (H : Int)) rfl
              clear hbk c0 c1 c2 p0 p1 HC
              go_wp2_with fail
              refine (hpa _).mono ?_
              rintro e w6 ⟨rfl, hb6⟩
              have HC6 := Lib.hid (HC5.out.below hb6)
              have hz6 : ws.heap.size ≤ w6.heap.size := Nat.le_trans hz5 hb6.size
              have HG6 := Lib.hid (HG.out.below HC6.out.m.b hgl)
              clear hb6 d0 d1 d2 g0 g1 HC5
              have B1 := Lib.hid ((Blk.new (w := w6) (g := w6.heap.size) #[.int .i64 (q : Int), .int .i64 (H : Int)] 67 rfl).alloc (.cells #[.int .i64 (m : Int), .int .i64 (H : Int)] 67))
              have B2 := Lib.hid (Blk.new (w := w6.alloc (.cells #[.int .i64 (q : Int), .int .i64 (H : Int)] 67)) (g := w6.heap.size + 1) #[.int .i64 (m : Int), .int .i64 (H : Int)] 67 (by simp))
              have HB7 : Hid (Below w6.heap.size w6 ((w6.alloc (.cells #[.int .i64 (q : Int), .int .i64 (H : Int)] 67)).alloc (.cells #[.int .i64 (m : Int), .int .i64 (H : Int)] 67))) := Lib.hid ((below_new9 w6 _).alloc (by simp) _)
              have hz7 : w6.heap.size + 2 = ((w6.alloc (.cells #[.int .i64 (q : Int), .int .i64 (H : Int)] 67)).alloc (.cells #[.int .i64 (m : Int), .int .i64 (H : Int)] 67)).heap.size := by simp
              go_wp2_with fail
              generalize ((w6.alloc (.cells #[.int .i64 (q : Int), .int .i64 (H : Int)] 67)).alloc (.cells #[.int .i64 (m : Int), .int .i64 (H : Int)] 67)) = w7 at B1 B2 HB7 hz7 ⊢
              have HC7 := Lib.hid (HC6.out.below HB7.out)
              have HG7 := Lib.hid (HG6.out.below HB7.out (by omega))
              have a0 := B1.out.cell 0 (v := .int .i64 (q : Int)) rfl
              have a1 := B1.out.cell 1 (v := .int .i64 (H : Int)) rfl
              have b0 := B2.out.cell 0 (v := .int .i64 (m : Int)) rfl
              have b1 := B2.out.cell 1 (v := .int .i64 (H : Int)) rfl
              have t1 := HG7.out.cell _ HT1.out
              have t2 := HG7.out.cell _ HT2.out
              have lg7 : g < w7.heap.size := by omega
              clear HC6 HG6 HB7 hz6
              go_region_held3 (fun V => V.cell? ⟨w6.heap.size, 0, none⟩ = some (.int .i64 (q : Int)) ∧ V.cell? ⟨w6.heap.size, 1, none⟩ = some (.int .i64 (H : Int)) ∧ V.cell? ⟨w6.heap.size + 1, 0, none⟩ = some (.int .i64 (m : Int)) ∧ V.cell? ⟨w6.heap.size + 1, 1, none⟩ = some (.int .i64 (H : Int)) ∧ V.cell? ⟨g, q * 205 + H * 5 + 4, none⟩ = some (.int .i64 z1) ∧ V.cell? ⟨g, m * 205 + H * 5 + 4, none⟩ = some (.int .i64 z2))
                (first | go_keep | (refine ⟨?_, ?_, ?_, ?_, ?_, ?_⟩ <;> (first | go_keep | (rw [hbk.cell (by first | omega | (simp; done) | (simp; omega))]; first | assumption | go_keep))))
                (first
                  | (go_at_call 55; with_reducible refine (hof2 _).mono ?_; rintro e' w8 ⟨rfl, hbk⟩; have hbkB := hbk; have zB := zA)
                  | (go_at_call 55; with_reducible refine (hof1 _).mono ?_; rintro e' w9 ⟨rfl, hbk⟩; have hbkA := hbk; have zA := szD12 hbk))
              have HC8 := Lib.hid (HC7.out.below ((below_drewN' (Below.refl _ _) 1).trans ((hbkA.mono (by first | omega | (simp; omega) | simp)).trans (hbkB.mono (by have h_ := hbkA.size; first | omega | (simp at h_; omega))))))
              clear hbk hbkA hbkB zA zB HC7 HG7 a0 a1 b0 b1 t1 t2 B1 B2
              have u4 := HC8.out.m.u.cell 4 (v := .int .i64 v) rfl
              by_cases hgt : v < z1 + z2
              · have HR : Hid (Bc.SX l W H q (⟨#[]⟩ : ByteArray).data.toList q (z1 + z2)) := Lib.hid (by
                  obtain ⟨q', rfl⟩ : ∃ q', q = q' + 1 := ⟨q - 1, by omega⟩
                  exact HS.out.up (by rw [← HZ.out]; rfl) hgt _)
                have c0 := HC8.out.c.cell 0 (v := .int .i64 0) rfl
                have c1 := HC8.out.c.cell 1 (v := .bool false) rfl
                have c2 := HC8.out.c.cell 2 (v := .int .i64 (q : Int)) rfl
                have u0 := HC8.out.m.u.cell 0 (v := .string mk) rfl
                have u1 := HC8.out.m.u.cell 1 (v := .int .i64 0) rfl
                have u2 := HC8.out.m.u.cell 2 (v := .bool false) rfl
                have u3 := HC8.out.m.u.cell 3 (v := .int .i64 (t : Int)) rfl
                have f0 := HC8.out.m.u.free 0
                have f1 := HC8.out.m.u.free 1
                have f2 := HC8.out.m.u.free 2
                have f3 := HC8.out.m.u.free 3
                have f4 := HC8.out.m.u.free 4
                have HC9 := Lib.hid (HC8.out.put ⟨#[]⟩ false q (z1 + z2))
                have c9 : (((((w8.setCell ⟨w.heap.size + 1 + 1, 0, none⟩ (.string ⟨#[]⟩)).setCell ⟨w.heap.size + 1 + 1, 1, none⟩ (.int .i64 0)).setCell ⟨w.heap.size + 1 + 1, 2, none⟩ (.bool false)).setCell ⟨w.heap.size + 1 + 1, 3, none⟩ (.int .i64 (q : Int))).setCell ⟨w.heap.size + 1 + 1, 4, none⟩ (.int .i64 (z1 + z2))).cell? ⟨wo.heap.size, 2, none⟩ = some (.int .i64 (q : Int)) := HC9.out.c.cell 2 rfl
                have f9 : (((((w8.setCell ⟨w.heap.size + 1 + 1, 0, none⟩ (.string ⟨#[]⟩)).setCell ⟨w.heap.size + 1 + 1, 1, none⟩ (.int .i64 0)).setCell ⟨w.heap.size + 1 + 1, 2, none⟩ (.bool false)).setCell ⟨w.heap.size + 1 + 1, 3, none⟩ (.int .i64 (q : Int))).setCell ⟨w.heap.size + 1 + 1, 4, none⟩ (.int .i64 (z1 + z2))).frozen? ⟨wo.heap.size, 2, none⟩ = false := HC9.out.c.free 2
                have HN := Lib.hid (HC9.out.next ((q : Int) + 1) (by omega))
                go_wp2_with fail
                go_roundw
                case rel => exact ⟨q + 1, ⟨#[]⟩, q, z1 + z2, by omega, by omega, HN.out, HR⟩
                case measure =>
                  have hm9 := HN.out.c.cell 2 (v := .int .i64 ((q + 1 : Nat) : Int)) rfl
                  rw [hm9, HCO.out]
                  simp [intOf]
                  omega
              · have hgtF : (v < z1 + z2) = False := eq_false hgt
                have HR : Hid (Bc.SX l W H q mk.data.toList t v) := Lib.hid (by
                  obtain ⟨q', rfl⟩ : ∃ q', q = q' + 1 := ⟨q - 1, by omega⟩
                  exact HS.out.keep (by rw [← HZ.out]; rfl) hgt)
                have c2 := HC8.out.c.cell 2 (v := .int .i64 (q : Int)) rfl
                have f9 := HC8.out.c.free 2
                have HN := Lib.hid (HC8.out.next ((q : Int) + 1) (by omega))
                go_wp2_with fail
                go_roundw
                case rel => exact ⟨q + 1, mk, t, v, by omega, by omega, HN.out, HR⟩
                case measure =>
                  have hm9 := HN.out.c.cell 2 (v := .int .i64 ((q + 1 : Nat) : Int)) rfl
                  rw [hm9, HCO.out]
                  simp [intOf]
                  omega
            · have hleF : (2 * (q : Int) ≤ (W : Int)) = False := eq_false (by omega)
              have HE : Hid (Bc.SX l W H (W / 2) mk.data.toList t v) := Lib.hid (by
                have : q - 1 = W / 2 := by omega
                rw [← this]
                exact HS.out)
              go_wp2_with fail
              go_region_held3 (fun V => V.cell? ⟨wo.heap.size, 0, none⟩ = some (.int .i64 0) ∧ V.cell? ⟨wo.heap.size, 1, none⟩ = some (.bool false) ∧ V.cell? ⟨wo.heap.size, 2, none⟩ = some (.int .i64 (q : Int)) ∧ V.cell? ⟨w.heap.size, 0, none⟩ = some (.int .i64 (W : Int)) ∧ V.cell? ⟨w.heap.size, 1, none⟩ = some (.int .i64 (H : Int)))
                (first | go_keep | (refine ⟨?_, ?_, ?_, ?_, ?_⟩ <;> (first | go_keep | (rw [hbk.cell (by first | omega | (simp; done) | (simp; omega))]; first | assumption | go_keep))))
                (first | (go_at_call 93; with_reducible refine (hdv _).mono ?_; rintro e' w5 ⟨rfl, hbk⟩))
              have hC := HC.out.below ((below_drewN' (Below.refl _ _) 1).trans (hbk.mono (by first | omega | (simp; omega) | simp)))
              clear hbk c0 c1 c2 p0 p1 HC
              go_wp2_with fail
              go_roundw
              case rel => exact ⟨mk, false, t, v, hC.m, .inr (.inl ⟨rfl, rfl, HE⟩)⟩
              case measure => simp [intOf]
        · clear hM
          have hz1 := HM.out.u.lt
          have CB := Blk.new (w := wo) (g := wo.heap.size) #[.int .i64 0, .bool true, .int .i64 1] 76 rfl
          have MA := HM.out.below (below_new9 wo (.cells #[.int .i64 0, .bool true, .int .i64 1] 76))
          go_wp2_with fail
          go_loopw [] (fun wi => ∃ (q : Nat) (mk : ByteArray) (ac : Bool) (t : Nat) (v : Int), 1 ≤ q ∧ q ≤ H / 2 + 1 ∧ BuC w wo.heap.size W H mk ac t v true q wi ∧ Hid (Bc.SY l W H (q - 1) mk.data.toList ac t v)) (fun wi => 50 - (intOf ((wi.cell? ⟨wo.heap.size, 2, none⟩).getD undef)).toNat)
          case atStart => exact ⟨1, mk, false, t, v, by omega, by omega, ⟨MA, CB, by omega⟩, Lib.hid (Bc.SY.start HF.out)⟩
          case round =>
            clear CB MA HM HF
            obtain ⟨q, mk, ac, t, v, hq1, hq2, hC, HS⟩ := hrel
            have HC := Lib.hid hC
            obtain ⟨ws, hws⟩ : ∃ ws, ws = wr := ⟨_, rfl⟩
            subst hws
            have hzs := hC.c.lt
            have hgs : g < ws.heap.size := by have := hC.m.b.size; omega
            have c0 := hC.c.cell 0 (v := .int .i64 0) rfl
            have c1 := hC.c.cell 1 (v := .bool true) rfl
            have c2 := hC.c.cell 2 (v := .int .i64 (q : Int)) rfl
            have p0 := hC.m.p.cell 0 (v := .int .i64 (W : Int)) rfl
            have p1 := hC.m.p.cell 1 (v := .int .i64 (H : Int)) rfl
            have lp := hC.m.p.lt
            have HCO := Lib.hid c2
            have hdv := fun V => divided_any w.heap.size 0 true (q : Int) V
            have e2 : IntKind.i64.wrap (2 * (q : Int)) = 2 * (q : Int) := IntWalk.i64_in _ (by omega)
            have hCM := HC
            clear hC
            by_cases hle : 2 * q ≤ H
            · have hleI : 2 * (q : Int) ≤ (H : Int) := by omega
              obtain ⟨m, hm⟩ : ∃ m, m + q = H := ⟨H - q, by omega⟩
              have hpa := fun V => partsH_any W H q m V hW ⟨hH.1, by omega⟩ hq1 (by omega) hm
              have hof1 := fun V => of12_any g W q V (by omega) (by omega)
              have hof2 := fun V => of12_any g W m V (by omega) (by omega)
              obtain ⟨z1, hv1⟩ : ∃ z, Bc.V l W q = z := ⟨_, rfl⟩
              obtain ⟨z2, hv2⟩ : ∃ z, Bc.V l W m = z := ⟨_, rfl⟩
              have bz1 := Bc.V_le HOK.out.1 (W := W) (H := q) (by omega) (by omega)
              have bz2 := Bc.V_le HOK.out.1 (W := W) (H := m) (by omega) (by omega)
              have t1 := HU.out.value (a := W) (b := q) (by omega) (by omega) (by omega) (by omega)
              have t2 := HU.out.value (a := W) (b := m) (by omega) (by omega) (by omega) (by omega)
              rw [hv1] at bz1 t1
              rw [hv2] at bz2 t2
              have HT1 := Lib.hid t1
              have HT2 := Lib.hid t2
              have ez : IntKind.i64.wrap (z1 + z2) = z1 + z2 := IntWalk.i64_in _ (by omega)
              have eq1 : IntKind.i64.wrap ((q : Int) + 1) = (q : Int) + 1 := IntWalk.i64_in _ (by omega)
              have HZ : Hid (Bc.V l W q + Bc.V l W (H - q) = z1 + z2) := Lib.hid (by rw [show H - q = m by omega, hv1, hv2])
              have HM2 := Lib.hid hm
              clear hv1 hv2 bz1 bz2 t1 t2 hm
              go_wp2_with fail
              go_region_held3 (fun V => V.cell? ⟨wo.heap.size, 0, none⟩ = some (.int .i64 0) ∧ V.cell? ⟨wo.heap.size, 1, none⟩ = some (.bool true) ∧ V.cell? ⟨wo.heap.size, 2, none⟩ = some (.int .i64 (q : Int)) ∧ V.cell? ⟨w.heap.size, 0, none⟩ = some (.int .i64 (W : Int)) ∧ V.cell? ⟨w.heap.size, 1, none⟩ = some (.int .i64 (H : Int)))
                (first | go_keep | (refine ⟨?_, ?_, ?_, ?_, ?_⟩ <;> (first | go_keep | (rw [hbk.cell (by first | omega | (simp; done) | (simp; omega))]; first | assumption | go_keep))))
                (first | (go_at_call 93; with_reducible refine (hdv _).mono ?_; rintro e' w5 ⟨rfl, hbk⟩))
              have HC5 := Lib.hid (HC.out.below ((below_drewN' (Below.refl _ _) 1).trans (hbk.mono (by first | omega | (simp; omega) | simp))))
              have hz5 : ws.heap.size ≤ w5.heap.size := hbk.size
              have d0 := HC5.out.c.cell 0 (v := .int .i64 0) rfl
              have d1 := HC5.out.c.cell 1 (v := .bool true) rfl
              have d2 := HC5.out.c.cell 2 (v := .int .i64 (q : Int)) rfl
              have g0 := HC5.out.m.p.cell 0 (v := .int .i64 (W : Int)) rfl
              have g1 := HC5.out.m.p.cell 1 (v := .int .i64 (H : Int)) rfl
              clear hbk c0 c1 c2 p0 p1 HC
              go_wp2_with fail
              refine (hpa _).mono ?_
              rintro e w6 ⟨rfl, hb6⟩
              have HC6 := Lib.hid (HC5.out.below hb6)
              have hz6 : ws.heap.size ≤ w6.heap.size := Nat.le_trans hz5 hb6.size
              have HG6 := Lib.hid (HG.out.below HC6.out.m.b hgl)
              clear hb6 d0 d1 d2 g0 g1 HC5
              have B1 := Lib.hid ((Blk.new (w := w6) (g := w6.heap.size) #[.int .i64 (W : Int), .int .i64 (q : Int)] 67 rfl).alloc (.cells #[.int .i64 (W : Int), .int .i64 (m : Int)] 67))
              have B2 := Lib.hid (Blk.new (w := w6.alloc (.cells #[.int .i64 (W : Int), .int .i64 (q : Int)] 67)) (g := w6.heap.size + 1) #[.int .i64 (W : Int), .int .i64 (m : Int)] 67 (by simp))
              have HB7 : Hid (Below w6.heap.size w6 ((w6.alloc (.cells #[.int .i64 (W : Int), .int .i64 (q : Int)] 67)).alloc (.cells #[.int .i64 (W : Int), .int .i64 (m : Int)] 67))) := Lib.hid ((below_new9 w6 _).alloc (by simp) _)
              have hz7 : w6.heap.size + 2 = ((w6.alloc (.cells #[.int .i64 (W : Int), .int .i64 (q : Int)] 67)).alloc (.cells #[.int .i64 (W : Int), .int .i64 (m : Int)] 67)).heap.size := by simp
              go_wp2_with fail
              generalize ((w6.alloc (.cells #[.int .i64 (W : Int), .int .i64 (q : Int)] 67)).alloc (.cells #[.int .i64 (W : Int), .int .i64 (m : Int)] 67)) = w7 at B1 B2 HB7 hz7 ⊢
              have HC7 := Lib.hid (HC6.out.below HB7.out)
              have HG7 := Lib.hid (HG6.out.below HB7.out (by omega))
              have a0 := B1.out.cell 0 (v := .int .i64 (W : Int)) rfl
              have a1 := B1.out.cell 1 (v := .int .i64 (q : Int)) rfl
              have b0 := B2.out.cell 0 (v := .int .i64 (W : Int)) rfl
              have b1 := B2.out.cell 1 (v := .int .i64 (m : Int)) rfl
              have t1 := HG7.out.cell _ HT1.out
              have t2 := HG7.out.cell _ HT2.out
              have lg7 : g < w7.heap.size := by omega
              clear HC6 HG6 HB7 hz6
              go_region_held3 (fun V => V.cell? ⟨w6.heap.size, 0, none⟩ = some (.int .i64 (W : Int)) ∧ V.cell? ⟨w6.heap.size, 1, none⟩ = some (.int .i64 (q : Int)) ∧ V.cell? ⟨w6.heap.size + 1, 0, none⟩ = some (.int .i64 (W : Int)) ∧ V.cell? ⟨w6.heap.size + 1, 1, none⟩ = some (.int .i64 (m : Int)) ∧ V.cell? ⟨g, W * 205 + q * 5 + 4, none⟩ = some (.int .i64 z1) ∧ V.cell? ⟨g, W * 205 + m * 5 + 4, none⟩ = some (.int .i64 z2))
                (first | go_keep | (refine ⟨?_, ?_, ?_, ?_, ?_, ?_⟩ <;> (first | go_keep | (rw [hbk.cell (by first | omega | (simp; done) | (simp; omega))]; first | assumption | go_keep))))
                (first
                  | (go_at_call 55; with_reducible refine (hof2 _).mono ?_; rintro e' w8 ⟨rfl, hbk⟩; have hbkB := hbk; have zB := zA)
                  | (go_at_call 55; with_reducible refine (hof1 _).mono ?_; rintro e' w9 ⟨rfl, hbk⟩; have hbkA := hbk; have zA := szD12 hbk))
              have HC8 := Lib.hid (HC7.out.below ((below_drewN' (Below.refl _ _) 1).trans ((hbkA.mono (by first | omega | (simp; omega) | simp)).trans (hbkB.mono (by have h_ := hbkA.size; first | omega | (simp at h_; omega))))))
              clear hbk hbkA hbkB zA zB HC7 HG7 a0 a1 b0 b1 t1 t2 B1 B2
              have u4 := HC8.out.m.u.cell 4 (v := .int .i64 v) rfl
              by_cases hgt : v < z1 + z2
              · have HR : Hid (Bc.SY l W H q (⟨#[]⟩ : ByteArray).data.toList true q (z1 + z2)) := Lib.hid (by
                  obtain ⟨q', rfl⟩ : ∃ q', q = q' + 1 := ⟨q - 1, by omega⟩
                  exact HS.out.up (by rw [← HZ.out]; rfl) hgt _)
                have c0 := HC8.out.c.cell 0 (v := .int .i64 0) rfl
                have c1 := HC8.out.c.cell 1 (v := .bool true) rfl
                have c2 := HC8.out.c.cell 2 (v := .int .i64 (q : Int)) rfl
                have u0 := HC8.out.m.u.cell 0 (v := .string mk) rfl
                have u1 := HC8.out.m.u.cell 1 (v := .int .i64 0) rfl
                have u2 := HC8.out.m.u.cell 2 (v := .bool ac) rfl
                have u3 := HC8.out.m.u.cell 3 (v := .int .i64 (t : Int)) rfl
                have f0 := HC8.out.m.u.free 0
                have f1 := HC8.out.m.u.free 1
                have f2 := HC8.out.m.u.free 2
                have f3 := HC8.out.m.u.free 3
                have f4 := HC8.out.m.u.free 4
                have HC9 := Lib.hid (HC8.out.put ⟨#[]⟩ true q (z1 + z2))
                have c9 : (((((w8.setCell ⟨w.heap.size + 1 + 1, 0, none⟩ (.string ⟨#[]⟩)).setCell ⟨w.heap.size + 1 + 1, 1, none⟩ (.int .i64 0)).setCell ⟨w.heap.size + 1 + 1, 2, none⟩ (.bool true)).setCell ⟨w.heap.size + 1 + 1, 3, none⟩ (.int .i64 (q : Int))).setCell ⟨w.heap.size + 1 + 1, 4, none⟩ (.int .i64 (z1 + z2))).cell? ⟨wo.heap.size, 2, none⟩ = some (.int .i64 (q : Int)) := HC9.out.c.cell 2 rfl
                have f9 : (((((w8.setCell ⟨w.heap.size + 1 + 1, 0, none⟩ (.string ⟨#[]⟩)).setCell ⟨w.heap.size + 1 + 1, 1, none⟩ (.int .i64 0)).setCell ⟨w.heap.size + 1 + 1, 2, none⟩ (.bool true)).setCell ⟨w.heap.size + 1 + 1, 3, none⟩ (.int .i64 (q : Int))).setCell ⟨w.heap.size + 1 + 1, 4, none⟩ (.int .i64 (z1 + z2))).frozen? ⟨wo.heap.size, 2, none⟩ = false := HC9.out.c.free 2
                have HN := Lib.hid (HC9.out.next ((q : Int) + 1) (by omega))
                go_wp2_with fail
                go_roundw
                case rel => exact ⟨q + 1, ⟨#[]⟩, true, q, z1 + z2, by omega, by omega, HN.out, HR⟩
                case measure =>
                  have hm9 := HN.out.c.cell 2 (v := .int .i64 ((q + 1 : Nat) : Int)) rfl
                  rw [hm9, HCO.out]
                  simp [intOf]
                  omega
              · have hgtF : (v < z1 + z2) = False := eq_false hgt
                have HR : Hid (Bc.SY l W H q mk.data.toList ac t v) := Lib.hid (by
                  obtain ⟨q', rfl⟩ : ∃ q', q = q' + 1 := ⟨q - 1, by omega⟩
                  exact HS.out.keep (by rw [← HZ.out]; rfl) hgt)
                have c2 := HC8.out.c.cell 2 (v := .int .i64 (q : Int)) rfl
                have f9 := HC8.out.c.free 2
                have HN := Lib.hid (HC8.out.next ((q : Int) + 1) (by omega))
                go_wp2_with fail
                go_roundw
                case rel => exact ⟨q + 1, mk, ac, t, v, by omega, by omega, HN.out, HR⟩
                case measure =>
                  have hm9 := HN.out.c.cell 2 (v := .int .i64 ((q + 1 : Nat) : Int)) rfl
                  rw [hm9, HCO.out]
                  simp [intOf]
                  omega
            · have hleF : (2 * (q : Int) ≤ (H : Int)) = False := eq_false (by omega)
              have HE : Hid (Bc.SY l W H (H / 2) mk.data.toList ac t v) := Lib.hid (by
                have : q - 1 = H / 2 := by omega
                rw [← this]
                exact HS.out)
              go_wp2_with fail
              go_region_held3 (fun V => V.cell? ⟨wo.heap.size, 0, none⟩ = some (.int .i64 0) ∧ V.cell? ⟨wo.heap.size, 1, none⟩ = some (.bool true) ∧ V.cell? ⟨wo.heap.size, 2, none⟩ = some (.int .i64 (q : Int)) ∧ V.cell? ⟨w.heap.size, 0, none⟩ = some (.int .i64 (W : Int)) ∧ V.cell? ⟨w.heap.size, 1, none⟩ = some (.int .i64 (H : Int)))
                (first | go_keep | (refine ⟨?_, ?_, ?_, ?_, ?_⟩ <;> (first | go_keep | (rw [hbk.cell (by first | omega | (simp; done) | (simp; omega))]; first | assumption | go_keep))))
                (first | (go_at_call 93; with_reducible refine (hdv _).mono ?_; rintro e' w5 ⟨rfl, hbk⟩))
              have hC := HC.out.below ((below_drewN' (Below.refl _ _) 1).trans (hbk.mono (by first | omega | (simp; omega) | simp)))
              clear hbk c0 c1 c2 p0 p1 HC
              go_wp2_with fail
              go_roundw
              case rel => exact ⟨mk, ac, t, v, hC.m, .inr (.inr ⟨rfl, HE⟩)⟩
              case measure => simp [intOf]
        · clear hM
          have HE := Lib.hid (HF.out.all hW.1 hH.1)
          have r0 := HM.out.r
          have u0 := HM.out.u.cell 0 (v := .string mk) rfl
          have u1 := HM.out.u.cell 1 (v := .int .i64 0) rfl
          have u2 := HM.out.u.cell 2 (v := .bool ac) rfl
          have u3 := HM.out.u.cell 3 (v := .int .i64 (t : Int)) rfl
          have u4 := HM.out.u.cell 4 (v := .int .i64 v) rfl
          have s0 := r0.cell 0 (v := .string ⟨#[]⟩) rfl
          have s1 := r0.cell 1 (v := .int .i64 0) rfl
          have s2 := r0.cell 2 (v := .bool false) rfl
          have s3 := r0.cell 3 (v := .int .i64 0) rfl
          have s4 := r0.cell 4 (v := .int .i64 0) rfl
          have f0 := r0.free 0
          have f1 := r0.free 1
          have f2 := r0.free 2
          have f3 := r0.free 3
          have f4 := r0.free 4
          have HR := Lib.hid (((((r0.set 0 (.string mk)).set 1 (.int .i64 0)).set 2 (.bool ac)).set 3 (.int .i64 (t : Int))).set 4 (.int .i64 v))
          have HBF := Lib.hid (below_set9 (below_set9 (below_set9 (below_set9 (below_set9 HM.out.b (show _ ≤ w.heap.size + 1 by omega) (v := .string mk) (b := ⟨w.heap.size + 1, 0, none⟩)) (show _ ≤ w.heap.size + 1 by omega) (v := .int .i64 0) (b := ⟨w.heap.size + 1, 1, none⟩)) (show _ ≤ w.heap.size + 1 by omega) (v := .bool ac) (b := ⟨w.heap.size + 1, 2, none⟩)) (show _ ≤ w.heap.size + 1 by omega) (v := .int .i64 (t : Int)) (b := ⟨w.heap.size + 1, 3, none⟩)) (show _ ≤ w.heap.size + 1 by omega) (v := .int .i64 v) (b := ⟨w.heap.size + 1, 4, none⟩))
          clear r0
          go_wp2_with fail
          refine bodyPost_ret (results_cell_row rfl _ _ (w.heap.size + 1) _ _ _ _ rfl HR.out Tryd.underlying78 rfl (by kernel_rfl)) rfl ?_
          exact UsE.mk_ HE.out HBF.out
end Go.Proofs.YtbhofhobnbhhhaaDoor

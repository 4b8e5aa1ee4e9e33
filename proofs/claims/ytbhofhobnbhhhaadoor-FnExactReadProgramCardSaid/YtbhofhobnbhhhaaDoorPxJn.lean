/- Contracts of the program's joinedTexts and ProgramText. -/
import Derived.Test.YtbhofhobnbhhhaaDoorPxTx
import Derived.Test.YtbhofhobnbhhhaaDoorPxSp
import Derived.Test.YtbhofhobnbhhhaaDoorPush
import Derived.Shelf.Strings.OnBuilder
import Derived.Defers
import Derived.OwnWalk
namespace Go.Proofs.YtbhofhobnbhhhaaDoor
open Go.RowKit
set_option linter.unusedVariables false

theorem below_setJ {B : Nat} {w W : World} {g' i : Nat} {v : Value} (h : Below B w W) (hb : B ≤ g') : Below B w (W.setCell ⟨g', i, none⟩ v) :=
  ⟨h.os, h.tape, h.output, by have := h.size; simpa using this, fun k hk => (heap_setCell_other W ⟨g', i, none⟩ k v (show k ≠ g' by omega)).trans (h.block k hk)⟩
abbrev St9 (b : ByteArray) : Value := .string b
theorem infoS9 : (Tryd.prog.info? 9).map (fun i => (i.zero, i.size, i.bytes)) = some (some (.string ⟨#[]⟩), 1, 16) := by kernel_rfl
theorem join_any (A : Option Addr) (n c B : Nat) (g : List Ct) (T : ByteArray) (w : World) (h : Rd St9 w B A n (g.map Px.ctS)) (hB : B ≤ w.heap.size) (hn : n ≤ 79) (hc : n ≤ c) (hok : ∀ j y, j < n → g[j]? = some y → Px.okC y = true) (hT : Px.joinS g = T) :
    Calls Tryd.prog 86 #[.slice A n c, .string ⟨#[32]⟩] w fun e w' => e = .returned (.string T) ∧ Below w.heap.size w w' := by
  have hl : g.length = n := by have := h.1; simpa using this
  subst hT
  by_cases h0 : n = 0
  · subst h0
    have hg : g = [] := List.eq_nil_of_length_eq_zero hl
    subst hg
    refine (Any.strings_Join_none Tryd.lays156 Tryd.Builder_Extra_156 A c ⟨#[32]⟩ w).mono fun e w' ⟨he, hw⟩ => ?_
    subst hw
    exact ⟨he, Below.refl _ _⟩
  · obtain ⟨b, o, hA, hb, hcell⟩ := h.2 (by omega)
    subst hA
    have hsz := Px.joinS_size g n (by omega) hok
    rw [List.take_of_length_le (by omega)] at hsz
    have hjl : (Lib.join ((g.map Px.ctS).map (·.data.toList)) (⟨#[32]⟩ : ByteArray).data.toList) = Px.joinL g := by
      unfold Px.joinL
      rw [List.map_map]
      congr 1
      apply List.map_congr_left
      intro x _
      exact Px.ctS_data x
    have hlen : (g.map Px.ctS).length = n := by simpa using hl
    have hjs : (Px.joinL g).length ≤ 948 := by
      have : (Px.joinS g).size = (Px.joinL g).length := by simp [Px.joinS, ByteArray.size]
      omega
    have := Tryd.strings_Join b o c (g.map Px.ctS) ⟨#[32]⟩ w (fun j x hx => hcell j x hx) (by omega) (by omega) (by omega) (by rw [hjl]; omega)
    rw [hjl, hlen] at this
    exact this
theorem closure_any (gw gt : Nat) (A : Option Addr) (n c B : Nat) (g : List Ct) (T : ByteArray) (v : Value) (u : FrameMode) (w : World) (hw : w.cell? ⟨gw, 0, none⟩ = some (.slice A n c)) (ht : Blk w gt #[v] 9) (h : Rd St9 w B A n (g.map Px.ctS)) (hB : B ≤ w.heap.size) (hn : n ≤ 79) (hc : n ≤ c) (hok : ∀ j y, j < n → g[j]? = some y → Px.okC y = true) (hT : Px.joinS g = T) :
    CallsD Tryd.prog 85 #[.pointer (some ⟨gw, 0, none⟩), .pointer (some ⟨gt, 0, none⟩)] u w fun e u' w' => u' = u ∧ (e = .returned (.tuple #[]) ∧ ∃ w5, Below w.heap.size w w5 ∧ w' = w5.setCell ⟨gt, 0, none⟩ (.string T)) := by
  have hj := join_any A n c B g T w h hB hn hc hok hT
  have htl := ht.lt
  go_enter_d Tryd.func85, Tryd.ntmps85
  go_wp2_with fail
  refine hj.mono ?_
  rintro e w5 ⟨rfl, hb5⟩
  have Bt := ht.below hb5 htl
  have c0 := Bt.cell 0 (v := v) rfl
  have f0 := Bt.free 0
  go_wp2_with fail
  go_end0
  exact ⟨rfl, w5, hb5, rfl⟩

set_option maxRecDepth 100000 in
set_option maxHeartbeats 4000000 in
theorem joined_any (A : Option Addr) (n c B : Nat) (g : List Ct) (T : ByteArray) (w : World) (h : RdS Ct.S w B A n g) (hB : B ≤ w.heap.size) (hn : n ≤ 79) (htab : Lib.TabIs Tryd.prog w "internal/strconv.uint64pow10" .u64 Lib.pow10Tab) (hT : Px.ptS g = T) :
    Calls Tryd.prog 68 #[.slice A n c] w fun e w' => e = .returned (.string T) ∧ Below w.heap.size w w' := by
  have hmf : ∀ (fn : Fn) (first cap : Array Value) (w : World), (Instr.makeFunc fn first cap).run Tryd.prog w = .ok (.func fn first cap) w := fun _ _ _ _ => rfl
  have HL := Lib.hid h.1
  have HT := Lib.hid hT
  clear hT
  have hgl := tabIs_lt htab gPow
  go_enter_defers Tryd.func68, Tryd.ntmps68
  go_wp2_with fail
  have hB0 : Below w.heap.size w ((w.alloc (.cells #[.string ⟨#[]⟩] 9)).alloc (.cells #[.slice none 0 0] 97)) := ((Below.refl _ _).alloc (Nat.le_refl _) _).alloc (by simp) _
  have b0 : Blk ((w.alloc (.cells #[.string ⟨#[]⟩] 9)).alloc (.cells #[.slice none 0 0] 97)) w.heap.size #[.string ⟨#[]⟩] 9 := (Blk.new _ _ rfl).alloc _
  have b1 : Blk ((w.alloc (.cells #[.string ⟨#[]⟩] 9)).alloc (.cells #[.slice none 0 0] 97)) (w.heap.size + 1) #[.slice none 0 0] 97 := Blk.new _ _ (by simp)
  obtain ⟨i0, hi0, hz0, hz1, hz2⟩ := info_parts infoS9
  go_loopw [10] (fun i wr => ∃ (k : Nat) (A2 : Option Addr) (c2 : Nat), k ≤ n ∧ i = .int .i64 k ∧ k ≤ c2 ∧ Blk wr w.heap.size #[.string ⟨#[]⟩] 9 ∧ Blk wr (w.heap.size + 1) #[.slice A2 k c2] 97 ∧ Own St9 wr (w.heap.size + 2) wr.heap.size 9 (.slice A2 k c2) ((g.take k).map Px.ctS) ∧ Hid (∀ j y, j < k → g[j]? = some y → Px.okC y = true) ∧ Below w.heap.size w wr) (fun i _ => n - (intOf i).toNat)
  case atStart => exact ⟨0, none, 0, Nat.zero_le _, rfl, Nat.le_refl _, b0, b1, Own.nil_, Lib.hid (by intro j y h; omega), hB0⟩
  case round =>
    clear b0 b1 hB0
    obtain ⟨k, A2, c2, hk, rfl, hkc, bt, bw, ho, HK, hb⟩ := hrel
    have hz := hb.size
    have lw := bw.lt
    by_cases hlt : k < n
    · obtain ⟨b2, o, x, rfl, hbB, hx, c0, c1, cc2⟩ := (h.below hb hB).at_Ct hlt
      have HX := Lib.hid hx
      clear hx
      have hbA : Below w.heap.size w (wr.alloc (.cells #[.int .i64 x.i, .bool x.a, .int .i64 x.t] 76)) := hb.alloc hz _
      have hzA : (wr.alloc (.cells #[.int .i64 x.i, .bool x.a, .int .i64 x.t] 76)).heap.size = wr.heap.size + 1 := by simp
      have HzA := Lib.hid hzA
      have htA : Lib.TabIs Tryd.prog (wr.alloc (.cells #[.int .i64 x.i, .bool x.a, .int .i64 x.t] 76)) "internal/strconv.uint64pow10" .u64 Lib.pow10Tab := tabIs_below htab hbA gPow hgl
      obtain ⟨d, hd⟩ : ∃ d, Px.okC x = d := ⟨_, rfl⟩
      have HD := Lib.hid hd
      clear hd
      cases d
      · have htx := implTx_any x ⟨#[]⟩ _ htA (by rw [HD.out]; rfl)
        have HE : Hid (Px.ptS g = ⟨#[]⟩) := Lib.hid (Px.pt_bad HX.out HD.out)
        have HTE : Hid (Px.joinS [] = T) := Lib.hid (by rw [← HT.out, HE.out]; rfl)
        go_wp2_with fail
        refine htx.mono ?_
        rintro e w5 ⟨rfl, hb5⟩
        have hzB := HzA.out
        have hz5 := hb5.size
        have bt5 := ((bt.alloc (.cells #[.int .i64 x.i, .bool x.a, .int .i64 x.t] 76)).below hb5 (by omega))
        have bw5 := ((bw.alloc (.cells #[.int .i64 x.i, .bool x.a, .int .i64 x.t] 76)).below hb5 (by omega))
        have hb6 := hbA.trans (hb5.mono (by omega))
        have u0 := bw5.free 0
        have u1 := bw5.cell 0 (v := .slice A2 k c2) rfl
        have bt6 := bt5.other ⟨w.heap.size + 1, 0, none⟩ (.slice none 0 0) (by simp)
        have bw6 := bw5.set 0 (.slice none 0 0)
        have hb7 := below_setJ hb6 (g' := w.heap.size + 1) (i := 0) (v := .slice none 0 0) (by omega)
        have c6 := bw6.cell 0 (v := .slice none 0 0) rfl
        go_wp2_with fail
        refine leaves_cons (f := 85) (args := #[.pointer (some ⟨w.heap.size + 1, 0, none⟩), .pointer (some ⟨w.heap.size, 0, none⟩)]) (by simp) (by simp [go_sem]) ?_
        refine (closure_any (w.heap.size + 1) w.heap.size none 0 0 0 [] T (.string ⟨#[]⟩) _ _ c6 bt6 Rd.none_ (Nat.zero_le _) (by omega) (Nat.le_refl _) (by intro j y h; omega) HTE.out).mono ?_
        rintro e u' w'' ⟨rfl, rfl, w9, hb9, rfl⟩
        have x0 := ((bt6.below hb9 bt6.lt).set 0 (.string T)).cell 0 (v := .string T) rfl
        have HB9 := below_setJ (hb7.trans (hb9.mono (by first | (simp; done) | (simp; omega)))) (g' := w.heap.size) (i := 0) (v := .string T) (Nat.le_refl _)
        simp [Leaves, settle, results, Tryd.results68, go_sem, x0]
        exact HB9
      · have htx := implTx_any x (Px.ctS x) _ htA (by rw [HD.out]; rfl)
        have hsz := Px.ct_size x HD.out
        obtain ⟨WD, hWD⟩ : ∃ s, s = Px.ctS x := ⟨_, rfl⟩
        rw [← hWD] at htx hsz
        have HWD := Lib.hid hWD
        clear hWD
        have hne : ¬ (WD.toList = []) := fun h => by
          have : WD.data.toList.length = 0 := by rw [← Lib.toList_data, h]; rfl
          have h2 : WD.data.toList.length = WD.size := rfl
          omega
        have hneb : (WD.toList == []) = false := by simpa using hne
        have HKN : Hid (∀ j y, j < k + 1 → g[j]? = some y → Px.okC y = true) := Lib.hid fun j y hj hy => by
          by_cases he : j = k
          · subst he
            have := HX.out.symm.trans hy
            injection this with this
            rw [← this]
            exact HD.out
          · exact HK.out j y (by omega) hy
        go_wp2_with fail
        refine htx.mono ?_
        rintro e w5 ⟨rfl, hb5⟩
        have hzB := HzA.out
        have hz5 := hb5.size
        have bt5 := ((bt.alloc (.cells #[.int .i64 x.i, .bool x.a, .int .i64 x.t] 76)).below hb5 (by omega))
        have bw5 := ((bw.alloc (.cells #[.int .i64 x.i, .bool x.a, .int .i64 x.t] 76)).below hb5 (by omega))
        have hb6 := hbA.trans (hb5.mono (by omega))
        have ho5 := (ho.alloc (.cells #[.int .i64 x.i, .bool x.a, .int .i64 x.t] 76)).below hb5 (by omega)
        have u1 := bw5.cell 0 (v := .slice A2 k c2) rfl
        have hfar : Far (.slice A2 k c2) (w.heap.size + 1) := fun e => by have := ho5.lt _ e; omega
        have hfar0 : Far (.slice A2 k c2) w.heap.size := fun e => by have := ho5.lt _ e; omega
        clear ho
        go_wp2_with (at_builtin; refine wp_push3 w5 rfl (.tmp 18) (.tmp 20) 97 rfl 9 i0 _ 16 Tryd.underlying97 hi0 hz0 hz1 hz2 rfl A2 k c2 ((g.take k).map Px.ctS) (w.heap.size + 2) wr.heap.size (by rfl) ho5 WD (by rfl) rfl (by omega) (by omega) (by omega) ?_; intro A6 c6 w6 ho6 hm6 hK6; have k1 := hK6 (w.heap.size + 1) (by omega) hfar; have k0 := hK6 w.heap.size (by omega) hfar0; have bw6 : Blk w6 (w.heap.size + 1) #[.slice A2 k c2] 97 := k1.1.trans bw5; have bt6 : Blk w6 w.heap.size #[.string ⟨#[]⟩] 9 := k0.1.trans bt5; have v0 := bw6.free 0; have v1 := bw6.cell 0 (v := .slice A2 k c2) rfl)
        have HB6 : Hid (Below w.heap.size w w6) := Lib.hid (hb6.trans (hm6.below (by omega) (by omega)))
        have hz6 := hm6.size
        have HO7 := Lib.hid (ho6.other ⟨w.heap.size + 1, 0, none⟩ (.slice A6 (k + 1) c6) k1.2)
        have HT7 := Lib.hid (bt6.other ⟨w.heap.size + 1, 0, none⟩ (.slice A6 (k + 1) c6) (by simp))
        have HW7 := Lib.hid (bw6.set 0 (.slice A6 (k + 1) c6))
        have HB7 := Lib.hid (below_setJ HB6.out (g' := w.heap.size + 1) (i := 0) (v := .slice A6 (k + 1) c6) (by omega))
        have hle : k + 1 ≤ c6 := by obtain ⟨_, c', hv, hle⟩ := ho6.form; injection hv with _ h2 h3; omega
        clear ho6 hm6 hK6 k1 k0 bw6 bt6 v0 v1 bt5 bw5 u1
        go_roundw
        case rel => exact ⟨k + 1, A6, c6, by omega, by go_num, hle, HT7.out, HW7.out, by have := HO7.out; rw [takeS_next g k x HX.out, List.map_append, List.map_cons, List.map_nil, ← HWD.out]; exact this.mono (Nat.le_refl _) (by simp), HKN, HB7.out⟩
        case measure => simp [intOf]; omega
    · obtain rfl : k = n := by omega
      have hg : g.take k = g := List.take_of_length_le (by have := HL.out; omega)
      rw [hg] at ho
      have HE : Hid (Px.joinS g = T) := Lib.hid (by rw [← HT.out, Px.pt_good HL.out hn HK.out])
      have c6 := bw.cell 0 (v := .slice A2 k c2) rfl
      clear hg
      go_wp2_with fail
      refine leaves_cons (f := 85) (args := #[.pointer (some ⟨w.heap.size + 1, 0, none⟩), .pointer (some ⟨w.heap.size, 0, none⟩)]) (by simp) (by simp [go_sem]) ?_
      refine (closure_any (w.heap.size + 1) w.heap.size A2 k c2 wr.heap.size g T (.string ⟨#[]⟩) _ _ c6 bt ho.rd (Nat.le_refl _) hn hkc HK.out HE.out).mono ?_
      rintro e u' w'' ⟨rfl, rfl, w9, hb9, rfl⟩
      have x0 := ((bt.below hb9 bt.lt).set 0 (.string T)).cell 0 (v := .string T) rfl
      have HB9 := below_setJ (hb.trans (hb9.mono hz)) (g' := w.heap.size) (i := 0) (v := .string T) (Nat.le_refl _)
      simp [Leaves, settle, results, Tryd.results68, go_sem, x0]
      exact HB9
theorem implPt_any (A : Option Addr) (n c B : Nat) (g : List Ct) (T : ByteArray) (w : World) (h : RdS Ct.S w B A n g) (hB : B ≤ w.heap.size) (hn : n ≤ 1048577) (htab : Lib.TabIs Tryd.prog w "internal/strconv.uint64pow10" .u64 Lib.pow10Tab) (hT : Px.ptS g = T) :
    Calls Tryd.prog 41 #[.slice A n c] w fun e w' => e = .returned (.string T) ∧ Below w.heap.size w w' := by
  have HT := Lib.hid hT
  clear hT
  by_cases h79 : 79 < n
  · have HE := Lib.hid (Px.pt_long (g := g) (by rw [h.1]; exact h79))
    go_enter Tryd.func41, Tryd.ntmps41
    go_wp2_with fail
    go_ret
    exact ⟨Px.ret_s (by rw [← HT.out, HE.out]), Below.refl _ _⟩
  · have hn79 : n ≤ 79 := by omega
    have hj := joined_any A n c B g T w h hB hn79 htab HT.out
    go_enter Tryd.func41, Tryd.ntmps41
    go_wp2_with fail
    refine hj.mono ?_
    rintro e w1 ⟨rfl, hb1⟩
    go_wp2_with fail
    go_ret
    exact ⟨rfl, hb1⟩
end Go.Proofs.YtbhofhobnbhhhaaDoor

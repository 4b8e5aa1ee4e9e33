/- Contracts of BlankPages, the model's and the program's. -/
import Derived.Test.YtoanopgafihjiaaChOf2
namespace Go.Proofs.Ytoanopgafihjiaa
open Go.RowKit Pg

def blR (r : Bool) (f : Int) (l : List Int) : List Int := if okB f l = true then blanks r (f + 1) l else []
/-- The blank pages below a page. -/
def blTo (r : Bool) (f : Int) (l : List Int) (p : Int) : List Int := (blanks r (f + 1) l).filter (fun x => decide (x < p))
theorem blTo_len (r : Bool) (f : Int) (l : List Int) (p : Int) : (blTo r f l p).length ≤ l.length :=
  Nat.le_trans (List.length_filter_le _ _) (blanks_len r (f + 1) l)
theorem blTo_next (r : Bool) (f : Int) (l : List Int) (p : Int) (h : okP f l) (h1 : f + 1 ≤ p) (h2 : p < stop r (f + 1) l) :
    blTo r f l (p + 1) = blTo r f l p ++ (if chap r (f + 1) l p 0 = -1 then [p] else []) := by
  have hl : ∀ c ∈ l, 1 ≤ c := fun c hc => (h.2.2 c hc).1
  unfold blTo
  rw [filter_next _ _ (blanks_sorted r (f + 1) l hl)]
  have hm := blanks_mem r (f + 1) l 0 (by omega) hl p
  by_cases hc : chap r (f + 1) l p 0 = -1
  · rw [if_pos (hm.2 ⟨h1, h2, hc⟩), if_pos hc]
  · rw [if_neg (fun h => hc (hm.1 h).2.2), if_neg hc]
theorem blTo_all (r : Bool) (f : Int) (l : List Int) (h : okP f l) : blTo r f l (stop r (f + 1) l) = blanks r (f + 1) l :=
  filter_all _ _ fun x hx => (blanks_ge r (f + 1) l (fun c hc => (h.2.2 c hc).1) x hx).2
theorem blTo_none (r : Bool) (f : Int) (l : List Int) (h : okP f l) : blTo r f l (f + 1) = [] :=
  filter_none _ _ fun x hx => (blanks_ge r (f + 1) l (fun c hc => (h.2.2 c hc).1) x hx).1

set_option maxRecDepth 100000 in
set_option maxHeartbeats 2000000 in
theorem specBlank_any (f : Int) (A : Option Addr) (n c B : Nat) (r : Bool) (l : List Int) (w : World) (h : Rd I w B A n l) (hB : B ≤ w.heap.size) (hn : n ≤ 1048576) :
    Calls Try.prog 15 #[BK f A n c r] w fun e w' => LC w (blR r f l) (bkC f l) e w' := by
  have hR0 := h.alloc hB (.cells (BC f A n c r) 26)
  by_cases ho : okP f l
  · have HO := Lib.hid (okB_yes ho)
    have HR : Hid (blR r f l = blanks r (f + 1) l) := if_pos HO.out
    have HC : Hid (bkC f l = 0) := if_pos HO.out
    have HM : Hid (mild f l) := mild_ok ho
    have hf0 := ho.1.1
    have hf1 := ho.1.2
    have hl2 : l.length ≤ 20 := ho.2.1.2
    have hbd := mild_take HM.out r l.length
    have hge := stop_ge r (f + 1) l (fun c hc => by have := ho.2.2 c hc; omega)
    rw [List.take_length] at hbd
    have HS : Hid (∀ p, f + 1 ≤ p → p < stop r (f + 1) l → blTo r f l (p + 1) = blTo r f l p ++ (if chap r (f + 1) l p 0 = -1 then [p] else [])) := fun p => blTo_next r f l p ho
    have H0 : Hid (blTo r f l (f + 1) = []) := blTo_none r f l ho
    have H1 : Hid (blTo r f l (stop r (f + 1) l) = blanks r (f + 1) l) := blTo_all r f l ho
    obtain ⟨e, he⟩ : ∃ e, stop r (f + 1) l = e := ⟨_, rfl⟩
    have HE := Lib.hid he
    rw [he] at HS H1 hbd hge
    obtain ⟨m0, m1⟩ := hbd
    obtain ⟨i0, hi0, hz0, hz1, hz2⟩ := info_parts infoI
    clear ho he
    go_enter Try.func15, Try.ntmps15
    go_wp2_with fail
    refine (specIsBook_is _ _ _ _ _ _ _ _ _ hR0 (by simp; omega) hn HO.out).mono ?_
    rintro e' w1 ⟨rfl, hb1⟩
    have a1 := (Blk.new (w := w) (g := w.heap.size) (BC f A n c r) 26 rfl).below hb1 (by simp)
    have a10 := a1.cell 0 (v := .int .i64 f) rfl
    have a11 := a1.cell 1 (v := .slice A n c) rfl
    have a12 := a1.cell 2 (v := .bool r) rfl
    have hB1 : Below w.heap.size w w1 := ((Below.refl w.heap.size w).alloc (Nat.le_refl _) _).trans (hb1.mono (by simp))
    have hz1' := hB1.size
    have hlt1 := a1.lt
    go_wp2_with fail
    refine (l02Starts_any _ _ _ _ _ _ _ _ (h.below hB1 hB) (by omega) HM.out).mono ?_
    rintro e' w2 ⟨A2, n2, c2, rfl, rfl, ho2, hb2⟩
    have hz2' := hb2.size
    have hB2 := hB1.trans (hb2.mono hz1')
    have a2 := a1.below hb2 hlt1
    have a20 := a2.cell 0 (v := .int .i64 f) rfl
    have hlit := Own.lit0 I w2 2
    have hlt2 : w.heap.size < w2.heap.size := by omega
    have a2l := (a2.alloc (.cells #[] 2)).cell 0 (v := .int .i64 f) rfl
    clear a10 a11 a12 ho2
    rw [HE.out]
    go_wp2_with fail
    go_loopw [6, 7] (fun v i wr => ∃ p : Int, f + 1 ≤ p ∧ p ≤ e ∧ i = .int .i64 p ∧ (∃ A3 n3 c3, v = .slice A3 n3 c3 ∧ n3 ≤ 20 ∧ Own I wr w2.heap.size wr.heap.size 2 (.slice A3 n3 c3) (blTo r f l p)) ∧ Below w.heap.size w wr ∧ w2.heap.size ≤ wr.heap.size ∧ Blk wr w.heap.size (BC f A n c r) 26) (fun _ i _ => (e - intOf i).toNat)
    case atStart =>
      exact ⟨f + 1, Int.le_refl _, hge, rfl, ⟨_, _, _, rfl, by omega, by rw [H0.out]; exact hlit.mono (Nat.le_refl _) (by simp)⟩, hB2.alloc (by omega) _, by simp, a2.alloc _⟩
    case round =>
      clear hlit a20 a2 a2l hB2 a1
      obtain ⟨p, hp0, hp1, rfl, ⟨A3, n3, c3, rfl, hn3, ho⟩, hb, hsz, hbl⟩ := hrel
      have a10 := hbl.cell 0 (v := .int .i64 f) rfl
      have a11 := hbl.cell 1 (v := .slice A n c) rfl
      have a12 := hbl.cell 2 (v := .bool r) rfl
      have hlen : (blTo r f l p).length = n3 := ho.rd.1
      by_cases hlt : p < e
      · have hS := HS.out p hp0 hlt
        obtain ⟨k, hk⟩ : ∃ k, chap r (f + 1) l p 0 = k := ⟨_, rfl⟩
        have HK := Lib.hid hk
        have hkb : k = -1 ∨ 0 ≤ k := by have := chap_ge r (f + 1) l p 0; omega
        rw [hk] at hS
        clear hk
        rcases hkb with rfl | hk0
        · rw [if_pos rfl] at hS
          have HS2 := Lib.hid hS
          clear hS hlen
          go_wp2_with fail
          refine (l02Chapter_is _ _ _ _ _ _ _ _ _ _ (h.below hb hB) (by have := hb.size; omega) HM.out HK.out).mono ?_
          rintro e' w3 ⟨rfl, hb3⟩
          have hz3 := hb3.size
          have ho3 := ho.below hb3 (Nat.le_refl _)
          have hbl3 := hbl.below hb3 hbl.lt
          go_wp2_with (at_builtin; refine wp_push _ rfl _ _ 24 rfl 2 i0 _ 8 Try.underlying24 hi0 hz0 hz1 hz2 rfl A3 n3 c3 _ _ _ rfl ho3 _ rfl rfl (by omega) (by omega) (by omega) ?_; intro A4 c4 w4 ho4 hm4)
          go_roundw
          case rel =>
            have hs4 := hm4.size
            have hlen4 := blTo_len r f l (p + 1)
            rw [HS2.out] at hlen4
            have hl4 := ho4.rd.1
            refine ⟨p + 1, by omega, by omega, rfl, ⟨_, _, _, rfl, by omega, by rw [HS2.out]; exact ho4⟩, (hb.trans (hb3.mono (by have := hb.size; omega))).trans (hm4.below (by omega) (by omega)), by omega, hbl3.only hm4 (.inl (by omega))⟩
          case measure => simp [intOf]; omega
        · have hkn : ¬ k = -1 := by omega
          rw [if_neg hkn, List.append_nil] at hS
          have HS2 := Lib.hid hS
          clear hS hlen hkn
          go_wp2_with fail
          refine (l02Chapter_is _ _ _ _ _ _ _ _ _ _ (h.below hb hB) (by have := hb.size; omega) HM.out HK.out).mono ?_
          rintro e' w3 ⟨rfl, hb3⟩
          have hz3 := hb3.size
          have ho3 := (ho.below hb3 (Nat.le_refl _)).mono (Nat.le_refl _) hz3
          have hbl3 := hbl.below hb3 hbl.lt
          go_wp2_with fail
          go_roundw
          case rel => exact ⟨p + 1, by omega, by omega, rfl, ⟨_, _, _, rfl, hn3, by rw [HS2.out]; exact ho3⟩, hb.trans (hb3.mono (by have := hb.size; omega)), by omega, hbl3⟩
          case measure => simp [intOf]; omega
      · obtain rfl : p = e := by omega
        rw [H1.out] at ho
        clear hlen
        go_wp2_with fail
        go_ret2
        exact LC.mk_ HR.out HC.out ho (by omega) (Nat.le_refl _) (by omega) hb
  · have HO := Lib.hid (okB_no ho)
    have HR : Hid (blR r f l = []) := if_neg (by rw [HO.out]; simp)
    have HC : Hid (bkC f l = 1) := if_neg (by rw [HO.out]; simp)
    clear ho
    go_enter Try.func15, Try.ntmps15
    go_wp2_with fail
    refine (specIsBook_is _ _ _ _ _ _ _ _ _ hR0 (by simp; omega) hn HO.out).mono ?_
    rintro e w1 ⟨rfl, hb1⟩
    have hB1 : Below w.heap.size w w1 := ((Below.refl w.heap.size w).alloc (Nat.le_refl _) _).trans (hb1.mono (by simp))
    go_wp2_with fail
    go_ret2
    exact LC.nil_ HR.out HC.out hB1

set_option maxRecDepth 100000 in
set_option maxHeartbeats 2000000 in
theorem implBlank_any (f : Int) (A : Option Addr) (n c B : Nat) (r : Bool) (l : List Int) (w : World) (h : Rd I w B A n l) (hB : B ≤ w.heap.size) (hn : n ≤ 1048576) (hf : -9223372036854775808 ≤ f ∧ f ≤ 9223372036854775807) :
    Calls Try.prog 14 #[BK f A n c r] w fun e w' => LC w (blR r f l) (bkC f l) e w' := by
  have hR0 := h.alloc hB (.cells (BC f A n c r) 26)
  have HL : Hid (l.length = n) := h.1
  by_cases ho : okP f l
  · have HO := Lib.hid (okB_yes ho)
    have HR : Hid (blR r f l = blanks r (f + 1) l) := if_pos HO.out
    have HC : Hid (bkC f l = 0) := if_pos HO.out
    have HM : Hid (mild f l) := mild_ok ho
    have hn2 : n ≤ 20 := by have := ho.2.1.2; have := HL.out; omega
    have hf0 := ho.1.1
    have hf1 := ho.1.2
    obtain ⟨i0, hi0, hz0, hz1, hz2⟩ := info_parts infoI
    clear ho
    go_enter Try.func14, Try.ntmps14
    go_wp2_with fail
    refine (implIsBook_is _ _ _ _ _ _ _ _ _ hR0 (by simp; omega) hn hf HO.out).mono ?_
    rintro e w1 ⟨rfl, hb1⟩
    have a1 := (Blk.new (w := w) (g := w.heap.size) (BC f A n c r) 26 rfl).below hb1 (by simp)
    have a10 := a1.cell 0 (v := .int .i64 f) rfl
    have a11 := a1.cell 1 (v := .slice A n c) rfl
    have a12 := a1.cell 2 (v := .bool r) rfl
    have hB1 : Below w.heap.size w w1 := ((Below.refl w.heap.size w).alloc (Nat.le_refl _) _).trans (hb1.mono (by simp))
    have hz1' := hB1.size
    go_wp2_with fail
    refine (chapterRuns_any _ _ _ _ _ _ _ _ (h.below hB1 hB) (by omega) HM.out).mono ?_
    rintro e w3 ⟨g, rfl, hg, hr3, hb3⟩
    have hz3 := hb3.size
    have hB3 := hB1.trans (hb3.mono (by omega))
    clear a10 a11 a12
    go_wp2_with fail
    go_loopw [4, 5, 17] (fun v m i wr => ∃ k : Nat, k ≤ n ∧ i = .int .i64 k ∧ m = .int .i64 (stop r (f + 1) (l.take k)) ∧ (∃ A3 n3 c3, v = .slice A3 n3 c3 ∧ n3 ≤ 20 ∧ Own I wr w1.heap.size wr.heap.size 2 (.slice A3 n3 c3) (blanks r (f + 1) (l.take k)) ∧ Far (.slice A3 n3 c3) g) ∧ Row2 wr g (runs r (f + 1) l) ∧ Below w.heap.size w wr ∧ w1.heap.size ≤ wr.heap.size) (fun _ _ i _ => n - (intOf i).toNat)
    case atStart => exact ⟨0, Nat.zero_le _, rfl, by simp [stop], ⟨_, _, _, rfl, by omega, by simpa [blanks] using Own.nil_, Far.nil_ _⟩, hr3, hB3, by omega⟩
    case round =>
      clear hr3 hB3
      obtain ⟨k, hk, rfl, rfl, ⟨A3, n3, c3, rfl, hn3, ho, hfar⟩, hrow, hb, hsz⟩ := hrel
      have hlr := hrow.lt
      have hbd := mild_take HM.out r k
      obtain ⟨m, hm⟩ : ∃ m, stop r (f + 1) (l.take k) = m := ⟨_, rfl⟩
      rw [hm] at hbd ⊢
      obtain ⟨m0, m1⟩ := hbd
      by_cases hlt : k < n
      · obtain ⟨x, hx⟩ : ∃ x, l[k]? = some x := ⟨_, List.getElem?_eq_getElem (by rw [HL.out]; exact hlt)⟩
        obtain ⟨x0, x1⟩ := HM.out.2.2.2 x (List.mem_of_getElem? hx)
        obtain ⟨hc0, hc1⟩ := runs_at r (f + 1) l k x hx
        rw [Nat.mul_comm 2 k, hm] at hc0 hc1
        have q0 := hrow.cell hc0
        have q1 := hrow.cell hc1
        have hu := up_ge r m
        obtain ⟨y, hy⟩ : ∃ y, up r m = y := ⟨_, rfl⟩
        have hblk : blanks r (f + 1) (l.take (k + 1)) = blanks r (f + 1) (l.take k) ++ (if m < y then [m] else []) := by
          rw [Pg.take_snoc l k x hx, blanks_snoc, hm, hy]
        have HX : Hid (stop r (f + 1) (l.take (k + 1)) = y + x) := by
          show _ = _
          rw [Pg.take_snoc l k x hx, stop_snoc, hm, hy]
        rw [hy] at q0 q1 hu
        obtain ⟨u0, u1⟩ := hu
        have e1 : IntKind.i64.wrap (y + x - 1 + 1) = y + x := by rw [show y + x - 1 + 1 = y + x from by omega]; exact IntWalk.i64_in _ (by omega)
        have hlen3 : (blanks r (f + 1) (l.take k)).length ≤ k := Nat.le_trans (blanks_len _ _ _) (by simp; omega)
        have hln : (blanks r (f + 1) (l.take k)).length = n3 := ho.rd.1
        have hn3k : n3 ≤ k := by omega
        clear hc0 hc1 hm hx hy hlen3 hln
        by_cases hlt2 : m < y
        · rw [if_pos hlt2] at hblk
          have HBK := Lib.hid hblk
          clear hblk
          go_wp2_with (at_builtin; refine wp_push3 _ rfl _ _ 24 rfl 2 i0 _ 8 Try.underlying24 hi0 hz0 hz1 hz2 rfl A3 n3 c3 _ _ _ rfl (ho.alloc _) _ (by simp only [World.size_alloc]; rfl) rfl (by omega) (by omega) (by simp only [World.size_alloc]; omega) ?_; intro A4 c4 w4 ho4 hm4 hk4; have bx := (Blk.new (w := wr) (g := wr.heap.size) #[.int .i64 y, .int .i64 (y + x - 1)] 54 rfl).only hm4 (.inr (Nat.le_refl _)); have bx1 := bx.cell 1 (v := .int .i64 (y + x - 1)) rfl)
          go_roundw
          case rel =>
            obtain ⟨t1, t2⟩ := hk4 g (by have := hrow.lt; simp; omega) hfar
            refine ⟨k + 1, by omega, by go_num, ?_, ⟨_, _, _, rfl, by omega, ?_, t2⟩, (hrow.alloc _).kept t1, (hb.alloc (by have := hb.size; omega) _).trans (hm4.below (by omega) (by have := hb.size; simp; omega)), by have := hm4.size; simp at this; omega⟩
            · rw [HX.out]
            · rw [HBK.out]
              exact ho4
          case measure => simp [intOf]; omega
        · rw [if_neg hlt2, List.append_nil] at hblk
          have HBK := Lib.hid hblk
          have hle2 : y ≤ m := by omega
          clear hblk
          go_wp2_with fail
          go_roundw
          case rel =>
            refine ⟨k + 1, by omega, by go_num, ?_, ⟨_, _, _, rfl, by omega, ?_, hfar⟩, hrow.alloc _, hb.alloc (by have := hb.size; omega) _, by simp; omega⟩
            · rw [HX.out]
            · rw [HBK.out]
              exact (ho.alloc _).mono (Nat.le_refl _) (by simp)
          case measure => simp [intOf]; omega
      · obtain rfl : k = n := by omega
        have HT : Hid (l.take k = l) := List.take_of_length_le (Nat.le_of_eq HL.out)
        rw [HT.out] at ho
        clear hm
        go_wp2
        go_ret2
        exact LC.mk_ HR.out HC.out ho hz1' (Nat.le_refl _) (by omega) hb
  · have HO := Lib.hid (okB_no ho)
    have HR : Hid (blR r f l = []) := if_neg (by rw [HO.out]; simp)
    have HC : Hid (bkC f l = 1) := if_neg (by rw [HO.out]; simp)
    clear ho
    go_enter Try.func14, Try.ntmps14
    go_wp2_with fail
    refine (implIsBook_is _ _ _ _ _ _ _ _ _ hR0 (by simp; omega) hn hf HO.out).mono ?_
    rintro e w1 ⟨rfl, hb1⟩
    have hB1 : Below w.heap.size w w1 := ((Below.refl w.heap.size w).alloc (Nat.le_refl _) _).trans (hb1.mono (by simp))
    go_wp2_with fail
    go_ret2
    exact LC.nil_ HR.out HC.out hB1
end Go.Proofs.Ytoanopgafihjiaa

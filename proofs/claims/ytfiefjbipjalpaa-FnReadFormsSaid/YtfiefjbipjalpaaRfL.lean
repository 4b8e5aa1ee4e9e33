/- The walk of the law FnReadForms, out of the contracts. -/
import Derived.Test.YtfiefjbipjalpaaRfSg
import Derived.Test.YtfiefjbipjalpaaRfRw
namespace Go.Proofs.Ytfiefjbipjalpaa
namespace Fm

theorem mod_of {w x y : Int} (h0 : 0 ≤ x) (h1 : x < w) : (y * w + x) % w = x := by
  rw [Int.add_comm, Int.add_mul_emod_self_right, Int.emod_eq_of_lt h0 h1]
theorem div_of {w x y : Int} (h0 : 0 ≤ x) (h1 : x < w) : (y * w + x) / w = y := by
  rw [Int.add_comm, Int.add_mul_ediv_right _ _ (by omega), Int.ediv_eq_zero_of_lt h0 h1, Int.zero_add]
/-- The leaves of a scheme stand on the cells of its sheet, one on each. -/
structure Tab (w : Int) (n : Nat) (lv : List Lv) : Prop where
  len : lv.length = n
  fl : ∀ (k : Nat) (v : Lv), lv[k]? = some v → fc w v < n ∧ bc w v < n
  fi : ∀ (i j : Nat) (u v : Lv), lv[i]? = some u → lv[j]? = some v → fc w u = fc w v → i = j
  bi : ∀ (i j : Nat) (u v : Lv), lv[i]? = some u → lv[j]? = some v → bc w u = bc w v → i = j
  fs : ∀ i, i < n → ∃ (k : Nat) (v : Lv), lv[k]? = some v ∧ fc w v = i
  bs : ∀ i, i < n → ∃ (k : Nat) (v : Lv), lv[k]? = some v ∧ bc w v = i
theorem tab_of {w h : Int} {s : List UInt8} (hs : Fo.scheme w h s = true) : Tab w (2 ^ s.length) (LVs s) := by
  have hsh := scheme_sheet hs
  have hc := scheme_cells hs
  obtain ⟨W, H', eW, eH, W1, _, H1, _, _, _, _⟩ := cells_of hsh
  have hlen := LVs_len s
  have fa : ∀ {k : Nat} {v : Lv}, (LVs s)[k]? = some v → v.y * w + v.x = (fc w v : Int) ∧ (fc w v : Int) < w * h := fun hv => by
    have := fc_at hsh (LVs_on hs hv)
    exact ⟨this.1, this.2.1⟩
  have ba : ∀ {k : Nat} {v : Lv}, (LVs s)[k]? = some v → v.y * w + (w - 1 - v.x) = (bc w v : Int) ∧ (bc w v : Int) < w * h := fun hv => bc_at hsh (LVs_on hs hv)
  have on : ∀ {k : Nat} {v : Lv}, (LVs s)[k]? = some v → On w h v := fun hv => LVs_on hs hv
  have inj : ∀ (i j : Nat) (u v : Lv), (LVs s)[i]? = some u → (LVs s)[j]? = some v → u.x = v.x → u.y = v.y → i = j := fun i j u v hu hv e1 e2 => by
    obtain ⟨hi, x1, y1⟩ := LVs_cell hu
    obtain ⟨hj, x2, y2⟩ := LVs_cell hv
    exact cell_inj s hi hj (by rw [← x1, ← x2, e1]) (by rw [← y1, ← y2, e2])
  have at_ : ∀ x y : Int, 0 ≤ x → x < w → 0 ≤ y → y < h → ∃ (k : Nat) (v : Lv), (LVs s)[k]? = some v ∧ v.x = x ∧ v.y = y := fun x y x0 x1 y0 y1 => by
    obtain ⟨j, hj, e1, e2⟩ := cell_on hs x0 x1 y0 y1
    have hv := LVs_get s j hj
    obtain ⟨_, h1, h2⟩ := LVs_cell hv
    exact ⟨j, _, hv, by rw [h1, e1], by rw [h2, e2]⟩
  have idx : ∀ i : Nat, i < 2 ^ s.length → ∃ X Y : Int, 0 ≤ X ∧ X < w ∧ 0 ≤ Y ∧ Y < h ∧ Y * w + X = (i : Int) := fun i hi => by
    have hW : 1 ≤ W := W1
    have hWH : 2 ^ s.length = W * H' := by
      rw [eW, eH] at hc
      have : ((W * H' : Nat) : Int) = ((2 ^ s.length : Nat) : Int) := by rw [← hc]; push_cast; rfl
      exact (Int.ofNat_inj.1 this).symm
    refine ⟨(i : Int) % w, (i : Int) / w, Int.emod_nonneg _ (by omega), Int.emod_lt_of_pos _ (by omega), Int.ediv_nonneg (by omega) (by omega), ?_, by have := Int.emod_add_mul_ediv (i : Int) w; rw [Int.mul_comm] at this; omega⟩
    refine Int.ediv_lt_of_lt_mul (by omega) ?_
    rw [eW, eH]
    have : ((H' * W : Nat) : Int) = (H' : Int) * (W : Int) := by push_cast; rfl
    rw [← this, Nat.mul_comm, ← hWH]
    omega
  refine ⟨hlen, fun k v hv => ?_, fun i j u v hu hv e => ?_, fun i j u v hu hv e => ?_, fun i hi => ?_, fun i hi => ?_⟩
  · have h1 := (fa hv).2
    have h2 := (ba hv).2
    rw [hc] at h1 h2
    exact ⟨by omega, by omega⟩
  · have h1 := (fa hu).1
    have h2 := (fa hv).1
    rw [← e, ← h1] at h2
    obtain ⟨u0, u1, _, _⟩ := on hu
    obtain ⟨v0, v1, _, _⟩ := on hv
    have e1 := mod_of (y := u.y) u0 u1
    have e2 := mod_of (y := v.y) v0 v1
    have e3 := div_of (y := u.y) u0 u1
    have e4 := div_of (y := v.y) v0 v1
    rw [h2] at e2 e4
    exact inj i j u v hu hv (by rw [← e1, e2]) (by rw [← e3, e4])
  · have h1 := (ba hu).1
    have h2 := (ba hv).1
    rw [← e, ← h1] at h2
    obtain ⟨u0, u1, _, _⟩ := on hu
    obtain ⟨v0, v1, _, _⟩ := on hv
    have e1 := mod_of (y := u.y) (show 0 ≤ w - 1 - u.x by omega) (show w - 1 - u.x < w by omega)
    have e2 := mod_of (y := v.y) (show 0 ≤ w - 1 - v.x by omega) (show w - 1 - v.x < w by omega)
    have e3 := div_of (y := u.y) (show 0 ≤ w - 1 - u.x by omega) (show w - 1 - u.x < w by omega)
    have e4 := div_of (y := v.y) (show 0 ≤ w - 1 - v.x by omega) (show w - 1 - v.x < w by omega)
    rw [h2] at e2 e4
    exact inj i j u v hu hv (by omega) (by rw [← e3, e4])
  · obtain ⟨X, Y, a0, a1, a2, a3, a4⟩ := idx i hi
    obtain ⟨k, v, hv, e1, e2⟩ := at_ X Y a0 a1 a2 a3
    refine ⟨k, v, hv, ?_⟩
    have := (fa hv).1
    rw [e1, e2, a4] at this
    omega
  · obtain ⟨X, Y, a0, a1, a2, a3, a4⟩ := idx i hi
    obtain ⟨k, v, hv, e1, e2⟩ := at_ (w - 1 - X) Y (by omega) (by omega) a2 a3
    refine ⟨k, v, hv, ?_⟩
    have := (ba hv).1
    rw [e1, e2] at this
    omega
/-- The place of a page of a leaf among the pages of both sides. -/
def pos (w : Int) (n : Nat) (v : Lv) (lo : Bool) : Nat := if (v.down != lo) = true then n + bc w v else fc w v
theorem pg_pos {w : Int} {n : Nat} {F G : List Int} {v : Lv} {lo : Bool} (hF : F.length = n) (hG : G.length = n) (hf : fc w v < n) (hb : bc w v < n) : (F ++ G)[pos w n v lo]? = some (pg w F G v lo) := by
  unfold pos pg
  by_cases h : (v.down != lo) = true
  · rw [if_pos h, if_pos h, List.getElem?_append_right (by omega), hF, Nat.add_sub_cancel_left, List.getD_eq_getElem?_getD, List.getElem?_eq_getElem (by omega)]
    rfl
  · rw [if_neg h, if_neg h, List.getElem?_append_left (by omega), List.getD_eq_getElem?_getD, List.getElem?_eq_getElem (by omega)]
    rfl
theorem pos_inj {w : Int} {n : Nat} {lv : List Lv} (T : Tab w n lv) {i j : Nat} {u v : Lv} {a b : Bool} (hu : lv[i]? = some u) (hv : lv[j]? = some v) (h : pos w n u a = pos w n v b) : i = j ∧ a = b := by
  have h1 := T.fl i u hu
  have h2 := T.fl j v hv
  unfold pos at h
  by_cases ha : (u.down != a) = true
  · by_cases hb : (v.down != b) = true
    · rw [if_pos ha, if_pos hb] at h
      have hij := T.bi i j u v hu hv (by omega)
      subst hij
      rw [hu] at hv
      obtain rfl := Option.some.inj hv
      refine ⟨rfl, ?_⟩
      generalize u.down = d at ha hb
      revert ha hb
      cases a <;> cases b <;> cases d <;> decide
    · rw [if_pos ha, if_neg hb] at h
      omega
  · by_cases hb : (v.down != b) = true
    · rw [if_neg ha, if_pos hb] at h
      omega
    · rw [if_neg ha, if_neg hb] at h
      have hij := T.fi i j u v hu hv h
      subst hij
      rw [hu] at hv
      obtain rfl := Option.some.inj hv
      refine ⟨rfl, ?_⟩
      generalize u.down = d at ha hb
      revert ha hb
      cases a <;> cases b <;> cases d <;> decide
/-- What is known of all that is read. -/
structure Red (L M : List Int) : Prop where
  len : L.length = M.length
  has : ∀ (i : Nat) (x : Int), L[i]? = some x → max x (-x) ∈ M
  fresh : ∀ (i : Nat) (x : Int), L[i]? = some x → x ∉ L.take i ∧ -x ∉ L.take i
  pos : ∀ x ∈ M, 1 ≤ x
theorem red_of {w h : Int} {F G H : List Int} {s : List UInt8} (hc : code w h F G H s = 0) : Red (reR w h F G H s) (F ++ G) := by
  obtain ⟨hok, hc2⟩ := code_zero hc
  have hsch : Fo.scheme w h s = true := by
    unfold Fo.code at hc2
    split at hc2
    · split at hc2
      · assumption
      · omega
    · omega
  have T := tab_of hsch
  have hcells := scheme_cells hsch
  obtain ⟨_, ⟨l1, l2, _⟩, _, ⟨m1, _, _, hnd⟩⟩ := hok
  have hF : F.length = 2 ^ s.length := by rw [hcells] at l1; exact Int.ofNat_inj.1 l1
  have hG : G.length = 2 ^ s.length := by rw [hcells] at l2; exact Int.ofNat_inj.1 l2
  have hR : reR w h F G H s = readL w F G H (LVs s) := if_pos hc
  have hlen : (readL w F G H (LVs s)).length = 2 * 2 ^ s.length := by rw [readL_len, LVs_len]
  have hpos : ∀ x ∈ F ++ G, 1 ≤ x := fun x hx => by
    have hne : F ++ G ≠ [] := fun e => by rw [e] at hx; simp at hx
    have := (lst_is hne).2 x hx
    omega
  -- one page that is read: its place and its page
  have one : ∀ (i : Nat) (x : Int), (readL w F G H (LVs s))[i]? = some x → ∃ (v : Lv), (LVs s)[i / 2]? = some v ∧ max x (-x) = pg w F G v (i % 2 == 1) ∧ (F ++ G)[Fm.pos w (2 ^ s.length) v (i % 2 == 1)]? = some (pg w F G v (i % 2 == 1)) ∧ 1 ≤ pg w F G v (i % 2 == 1) := fun i x hx => by
    have hi : i < 2 * 2 ^ s.length := by rw [← hlen]; exact (List.getElem?_eq_some_iff.1 hx).1
    have hv : (LVs s)[i / 2]? = some ((LVs s)[i / 2]'(by rw [LVs_len]; omega)) := List.getElem?_eq_getElem _
    generalize (LVs s)[i / 2]'(by rw [LVs_len]; omega) = v at hv
    have hx2 := readL_at w F G H (LVs s) i v hv
    rw [hx] at hx2
    have hx3 := Option.some.inj hx2
    have hfl := T.fl _ v hv
    have hp := pg_pos (lo := (i % 2 == 1)) hF hG hfl.1 hfl.2
    have hp1 := hpos _ (List.mem_of_getElem? hp)
    refine ⟨v, hv, ?_, hp, hp1⟩
    rw [hx3]
    unfold rd
    split <;> omega
  have fresh : ∀ (i j : Nat) (x y : Int), j < i → (readL w F G H (LVs s))[i]? = some x → (readL w F G H (LVs s))[j]? = some y → max x (-x) ≠ max y (-y) := fun i j x y hji hx hy e => by
    obtain ⟨u, hu, e1, p1, _⟩ := one i x hx
    obtain ⟨v, hv, e2, p2, _⟩ := one j y hy
    rw [e1, e2] at e
    rw [e] at p1
    have hnn : (F ++ G).Nodup := hnd
    have h3 := (List.getElem?_inj (List.getElem?_eq_some_iff.1 p1).1 hnn).1 (p1.trans p2.symm)
    obtain ⟨h4, h5⟩ := pos_inj T hu hv h3
    have h6 : i % 2 = j % 2 := by
      have a1 : i % 2 = 0 ∨ i % 2 = 1 := by omega
      have a2 : j % 2 = 0 ∨ j % 2 = 1 := by omega
      rcases a1 with a1 | a1 <;> rcases a2 with a2 | a2 <;> rw [a1, a2] at h5 ⊢ <;> first | rfl | (exact absurd h5 (by decide))
    omega
  rw [hR]
  refine ⟨by rw [hlen, List.length_append, hF, hG]; omega, fun i x hx => ?_, fun i x hx => ⟨fun hm => ?_, fun hm => ?_⟩, hpos⟩
  · obtain ⟨v, _, e, p, _⟩ := one i x hx
    rw [e]
    exact List.mem_of_getElem? p
  · obtain ⟨j, hj⟩ := List.mem_iff_getElem?.1 hm
    rw [List.getElem?_take] at hj
    split at hj
    · exact fresh i j x x (by assumption) hx hj rfl
    · cases hj
  · obtain ⟨j, hj⟩ := List.mem_iff_getElem?.1 hm
    rw [List.getElem?_take] at hj
    split at hj
    · exact fresh i j x (-x) (by assumption) hx hj (by omega)
    · cases hj
/-- A scheme that is told: the form is right for it. -/
theorem told {w h : Int} {F G H : List Int} {k : Nat} {s : List UInt8} (hs : (sfR w h F G H)[k]? = some s) : code w h F G H s = 0 ∧ riR w h F G H s = true ∧ s.length ≤ 6 := by
  have hm := List.mem_of_getElem? hs
  unfold sfR at hm
  by_cases hok : okB w h F G H = true
  · rw [if_pos hok, List.mem_filter] at hm
    obtain ⟨h1, h2⟩ := hm
    obtain ⟨j, hj⟩ := List.mem_iff_getElem?.1 h1
    have hsh : Fo.sheet w h = true := (okB_ok hok).1
    have hso : soC w h = 0 := by unfold soC; rw [if_pos hsh]
    obtain ⟨h3, h4⟩ := so_scheme hso hj
    have hc : code w h F G H s = 0 := by
      unfold code Fo.code
      rw [if_pos hok, if_pos hsh, if_pos h3]
    refine ⟨hc, ?_, h4⟩
    unfold riR
    rw [if_pos hc]
    exact h2
  · rw [if_neg hok] at hm
    simp at hm
end Fm
end Go.Proofs.Ytfiefjbipjalpaa

namespace Go.Proofs.Ytfiefjbipjalpaa
open Go.RowKit
set_option maxRecDepth 100000 in
set_option maxHeartbeats 1000000 in
theorem likeTexts_true (A A' : Option Addr) (n c c' B B' : Nat) (l : List (List UInt8)) (w : World) (h : Rd Tv w B A n l) (h' : Rd Tv w B' A' n l) (hn : n ≤ 1048576) :
    Calls Try.prog 25 #[.slice A n c, .slice A' n c'] w fun e w' => e = .returned (.bool true) ∧ Q w w' := by
  go_enter Try.func25, Try.ntmps25
  go_wp2
  go_loopw [5] (fun i wr => ∃ k : Nat, k ≤ n ∧ i = .int .i64 k ∧ Q w wr) (fun i _ => n - (intOf i).toNat)
  case atStart => exact ⟨0, Nat.zero_le _, rfl, Q.refl _⟩
  case round =>
    obtain ⟨k, hk, rfl, hq⟩ := hrel
    have h := h.q hq
    have h' := h'.q hq
    by_cases hlt : k < n
    · obtain ⟨b, o, x, rfl, hbB, hx, hc⟩ := h.at_ hlt
      obtain ⟨b', o', x', rfl, hbB', hx', hc'⟩ := h'.at_ hlt
      obtain rfl : x = x' := by rw [hx] at hx'; injection hx'
      obtain ⟨s, hs⟩ : ∃ s : ByteArray, s = ⟨x.toArray⟩ := ⟨_, rfl⟩
      replace hc : wr.cell? ⟨b, o + k, none⟩ = some (.string s) := by rw [hs]; exact hc
      replace hc' : wr.cell? ⟨b', o' + k, none⟩ = some (.string s) := by rw [hs]; exact hc'
      clear hx hx' hs
      go_wp2
      go_quiet (fail)
      go_wp2
      go_roundw
      case rel => exact ⟨k + 1, by omega, by go_num, hq.more _⟩
      case measure => simp [intOf]; omega
    · obtain rfl : k = n := by omega
      go_wp2
      go_ret
      exact ⟨rfl, hq⟩
end Go.Proofs.Ytfiefjbipjalpaa

namespace Go.Proofs.Ytfiefjbipjalpaa
open Go.RowKit

theorem big5l_any (A : Option Addr) (N C : Nat) (w : World) :
    Calls Try.prog 15 #[.slice A N C] w fun e w' => e = .returned (.bool (decide (4096 < N))) ∧ w = w' := by
  go_enter Try.func15, Try.ntmps15
  go_wp2
  go_ret
  exact ⟨ret_b (by simp; omega), rfl⟩
set_option maxHeartbeats 400000 in
theorem likeInts5_true (A A' : Option Addr) (n c c' B B' : Nat) (l : List Int) (w : World) (h : Rd I w B A n l) (h' : Rd I w B' A' n l) (hn : n ≤ 1048576) :
    Calls Try.prog 24 #[.slice A n c, .slice A' n c'] w fun e w' => e = .returned (.bool true) ∧ Q w w' := by
  go_enter Try.func24, Try.ntmps24
  go_wp2
  go_loopw [5] (fun i wr => ∃ k : Nat, k ≤ n ∧ i = .int .i64 k ∧ Q w wr) (fun i _ => n - (intOf i).toNat)
  case atStart => exact ⟨0, Nat.zero_le _, rfl, Q.refl _⟩
  case round =>
    obtain ⟨k, hk, rfl, hq⟩ := hrel
    have h := h.q hq
    have h' := h'.q hq
    by_cases hlt : k < n
    · obtain ⟨b, o, x, rfl, hbB, hx, hc⟩ := h.at_ hlt
      obtain ⟨b', o', x', rfl, hbB', hx', hc'⟩ := h'.at_ hlt
      obtain rfl : x = x' := by rw [hx] at hx'; injection hx'
      clear hx hx'
      go_wp2
      go_quiet (fail)
      go_wp2
      go_roundw
      case rel => exact ⟨k + 1, by omega, by go_num, hq.more _⟩
      case measure => simp [intOf]; omega
    · obtain rfl : k = n := by omega
      go_wp2
      go_ret
      exact ⟨rfl, hq⟩

set_option maxRecDepth 100000 in
set_option maxHeartbeats 8000000 in
theorem w_FnReadForms (A : Option Addr) (N C : Nat) (l : List Int) (w : World) (h : Rd U w w.heap.size A N l) (hl : inByte l) :
    Calls Try.prog 3 #[.slice A N C] w fun e w' => e = .returned (.bool true) ∧ Below w.heap.size w w' := by
  by_cases hN : N ≤ 4096
  · have HF : Hid (decide (4096 < N) = false) := decide_eq_false (by omega)
    go_enter Try.func3, Try.ntmps3
    go_wp2_with fail
    refine (big5l_any A N C _).mono ?_
    rintro e _ ⟨rfl, rfl⟩
    rw [HF.out]
    go_wp2_with fail
    refine (DrawRf_any N C w.heap.size A l w h hl (Nat.le_refl _) (by omega)).mono ?_
    rintro e w1 ⟨f, F, G, H, t, rfl, hn, hr, ht, hsf, hb1⟩
    have z1 := hb1.size
    obtain ⟨fa, fb, A1, n1, c1, A2, n2, c2, A3, n3, c3⟩ := f
    simp only at hn
    have HLE : Hid ((⟨fa, fb, A1, n1, c1, A2, n2, c2, A3, n3, c3⟩ : Fv).le 1048576) := Lib.hid ⟨show n1 ≤ _ by omega, show n2 ≤ _ by omega, show n3 ≤ _ by omega⟩
    have HNN : Hid (n1 ≤ 64 ∧ n2 ≤ 64) := Lib.hid (by omega)
    have HI1 := Lib.hid hr.1.i64
    have HI2 := Lib.hid hr.2.i64
    have HT : Hid (t.size ≤ 1048577) := Lib.hid (by omega)
    have bE := FBx.new w1 ⟨fa, fb, A1, n1, c1, A2, n2, c2, A3, n3, c3⟩
    have hB1 := hb1.alloc z1 (.cells (Fv.cs ⟨fa, fb, A1, n1, c1, A2, n2, c2, A3, n3, c3⟩) 26)
    have fS := hsf.alloc (.cells (Fv.cs ⟨fa, fb, A1, n1, c1, A2, n2, c2, A3, n3, c3⟩) 26)
    have hw := h.below hB1 (Nat.le_refl _)
    obtain ⟨j0, j1, j2, j3, j4⟩ := bE.lcell
    simp only at j0 j1 j2 j3 j4
    obtain ⟨cd, h_C⟩ : ∃ cd, Fm.code fa fb F G H t.data.toList = cd := ⟨_, rfl⟩
    obtain ⟨R, h_R⟩ : ∃ R, Fm.reR fa fb F G H t.data.toList = R := ⟨_, rfl⟩
    obtain ⟨rb, h_B⟩ : ∃ rb, Fm.riR fa fb F G H t.data.toList = rb := ⟨_, rfl⟩
    have HC := Lib.hid h_C
    have HR := Lib.hid h_R
    have HRB := Lib.hid h_B
    clear hn hr ht hsf hb1 h_C h_R h_B
    go_wp2_with fail
    generalize hV : w1.alloc (.cells (Fv.cs ⟨fa, fb, A1, n1, c1, A2, n2, c2, A3, n3, c3⟩) 26) = x1 at bE hB1 fS hw j0 j1 j2 j3 j4 ⊢
    have zx1 : x1.heap.size = w1.heap.size + 1 := by rw [← hV]; simp
    clear hV h
    refine (implRe_any ⟨fa, fb, A1, n1, c1, A2, n2, c2, A3, n3, c3⟩ fa fb rfl rfl w1.heap.size F G H t cd R HC.out HR.out x1 fS.rf (by omega) HLE.out HI1.out HI2.out HT.out).mono ?_
    rintro e w2 ⟨A5, n5, c5, rfl, o5, hn5, hb2⟩
    have z2 := hb2.size
    have hB2 := hB1.trans (hb2.mono (by omega))
    have bE_2 := bE.below hb2 (by omega)
    have fS_2 := fS.below hb2 (by omega)
    clear j0 j1 j2 j3 j4
    obtain ⟨j0, j1, j2, j3, j4⟩ := bE_2.lcell
    simp only at j0 j1 j2 j3 j4
    go_wp2_with fail
    refine (specRe_any ⟨fa, fb, A1, n1, c1, A2, n2, c2, A3, n3, c3⟩ fa fb rfl rfl w1.heap.size F G H t cd R HC.out HR.out w2 fS_2.rf (by omega) HLE.out HI1.out HI2.out HT.out).mono ?_
    rintro e w3 ⟨A6, n6, c6, rfl, o6, hn6, hb3⟩
    have z3 := hb3.size
    have hB3 := hB2.trans (hb3.mono (by omega))
    have bE_3 := bE_2.below hb3 (by omega)
    have fS_3 := fS_2.below hb3 (by omega)
    have o5_3 := o5.below hb3 (by omega)
    clear j0 j1 j2 j3 j4
    obtain ⟨j0, j1, j2, j3, j4⟩ := bE_3.lcell
    simp only at j0 j1 j2 j3 j4
    go_wp2_with fail
    refine (implRi_any ⟨fa, fb, A1, n1, c1, A2, n2, c2, A3, n3, c3⟩ fa fb rfl rfl w1.heap.size F G H t cd rb HC.out HRB.out w3 fS_3.rf (by omega) HLE.out HI1.out HI2.out HT.out).mono ?_
    rintro e w4 ⟨rfl, hb4⟩
    have z4 := hb4.size
    have hB4 := hB3.trans (hb4.mono (by omega))
    have bE_4 := bE_3.below hb4 (by omega)
    have fS_4 := fS_3.below hb4 (by omega)
    have o5_4 := o5_3.below hb4 (by omega)
    have o6_4 := o6.below hb4 (by omega)
    clear j0 j1 j2 j3 j4
    obtain ⟨j0, j1, j2, j3, j4⟩ := bE_4.lcell
    simp only at j0 j1 j2 j3 j4
    go_wp2_with fail
    refine (specRi_any ⟨fa, fb, A1, n1, c1, A2, n2, c2, A3, n3, c3⟩ fa fb rfl rfl w1.heap.size F G H t cd rb HC.out HRB.out w4 fS_4.rf (by omega) HLE.out HI1.out HI2.out HT.out).mono ?_
    rintro e w5 ⟨rfl, hb5⟩
    have z5 := hb5.size
    have hB5 := hB4.trans (hb5.mono (by omega))
    have bE_5 := bE_4.below hb5 (by omega)
    have fS_5 := fS_4.below hb5 (by omega)
    have o5_5 := o5_4.below hb5 (by omega)
    have o6_5 := o6_4.below hb5 (by omega)
    have hw5 := hw.below ((hb2.mono (by omega)).trans ((hb3.mono (by omega)).trans ((hb4.mono (by omega)).trans (hb5.mono (by omega)))) : Below w.heap.size x1 w5) (Nat.le_refl _)
    go_wp2_with fail
    refine (DrawSfor_any N C w.heap.size A l w5 hw5 hl (by omega) (by omega)).mono ?_
    rintro e w6 ⟨gf, F2, G2, H2, rfl, gl, gi, gsf, hb6⟩
    have z6 := hb6.size
    have hB6 := hB5.trans (hb6.mono (by omega))
    have bE_6 := bE_5.below hb6 (by omega)
    have fS_6 := fS_5.below hb6 (by omega)
    have o5_6 := o5_5.below hb6 (by omega)
    have o6_6 := o6_5.below hb6 (by omega)
    obtain ⟨ga, gb, D1, m1, d1, D2, m2, d2, D3, m3, d3⟩ := gf
    have HGL := Lib.hid gl
    have HG1 := Lib.hid gi.1
    have HG2 := Lib.hid gi.2
    have bG := FBx.new w6 ⟨ga, gb, D1, m1, d1, D2, m2, d2, D3, m3, d3⟩
    have hB6a := hB6.alloc (by omega) (.cells (Fv.cs ⟨ga, gb, D1, m1, d1, D2, m2, d2, D3, m3, d3⟩) 26)
    have gS := gsf.alloc (.cells (Fv.cs ⟨ga, gb, D1, m1, d1, D2, m2, d2, D3, m3, d3⟩) 26)
    have bE_6a := bE_6.alloc (.cells (Fv.cs ⟨ga, gb, D1, m1, d1, D2, m2, d2, D3, m3, d3⟩) 26)
    have fS_6a := fS_6.alloc (.cells (Fv.cs ⟨ga, gb, D1, m1, d1, D2, m2, d2, D3, m3, d3⟩) 26)
    have o5_6a := o5_6.alloc (.cells (Fv.cs ⟨ga, gb, D1, m1, d1, D2, m2, d2, D3, m3, d3⟩) 26)
    have o6_6a := o6_6.alloc (.cells (Fv.cs ⟨ga, gb, D1, m1, d1, D2, m2, d2, D3, m3, d3⟩) 26)
    obtain ⟨k0, k1, k2, k3, k4⟩ := bG.lcell
    simp only at k0 k1 k2 k3 k4
    obtain ⟨gc, h_C⟩ : ∃ gc, Fm.sfC ga gb F2 G2 H2 = gc := ⟨_, rfl⟩
    obtain ⟨T, h_T⟩ : ∃ T, Fm.sfR ga gb F2 G2 H2 = T := ⟨_, rfl⟩
    have HGC := Lib.hid h_C
    have HGT := Lib.hid h_T
    clear j0 j1 j2 j3 j4 h_C h_T gl gi gsf hb2 hb3 hb4 hb5 hb6 hw hw5
    clear bE bE_2 bE_3 bE_4 bE_5 bE_6 fS fS_2 fS_3 fS_4 fS_5 fS_6 o5 o5_3 o5_4 o5_5 o5_6 o6 o6_4 o6_5 o6_6
    clear hB1 hB2 hB3 hB4 hB5 hB6
    go_wp2_with fail
    generalize hV : w6.alloc (.cells (Fv.cs ⟨ga, gb, D1, m1, d1, D2, m2, d2, D3, m3, d3⟩) 26) = x6 at bG gS hB6a bE_6a fS_6a o5_6a o6_6a k0 k1 k2 k3 k4 ⊢
    have zx6 : x6.heap.size = w6.heap.size + 1 := by rw [← hV]; simp
    clear hV
    refine (implSf_v ⟨ga, gb, D1, m1, d1, D2, m2, d2, D3, m3, d3⟩ ga gb rfl rfl w6.heap.size F2 G2 H2 gc T HGC.out HGT.out x6 gS.rf (by omega) HGL.out HG1.out HG2.out).mono ?_
    rintro e w7 ⟨A7, n7, c7, rfl, o7, hn7, hb7⟩
    have z7 := hb7.size
    have hB7 := hB6a.trans (hb7.mono (by omega))
    have bE_7 := bE_6a.below hb7 (by omega)
    have fS_7 := fS_6a.below hb7 (by omega)
    have o5_7 := o5_6a.below hb7 (by omega)
    have o6_7 := o6_6a.below hb7 (by omega)
    have bG_7 := bG.below hb7 (by omega)
    have gS_7 := gS.below hb7 (by omega)
    clear k0 k1 k2 k3 k4
    obtain ⟨k0, k1, k2, k3, k4⟩ := bG_7.lcell
    simp only at k0 k1 k2 k3 k4
    go_wp2_with fail
    refine (specSf_v ⟨ga, gb, D1, m1, d1, D2, m2, d2, D3, m3, d3⟩ ga gb rfl rfl w6.heap.size F2 G2 H2 gc T HGC.out HGT.out w7 gS_7.rf (by omega) HGL.out HG1.out HG2.out).mono ?_
    rintro e w8 ⟨A8, n8, c8, rfl, o8, hn8, hb8⟩
    have z8 := hb8.size
    have hB8 := hB7.trans (hb8.mono (by omega))
    have bE_8 := bE_7.below hb8 (by omega)
    have fS_8 := fS_7.below hb8 (by omega)
    have o5_8 := o5_7.below hb8 (by omega)
    have o6_8 := o6_7.below hb8 (by omega)
    have bG_8 := bG_7.below hb8 (by omega)
    have gS_8 := gS_7.below hb8 (by omega)
    have o7_8 := o7.below hb8 (by omega)
    obtain rfl : n6 = n5 := o6_8.rd.1.symm.trans o5_8.rd.1
    obtain rfl : n8 = n7 := o8.rd.1.symm.trans o7_8.rd.1
    have hlk1 : ∀ V, Q w8 V → Calls Try.prog 24 #[.slice A5 n6 c5, .slice A6 n6 c6] V fun e w' => e = .returned (.bool true) ∧ Q V w' := fun V hq => likeInts5_true A5 A6 n6 c5 c6 _ _ R V (o5_8.q hq).rd (o6_8.q hq).rd (by omega)
    have hlk2 : ∀ V, Q w8 V → Calls Try.prog 25 #[.slice A7 n8 c7, .slice A8 n8 c8] V fun e w' => e = .returned (.bool true) ∧ Q V w' := fun V hq => likeTexts_true A7 A8 n8 c7 c8 _ _ T V (o7_8.q hq).rd (o8.q hq).rd (by omega)
    have HBE := Lib.hid bE_8
    have HFS := Lib.hid fS_8
    have HO5 := Lib.hid o5_8
    have HBG := Lib.hid bG_8
    have HGS := Lib.hid gS_8
    have HO7 := Lib.hid o7_8
    have HB8 := Lib.hid hB8
    clear k0 k1 k2 k3 k4 hb7 hb8 hB6a hB7 hB8 bE_6a bE_7 bE_8 fS_6a fS_7 fS_8 o5_6a o5_7 o5_8 o6_6a o6_7 o6_8 bG bG_7 bG_8 gS gS_7 gS_8 o7 o7_8 o8
    have hRI : ∀ (j : Nat) (x : List UInt8), T[j]? = some x → Fm.code ga gb F2 G2 H2 x = 0 ∧ Fm.riR ga gb F2 G2 H2 x = true ∧ x.length ≤ 6 := fun j x hx => Fm.told (by rw [HGT.out]; exact hx)
    have HRI := Lib.hid hRI
    clear hRI
    cases rb
    all_goals
      go_wp2_with (first
        | (go_at_call 24; refine (hlk1 _ (Q.refl _)).mono ?_; rintro e w9 ⟨rfl, hq9⟩)
        | (go_at_call 25; refine (hlk2 _ hq9).mono ?_; rintro e w10 ⟨rfl, hq10⟩))
      have hq11 := hq9.trans hq10
      have z10 := hq11.le
      have HBE := Lib.hid (HBE.out.q hq11)
      have HFS := Lib.hid (HFS.out.q hq11)
      have HO5 := Lib.hid (HO5.out.q hq11)
      have HBG := Lib.hid (HBG.out.q hq11)
      have HGS := Lib.hid (HGS.out.q hq11)
      have HO7 := Lib.hid (HO7.out.q hq11)
      have HB10 := Lib.hid (HB8.out.trans (hq11.below _))
      clear hlk1 hlk2 hq9 hq10 hq11
      go_loopw [18] (fun i wr => ∃ j : Nat, j ≤ n8 ∧ i = .int .i64 j ∧ Hid (Below w10.heap.size w10 wr)) (fun i _ => n8 - (intOf i).toNat)
      case atStart => exact ⟨0, Nat.zero_le _, rfl, Lib.hid (Below.refl _ _)⟩
      case round =>
        obtain ⟨j, hj, rfl, HBW⟩ := hrel
        have zr := HBW.out.size
        by_cases hlt : j < n8
        · obtain ⟨b, oo, x, rfl, hbB, hx, hcx⟩ := (HO7.out.below HBW.out (by omega)).rd.at_ hlt
          obtain ⟨tt, htt⟩ : ∃ tt : ByteArray, (⟨x.toArray⟩ : ByteArray) = tt := ⟨_, rfl⟩
          have htl : tt.data.toList = x := by rw [← htt]
          obtain ⟨r1, r2, r3⟩ := HRI.out j x hx
          have hts : tt.size ≤ 1048577 := by rw [← toList_len, htl]; omega
          have hcr : ∀ V, Below wr.heap.size wr V → Calls Try.prog 19 #[Fv.v ⟨ga, gb, D1, m1, d1, D2, m2, d2, D3, m3, d3⟩, .string tt] V fun e w' => e = .returned (.tuple #[.bool true, .int .i64 0]) ∧ Below V.heap.size V w' := fun V hV => implRi_any ⟨ga, gb, D1, m1, d1, D2, m2, d2, D3, m3, d3⟩ ga gb rfl rfl w6.heap.size F2 G2 H2 tt 0 true (by rw [htl]; exact r1) (by rw [htl]; exact r2) V ((HGS.out.below HBW.out (by omega)).rf.below hV (by omega)) (by have := hV.size; omega) HGL.out HG1.out HG2.out hts
          have hcx' : wr.cell? ⟨b, oo + j, none⟩ = some (.string tt) := by rw [← htt]; exact hcx
          obtain ⟨k0, k1, k2, k3, k4⟩ := (HBG.out.below HBW.out (by omega)).lcell
          simp only at k0 k1 k2 k3 k4
          have hc1 := hcr wr.drew ((Below.refl _ _).drew)
          clear hx hcx htl htt r1 r2 r3 hts hbB hcr
          go_wp2_with fail
          go_region_law ((go_simp; go_at_call 19; with_reducible refine hc1.mono ?_; rintro e w12 ⟨rfl, hb12⟩))
          all_goals
            have HB12 := Lib.hid (HBW.out.trans ((show Below wr.heap.size wr w12 from ⟨hb12.os, hb12.tape, hb12.output, hb12.size, hb12.block⟩).mono (by omega)))
            clear hb12
            go_wp2_with fail
            go_roundw
            case rel => exact ⟨j + 1, by omega, by go_num, HB12⟩
            case measure => simp [intOf]; omega
        · obtain rfl : j = n8 := by omega
          obtain ⟨v0, rfl⟩ : ∃ v0, v0 = wr := ⟨_, rfl⟩
          have h012 : cd = 0 ∨ cd = 1 ∨ cd = 2 := by
            rw [← HC.out]
            unfold Fm.code Fo.code
            split
            · split
              · split
                · exact .inl rfl
                · exact .inr (.inr rfl)
              · exact .inr (.inl rfl)
            · exact .inr (.inl rfl)
          have HB0 := Lib.hid (HB10.out.trans (HBW.out.mono (by omega)))
          rcases h012 with rfl | rfl | rfl
          rotate_left
          · go_wp2_with fail
            go_ret
            exact ⟨rfl, HB0.out⟩
          · go_wp2_with fail
            go_ret
            exact ⟨rfl, HB0.out⟩
          have hred := Fm.red_of HC.out
          rw [HR.out] at hred
          have HRED := Lib.hid hred
          obtain ⟨j0, j1, j2, j3, j4⟩ := (HBE.out.below HBW.out (by omega)).lcell
          simp only at j0 j1 j2 j3 j4
          have hfr := (HFS.out.below HBW.out (by omega)).rf
          have hR1 := hfr.r1
          have hR2 := hfr.r2
          simp only at hR1 hR2
          have l1 : n1 ≤ 64 := HNN.out.1
          have hn6' : n6 ≤ 1048576 := by omega
          have l2 : n2 ≤ 64 := HNN.out.2
          have hO5 := Lib.hid (HO5.out.below HBW.out (by omega))
          have hwz : w1.heap.size < v0.heap.size := by omega
          have hw1 : w1.heap.size ≤ v0.heap.size := by omega
          obtain ⟨i0, hi0, hz0, hz1, hz2⟩ := info_parts infoI
          have hl0 := Own.lit0 I v0 2
          clear hred hfr
          go_wp2_with fail
          go_region_law (first
            | ((refine step_spread ((v0.alloc (.cells #[] 2)).drew) rfl (.tmp 119) (.tmp 121) 24 rfl 2 i0 (.int .i64 0) 8 Try.underlying24 hi0 hz0 hz1 hz2 rfl (some ⟨v0.heap.size, 0, none⟩) 0 0 [] _ _ (by rfl) (hl0.drewN 1) A1 n1 c1 _ F (by rfl) ((hR1.alloc (by omega) _).drewN 1) oneI (by omega) (by omega) (by simp) ?_); intro A9 c9 v1 ho9 hm9; rw [Nat.zero_add] at ho9; have k3' : v1.cell? ⟨w1.heap.size, 3, none⟩ = some (.slice A2 n2 c2) := (World.cell?_of_block (a := ⟨w1.heap.size, 3, none⟩) (hm9.block w1.heap.size (by simp; omega) (.inl (by omega)))).trans ((World.cell?_alloc_lt v0 (.cells #[] 2) ⟨w1.heap.size, 3, none⟩ hwz).trans j3))
            | ((refine step_spread v1 rfl (.tmp 122) (.tmp 124) 24 rfl 2 i0 (.int .i64 0) 8 Try.underlying24 hi0 hz0 hz1 hz2 rfl A9 n1 c9 ([] ++ F) _ _ (by rfl) ho9 A2 n2 c2 _ G (by rfl) (((hR2.alloc (by omega) _).drewN 1).only hm9 (by omega) (by simp; omega)) oneI (by omega) (by omega) (by have := hm9.size; simp at this; omega) ?_); intro A10 c10 v2 ho10 hm10))
          all_goals
            have z9 := hm9.size
            have z10' := hm10.size
            simp at z9
            have hbl : Below v0.heap.size v0 v2 := (((below_alloc v0 (.cells #[] 2)).drew).trans (hm9.below (Nat.le_refl _) (by simp))).trans (hm10.below (Nat.le_refl _) (by omega))
            have HLS := Lib.hid (hO5.out.below hbl (by omega))
            have HALL := Lib.hid ho10
            have HB2 := Lib.hid (HB0.out.trans (hbl.mono (by omega)))
            have hn6 : n6 ≤ 1048576 := hn6'
            have hc5 : n6 ≤ c5 := by
              obtain ⟨_, cc, hv, hcc⟩ := HLS.out.form
              injection hv with _ _ hv
              have := HLS.out.rd.1
              omega
            clear j0 j1 j2 j3 j4 k3' hR1 hR2 hl0 ho9 hm9 ho10 hm10 hbl z9
            go_wp2_with fail
            go_loopw [22] (fun i wr => ∃ j : Nat, j ≤ n6 ∧ i = .int .i64 j ∧ Q v2 wr) (fun i _ => n6 - (intOf i).toNat)
            case atStart => exact ⟨0, Nat.zero_le _, rfl, Q.refl _⟩
            case round =>
              obtain ⟨i, hi, rfl, hq⟩ := hrel
              have hL := (HLS.out.q hq).rd
              have hA := (HALL.out.q hq).rd
              by_cases hlt2 : i < n6
              · obtain ⟨b, oo, x, rfl, hbB, hx, hcx⟩ := hL.at_ hlt2
                have hTk := hL.take (k := i) hi
                have hm := HRED.out.has i x hx
                have hf := HRED.out.fresh i x hx
                have hp := HRED.out.pos _ hm
                obtain ⟨m, hmm⟩ : ∃ m, max x (-x) = m := ⟨_, rfl⟩
                obtain ⟨y, hy⟩ : ∃ y, -x = y := ⟨_, rfl⟩
                rw [hmm] at hm
                rw [hy] at hf
                have hxb : -9223372036854775807 ≤ x ∧ x ≤ 9223372036854775807 := by
                  have h5 : m ∈ F ++ G := hm
                  have h6 : m ≤ 9223372036854775807 := by
                    rcases List.mem_append.1 h5 with h5 | h5
                    · exact (HI1.out m h5).2
                    · exact (HI2.out m h5).2
                  omega
                have ey : IntKind.i64.wrap (-x) = y := by rw [hy]; exact IntWalk.i64_in _ (by omega)
                have em : max x y = m := by rw [← hy]; exact hmm
                have em2 : (if x < y then y else x) = m := by rw [← em]; split <;> omega
                have H1 : ∀ k, Calls Try.prog 26 #[.slice A10 (n1 + n2) c10, .int .i64 m] (wr.drewN k) fun e w' => e = .returned (.bool true) ∧ wr.drewN k = w' := fun k => (hasInt_any A10 (n1 + n2) c10 _ m _ _ (hA.drewN k) (by omega)).mono fun _ _ ⟨he, hw⟩ => ⟨by rw [he, decide_eq_true (by simpa using hm)], hw⟩
                have H2 : ∀ k, Calls Try.prog 26 #[.slice (some ⟨b, oo, none⟩) i c5, .int .i64 x] (wr.drewN k) fun e w' => e = .returned (.bool false) ∧ wr.drewN k = w' := fun k => (hasInt_any (some ⟨b, oo, none⟩) i c5 _ x _ _ (hTk.drewN k) (by omega)).mono fun _ _ ⟨he, hw⟩ => ⟨by rw [he, decide_eq_false hf.1], hw⟩
                have H3 : ∀ k, Calls Try.prog 26 #[.slice (some ⟨b, oo, none⟩) i c5, .int .i64 y] (wr.drewN k) fun e w' => e = .returned (.bool false) ∧ wr.drewN k = w' := fun k => (hasInt_any (some ⟨b, oo, none⟩) i c5 _ y _ _ (hTk.drewN k) (by omega)).mono fun _ _ ⟨he, hw⟩ => ⟨by rw [he, decide_eq_false hf.2], hw⟩
                have ic1 : i ≤ c5 := by omega
                have ic2 : (i : Int) ≤ (c5 : Int) := by omega
                have ic3 : (i : Int) < (n6 : Int) := by omega
                have ic4 : (0 : Int) ≤ (i : Int) := by omega
                clear hx hm hf hp hmm hy hTk hL hA hxb
                go_wp2_with fail
                go_quiet (first | (go_at_call 26; with_reducible exact quiet_same (H1 _)) | (go_at_call 26; with_reducible exact quiet_same (H2 _)) | (go_at_call 26; with_reducible exact quiet_same (H3 _)))
                go_wp2_with fail
                go_roundw
                case rel => exact ⟨i + 1, by omega, by go_num, hq.more _⟩
                case measure => simp [intOf]; omega
              · obtain rfl : i = n6 := by omega
                have HLEN : Hid (i = n1 + n2) := Lib.hid (by
                  have h1 := HRED.out.len
                  have h2 := hL.1
                  have h3 := HALL.out.rd.1
                  rw [List.nil_append] at h3
                  omega)
                clear hL hA
                go_wp2_with fail
                go_ret
                exact ⟨ret_b (by have := HLEN.out; simp; omega), HB2.out.trans (hq.below _)⟩
  · have HF : Hid (decide (4096 < N) = true) := decide_eq_true (by omega)
    go_enter Try.func3, Try.ntmps3
    go_wp2_with fail
    refine (big5l_any A N C _).mono ?_
    rintro e _ ⟨rfl, rfl⟩
    rw [HF.out]
    go_wp2_with fail
    go_ret
    exact ⟨rfl, Below.refl _ _⟩
end Go.Proofs.Ytfiefjbipjalpaa

/- Contracts of the program's onLeaf and readAt. -/
import Derived.Test.YtfiefjbipjalpaaFmPl
namespace Go.Proofs.Ytfiefjbipjalpaa
open Go.RowKit

set_option maxRecDepth 100000 in
set_option maxHeartbeats 2000000 in
theorem onLeaf_any (a b : Int) (p1 o1 p2 o2 p3 o3 n c1 c2 c3 g : Nat) (v : Lv) (d : Bool) (hd : v.down = d) (i1 i2 : Nat) (hi1 : Fm.fc a v = i1) (hi2 : Fm.bc a v = i2) (w : World)
    (hg : FBx w g ⟨a, b, some ⟨p1, o1, none⟩, n, c1, some ⟨p2, o2, none⟩, n, c2, some ⟨p3, o3, none⟩, n, c3⟩) (hs : Fo.sheet a b = true) (hn : a * b = (n : Int)) (ho : Fm.On a b v) :
    Calls Try.prog 96 #[.pointer (some ⟨g, 0, none⟩), v.agg] w fun e w' =>
      e = .returned (.tuple #[.pointer (some (bif d then ⟨p2, o2 + i2, none⟩ else ⟨p1, o1 + i1, none⟩)), .pointer (some (bif d then ⟨p1, o1 + i1, none⟩ else ⟨p2, o2 + i2, none⟩)), .pointer (some ⟨p3, o3 + i1, none⟩)]) ∧ Below w.heap.size w w' := by
  obtain ⟨f1, f2, f3, f4⟩ := Fm.fc_at hs ho
  obtain ⟨b1, b2⟩ := Fm.bc_at hs ho
  rw [hi1] at f1 f2
  rw [hi2] at b1 b2
  obtain ⟨x0, x1, _, _⟩ := ho
  obtain ⟨W, H', eW, eH, W1, W8, _, _, _, _, N64⟩ := Fm.cells_of hs
  have a18 : 1 ≤ a ∧ a ≤ 8 := by omega
  rw [hn] at f2 b2 
  have n64 : n ≤ 64 := by
    have h1 := Fm.cells_pos hs
    obtain ⟨n', h2, _, h3⟩ := h1
    omega
  have l1 : (i1 : Int) < (n : Int) := f2
  have l2 : (i2 : Int) < (n : Int) := b2
  clear f2 b2
  obtain ⟨vx, vy, vfx, vfy⟩ := v
  simp only at f1 f3 f4 b1 x0 x1
  obtain ⟨R, hR⟩ : ∃ R, vy * a = R := ⟨_, rfl⟩
  obtain ⟨Z, hZ⟩ : ∃ Z, a - 1 - vx = Z := ⟨_, rfl⟩
  rw [hR] at f1 f3 f4 b1
  rw [hZ] at b1
  have wR : IntKind.i64.wrap R = R := IntWalk.i64_in _ (by omega)
  have wi1 : IntKind.i64.wrap (i1 : Int) = (i1 : Int) := IntWalk.i64_in _ (by omega)
  have wi2 : IntKind.i64.wrap (i2 : Int) = (i2 : Int) := IntWalk.i64_in _ (by omega)
  have HZ := Lib.hid hZ
  have hbx0 := hg.alloc (.cells #[.int .i64 vx, .int .i64 vy, .bool vfx, .bool vfy] 100)
  have hlb := Blk.new (w := w) (g := w.heap.size) #[.int .i64 vx, .int .i64 vy, .bool vfx, .bool vfy] 100 rfl
  have hB0 := below_alloc w (.cells #[.int .i64 vx, .int .i64 vy, .bool vfx, .bool vfy] 100)
  have hdn : ∀ W, Calls Try.prog 119 #[.agg #[.int .i64 vx, .int .i64 vy, .bool vfx, .bool vfy]] W fun e w' => e = .returned (.bool d) ∧ Below W.heap.size W w' := fun W => by
    have := implDown_any ⟨vx, vy, vfx, vfy⟩ W
    rw [hd] at this
    exact this
  clear hd hs hn hi1 hi2 hZ eW eH N64 hg
  go_enter Try.func96, Try.ntmps96
  go_wp2_with fail
  generalize hV : w.alloc (.cells #[.int .i64 vx, .int .i64 vy, .bool vfx, .bool vfy] 100) = W0 at hbx0 hlb hB0 ⊢
  have hz : w.heap.size < W0.heap.size := by rw [← hV]; simp
  clear hV
  have HBX := Lib.hid hbx0
  obtain ⟨k0, k1, k2, k3, k4⟩ := hbx0.fcell
  simp only at k0 k1 k2 k3 k4
  have q0 := hlb.cell 0 rfl
  have q1 := hlb.cell 1 rfl
  have q2 := hlb.cell 2 rfl
  have q3 := hlb.cell 3 rfl
  go_region
  go_wp2_with fail
  clear k0 k1 k2 k3 k4 q0 q1 q2 q3
  have hbx1 : FBx W0.drew g _ := hbx0
  have hlb1 : Blk W0.drew w.heap.size _ _ := hlb
  have hB1 := below_drewN' hB0 1
  generalize hV : W0.drew = W1 at hbx1 hlb1 ⊢
  have hB1 : Below w.heap.size w W1 := by rw [← hV]; exact below_drewN' hB0 1
  have hz1 : w.heap.size < W1.heap.size := by rw [← hV]; exact hz
  clear hV hB0 hz hbx0 hlb HBX
  have HBX := Lib.hid hbx1
  have HLB := Lib.hid hlb1
  obtain ⟨k0, k1, k2, k3, k4⟩ := hbx1.fcell
  simp only at k0 k1 k2 k3 k4
  have q0 := hlb1.cell 0 rfl
  have q1 := hlb1.cell 1 rfl
  have q2 := hlb1.cell 2 rfl
  have q3 := hlb1.cell 3 rfl
  have hoc : ∀ m, Calls Try.prog 118 #[.pointer (some ⟨g, 0, none⟩), .int .i64 vx] (W1.drewN m) fun e w' => e = .returned (.int .i64 Z) ∧ ∃ m', w' = W1.drewN m' := fun m => quiet_same (other_any _ g vx _ (HBX.out.q (Q.drewN W1 m)) a18 ⟨x0, x1⟩ Z HZ.out)
  go_quiet (first | (go_at_call 118; with_reducible exact hoc _))
  go_wp2_with fail
  go_region
  go_wp2_with fail
  refine (hdn _).mono ?_
  rintro e w5 ⟨rfl, hb5⟩
  have hb6 := (below_drewN' hB1 _).trans (hb5.mono (by simp; omega))
  have HB6 := Lib.hid hb6
  cases d
  · go_wp2_with fail
    exact bodyPost_ret (v := .tuple #[.pointer (some ⟨p1, o1 + i1, none⟩), .pointer (some ⟨p2, o2 + i2, none⟩), .pointer (some ⟨p3, o3 + i1, none⟩)]) (by simp [results, Try.results96, go_sem]) rfl ⟨rfl, HB6.out⟩
  · go_wp2_with fail
    exact bodyPost_ret (v := .tuple #[.pointer (some ⟨p2, o2 + i2, none⟩), .pointer (some ⟨p1, o1 + i1, none⟩), .pointer (some ⟨p3, o3 + i1, none⟩)]) (by simp [results, Try.results96, go_sem]) rfl ⟨rfl, HB6.out⟩

theorem getD_at {L : List Int} {k : Nat} {x : Int} (h : L[k]? = some x) : L.getD k 0 = x := by
  rw [List.getD_eq_getElem?_getD, h]
  rfl
theorem Fm.ok_small {a b : Int} {F G H : List Int} (h : Fm.ok a b F G H) {x : Int} (hx : x ∈ F ++ G) : 1 ≤ x ∧ x ≤ 1000000128 := by
  obtain ⟨hs, ⟨l1, l2, _⟩, _, r1, r2, r3, _⟩ := h
  obtain ⟨n, hn, n1, n2⟩ := Fm.cells_pos hs
  have hne : F ++ G ≠ [] := by
    rintro he
    rw [he] at hx
    simp at hx
  have h1 := (Fm.lst_is hne).2 x hx
  have h2 := r3 x hx
  rw [List.length_append] at h2
  push_cast at h2
  omega
set_option maxRecDepth 100000 in
set_option maxHeartbeats 2000000 in
theorem readAt_any (a b : Int) (A1 A2 A3 : Option Addr) (n1 n2 n3 c1 c2 c3 g B : Nat) (F G H : List Int) (s : ByteArray) (i : Nat) (v : Lv) (r : Int) (w : World)
    (hg : FBx w g ⟨a, b, A1, n1, c1, A2, n2, c2, A3, n3, c3⟩) (h : RF w B ⟨a, b, A1, n1, c1, A2, n2, c2, A3, n3, c3⟩ F G H) (hB : B ≤ w.heap.size) (hok : Fm.ok a b F G H) (hsc : Fo.scheme a b s.data.toList = true)
    (hi : i < 2 * 2 ^ s.size) (hv : (LVs s.data.toList)[i / 2]? = some v) (hr : Fm.rd a F G H v (i % 2 == 1) = r) :
    Calls Try.prog 59 #[.pointer (some ⟨g, 0, none⟩), .string s, .int .i64 (i : Int)] w fun e w' => e = .returned (.int .i64 r) ∧ Below w.heap.size w w' := by
  obtain ⟨h6, _⟩ := Fo.scheme_len hsc
  rw [toList_len] at h6
  have hs := Fm.scheme_sheet hsc
  have hon := Fm.LVs_on hsc hv
  obtain ⟨e1, e2, e3⟩ := h.len
  simp only at e1 e2 e3
  obtain ⟨l1, l2, l3⟩ := hok.2.1
  obtain ⟨N, hN, N1, N64⟩ := Fm.cells_pos hs
  rw [hN] at l1 l2 l3
  obtain rfl : n1 = N := by omega
  obtain rfl : n2 = n1 := by omega
  obtain rfl : n3 = n2 := by omega
  have hf := Fm.fc_at hs hon
  have hb := Fm.bc_at hs hon
  rw [hN] at hf hb
  obtain ⟨i1, hi1⟩ : ∃ i, Fm.fc a v = i := ⟨_, rfl⟩
  obtain ⟨i2, hi2⟩ : ∃ i, Fm.bc a v = i := ⟨_, rfl⟩
  have lt1 : i1 < n3 := by rw [← hi1]; omega
  have lt2 : i2 < n3 := by rw [← hi2]; omega
  obtain ⟨r1, r2, r3⟩ := h
  simp only at r1 r2 r3
  obtain ⟨p1, o1, x1, rfl, pb1, hx1, hc1⟩ := r1.at_ lt1
  obtain ⟨p2, o2, x2, rfl, pb2, hx2, hc2⟩ := r2.at_ lt2
  obtain ⟨p3, o3, x3, rfl, pb3, hx3, hc3⟩ := r3.at_ lt1
  have sm1 := Fm.ok_small hok (List.mem_append_left G (List.mem_of_getElem? hx1))
  have sm2 := Fm.ok_small hok (List.mem_append_right F (List.mem_of_getElem? hx2))
  obtain ⟨d, hd⟩ : ∃ d, v.down = d := ⟨_, rfl⟩
  obtain ⟨fl, hfl⟩ : ∃ fl, (v.fy != (x3 == 1)) = fl := ⟨_, rfl⟩
  have hfl' := hfl
  have HR : Hid (∀ lo : Bool, (i % 2 == 1) = lo → r = if fl = true then -(bif (d != lo) then x2 else x1) else (bif (d != lo) then x2 else x1)) := Lib.hid fun lo hlo => by
    rw [← hr, hlo]
    unfold Fm.rd Fm.pg
    rw [hi1, hi2, getD_at hx1, getD_at hx2, getD_at hx3, hfl, hd]
    cases d <;> cases lo <;> rfl
  obtain ⟨k, hk⟩ : ∃ k, i / 2 = k := ⟨_, rfl⟩
  have hkb : k < 2 ^ s.size := by omega
  have hp64 := pow_le6' h6
  have q1 : (i : Int).tdiv 2 = (k : Int) := by rw [Int.tdiv_eq_ediv_of_nonneg (by omega)]; omega
  have q1' : (i : Int) / 2 = (k : Int) := by omega
  have q2 : IntKind.i64.wrap (k : Int) = (k : Int) := IntWalk.i64_in _ (by omega)
  obtain ⟨m, hm⟩ : ∃ m : Int, (i : Int) % 2 = m := ⟨_, rfl⟩
  have q3 : (i : Int).tmod 2 = m := by rw [Int.tmod_eq_emod_of_nonneg (by omega)]; exact hm
  have hm01 : m = 0 ∨ m = 1 := by omega
  have q4 : IntKind.i64.wrap m = m := IntWalk.i64_in _ (by omega)
  have HM := Lib.hid hm
  have hlf := leafAt_any s k w h6 hkb
  rw [hk, LVs_get _ _ (by rw [toList_len]; exact hkb)] at hv
  have hv' := Option.some.inj hv
  rw [hv'] at hlf
  have HON := Lib.hid hon
  have HS := Lib.hid hs
  have HN := Lib.hid hN
  have HD := Lib.hid hd
  have HI1 := Lib.hid hi1
  have HI2 := Lib.hid hi2
  have HG := Lib.hid hg
  clear hok hsc hi hv hr hon e1 e2 e3 l1 l2 l3 hf hb hx1 hx2 hx3 hk hv' hs hN hd hi1 hi2 hg r1 r2 r3 hfl
  go_enter Try.func59, Try.ntmps59
  go_wp2_with fail
  refine hlf.mono ?_
  rintro e w1 ⟨rfl, hb1⟩
  have z1 := hb1.size
  obtain ⟨vx, vy, vfx, vfy⟩ := v
  simp only at hfl'
  obtain ⟨hd1, hhd⟩ : ∃ hd1, (x3 == 1) = hd1 := ⟨_, rfl⟩
  rw [hhd] at hfl'
  have glt := HG.out.lt
  have bx1 := (HG.out.below hb1 glt).alloc (.cells #[.int .i64 vx, .int .i64 vy, .bool vfx, .bool vfy] 100)
  have lb1 := Blk.new (w := w1) (g := w1.heap.size) #[.int .i64 vx, .int .i64 vy, .bool vfx, .bool vfy] 100 rfl
  have hB1 := hb1.alloc z1 (.cells #[.int .i64 vx, .int .i64 vy, .bool vfx, .bool vfy] 100)
  go_wp2_with fail
  generalize hV : w1.alloc (.cells #[.int .i64 vx, .int .i64 vy, .bool vfx, .bool vfy] 100) = v1 at bx1 lb1 hB1 ⊢
  have zv : v1.heap.size = w1.heap.size + 1 := by rw [← hV]; simp
  clear hV hb1 hlf
  refine (onLeaf_any a b p1 o1 p2 o2 p3 o3 n3 c1 c2 c3 g ⟨vx, vy, vfx, vfy⟩ d HD.out i1 i2 HI1.out HI2.out _ bx1 HS.out HN.out HON.out).mono ?_
  rintro e w2 ⟨rfl, hb2⟩
  have hB2 := hB1.trans (hb2.mono (by omega))
  have HB2 := Lib.hid hB2
  have lb2 := lb1.below hb2 (by omega)
  have y3 := lb2.cell 3 (v := .bool vfy) rfl
  have d1 := (hB2.cell (p := ⟨p1, o1 + i1, none⟩) (by show p1 < _; omega)).trans hc1
  have d2 := (hB2.cell (p := ⟨p2, o2 + i2, none⟩) (by show p2 < _; omega)).trans hc2
  have d3 := (hB2.cell (p := ⟨p3, o3 + i1, none⟩) (by show p3 < _; omega)).trans hc3
  have t1 : IntKind.i64.wrap (-x1) = -x1 := IntWalk.i64_in _ (by omega)
  have t2 : IntKind.i64.wrap (-x2) = -x2 := IntWalk.i64_in _ (by omega)
  clear hb2 hB2 hB1 lb1 lb2 bx1 hc1 hc2 hc3
  have HFL := Lib.hid hfl'
  clear hfl'
  rcases hm01 with rfl | rfl
  · have HO : Hid ((i % 2 == 1) = false) := Lib.hid (by have := HM.out; simp; omega)
    have HRR := Lib.hid (HR.out _ HO.out)
    cases d <;> cases vfy <;> cases hd1
    all_goals
      go_wp2_with fail
      go_region
      go_wp2_with fail
      go_ret
      exact ⟨ret_i (by rw [HRR.out, ← HFL.out]; rfl), below_drewN' HB2.out _⟩
  · have HO : Hid ((i % 2 == 1) = true) := Lib.hid (by have := HM.out; simp; omega)
    have HRR := Lib.hid (HR.out _ HO.out)
    cases d <;> cases vfy <;> cases hd1
    all_goals
      go_wp2_with fail
      go_region
      go_wp2_with fail
      go_ret
      exact ⟨ret_i (by rw [HRR.out, ← HFL.out]; rfl), below_drewN' HB2.out _⟩
end Go.Proofs.Ytfiefjbipjalpaa

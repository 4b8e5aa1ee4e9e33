/- Contracts of ChapterOf: the words, and the model's l02Chapter. -/
import Derived.Test.YtoanopgafihjiaaCheck
import Derived.Test.YtoanopgafihjiaaChap
namespace Go.Proofs.Ytoanopgafihjiaa
open Go.RowKit Pg

def coR (r : Bool) (f : Int) (l : List Int) (p : Int) : Int := if cpC r f l p = 0 then (if chap r (f + 1) l p 0 < 0 then 0 else chap r (f + 1) l p 0) else 0
def coC (r : Bool) (f : Int) (l : List Int) (p : Int) : Int := if cpC r f l p = 0 then (if chap r (f + 1) l p 0 < 0 then 4 else 0) else cpC r f l p

set_option maxRecDepth 100000 in
set_option maxHeartbeats 2000000 in
theorem l02Chapter_any (f : Int) (A : Option Addr) (n c B : Nat) (r : Bool) (l : List Int) (p : Int) (w : World) (h : Rd I w B A n l) (hB : B ≤ w.heap.size) (hmi : mild f l) :
    Calls Try.prog 38 #[BK f A n c r, .int .i64 p] w fun e w' => e = .returned (.int .i64 (chap r (f + 1) l p 0)) ∧ Below w.heap.size w w' := by
  have HL : Hid (l.length = n) := h.1
  have HM := Lib.hid hmi
  have hn : n ≤ 1000 := by have h1 := HL.out; have := hmi.2.2.1; omega
  have bA := Blk.new (w := w) (g := w.heap.size) (BC f A n c r) 26 rfl
  clear hmi
  go_enter Try.func38, Try.ntmps38
  go_wp2_with fail
  refine (l02Starts_any _ _ _ _ _ _ _ _ (h.alloc hB _) (by simp; omega) HM.out).mono ?_
  rintro e w1 ⟨A1, n1, c1, rfl, hn1, ho1, hb1⟩
  obtain rfl : n1 = n := hn1.trans HL.out
  have bA1 := bA.below hb1 (by simp)
  have hz1 := hb1.size
  simp only [World.size_alloc] at hz1
  have hB1 : Below w.heap.size w w1 := ((Below.refl w.heap.size w).alloc (Nat.le_refl _) _).trans (hb1.mono (by simp))
  have h1 := h.below hB1 hB
  clear bA hn1
  go_wp2_with fail
  go_loopw [7] (fun i wr => ∃ k : Nat, k ≤ n1 ∧ i = .int .i64 k ∧ Q w1 wr ∧ Hid (chap r (f + 1) l p 0 = chap r (stop r (f + 1) (l.take k)) (l.drop k) p (0 + k))) (fun i _ => n1 - (intOf i).toNat)
  case atStart => exact ⟨0, Nat.zero_le _, rfl, Q.refl _, show _ = _ by simp [stop]⟩
  case round =>
    obtain ⟨k, hk, rfl, hq, hch⟩ := hrel
    by_cases hlt : k < n1
    · obtain ⟨b, o, x, rfl, hbB, hx, hc⟩ := (h1.q hq).at_ hlt
      obtain ⟨g2, y, rfl, _, _, _, hy, hcy, _⟩ := (ho1.q hq).at_ hlt
      have bA2 := bA1.q hq
      have d1 := bA2.cell 1 (v := .slice (some ⟨b, o, none⟩) n1 c) rfl
      have hyv : up r (stop r (f + 1) (l.take k)) = y := by
        rw [starts_at r (f + 1) l k (by rw [HL.out]; exact hlt)] at hy
        injection hy
      have hxb := HM.out.2.2.2 x (List.mem_of_getElem? hx)
      have hmb := mild_take HM.out r k
      have hub := up_ge r (stop r (f + 1) (l.take k))
      have hyb : 0 ≤ y ∧ y ≤ 1002002 := by omega
      have HCH := Lib.hid (chap_at r (f + 1) l p 0 k x hx hch.out)
      rw [hyv] at HCH
      obtain ⟨x0, x1⟩ := hxb
      obtain ⟨y0, y1⟩ := hyb
      have e1 : IntKind.i64.wrap (y + x) = y + x := IntWalk.i64_in _ (by omega)
      have e2 : IntKind.i64.wrap (y + x - 1) = y + x - 1 := IntWalk.i64_in _ (by omega)
      have hk0 : (0 : Int) ≤ (k : Int) := by omega
      have hk1 : (k : Int) < (n1 : Int) := by omega
      clear hyv hx hy hmb hub
      by_cases hin : y ≤ p ∧ p ≤ y + x - 1
      · have HV : Hid (chap r (f + 1) l p 0 = 0 + (k : Int)) := HCH.out.trans (if_pos hin)
        have HD := Lib.hid (decide_eq_true hin)
        clear hin
        go_wp2_with fail
        go_quiet ((go_at_call 43; exact quiet_same (l01In_is _ _ _ _ _ HD.out)))
        go_wp2_with fail
        go_ret
        exact ⟨ret_i (by rw [HV.out]; omega), (hB1.trans (hq.below _)).trans (below_drewN' (Below.refl _ _) _)⟩
      · have HV : Hid (chap r (f + 1) l p 0 = chap r (stop r (f + 1) (l.take (k + 1))) (l.drop (k + 1)) p (0 + (k + 1 : Nat))) := HCH.out.trans (if_neg hin)
        have HD := Lib.hid (decide_eq_false hin)
        clear hin
        go_wp2_with fail
        go_quiet ((go_at_call 43; exact quiet_same (l01In_is _ _ _ _ _ HD.out)))
        go_wp2_with fail
        go_roundw
        case rel => exact ⟨k + 1, by omega, by go_num, hq.more _, HV⟩
        case measure => simp [intOf]; omega
    · obtain rfl : k = n1 := by omega
      have HV : Hid (chap r (f + 1) l p 0 = -1) := by
        show _ = _
        rw [hch.out, List.drop_of_length_le (Nat.le_of_eq HL.out)]
        rfl
      go_wp2_with fail
      go_ret
      exact ⟨ret_i HV.out.symm, hB1.trans (hq.below _)⟩
end Go.Proofs.Ytoanopgafihjiaa

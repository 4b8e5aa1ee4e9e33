/- Contracts of the decimal texts and of LengthText, the model's and the program's. -/
import Derived.Test.YtamnhbambklmkaaDoorWords
import Derived.Test.YtamnhbambklmkaaDoorShelf
import Derived.Test.YtamnhbambklmkaaDoorLen
import Derived.KernelRfl
import Derived.WalkSpells
import Derived.Deep.RegionLaw
import Derived.Deep.DrawnRows
namespace Go.Proofs.YtamnhbambklmkaaDoor
open Go.RowKit

/-- The decimal numeral of n, as a string. -/
def dec (n : Nat) : ByteArray := ⟨(Lib.decDigits n).toArray⟩
theorem dec_size (f n : Nat) (h : n < 10 ^ f) (hf : 1 ≤ f) : (dec n).size ≤ f := by
  induction f generalizing n with
  | zero => omega
  | succ f ih =>
    unfold dec
    rw [Lib.decDigits]
    split
    · simp [ByteArray.size]
    · rename_i hn
      have hf1 : 1 ≤ f := by
        rcases Nat.eq_zero_or_pos f with h0 | h0
        · subst h0; simp at h; omega
        · exact h0
      have := ih (n / 10) (by rw [Nat.pow_succ] at h; omega) hf1
      simp [dec, ByteArray.size] at this ⊢
      exact this
theorem dec_small (n : Nat) (h : n < 10) : dec n = ⟨#[UInt8.ofNat (48 + n)]⟩ := by
  unfold dec
  rw [Lib.decDigits, dif_pos h]
theorem dec_big (n : Nat) (h : 10 ≤ n) : dec n = dec (n / 10) ++ ⟨#[UInt8.ofNat (48 + n % 10)]⟩ := by
  unfold dec
  rw [Lib.decDigits, dif_neg (by omega)]
  rfl

theorem run_str1 (W : World) (a : Addr) (c : Nat) (d : Nat) (hd : d < 256) (hc : W.cell? a = some (.int .u8 (d : Int))) :
    (convert 22 9 (.slice (some a) 1 c)).run Tryd.prog W = .ok (.string ⟨#[UInt8.ofNat d]⟩) W := by
  refine run_convert_bytes_back W _ _ _ a c [UInt8.ofNat d] Tryd.underlying22 Tryd.underlying5 Tryd.underlying9 fun j hj => ?_
  match j, hj with
  | 0, _ =>
    have e : ((UInt8.ofNat d).toNat : Int) = d := by simp [UInt8.toNat_ofNat']; omega
    simp only [List.getElem_cons_zero, e]
    rw [show a.add 0 = a from by unfold Addr.add; rfl]
    exact hc

set_option maxHeartbeats 2000000 in
theorem l01Dec_any (f : Nat) : ∀ (n : Nat) (w : World), n < 10 ^ f → f ≤ 18 → 1 ≤ f →
    Calls Tryd.prog 24 #[.int .i64 n] w fun e w' => e = .returned (.string (dec n)) ∧ Below w.heap.size w w' := by
  induction f with
  | zero => intro n w _ _ h; omega
  | succ f ih =>
    intro n w h1 hf _
    have hp : n ≤ 1000000000000000000 := by
      have : 10 ^ (f + 1) ≤ 10 ^ 18 := Nat.pow_le_pow_right (by omega) hf
      omega
    by_cases hn : n < 10
    · have HD := Lib.hid (dec_small n hn)
      obtain ⟨b, hb⟩ : ∃ b : ByteArray, b = ⟨#[UInt8.ofNat (48 + n)]⟩ := ⟨_, rfl⟩
      have hcv : ∀ W : World, (convert 22 9 (.slice (some ⟨W.heap.size, 0, none⟩) 1 1)).run Tryd.prog (W.alloc (.cells #[.int .u8 (48 + (n : Int))] 5)) = .ok (.string b) (W.alloc (.cells #[.int .u8 (48 + (n : Int))] 5)) := fun W => by
        rw [hb]
        exact run_str1 _ _ _ (48 + n) (by omega) (by simp [World.cell?_alloc_new])
      have HB := Lib.hid hb
      clear hb
      clear ih h1
      go_enter Tryd.func24, Tryd.ntmps24
      go_wp2_with fail
      go_ret
      exact ⟨by rw [HD.out, ← HB.out]; rfl, (Below.refl _ _).alloc (Nat.le_refl _) _⟩
    · have hn' : 10 ≤ n := by omega
      have HD := Lib.hid (dec_big n hn')
      have hf1 : 1 ≤ f := by
        rcases Nat.eq_zero_or_pos f with h0 | h0
        · subst h0; simp at h1; omega
        · exact h0
      obtain ⟨m, hm⟩ : ∃ m, m = n / 10 := ⟨_, rfl⟩
      obtain ⟨d, hd⟩ : ∃ d, d = n % 10 := ⟨_, rfl⟩
      rw [← hm, ← hd] at HD
      have h10 : m < 10 ^ f := by rw [Nat.pow_succ] at h1; omega
      have hd10 : d < 10 := by omega
      have hsz := dec_size f m h10 hf1
      have IH := Lib.hid (fun W => ih m W h10 (by omega) hf1)
      obtain ⟨s, hs⟩ : ∃ s, s = dec m := ⟨_, rfl⟩
      obtain ⟨b, hb⟩ : ∃ b : ByteArray, b = ⟨#[UInt8.ofNat (48 + d)]⟩ := ⟨_, rfl⟩
      rw [← hs] at hsz IH HD
      rw [← hb] at HD
      have hb1 : b.size = 1 := by rw [hb]; rfl
      have hsum : ¬ s.size + b.size > 9223372036854775807 := by omega
      have hcv : ∀ W : World, (convert 22 9 (.slice (some ⟨W.heap.size, 0, none⟩) 1 1)).run Tryd.prog (W.alloc (.cells #[.int .u8 (48 + (d : Int))] 5)) = .ok (.string b) (W.alloc (.cells #[.int .u8 (48 + (d : Int))] 5)) := fun W => by
        rw [hb]
        exact run_str1 _ _ _ (48 + d) (by omega) (by simp [World.cell?_alloc_new])
      have hcvd : ∀ W : World, (convert 22 9 (.slice (some ⟨W.heap.size, 0, none⟩) 1 1)).run Tryd.prog (W.alloc (.cells #[.int .u8 (48 + (d : Int))] 5)).drew = .ok (.string b) (W.alloc (.cells #[.int .u8 (48 + (d : Int))] 5)).drew := fun W => by
        rw [hb]
        exact run_str1 _ _ _ (48 + d) (by omega) (show (W.alloc _).cell? _ = _ by simp [World.cell?_alloc_new])
      have hcv1 : Hid (∀ (W W1 : World) (g : Nat), g = W.heap.size → Below (W.heap.size + 1) (W.alloc (.cells #[.int .u8 (48 + (d : Int))] 5)) W1 → (convert 22 9 (.slice (some ⟨g, 0, none⟩) 1 1)).run Tryd.prog W1 = .ok (.string b) W1) := fun W W1 g hg h => by
        subst hg
        rw [hb]
        exact run_str1 _ _ _ (48 + d) (by omega) (by rw [h.cell (p := ⟨W.heap.size, 0, none⟩) (by simp)]; simp [World.cell?_alloc_new])
      have e1 : IntKind.i64.wrap ((n : Int) / 10) = (m : Int) := by rw [show (n : Int) / 10 = (m : Int) from by omega]; exact IntWalk.i64_in _ (by omega)
      have e2 : (n : Int).tmod 10 = (d : Int) := by rw [Int.tmod_eq_emod_of_nonneg (by omega)]; omega
      have e3 : IntKind.i64.wrap (48 + (d : Int)) = 48 + (d : Int) := IntWalk.i64_in _ (by omega)
      have e4 : IntKind.u8.wrap (48 + (d : Int)) = 48 + (d : Int) := by
        show (48 + (d : Int)) % 256 = _
        omega
      clear ih h1 hs hb hm hd hb1 h10 hp
      go_enter Tryd.func24, Tryd.ntmps24
      go_wp2_with fail
      go_region_law ((go_simp; go_at_call 24; refine (IH.out _).mono ?_; rintro e w1 ⟨rfl, hb1⟩; (try (have hcv2 := hcv1.out w.drew w1 w.heap.size rfl (hb1.mono (by simp))))))
      all_goals
        go_wp2_with fail
        go_ret
        refine ⟨by rw [HD.out]; rfl, ?_⟩
        first
          | exact ((Below.refl w.heap.size w).drew.trans hb1).alloc hb1.size _
          | exact ((Below.refl w.heap.size w).drew.alloc (Nat.le_refl _) _).trans (hb1.mono (by simp))

theorem l01In_yes (x lo hi : Int) (w : World) (h : lo ≤ x) (h' : x ≤ hi) :
    Calls Tryd.prog 23 #[.int .i64 x, .int .i64 lo, .int .i64 hi] w fun e w' => e = .returned (.bool true) ∧ w = w' := by
  go_enter Tryd.func23, Tryd.ntmps23
  go_wp2
  go_ret
  exact ⟨rfl, rfl⟩
theorem l01In_no (x lo hi : Int) (w : World) (h : x < lo ∨ hi < x) :
    Calls Tryd.prog 23 #[.int .i64 x, .int .i64 lo, .int .i64 hi] w fun e w' => e = .returned (.bool false) ∧ w = w' := by
  by_cases h1 : x < lo
  · clear h
    go_enter Tryd.func23, Tryd.ntmps23
    go_wp2
    go_ret
    exact ⟨rfl, rfl⟩
  · have h2 : hi < x := by omega
    have h3 : lo ≤ x := by omega
    clear h
    go_enter Tryd.func23, Tryd.ntmps23
    go_wp2
    go_ret
    exact ⟨ret_b (by simp; omega), rfl⟩

def lenText (n : Int) : ByteArray := if 0 ≤ n ∧ n ≤ 1000000000 then dec (n / 10).toNat ++ ⟨#[46]⟩ ++ dec (n % 10).toNat else ⟨#[]⟩

theorem l01Dec_int (x : Int) (w : World) (h0 : 0 ≤ x) (h1 : x ≤ 1000000000) :
    Calls Tryd.prog 24 #[.int .i64 x] w fun e w' => e = .returned (.string (dec x.toNat)) ∧ Below w.heap.size w w' := by
  obtain ⟨n, rfl⟩ := Int.eq_ofNat_of_zero_le h0
  exact l01Dec_any 18 n w (by omega) (by omega) (by omega)
theorem fmt_int (x : Int) (w : World) (h0 : 0 ≤ x) (h1 : x ≤ 1000000000) (htab : Lib.TabIs Tryd.prog w "internal/strconv.uint64pow10" .u64 Lib.pow10Tab) :
    Calls Tryd.prog 17 #[.int .i64 x, .int .i64 10] w fun e w' => e = .returned (.string (dec x.toNat)) ∧ Below w.heap.size w w' := by
  refine (Tryd.strconv_FormatInt_10 x (by omega) (by omega) w htab).mono fun e w' h => ?_
  obtain ⟨he, k, os, hw⟩ := h
  subst hw
  refine ⟨by rw [he]; unfold Lib.itoa; rw [if_neg (by omega)]; rfl, rfl, rfl, rfl, by simp [Go.Sort.grow], fun i hi => ?_⟩
  show (w.heap ++ os)[i]? = _
  rw [Array.getElem?_append_left hi]

set_option maxHeartbeats 1000000 in
theorem specLen_any (n : Int) (w : World) (hb : -9223372036854775808 ≤ n ∧ n ≤ 9223372036854775807) :
    Calls Tryd.prog 12 #[.int .i64 n] w fun e w' => e = .returned (.string (lenText n)) ∧ Below w.heap.size w w' := by
  by_cases ho : 0 ≤ n ∧ n ≤ 1000000000
  · obtain ⟨h0, h1⟩ := ho
    have HT : Hid (lenText n = dec (n / 10).toNat ++ ⟨#[46]⟩ ++ dec (n % 10).toNat) := by unfold lenText; rw [if_pos ⟨h0, h1⟩]; exact rfl
    have z1 := dec_size 18 (n / 10).toNat (by omega) (by omega)
    have z2 := dec_size 18 (n % 10).toNat (by omega) (by omega)
    obtain ⟨s1, hs1⟩ : ∃ s, s = dec (n / 10).toNat := ⟨_, rfl⟩
    obtain ⟨s2, hs2⟩ : ∃ s, s = dec (n % 10).toNat := ⟨_, rfl⟩
    rw [← hs1] at z1 HT
    rw [← hs2] at z2 HT
    have HS1 := Lib.hid hs1
    have HS2 := Lib.hid hs2
    clear hs1 hs2
    go_enter Tryd.func12, Tryd.ntmps12
    go_wp2_with fail
    refine (l01In_yes _ _ _ _ h0 h1).mono ?_
    rintro e _ ⟨rfl, rfl⟩
    go_wp2_with fail
    refine (l01Dec_int _ _ (by omega) (by omega)).mono ?_
    rintro e w1 ⟨rfl, hb1⟩
    rw [← HS1.out]
    go_wp2_with fail
    refine (l01Dec_int _ _ (by omega) (by omega)).mono ?_
    rintro e w2 ⟨rfl, hb2⟩
    rw [← HS2.out]
    go_wp2_with fail
    go_ret
    exact ⟨by rw [HT.out]; rfl, hb1.trans (hb2.mono hb1.size)⟩
  · have HT : Hid (lenText n = ⟨#[]⟩) := by unfold lenText; rw [if_neg ho]; exact rfl
    have H1 : Hid (n < 0 ∨ 1000000000 < n) := show n < 0 ∨ 1000000000 < n by omega
    clear ho
    go_enter Tryd.func12, Tryd.ntmps12
    go_wp2_with fail
    refine (l01In_no _ _ _ _ H1.out).mono ?_
    rintro e _ ⟨rfl, rfl⟩
    go_wp2_with fail
    go_ret
    exact ⟨by rw [HT.out]; rfl, Below.refl _ _⟩

theorem tabIs_below {w w' : World} {nm : String} {k : IntKind} {zs : List Int} {B g : Nat} (h : Lib.TabIs Tryd.prog w nm k zs) (hb : Below B w w') (hg : Tryd.prog.globalNamed nm = some g) (hB : g < B) : Lib.TabIs Tryd.prog w' nm k zs := by
  unfold Lib.TabIs World.var? at h ⊢
  simp only [hg, Option.bind_some] at h ⊢
  rw [hb.block g hB]
  exact h

set_option maxHeartbeats 1000000 in
theorem implLen_any (n : Int) (w : World) (g : Nat) (hb : -9223372036854775808 ≤ n ∧ n ≤ 9223372036854775807) (htab : Lib.TabIs Tryd.prog w "internal/strconv.uint64pow10" .u64 Lib.pow10Tab) (hg : Tryd.prog.globalNamed "internal/strconv.uint64pow10" = some g) (hgB : g < w.heap.size) :
    Calls Tryd.prog 8 #[.int .i64 n] w fun e w' => e = .returned (.string (lenText n)) ∧ Below w.heap.size w w' := by
  by_cases ho : 0 ≤ n ∧ n ≤ 1000000000
  · obtain ⟨h0, h1⟩ := ho
    have HT : Hid (lenText n = dec (n / 10).toNat ++ ⟨#[46]⟩ ++ dec (n % 10).toNat) := by unfold lenText; rw [if_pos ⟨h0, h1⟩]; exact rfl
    have z1 := dec_size 18 (n / 10).toNat (by omega) (by omega)
    have z2 := dec_size 18 (n % 10).toNat (by omega) (by omega)
    obtain ⟨s1, hs1⟩ : ∃ s, s = dec (n / 10).toNat := ⟨_, rfl⟩
    obtain ⟨s2, hs2⟩ : ∃ s, s = dec (n % 10).toNat := ⟨_, rfl⟩
    rw [← hs1] at z1 HT
    rw [← hs2] at z2 HT
    have HS1 := Lib.hid hs1
    have HS2 := Lib.hid hs2
    have HTAB := Lib.hid htab
    have HTAB2 : Hid (∀ w1, Below w.heap.size w w1 → Lib.TabIs Tryd.prog w1 "internal/strconv.uint64pow10" .u64 Lib.pow10Tab) := fun w1 h => tabIs_below htab h hg hgB
    clear hs1 hs2 htab hg hgB
    have e1 : IntKind.i64.wrap (n.tdiv 10) = n / 10 := by rw [Int.tdiv_eq_ediv_of_nonneg h0]; exact IntWalk.i64_in _ (by omega)
    have e2 : n.tmod 10 = n % 10 := by rw [Int.tmod_eq_emod_of_nonneg h0]
    go_enter Tryd.func8, Tryd.ntmps8
    go_wp2_with fail
    refine (isLen_yes n _ h0 h1).mono ?_
    rintro e _ ⟨rfl, rfl⟩
    go_wp2_with fail
    refine (fmt_int _ _ (by omega) (by omega) HTAB.out).mono ?_
    rintro e w1 ⟨rfl, hb1⟩
    rw [← HS1.out]
    go_wp2_with fail
    refine (fmt_int _ _ (by omega) (by omega) (HTAB2.out _ hb1)).mono ?_
    rintro e w2 ⟨rfl, hb2⟩
    rw [← HS2.out]
    go_wp2_with fail
    go_ret
    exact ⟨by rw [HT.out]; rfl, hb1.trans (hb2.mono hb1.size)⟩
  · have HT : Hid (lenText n = ⟨#[]⟩) := by unfold lenText; rw [if_neg ho]; exact rfl
    have H1 : Hid (n < 0 ∨ 1000000000 < n) := show n < 0 ∨ 1000000000 < n by omega
    clear ho
    go_enter Tryd.func8, Tryd.ntmps8
    go_wp2_with fail
    refine (isLen_no n _ H1.out).mono ?_
    rintro e _ ⟨rfl, rfl⟩
    go_wp2_with fail
    go_ret
    exact ⟨by rw [HT.out]; rfl, Below.refl _ _⟩
end Go.Proofs.YtamnhbambklmkaaDoor

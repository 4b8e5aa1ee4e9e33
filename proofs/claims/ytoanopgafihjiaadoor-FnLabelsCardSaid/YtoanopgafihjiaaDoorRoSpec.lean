/- Contracts of the roman numerals of the model: a digit, a number. -/
import Derived.Test.YtoanopgafihjiaaDoorIn
import Derived.Test.YtoanopgafihjiaaDoorRoMath
namespace Go.Proofs.YtoanopgafihjiaaDoor
open Go.RowKit Ro

/-- A list of bytes as a string. -/
def St (l : List UInt8) : ByteArray := ⟨l.toArray⟩
theorem St_app (a b : List UInt8) : St a ++ St b = St (a ++ b) := by
  unfold St
  apply ByteArray.ext
  simp
theorem St_size (a : List UInt8) : (St a).size = a.length := by simp [St, ByteArray.size]
theorem St_list (a : List UInt8) : (St a).data.toList = a := by simp [St]
theorem St_of (s : ByteArray) : St s.data.toList = s := by cases s; simp [St]
theorem ret_s {a b : ByteArray} (h : a = b) : Ending.returned (.string a) = .returned (.string b) := by rw [h]

theorem digit_9 (o f t : ByteArray) (ho : o.size ≤ 100) (_ : f.size ≤ 100) (ht : t.size ≤ 100) (w : World) : Calls Tryd.prog 47 #[.int .i64 9, .string o, .string f, .string t] w fun e w' => e = .returned (.string (o ++ t)) ∧ w = w' := by
  have h1 : ¬ o.size + t.size > 9223372036854775807 := by omega
  go_enter Tryd.func47, Tryd.ntmps47
  go_wp2_with fail
  go_ret
  exact ⟨rfl, rfl⟩
theorem digit_4 (o f t : ByteArray) (ho : o.size ≤ 100) (hf : f.size ≤ 100) (_ : t.size ≤ 100) (w : World) : Calls Tryd.prog 47 #[.int .i64 4, .string o, .string f, .string t] w fun e w' => e = .returned (.string (o ++ f)) ∧ w = w' := by
  have h1 : ¬ o.size + f.size > 9223372036854775807 := by omega
  go_enter Tryd.func47, Tryd.ntmps47
  go_wp2_with fail
  go_ret
  exact ⟨rfl, rfl⟩
theorem digit_0 (o f t : ByteArray) (_ : o.size ≤ 100) (_ : f.size ≤ 100) (_ : t.size ≤ 100) (w : World) : Calls Tryd.prog 47 #[.int .i64 0, .string o, .string f, .string t] w fun e w' => e = .returned (.string (St [])) ∧ w = w' := by
  go_enter Tryd.func47, Tryd.ntmps47
  go_wp2_with fail
  go_ret
  exact ⟨rfl, rfl⟩
theorem digit_5 (o f t s : ByteArray) (_ : o.size ≤ 100) (hf : f.size ≤ 100) (_ : t.size ≤ 100) (hs : s.size ≤ 1000) (n : Int) (h5 : 5 ≤ n) (h8 : n ≤ 8) (w : World) (ih : ∀ W, Calls Tryd.prog 47 #[.int .i64 (n - 5), .string o, .string f, .string t] W fun e w' => e = .returned (.string s) ∧ W = w') :
    Calls Tryd.prog 47 #[.int .i64 n, .string o, .string f, .string t] w fun e w' => e = .returned (.string (f ++ s)) ∧ w = w' := by
  have h1 : ¬ f.size + s.size > 9223372036854775807 := by omega
  have h9 : ¬ n = 9 := by omega
  have IH := Lib.hid ih
  clear ih
  go_enter Tryd.func47, Tryd.ntmps47
  go_wp2_with fail
  refine (IH.out _).mono ?_
  rintro e _ ⟨rfl, rfl⟩
  go_wp2_with fail
  go_ret
  exact ⟨rfl, rfl⟩
theorem digit_1 (o f t s : ByteArray) (ho : o.size ≤ 100) (_ : f.size ≤ 100) (_ : t.size ≤ 100) (hs : s.size ≤ 1000) (n : Int) (h5 : 1 ≤ n) (h8 : n ≤ 3) (w : World) (ih : ∀ W, Calls Tryd.prog 47 #[.int .i64 (n - 1), .string o, .string f, .string t] W fun e w' => e = .returned (.string s) ∧ W = w') :
    Calls Tryd.prog 47 #[.int .i64 n, .string o, .string f, .string t] w fun e w' => e = .returned (.string (o ++ s)) ∧ w = w' := by
  have h1 : ¬ o.size + s.size > 9223372036854775807 := by omega
  have h9 : ¬ n = 9 := by omega
  have h4 : ¬ n = 4 := by omega
  have h0 : ¬ n = 0 := by omega
  have IH := Lib.hid ih
  clear ih
  go_enter Tryd.func47, Tryd.ntmps47
  go_wp2_with fail
  refine (IH.out _).mono ?_
  rintro e _ ⟨rfl, rfl⟩
  go_wp2_with fail
  go_ret
  exact ⟨rfl, rfl⟩

theorem digit_any (o f t : List UInt8) (ho : o.length ≤ 10) (hf : f.length ≤ 10) (ht : t.length ≤ 10) (n : Nat) (hn : n ≤ 9) (w : World) :
    Calls Tryd.prog 47 #[.int .i64 n, .string (St o), .string (St f), .string (St t)] w fun e w' => e = .returned (.string (St (dg o f t n))) ∧ w = w' := by
  have ho' : (St o).size ≤ 100 := by rw [St_size]; omega
  have hf' : (St f).size ≤ 100 := by rw [St_size]; omega
  have ht' : (St t).size ≤ 100 := by rw [St_size]; omega
  have d0 : ∀ W, Calls Tryd.prog 47 #[.int .i64 0, .string (St o), .string (St f), .string (St t)] W fun e w' => e = .returned (.string (St [])) ∧ W = w' := digit_0 _ _ _ ho' hf' ht'
  have d1 : ∀ W, Calls Tryd.prog 47 #[.int .i64 1, .string (St o), .string (St f), .string (St t)] W fun e w' => e = .returned (.string (St o)) ∧ W = w' := fun W => by
    have := digit_1 _ _ _ _ ho' hf' ht' (by rw [St_size]; simp) 1 (by omega) (by omega) W d0
    rwa [St_app, List.append_nil] at this
  have d2 : ∀ W, Calls Tryd.prog 47 #[.int .i64 2, .string (St o), .string (St f), .string (St t)] W fun e w' => e = .returned (.string (St (o ++ o))) ∧ W = w' := fun W => by
    have := digit_1 _ _ _ _ ho' hf' ht' (by rw [St_size]; omega) 2 (by omega) (by omega) W d1
    rwa [St_app] at this
  have d3 : ∀ W, Calls Tryd.prog 47 #[.int .i64 3, .string (St o), .string (St f), .string (St t)] W fun e w' => e = .returned (.string (St (o ++ (o ++ o)))) ∧ W = w' := fun W => by
    have := digit_1 _ _ _ _ ho' hf' ht' (by rw [St_size]; simp; omega) 3 (by omega) (by omega) W d2
    rwa [St_app] at this
  have hcase : n = 0 ∨ n = 1 ∨ n = 2 ∨ n = 3 ∨ n = 4 ∨ n = 5 ∨ n = 6 ∨ n = 7 ∨ n = 8 ∨ n = 9 := by omega
  rcases hcase with rfl | rfl | rfl | rfl | rfl | rfl | rfl | rfl | rfl | rfl
  · exact d0 w
  · exact d1 w
  · exact d2 w
  · exact d3 w
  · have := digit_4 _ _ _ ho' hf' ht' w
    rwa [St_app] at this
  · have := digit_5 _ _ _ _ ho' hf' ht' (by rw [St_size]; simp) 5 (by omega) (by omega) w d0
    rwa [St_app, List.append_nil] at this
  · have := digit_5 _ _ _ _ ho' hf' ht' (by rw [St_size]; omega) 6 (by omega) (by omega) w d1
    rwa [St_app] at this
  · have := digit_5 _ _ _ _ ho' hf' ht' (by rw [St_size]; simp; omega) 7 (by omega) (by omega) w d2
    rwa [St_app] at this
  · have := digit_5 _ _ _ _ ho' hf' ht' (by rw [St_size]; simp; omega) 8 (by omega) (by omega) w d3
    rwa [St_app] at this
  · have := digit_9 _ _ _ ho' hf' ht' w
    rwa [St_app] at this

theorem digit_int (o f t : List UInt8) (s : ByteArray) (x : Int) (ho : o.length ≤ 10) (hf : f.length ≤ 10) (ht : t.length ≤ 10) (h0 : 0 ≤ x) (h9 : x ≤ 9) (hs : St (dg o f t x.toNat) = s) (w : World) :
    Calls Tryd.prog 47 #[.int .i64 x, .string (St o), .string (St f), .string (St t)] w fun e w' => e = .returned (.string s) ∧ w = w' := by
  subst hs
  obtain ⟨n, rfl⟩ := Int.eq_ofNat_of_zero_le h0
  exact digit_any o f t ho hf ht n (by omega) w

/-- The roman numeral of a number, or nothing. -/
def romI (n : Int) : List UInt8 := if 1 ≤ n ∧ n ≤ 3999 then romanL n.toNat else []
theorem dg_len (o f t : List UInt8) (ho : o.length ≤ 10) (hf : f.length ≤ 10) (ht : t.length ≤ 10) (n : Nat) : (dg o f t n).length ≤ 40 := by
  unfold dg
  split <;> (try simp only [List.length_append, List.length_nil]) <;> omega

set_option maxRecDepth 100000 in
set_option maxHeartbeats 1000000 in
theorem specRoman_any (n : Int) (w : World) :
    Calls Tryd.prog 24 #[.int .i64 n] w fun e w' => e = .returned (.string (St (romI n))) ∧ w = w' := by
  by_cases hn : 1 ≤ n ∧ n ≤ 3999
  · obtain ⟨s1, hs1⟩ : ∃ s, St (dg [109] [] [] (n / 1000).toNat) = s := ⟨_, rfl⟩
    obtain ⟨s2, hs2⟩ : ∃ s, St (dg [99] [100] [109] (n / 100 % 10).toNat) = s := ⟨_, rfl⟩
    obtain ⟨s3, hs3⟩ : ∃ s, St (dg [120] [108] [99] (n / 10 % 10).toNat) = s := ⟨_, rfl⟩
    obtain ⟨s4, hs4⟩ : ∃ s, St (dg [105] [118] [120] (n % 10).toNat) = s := ⟨_, rfl⟩
    have HR : Hid (St (romI n) = ((s1 ++ s2) ++ s3) ++ s4) := by
      show _ = _
      unfold romI romanL
      rw [if_pos hn, ← hs1, ← hs2, ← hs3, ← hs4, St_app, St_app, St_app, show (n / 1000).toNat = n.toNat / 1000 from by omega, show (n / 100 % 10).toNat = n.toNat / 100 % 10 from by omega, show (n / 10 % 10).toNat = n.toNat / 10 % 10 from by omega, show (n % 10).toNat = n.toNat % 10 from by omega]
    have z1 : s1.size ≤ 40 := by rw [← hs1, St_size]; exact dg_len _ _ _ (by simp) (by simp) (by simp) _
    have z2 : s2.size ≤ 40 := by rw [← hs2, St_size]; exact dg_len _ _ _ (by simp) (by simp) (by simp) _
    have z3 : s3.size ≤ 40 := by rw [← hs3, St_size]; exact dg_len _ _ _ (by simp) (by simp) (by simp) _
    have z4 : s4.size ≤ 40 := by rw [← hs4, St_size]; exact dg_len _ _ _ (by simp) (by simp) (by simp) _
    have y1 : (s1 ++ s2).size = s1.size + s2.size := ByteArray.size_append
    have y2 : (s1 ++ s2 ++ s3).size = s1.size + s2.size + s3.size := by rw [ByteArray.size_append, y1]
    have H1 := Lib.hid hs1
    have H2 := Lib.hid hs2
    have H3 := Lib.hid hs3
    have H4 := Lib.hid hs4
    obtain ⟨h1, h2⟩ := hn
    have x1 : ¬ s1.size + s2.size > 9223372036854775807 := by omega
    have x2 : ¬ (s1 ++ s2).size + s3.size > 9223372036854775807 := by omega
    have x3 : ¬ (s1 ++ s2 ++ s3).size + s4.size > 9223372036854775807 := by omega
    clear hs1 hs2 hs3 hs4 y1 y2
    go_enter Tryd.func24, Tryd.ntmps24
    go_wp2_with fail
    refine (l01In_yes _ _ _ _ h1 h2).mono ?_
    rintro e _ ⟨rfl, rfl⟩
    go_wp2_with fail
    refine (digit_int [109] [] [] s1 _ (by simp) (by simp) (by simp) (by omega) (by omega) H1.out _).mono ?_
    rintro e _ ⟨rfl, rfl⟩
    go_wp2_with fail
    refine (digit_int [99] [100] [109] s2 _ (by simp) (by simp) (by simp) (by omega) (by omega) H2.out _).mono ?_
    rintro e _ ⟨rfl, rfl⟩
    go_wp2_with fail
    refine (digit_int [120] [108] [99] s3 _ (by simp) (by simp) (by simp) (by omega) (by omega) H3.out _).mono ?_
    rintro e _ ⟨rfl, rfl⟩
    go_wp2_with fail
    refine (digit_int [105] [118] [120] s4 _ (by simp) (by simp) (by simp) (by omega) (by omega) H4.out _).mono ?_
    rintro e _ ⟨rfl, rfl⟩
    go_wp2_with fail
    go_ret
    exact ⟨ret_s HR.out.symm, rfl⟩
  · have HR : Hid (St (romI n) = ⟨#[]⟩) := by show _ = _; unfold romI; rw [if_neg hn]; rfl
    have hn' : Hid (n < 1 ∨ 3999 < n) := show n < 1 ∨ 3999 < n by omega
    clear hn
    go_enter Tryd.func24, Tryd.ntmps24
    go_wp2_with fail
    refine (l01In_no _ _ _ _ hn'.out).mono ?_
    rintro e _ ⟨rfl, rfl⟩
    go_wp2_with fail
    go_ret
    exact ⟨ret_s HR.out.symm, rfl⟩
end Go.Proofs.YtoanopgafihjiaaDoor

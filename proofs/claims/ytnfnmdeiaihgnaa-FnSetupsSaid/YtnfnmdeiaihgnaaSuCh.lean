/- Contracts of the model's SchemeOfSetup and CountChanges. -/
import Derived.Test.YtnfnmdeiaihgnaaSuSc
import Derived.Laws.StructEq
import Derived.Deep.RegionLaw
import Derived.BigQuiet
import Derived.Deep.QuietTactic
namespace Go.Proofs.Ytnfnmdeiaihgnaa
open Go.RowKit
set_option linter.unusedVariables false

theorem Su.map_next {l : List Un} {k : Nat} {x : Un} (hx : l[k]? = some x) : (l.take (k + 1)).map Su.ltU = (l.take k).map Su.ltU ++ [Su.ltU x] := by
  rw [List.take_add_one, hx]
  simp
theorem bytes_extU {a b : ByteArray} (h : a.data.toList = b.data.toList) : a = b := by
  cases a
  cases b
  simp at h
  rw [h]
theorem retSU {s s' : ByteArray} {b b' : Int} (h : s = s') (h' : b = b') : Ending.returned (.tuple #[.string s, .int .i64 b]) = .returned (.tuple #[.string s', .int .i64 b']) := by rw [h, h']
set_option maxRecDepth 100000 in
set_option maxHeartbeats 2000000 in
theorem specSc_any (A : Option Addr) (n c B : Nat) (l : List Un) (T : ByteArray) (C : Int) (w : World) (h : RdS Un.S w B A n l) (hn : n ≤ 1048577) (hT : T.data.toList = Su.scR l) (hC : Su.scC l = C) :
    Calls Try.prog 21 #[.slice A n c] w fun e w' => e = .returned (.tuple #[.string T, .int .i64 C]) ∧ Q w w' := by
  obtain ⟨b, hb⟩ : ∃ b, Su.okU l = b := ⟨_, rfl⟩
  have hu := fun W (hW : RdS Un.S W B A n l) => specUn_any A n c B l b W hW hn hb
  have HL := Lib.hid h.1
  cases b
  · have HT : Hid ((⟨#[]⟩ : ByteArray) = T) := Lib.hid (bytes_extU (by rw [hT]; unfold Su.scR; rw [hb]; rfl))
    have HC : Hid (1 = C) := Lib.hid (by rw [← hC]; unfold Su.scC; rw [hb]; rfl)
    clear hb hT hC
    go_enter Try.func21, Try.ntmps21
    go_wp2_with fail
    refine (hu _ h).mono ?_
    rintro e w1 ⟨rfl, hq1⟩
    go_wp2_with fail
    go_ret2
    exact ⟨retSU HT.out HC.out, hq1⟩
  · have HT : Hid (T.data.toList = l.map Su.ltU) := Lib.hid (by rw [hT]; unfold Su.scR; rw [hb]; rfl)
    have HC : Hid (0 = C) := Lib.hid (by rw [← hC]; unfold Su.scC; rw [hb]; rfl)
    clear hb hT hC
    go_enter Try.func21, Try.ntmps21
    go_wp2_with fail
    refine (hu _ h).mono ?_
    rintro e w1 ⟨rfl, hq1⟩
    have hr1 := h.q hq1
    clear hu
    go_wp2_with fail
    go_loopw [4, 5] (fun s i wr => ∃ (k : Nat) (t : ByteArray), k ≤ n ∧ i = .int .i64 k ∧ s = .string t ∧ Hid (t.data.toList = (l.take k).map Su.ltU) ∧ Q w wr) (fun _ i _ => n - (intOf i).toNat)
    case atStart => exact ⟨0, ⟨#[]⟩, Nat.zero_le _, rfl, rfl, Lib.hid (by simp), hq1⟩
    case round =>
      obtain ⟨k, t, hk, rfl, rfl, HS, hq⟩ := hrel
      by_cases hlt : k < n
      · obtain ⟨b1, o, x, rfl, hbB, hx, c0, c1, c2⟩ := (h.q hq).at_Un hlt
        have HN := Lib.hid (Su.map_next hx)
        have key : ∀ z : UInt8, Su.ltU x = z → Hid ((t ++ (⟨#[z]⟩ : ByteArray)).data.toList = (l.take (k + 1)).map Su.ltU) := fun z hz => Lib.hid (by rw [HN.out, hz, ← HS.out]; simp)
        have HK := Lib.hid key
        have hts : t.size ≤ 1048577 := by
          have e := congrArg List.length HS.out
          rw [List.length_map, List.length_take] at e
          have e2 : t.size = t.data.toList.length := (Array.length_toList).symm
          omega
        clear hx key
        obtain ⟨p, hp⟩ : ∃ p, x.a = p := ⟨_, rfl⟩
        obtain ⟨q, hq2⟩ : ∃ q, x.o = q := ⟨_, rfl⟩
        have HZ : Hid (Su.ltU x = if p then (if q then 76 else 82) else (if q then 84 else 66)) := Lib.hid (by rw [← hp, ← hq2]; rfl)
        rw [hp] at c0
        rw [hq2] at c2
        clear hp hq2
        cases p <;> cases q
        all_goals
          go_wp2_with fail
          go_roundw
          case rel => exact ⟨k + 1, _, by omega, by go_num, rfl, HK.out _ HZ.out, hq⟩
          case measure => simp [intOf]; omega
      · obtain rfl : k = n := by omega
        have HE : Hid (t = T) := Lib.hid (bytes_extU (by rw [HT.out, HS.out, List.take_of_length_le (Nat.le_of_eq HL.out)]))
        go_wp2_with fail
        go_ret2
        exact ⟨retSU HE.out HC.out, hq⟩

end Go.Proofs.Ytnfnmdeiaihgnaa

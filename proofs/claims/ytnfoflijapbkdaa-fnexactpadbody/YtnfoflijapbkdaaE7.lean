/- Chapter 7: the exact laws over ints and texts, walked: each answers true and turns nothing that was there. -/
import Derived.Test.YtnfoflijapbkdaaS7
namespace Go.Proofs.Ytnfoflijapbkdaa
set_option linter.unusedVariables false
set_option maxRecDepth 1000000
set_option linter.unusedSimpArgs false
open Go.RowKit

set_option maxHeartbeats 1000000 in
theorem lawPadFor_c (k : Int) (m : Int) (w : World) (hwk : -9223372036854775808 ≤ k ∧ k ≤ 9223372036854775807) (hwm : -9223372036854775808 ≤ m ∧ m ≤ 9223372036854775807) :
    Calls Try.prog 5 #[.int .i64 k, .int .i64 m] w fun e w' => e = .returned (.bool true) ∧ Below w.heap.size w w' := by
  obtain ⟨t, fb, hF⟩ : ∃ t fb, padF k m = (t, fb) := ⟨_, _, rfl⟩
  have HF : Hid (padF k m = (t, fb)) := hF
  have hfb : (fb != fb) = false := by simp
  have ht : (t.toList == t.toList) = true := by simp
  clear hF
  go_enter Try.func5, Try.ntmps5
  go_wp2_with fail
  refine (specPadFor_c k m _  t fb HF.out).mono ?_
  rintro e w1 ⟨rfl, hb⟩
  have HB1 : Hid (Below w.heap.size w w1) := hb
  clear hb
  go_wp2_with fail
  refine (implPadFor_c k m _  t fb HF.out).mono ?_
  rintro e w2 ⟨rfl, hb⟩
  have HB2 : Hid (Below w.heap.size w w2) := HB1.out.trans (hb.mono HB1.out.size)
  clear hb HB1
  go_wp2
  go_ret
  exact ⟨rfl, HB2.out⟩

set_option maxHeartbeats 1000000 in
theorem lawXor_c (a : ByteArray) (b : ByteArray) (w : World) (hma : a.size ≤ 9223372036854775807) (hmb : b.size ≤ 9223372036854775807) :
    Calls Try.prog 6 #[.string a, .string b] w fun e w' => e = .returned (.bool true) ∧ Below w.heap.size w w' := by
  by_cases hla : 1048576 < a.size
  · have hi : (1048576 : Int) < ((a.size : Nat) : Int) := by omega
    go_enter Try.func6, Try.ntmps6
    go_wp2
    go_ret
    exact ⟨rfl, Below.refl _ _⟩
  have hza : a.size ≤ 17592186044416 := by omega
  by_cases hlb : 1048576 < b.size
  · have hi : (1048576 : Int) < ((b.size : Nat) : Int) := by omega
    go_enter Try.func6, Try.ntmps6
    go_wp2
    go_ret
    exact ⟨rfl, Below.refl _ _⟩
  have hzb : b.size ≤ 17592186044416 := by omega
  obtain ⟨t, fb, hF⟩ : ∃ t fb, xorF a b = (t, fb) := ⟨_, _, rfl⟩
  have HF : Hid (xorF a b = (t, fb)) := hF
  have hfb : (fb != fb) = false := by simp
  have ht : (t.toList == t.toList) = true := by simp
  clear hF
  go_enter Try.func6, Try.ntmps6
  go_wp2_with fail
  refine (specXor_c a b _ hza hzb t fb HF.out).mono ?_
  rintro e w1 ⟨rfl, hb⟩
  have HB1 : Hid (Below w.heap.size w w1) := hb
  clear hb
  go_wp2_with fail
  refine (implXor_c a b _ hza hzb t fb HF.out).mono ?_
  rintro e w2 ⟨rfl, hb⟩
  have HB2 : Hid (Below w.heap.size w w2) := HB1.out.trans (hb.mono HB1.out.size)
  clear hb HB1
  go_wp2
  go_ret
  exact ⟨rfl, HB2.out⟩

set_option maxHeartbeats 1000000 in
theorem lawPadBody_c (s : ByteArray) (w : World) (hms : s.size ≤ 9223372036854775807) :
    Calls Try.prog 10 #[.string s] w fun e w' => e = .returned (.bool true) ∧ Below w.heap.size w w' := by
  by_cases hls : 1048576 < s.size
  · have hi : (1048576 : Int) < ((s.size : Nat) : Int) := by omega
    go_enter Try.func10, Try.ntmps10
    go_wp2
    go_ret
    exact ⟨rfl, Below.refl _ _⟩
  have hzs : s.size ≤ 17592186044416 := by omega
  obtain ⟨t, fb, hF⟩ : ∃ t fb, padBF s = (t, fb) := ⟨_, _, rfl⟩
  have HF : Hid (padBF s = (t, fb)) := hF
  have hfb : (fb != fb) = false := by simp
  have ht : (t.toList == t.toList) = true := by simp
  clear hF
  go_enter Try.func10, Try.ntmps10
  go_wp2_with fail
  refine (specPadBody_c s _ hzs t fb HF.out).mono ?_
  rintro e w1 ⟨rfl, hb⟩
  have HB1 : Hid (Below w.heap.size w w1) := hb
  clear hb
  go_wp2_with fail
  refine (implPadBody_c s _ hzs t fb HF.out).mono ?_
  rintro e w2 ⟨rfl, hb⟩
  have HB2 : Hid (Below w.heap.size w w2) := HB1.out.trans (hb.mono HB1.out.size)
  clear hb HB1
  go_wp2
  go_ret
  exact ⟨rfl, HB2.out⟩

set_option maxHeartbeats 1000000 in
theorem lawUnpad_c (s : ByteArray) (w : World) (hms : s.size ≤ 9223372036854775807) :
    Calls Try.prog 11 #[.string s] w fun e w' => e = .returned (.bool true) ∧ Below w.heap.size w w' := by
  by_cases hls : 1048576 < s.size
  · have hi : (1048576 : Int) < ((s.size : Nat) : Int) := by omega
    go_enter Try.func11, Try.ntmps11
    go_wp2
    go_ret
    exact ⟨rfl, Below.refl _ _⟩
  have hzs : s.size ≤ 17592186044416 := by omega
  obtain ⟨t, fb, hF⟩ : ∃ t fb, unpadF s = (t, fb) := ⟨_, _, rfl⟩
  have HF : Hid (unpadF s = (t, fb)) := hF
  have hfb : (fb != fb) = false := by simp
  have ht : (t.toList == t.toList) = true := by simp
  clear hF
  go_enter Try.func11, Try.ntmps11
  go_wp2_with fail
  refine (specUnpad_c s _ hzs t fb HF.out).mono ?_
  rintro e w1 ⟨rfl, hb⟩
  have HB1 : Hid (Below w.heap.size w w1) := hb
  clear hb
  go_wp2_with fail
  refine (implUnpad_c s _ hzs t fb HF.out).mono ?_
  rintro e w2 ⟨rfl, hb⟩
  have HB2 : Hid (Below w.heap.size w w2) := HB1.out.trans (hb.mono HB1.out.size)
  clear hb HB1
  go_wp2
  go_ret
  exact ⟨rfl, HB2.out⟩

set_option maxHeartbeats 1000000 in
theorem lawCheck_c (s : ByteArray) (w : World) (hms : s.size ≤ 9223372036854775807) :
    Calls Try.prog 12 #[.string s] w fun e w' => e = .returned (.bool true) ∧ Below w.heap.size w w' := by
  by_cases hls : 1048576 < s.size
  · have hi : (1048576 : Int) < ((s.size : Nat) : Int) := by omega
    go_enter Try.func12, Try.ntmps12
    go_wp2
    go_ret
    exact ⟨rfl, Below.refl _ _⟩
  have hzs : s.size ≤ 17592186044416 := by omega
  obtain ⟨z, fb, hF⟩ : ∃ z fb, chkF s = (z, fb) := ⟨_, _, rfl⟩
  have HF : Hid (chkF s = (z, fb)) := hF
  have hfb : (fb != fb) = false := by simp
  have ht : (z != z) = false := by simp
  clear hF
  go_enter Try.func12, Try.ntmps12
  go_wp2_with fail
  refine (specCheck_c s _ hzs z fb HF.out).mono ?_
  rintro e w1 ⟨rfl, hb⟩
  have HB1 : Hid (Below w.heap.size w w1) := hb
  clear hb
  go_wp2_with fail
  refine (implCheck_c s _ hzs z fb HF.out).mono ?_
  rintro e w2 ⟨rfl, hb⟩
  have HB2 : Hid (Below w.heap.size w w2) := HB1.out.trans (hb.mono HB1.out.size)
  clear hb HB1
  go_wp2
  go_ret
  exact ⟨rfl, HB2.out⟩

end Go.Proofs.Ytnfoflijapbkdaa

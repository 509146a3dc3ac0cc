/- Chapter 7: the exact law on PeelOnion, walked. -/
import Derived.Test.YtnfoflijapbkdaaSP7
namespace Go.Proofs.Ytnfoflijapbkdaa
set_option linter.unusedVariables false
set_option maxRecDepth 1000000
set_option linter.unusedSimpArgs false
open Go.RowKit

theorem eqPeeled_same (x : Int) (a b : ByteArray) (w : World) :
    Calls Try.prog 40 #[.agg #[.int .i64 x, .string a, .string b], .agg #[.int .i64 x, .string a, .string b]] w fun e w' => e = .returned (.bool true) ∧ Below w.heap.size w w' := by
  have h1 : (x != x) = false := by simp
  have h2 : (a.toList == a.toList) = true := by simp
  have h3 : (b.toList == b.toList) = true := by simp
  have HB : Hid (Below w.heap.size w ((w.alloc (.cells #[.int .i64 x, .string a, .string b] 31)).alloc (.cells #[.int .i64 x, .string a, .string b] 31))) := (balloc w _).alloc (by simp) _
  go_enter Try.func40, Try.ntmps40
  go_wp2
  go_ret
  exact ⟨rfl, HB.out⟩

set_option maxHeartbeats 2000000 in
theorem lawPeel_c (k : Int) (s : ByteArray) (w : World) (hwk : -9223372036854775808 ≤ k ∧ k ≤ 9223372036854775807) (hms : s.size ≤ 9223372036854775807) :
    Calls Try.prog 8 #[.int .i64 k, .string s] w fun e w' => e = .returned (.bool true) ∧ Below w.heap.size w w' := by
  by_cases hls : 1048576 < s.size
  · have hi : (1048576 : Int) < ((s.size : Nat) : Int) := by omega
    go_enter Try.func8, Try.ntmps8
    go_wp2
    go_ret
    exact ⟨rfl, Below.refl _ _⟩
  have hzs : s.size ≤ 17592186044416 := by omega
  obtain ⟨x, a, b, fb, hF⟩ : ∃ x a b fb, peelR (peelF k s) = (x, a, b, fb) := ⟨_, _, _, _, rfl⟩
  have HF : Hid (peelR (peelF k s) = (x, a, b, fb)) := hF
  have hfb : (fb != fb) = false := by simp
  clear hF
  go_enter Try.func8, Try.ntmps8
  go_wp2_with fail
  refine (specPeel_c k s _ hzs x a b fb HF.out).mono ?_
  rintro e w1 ⟨rfl, hb⟩
  have HB1 : Hid (Below w.heap.size w (w1.alloc (.cells #[.int .i64 x, .string a, .string b] 31))) := Below.alloc hb hb.size _
  have HC1 : Hid (C3 (w1.alloc (.cells #[.int .i64 x, .string a, .string b] 31)) w1.heap.size x a b) := c3_new _ _ _ _ _ _ rfl
  clear hb
  go_wp2_with fail
  refine (implPeel_c k s _ hzs x a b fb HF.out).mono ?_
  rintro e w2 ⟨rfl, hb⟩
  have HB2 : Hid (Below w.heap.size w (w2.alloc (.cells #[.int .i64 x, .string a, .string b] 31))) := Below.alloc (HB1.out.trans (hb.mono HB1.out.size)) (Nat.le_trans HB1.out.size hb.size) _
  have hC2 : C3 (w2.alloc (.cells #[.int .i64 x, .string a, .string b] 31)) w1.heap.size x a b := (HC1.out.later hb).later (balloc _ _)
  have hC3 : C3 (w2.alloc (.cells #[.int .i64 x, .string a, .string b] 31)) w2.heap.size x a b := c3_new _ _ _ _ _ _ rfl
  obtain ⟨V, hV⟩ : ∃ V, w2.alloc (.cells #[.int .i64 x, .string a, .string b] 31) = V := ⟨_, rfl⟩
  rw [hV] at hC2 hC3 HB2
  obtain ⟨c0, c1, c2, _, _, _⟩ := hC2
  obtain ⟨d0, d1, d2, _, _, _⟩ := hC3
  clear hb HB1 HC1
  go_wp2_with fail
  refine (eqPeeled_same x a b _).mono ?_
  rintro e w3 ⟨rfl, hb⟩
  have HB3 : Hid (Below w.heap.size w w3) := HB2.out.trans (hb.mono HB2.out.size)
  clear hb HB2
  go_wp2
  go_ret
  exact ⟨rfl, HB3.out⟩

end Go.Proofs.Ytnfoflijapbkdaa

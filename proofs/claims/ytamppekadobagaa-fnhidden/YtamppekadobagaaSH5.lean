/- Chapter 5: SecretFits, the contracts of both sides. -/
import Derived.Test.YtamppekadobagaaSG5
namespace Go.Proofs.Ytamppekadobagaa
set_option linter.unusedVariables false
set_option linter.unusedSimpArgs false
open Go.RowKit

theorem specFits_no1 (ao : Option Addr) (n c : Nat) (l : List (Int × Int)) (s : Int) (w : World) (hx : l.length = n) (hn : n ≤ 8796093022208) (hr : RdP w ao l) (h1 : partsB l = false) :
    Calls Try.prog 32 #[.slice ao n c, .int .i64 s] w fun e w' => e = .returned (.tuple #[.agg #[.int .i64 0, .int .i64 0], .bool false]) ∧ Below w.heap.size w w' := by
  obtain ⟨V, hV⟩ : ∃ V, w.alloc (.cells #[.int .i64 0, .int .i64 0] 46) = V := ⟨_, rfl⟩
  have HBV : Hid (Below w.heap.size w V) := by rw [← hV]; exact balloc _ _
  have c2V : Hid (C2 V w.heap.size 0 0) := by rw [← hV]; exact c2_new _ _ _ _ _ rfl
  have hVs : w.heap.size < V.heap.size := by rw [← hV]; simp
  have q1 := l5Parts_c ao n c l V hx hn (hr.later HBV.out)
  rw [h1] at q1
  clear hr hx h1
  go_enter Try.func32, Try.ntmps32
  go_wp2_with fail
  clear hV
  refine q1.mono ?_
  clear q1
  rintro e w1 ⟨rfl, hb⟩
  have HB1 : Hid (Below V.heap.size V w1) := hb
  obtain ⟨ta, tb, tc, td⟩ := c2V.out.keep hb
  have lt5 : w.heap.size < w1.heap.size := Nat.lt_of_lt_of_le hVs HB1.out.size
  clear hb
  go_wp2
  refine bodyPost_ret (v := .tuple #[.agg #[.int .i64 0, .int .i64 0], .bool false]) (by simp [results, Try.results32, go_sem, ta, tb]) rfl ?_
  exact ⟨rfl, ((HBV.out.trans (HB1.out.mono (Nat.le_of_lt hVs))).setCell (Nat.le_refl _) _).setCell (Nat.le_refl _) _⟩

theorem specFits_no2 (ao : Option Addr) (n c : Nat) (l : List (Int × Int)) (s : Int) (w : World) (hx : l.length = n) (hn : n ≤ 8796093022208) (hr : RdP w ao l) (h1 : partsB l = true) (h8 : n = 8) :
    Calls Try.prog 32 #[.slice ao n c, .int .i64 s] w fun e w' => e = .returned (.tuple #[.agg #[.int .i64 0, .int .i64 0], .bool false]) ∧ Below w.heap.size w w' := by
  obtain ⟨V, hV⟩ : ∃ V, w.alloc (.cells #[.int .i64 0, .int .i64 0] 46) = V := ⟨_, rfl⟩
  have HBV : Hid (Below w.heap.size w V) := by rw [← hV]; exact balloc _ _
  have c2V : Hid (C2 V w.heap.size 0 0) := by rw [← hV]; exact c2_new _ _ _ _ _ rfl
  have hVs : w.heap.size < V.heap.size := by rw [← hV]; simp
  have q1 := l5Parts_c ao n c l V hx hn (hr.later HBV.out)
  rw [h1] at q1
  have hn8 : ((n : Int) == 8) = true := by rw [beq_iff_eq]; omega
  clear h8
  clear hr hx h1
  go_enter Try.func32, Try.ntmps32
  go_wp2_with fail
  clear hV
  refine q1.mono ?_
  clear q1
  rintro e w1 ⟨rfl, hb⟩
  have HB1 : Hid (Below V.heap.size V w1) := hb
  obtain ⟨ta, tb, tc, td⟩ := c2V.out.keep hb
  have lt5 : w.heap.size < w1.heap.size := Nat.lt_of_lt_of_le hVs HB1.out.size
  clear hb
  go_wp2
  refine bodyPost_ret (v := .tuple #[.agg #[.int .i64 0, .int .i64 0], .bool false]) (by simp [results, Try.results32, go_sem, ta, tb]) rfl ?_
  exact ⟨rfl, ((HBV.out.trans (HB1.out.mono (Nat.le_of_lt hVs))).setCell (Nat.le_refl _) _).setCell (Nat.le_refl _) _⟩

theorem specFits_no3 (ao : Option Addr) (n c : Nat) (l : List (Int × Int)) (s : Int) (w : World) (hx : l.length = n) (hn : n ≤ 8796093022208) (hr : RdP w ao l) (h1 : partsB l = true) (h8 : n ≠ 8) (h2 : smallB s = false) :
    Calls Try.prog 32 #[.slice ao n c, .int .i64 s] w fun e w' => e = .returned (.tuple #[.agg #[.int .i64 0, .int .i64 0], .bool false]) ∧ Below w.heap.size w w' := by
  obtain ⟨V, hV⟩ : ∃ V, w.alloc (.cells #[.int .i64 0, .int .i64 0] 46) = V := ⟨_, rfl⟩
  have HBV : Hid (Below w.heap.size w V) := by rw [← hV]; exact balloc _ _
  have c2V : Hid (C2 V w.heap.size 0 0) := by rw [← hV]; exact c2_new _ _ _ _ _ rfl
  have hVs : w.heap.size < V.heap.size := by rw [← hV]; simp
  have q1 := l5Parts_c ao n c l V hx hn (hr.later HBV.out)
  rw [h1] at q1
  have q2 := l5Field_c s
  rw [h2] at q2
  clear h2
  have hn8 : ((n : Int) == 8) = false := by rw [beq_eq_false_iff_ne]; omega
  clear hr hx h1
  go_enter Try.func32, Try.ntmps32
  go_wp2_with fail
  clear hV
  refine q1.mono ?_
  clear q1
  rintro e w1 ⟨rfl, hb⟩
  have HB1 : Hid (Below V.heap.size V w1) := hb
  obtain ⟨ta, tb, tc, td⟩ := c2V.out.keep hb
  have lt5 : w.heap.size < w1.heap.size := Nat.lt_of_lt_of_le hVs HB1.out.size
  clear hb
  go_wp2_with fail
  refine (q2 _).mono ?_
  clear q2
  rintro e w' ⟨rfl, hw⟩
  subst w'
  go_wp2
  refine bodyPost_ret (v := .tuple #[.agg #[.int .i64 0, .int .i64 0], .bool false]) (by simp [results, Try.results32, go_sem, ta, tb]) rfl ?_
  exact ⟨rfl, ((HBV.out.trans (HB1.out.mono (Nat.le_of_lt hVs))).setCell (Nat.le_refl _) _).setCell (Nat.le_refl _) _⟩

theorem specFits_c (ao : Option Addr) (n c : Nat) (l : List (Int × Int)) (s : Int) (w : World) (hx : l.length = n) (hn : n ≤ 8796093022208) (hr : RdP w ao l) (x y : Int) (fb : Bool) (hF : fitsF l s = ((x, y), fb)) :
    Calls Try.prog 32 #[.slice ao n c, .int .i64 s] w fun e w' => e = .returned (.tuple #[.agg #[.int .i64 x, .int .i64 y], .bool fb]) ∧ Below w.heap.size w w' := by
  unfold fitsF at hF
  by_cases h : (partsB l = true ∧ l.length ≠ 8) ∧ smallB s = true
  · rw [if_pos h] at hF
    simp only [Prod.mk.injEq] at hF
    obtain ⟨⟨rfl, rfl⟩, rfl⟩ := hF
    obtain ⟨⟨h1, h8⟩, h2⟩ := h
    obtain ⟨fl, rfl, hg⟩ := partsB_parts h1
    obtain ⟨a, rfl⟩ := smallB_parts h2
    have hx' : fl.length = n := by rw [pIs_length] at hx; exact hx
    obtain ⟨b, o, rfl, _⟩ := hr.at hx (by have := hg.2.2.1; omega)
    rw [pIs_toP, toF_vI]
    exact specFits_yes b o n c fl a w hx' hg (by have := hg.2.2.2; rw [pIs_length] at h8; omega) hr
  · rw [if_neg h] at hF
    simp only [Prod.mk.injEq] at hF
    obtain ⟨⟨rfl, rfl⟩, rfl⟩ := hF
    by_cases h1 : partsB l = true
    · by_cases h8 : n = 8
      · exact specFits_no2 ao n c l s w hx hn hr h1 h8
      · refine specFits_no3 ao n c l s w hx hn hr h1 h8 ?_
        cases e : smallB s
        · rfl
        · exact absurd ⟨⟨h1, by rw [hx]; exact h8⟩, e⟩ h
    · exact specFits_no1 ao n c l s w hx hn hr (by simpa using h1)

theorem implFits_no1 (ao : Option Addr) (n c : Nat) (l : List (Int × Int)) (s : Int) (w : World) (hx : l.length = n) (hn : n ≤ 8796093022208) (hr : RdP w ao l) (h1 : partsB l = false) :
    Calls Try.prog 31 #[.slice ao n c, .int .i64 s] w fun e w' => e = .returned (.tuple #[.agg #[.int .i64 0, .int .i64 0], .bool false]) ∧ Below w.heap.size w w' := by
  obtain ⟨V, hV⟩ : ∃ V, w.alloc (.cells #[.int .i64 0, .int .i64 0] 46) = V := ⟨_, rfl⟩
  have HBV : Hid (Below w.heap.size w V) := by rw [← hV]; exact balloc _ _
  have c2V : Hid (C2 V w.heap.size 0 0) := by rw [← hV]; exact c2_new _ _ _ _ _ rfl
  have hVs : w.heap.size < V.heap.size := by rw [← hV]; simp
  have q1 := areParts_c ao n c l V hx hn (hr.later HBV.out)
  rw [h1] at q1
  clear hr hx h1
  go_enter Try.func31, Try.ntmps31
  go_wp2_with fail
  clear hV
  refine q1.mono ?_
  clear q1
  rintro e w1 ⟨rfl, hb⟩
  have HB1 : Hid (Below V.heap.size V w1) := hb
  obtain ⟨ta, tb, tc, td⟩ := c2V.out.keep hb
  have lt5 : w.heap.size < w1.heap.size := Nat.lt_of_lt_of_le hVs HB1.out.size
  clear hb
  go_wp2
  refine bodyPost_ret (v := .tuple #[.agg #[.int .i64 0, .int .i64 0], .bool false]) (by simp [results, Try.results31, go_sem, ta, tb]) rfl ?_
  exact ⟨rfl, ((HBV.out.trans (HB1.out.mono (Nat.le_of_lt hVs))).setCell (Nat.le_refl _) _).setCell (Nat.le_refl _) _⟩

theorem implFits_no2 (ao : Option Addr) (n c : Nat) (l : List (Int × Int)) (s : Int) (w : World) (hx : l.length = n) (hn : n ≤ 8796093022208) (hr : RdP w ao l) (h1 : partsB l = true) (h8 : n = 8) :
    Calls Try.prog 31 #[.slice ao n c, .int .i64 s] w fun e w' => e = .returned (.tuple #[.agg #[.int .i64 0, .int .i64 0], .bool false]) ∧ Below w.heap.size w w' := by
  obtain ⟨V, hV⟩ : ∃ V, w.alloc (.cells #[.int .i64 0, .int .i64 0] 46) = V := ⟨_, rfl⟩
  have HBV : Hid (Below w.heap.size w V) := by rw [← hV]; exact balloc _ _
  have c2V : Hid (C2 V w.heap.size 0 0) := by rw [← hV]; exact c2_new _ _ _ _ _ rfl
  have hVs : w.heap.size < V.heap.size := by rw [← hV]; simp
  have q1 := areParts_c ao n c l V hx hn (hr.later HBV.out)
  rw [h1] at q1
  have hn8 : ((n : Int) == 8) = true := by rw [beq_iff_eq]; omega
  clear h8
  clear hr hx h1
  go_enter Try.func31, Try.ntmps31
  go_wp2_with fail
  clear hV
  refine q1.mono ?_
  clear q1
  rintro e w1 ⟨rfl, hb⟩
  have HB1 : Hid (Below V.heap.size V w1) := hb
  obtain ⟨ta, tb, tc, td⟩ := c2V.out.keep hb
  have lt5 : w.heap.size < w1.heap.size := Nat.lt_of_lt_of_le hVs HB1.out.size
  clear hb
  go_wp2
  refine bodyPost_ret (v := .tuple #[.agg #[.int .i64 0, .int .i64 0], .bool false]) (by simp [results, Try.results31, go_sem, ta, tb]) rfl ?_
  exact ⟨rfl, ((HBV.out.trans (HB1.out.mono (Nat.le_of_lt hVs))).setCell (Nat.le_refl _) _).setCell (Nat.le_refl _) _⟩

theorem implFits_no3 (ao : Option Addr) (n c : Nat) (l : List (Int × Int)) (s : Int) (w : World) (hx : l.length = n) (hn : n ≤ 8796093022208) (hr : RdP w ao l) (h1 : partsB l = true) (h8 : n ≠ 8) (h2 : smallB s = false) :
    Calls Try.prog 31 #[.slice ao n c, .int .i64 s] w fun e w' => e = .returned (.tuple #[.agg #[.int .i64 0, .int .i64 0], .bool false]) ∧ Below w.heap.size w w' := by
  obtain ⟨V, hV⟩ : ∃ V, w.alloc (.cells #[.int .i64 0, .int .i64 0] 46) = V := ⟨_, rfl⟩
  have HBV : Hid (Below w.heap.size w V) := by rw [← hV]; exact balloc _ _
  have c2V : Hid (C2 V w.heap.size 0 0) := by rw [← hV]; exact c2_new _ _ _ _ _ rfl
  have hVs : w.heap.size < V.heap.size := by rw [← hV]; simp
  have q1 := areParts_c ao n c l V hx hn (hr.later HBV.out)
  rw [h1] at q1
  have q2 := isSmall_c s
  rw [h2] at q2
  clear h2
  have hn8 : ((n : Int) == 8) = false := by rw [beq_eq_false_iff_ne]; omega
  clear hr hx h1
  go_enter Try.func31, Try.ntmps31
  go_wp2_with fail
  clear hV
  refine q1.mono ?_
  clear q1
  rintro e w1 ⟨rfl, hb⟩
  have HB1 : Hid (Below V.heap.size V w1) := hb
  obtain ⟨ta, tb, tc, td⟩ := c2V.out.keep hb
  have lt5 : w.heap.size < w1.heap.size := Nat.lt_of_lt_of_le hVs HB1.out.size
  clear hb
  go_wp2_with fail
  refine (q2 _).mono ?_
  clear q2
  rintro e w' ⟨rfl, hw⟩
  subst w'
  go_wp2
  refine bodyPost_ret (v := .tuple #[.agg #[.int .i64 0, .int .i64 0], .bool false]) (by simp [results, Try.results31, go_sem, ta, tb]) rfl ?_
  exact ⟨rfl, ((HBV.out.trans (HB1.out.mono (Nat.le_of_lt hVs))).setCell (Nat.le_refl _) _).setCell (Nat.le_refl _) _⟩

theorem implFits_c (ao : Option Addr) (n c : Nat) (l : List (Int × Int)) (s : Int) (w : World) (hx : l.length = n) (hn : n ≤ 8796093022208) (hr : RdP w ao l) (x y : Int) (fb : Bool) (hF : fitsF l s = ((x, y), fb)) :
    Calls Try.prog 31 #[.slice ao n c, .int .i64 s] w fun e w' => e = .returned (.tuple #[.agg #[.int .i64 x, .int .i64 y], .bool fb]) ∧ Below w.heap.size w w' := by
  unfold fitsF at hF
  by_cases h : (partsB l = true ∧ l.length ≠ 8) ∧ smallB s = true
  · rw [if_pos h] at hF
    simp only [Prod.mk.injEq] at hF
    obtain ⟨⟨rfl, rfl⟩, rfl⟩ := hF
    obtain ⟨⟨h1, h8⟩, h2⟩ := h
    obtain ⟨fl, rfl, hg⟩ := partsB_parts h1
    obtain ⟨a, rfl⟩ := smallB_parts h2
    have hx' : fl.length = n := by rw [pIs_length] at hx; exact hx
    obtain ⟨b, o, rfl, _⟩ := hr.at hx (by have := hg.2.2.1; omega)
    rw [pIs_toP, toF_vI]
    exact implFits_yes b o n c fl a w hx' hg (by have := hg.2.2.2; rw [pIs_length] at h8; omega) hr
  · rw [if_neg h] at hF
    simp only [Prod.mk.injEq] at hF
    obtain ⟨⟨rfl, rfl⟩, rfl⟩ := hF
    by_cases h1 : partsB l = true
    · by_cases h8 : n = 8
      · exact implFits_no2 ao n c l s w hx hn hr h1 h8
      · refine implFits_no3 ao n c l s w hx hn hr h1 h8 ?_
        cases e : smallB s
        · rfl
        · exact absurd ⟨⟨h1, by rw [hx]; exact h8⟩, e⟩ h
    · exact implFits_no1 ao n c l s w hx hn hr (by simpa using h1)

end Go.Proofs.Ytamppekadobagaa

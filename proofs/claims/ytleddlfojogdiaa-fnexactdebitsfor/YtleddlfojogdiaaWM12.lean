/- Chapter 12: MergeStatements of both sides, whole; the size of a list of statements. -/
import Derived.Test.YtleddlfojogdiaaMG12
namespace Go.Proofs.Ytleddlfojogdiaa
set_option linter.unusedVariables false
set_option maxRecDepth 1000000
set_option linter.unusedSimpArgs false
open Go.RowKit

theorem szStatementS_c (ao : Option Addr) (n c : Nat) (left : Nat) (w : World) (hn : n ≤ 9223372036854775807) (hl : left ≤ 1048576) :
    Calls Try.prog 40 #[.slice ao n c, .int .i64 left] w fun e w' => ∃ r : Int, e = .returned (.int .i64 r) ∧ w' = w ∧ r ≤ left ∧ (0 ≤ r → n ≤ 1048576 ∧ r + n = left) := by
  by_cases h1 : left < n
  · have hlt : (left : Int) - n < 0 := by omega
    go_enter Try.func40, Try.ntmps40
    go_wp2
    go_ret
    exact ⟨-1, rfl, rfl, by omega, fun h => by omega⟩
  · have hge : 0 ≤ (left : Int) - n := by omega
    go_enter Try.func40, Try.ntmps40
    go_wp2
    go_ret
    exact ⟨(left : Int) - n, rfl, rfl, by omega, fun h => by omega⟩

theorem implMerge_c (ao : Option Addr) (n c : Nat) (bo : Option Addr) (m d : Nat) (xs ys : List St) (w : World) (hn : n ≤ 17592186044416) (hm : m ≤ 17592186044416) (base base' : Nat) (hr : OwnS w base (.slice ao n c) xs) (hs : OwnS w base' (.slice bo m d) ys) (q : Nat) (hq : (mergeV xs ys).length = q) :
    Calls Try.prog 50 #[.slice ao n c, .slice bo m d] w fun e w' => ∃ a' c', e = .returned (.tuple #[.slice a' q c', .bool (mergeB xs ys)]) ∧ OwnS w' w.heap.size (.slice a' q c') (mergeV xs ys) ∧ Below w.heap.size w w' := by
  have hx := hr.rd'.1
  have hy := hs.rd'.1
  by_cases h : stsB xs = true ∧ stsB ys = true
  · have hnil : ao = none → n = 0 ∧ c = 0 := by
      intro e
      rcases hr.form with ⟨h1, _⟩ | ⟨g, cap, h1, _⟩
      · injection h1 with h1 h2 h3; exact ⟨h2, h3⟩
      · injection h1 with h1 h2 h3; rw [e] at h1; cases h1
    refine (implMerge_go ao n c bo m d xs ys w hx hy (hx ▸ stsB_len h.1) (hy ▸ stsB_len h.2) hr.rd'.2 hs.rd'.2 h.1 h.2 hnil).mono ?_
    rintro e w' ⟨a', p, c', rfl, ho, hb⟩
    have e1 : mergeB xs ys = decide ((mergeL xs ys).length ≤ 60) := by simp only [mergeB, h.1, h.2, Bool.true_and]
    have e2 : mergeV xs ys = (if (mergeL xs ys).length ≤ 60 then mergeL xs ys else []) := by simp only [mergeV, e1, decide_eq_true_eq]
    obtain rfl : q = p := by rw [← hq, e2]; exact ho.rd'.1
    rw [e1, e2]
    exact ⟨a', c', rfl, ho, hb⟩
  · refine (implMerge_no ao n c bo m d xs ys w hx hy hn hm hr.rd'.2 hs.rd'.2 h).mono ?_
    rintro e w' ⟨a', c', rfl, ho, hb⟩
    have e1 : mergeB xs ys = false := by
      rw [Bool.eq_false_iff]; intro g; unfold mergeB at g; rw [Bool.and_eq_true, Bool.and_eq_true] at g; exact h ⟨g.1, g.2.1⟩
    have e2 : mergeV xs ys = [] := by simp only [mergeV, e1]; rfl
    obtain rfl : q = 0 := by rw [← hq, e2]; rfl
    rw [e1, e2]
    exact ⟨a', c', rfl, ho, hb⟩

theorem specMerge_c (ao : Option Addr) (n c : Nat) (bo : Option Addr) (m d : Nat) (xs ys : List St) (w : World) (hn : n ≤ 17592186044416) (hm : m ≤ 17592186044416) (base base' : Nat) (hr : OwnS w base (.slice ao n c) xs) (hs : OwnS w base' (.slice bo m d) ys) (q : Nat) (hq : (mergeV xs ys).length = q) :
    Calls Try.prog 51 #[.slice ao n c, .slice bo m d] w fun e w' => ∃ a' c', e = .returned (.tuple #[.slice a' q c', .bool (mergeB xs ys)]) ∧ OwnS w' w.heap.size (.slice a' q c') (mergeV xs ys) ∧ Below w.heap.size w w' := by
  have hx := hr.rd'.1
  have hy := hs.rd'.1
  by_cases h : stsB xs = true ∧ stsB ys = true
  · have hnil : ao = none → n = 0 ∧ c = 0 := by
      intro e
      rcases hr.form with ⟨h1, _⟩ | ⟨g, cap, h1, _⟩
      · injection h1 with h1 h2 h3; exact ⟨h2, h3⟩
      · injection h1 with h1 h2 h3; rw [e] at h1; cases h1
    refine (specMerge_go ao n c bo m d xs ys w hx hy (hx ▸ stsB_len h.1) (hy ▸ stsB_len h.2) hr.rd'.2 hs.rd'.2 h.1 h.2 hnil).mono ?_
    rintro e w' ⟨a', p, c', rfl, ho, hb⟩
    have e1 : mergeB xs ys = decide ((mergeL xs ys).length ≤ 60) := by simp only [mergeB, h.1, h.2, Bool.true_and]
    have e2 : mergeV xs ys = (if (mergeL xs ys).length ≤ 60 then mergeL xs ys else []) := by simp only [mergeV, e1, decide_eq_true_eq]
    obtain rfl : q = p := by rw [← hq, e2]; exact ho.rd'.1
    rw [e1, e2]
    exact ⟨a', c', rfl, ho, hb⟩
  · refine (specMerge_no ao n c bo m d xs ys w hx hy hn hm hr.rd'.2 hs.rd'.2 h).mono ?_
    rintro e w' ⟨a', c', rfl, ho, hb⟩
    have e1 : mergeB xs ys = false := by
      rw [Bool.eq_false_iff]; intro g; unfold mergeB at g; rw [Bool.and_eq_true, Bool.and_eq_true] at g; exact h ⟨g.1, g.2.1⟩
    have e2 : mergeV xs ys = [] := by simp only [mergeV, e1]; rfl
    obtain rfl : q = 0 := by rw [← hq, e2]; rfl
    rw [e1, e2]
    exact ⟨a', c', rfl, ho, hb⟩

theorem mergeV_len (xs ys : List St) : (mergeV xs ys).length ≤ 60 := by
  unfold mergeV
  split
  · rename_i h; unfold mergeB at h; rw [Bool.and_eq_true, Bool.and_eq_true] at h; exact of_decide_eq_true h.2.2
  · simp

end Go.Proofs.Ytleddlfojogdiaa

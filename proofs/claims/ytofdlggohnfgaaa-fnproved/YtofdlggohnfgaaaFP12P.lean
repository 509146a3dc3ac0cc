/- Chapter 12: plain facts: what the statements of a claim that was run prove. -/
import Derived.Test.YtofdlggohnfgaaaTC12
import Derived.Test.YtofdlggohnfgaaaG12
namespace Go.Proofs.Ytofdlggohnfgaaa
set_option linter.unusedVariables false
set_option maxRecDepth 1000000
set_option linter.unusedSimpArgs false
open Go.RowKit

theorem runL_at (hand : Bool) (ws : List Bool) (c : Cl) {s : St} (h : s ∈ runL hand ws c) : ∃ j, j < ws.length ∧ s = ((j : Int), c.1, c.2.1, c.2.2, ws.getD j false != hand) := by
  unfold runL at h
  obtain ⟨j, hj, rfl⟩ := List.mem_map.1 h
  exact ⟨j, List.mem_range.1 hj, rfl⟩

theorem runL_in (hand : Bool) (ws : List Bool) (c : Cl) {j : Nat} (h : j < ws.length) : ((j : Int), c.1, c.2.1, c.2.2, ws.getD j false != hand) ∈ runL hand ws c :=
  List.mem_map.2 ⟨j, List.mem_range.2 h, rfl⟩

theorem runL_good {hand : Bool} {ws : List Bool} {c : Cl} (h : runB ws c = true) : stsB (runL hand ws c) = true := by
  unfold runB at h
  rw [Bool.and_eq_true] at h
  have h7 := of_decide_eq_true h.1
  unfold stsB
  rw [Bool.and_eq_true, List.all_eq_true]
  refine ⟨fun s hs => ?_, decide_eq_true (by rw [runL_length]; omega)⟩
  obtain ⟨j, hj, rfl⟩ := runL_at hand ws c hs
  have hc : clB (whatS ((j : Int), c.1, c.2.1, c.2.2, ws.getD j false != hand)) = true := h.2
  unfold stB
  rw [hc, Bool.and_true]
  exact decide_eq_true ⟨by simp, by simp; omega⟩

theorem ref_run (hand : Bool) (ws : List Bool) (c : Cl) (m : Nat) : refB (runL hand ws c) c m = (decide (m < ws.length) && (ws.getD m false != hand)) := by
  unfold refB
  by_cases hm : m < ws.length
  · have hy : saysY (runL hand ws c) c m = (ws.getD m false != hand) := by
      unfold saysY
      rw [Bool.eq_iff_iff, List.any_eq_true]
      constructor
      · rintro ⟨s, hs, hb⟩
        obtain ⟨j, hj, rfl⟩ := runL_at hand ws c hs
        simp only [Bool.and_eq_true, decide_eq_true_eq] at hb
        have : j = m := by omega
        subst this
        exact hb.2.2
      · intro hv
        refine ⟨_, runL_in hand ws c hm, ?_⟩
        simp only [Bool.and_eq_true, decide_eq_true_eq]
        refine ⟨?_, ?_, hv⟩ <;> first | trivial | rfl
    have hn : saysN (runL hand ws c) c m = !(ws.getD m false != hand) := by
      unfold saysN
      rw [Bool.eq_iff_iff, List.any_eq_true]
      constructor
      · rintro ⟨s, hs, hb⟩
        obtain ⟨j, hj, rfl⟩ := runL_at hand ws c hs
        simp only [Bool.and_eq_true, decide_eq_true_eq] at hb
        have : j = m := by omega
        subst this
        exact hb.2.2
      · intro hv
        refine ⟨_, runL_in hand ws c hm, ?_⟩
        simp only [Bool.and_eq_true, decide_eq_true_eq]
        refine ⟨?_, ?_, hv⟩ <;> first | trivial | rfl
    rw [hy, hn, decide_eq_true hm]
    cases (ws.getD m false != hand) <;> rfl
  · have hy : saysY (runL hand ws c) c m = false := by
      rw [Bool.eq_false_iff]
      intro h
      unfold saysY at h
      obtain ⟨s, hs, hb⟩ := List.any_eq_true.1 h
      obtain ⟨j, hj, rfl⟩ := runL_at hand ws c hs
      simp only [Bool.and_eq_true, decide_eq_true_eq] at hb
      omega
    rw [hy, decide_eq_false hm]
    rfl

theorem refTo_run (hand : Bool) (ws : List Bool) (c : Cl) : ∀ m, (refTo (runL hand ws c) c m).length = (ws.take m).countP (fun b => b != hand) := by
  intro m
  induction m with
  | zero => simp [refTo]
  | succ m ih =>
    rw [refTo_succ, ref_run]
    by_cases hm : m < ws.length
    · rw [take_snocT (d := false) hm, List.countP_append, ← ih, decide_eq_true hm, Bool.true_and]
      by_cases hb : (ws.getD m false != hand) = true
      · rw [if_pos hb, List.length_append, List.countP_singleton, if_pos hb]; rfl
      · rw [if_neg hb, List.countP_singleton, if_neg hb]; rfl
    · rw [decide_eq_false hm, Bool.false_and, if_neg (by decide), ih, List.take_of_length_le (by omega), List.take_of_length_le (by omega)]

theorem ref_count (hand : Bool) (ws : List Bool) (c : Cl) (h : ws.length ≤ 7) : (refL (runL hand ws c) c).length = ws.countP (fun b => b != hand) := by
  unfold refL
  rw [refTo_run, List.take_of_length_le h]

/-- How many of the first j witnesses are honest. -/
def honN (ws : List Bool) (j : Nat) : Nat := (ws.take j).countP (fun b => b)

theorem honN_succ {ws : List Bool} {j : Nat} (h : j < ws.length) : honN ws (j + 1) = honN ws j + (if ws.getD j false = true then 1 else 0) := by
  unfold honN
  rw [take_snocT (d := false) h, List.countP_append, List.countP_singleton]

theorem honN_le (ws : List Bool) (j : Nat) : honN ws j ≤ j := Nat.le_trans List.countP_le_length (by rw [List.length_take]; omega)

theorem count_liars : ∀ ws : List Bool, ws.countP (fun b => b != true) + ws.countP (fun b => b) = ws.length
  | [] => rfl
  | b :: r => by
    have := count_liars r
    cases b <;> simp [List.countP_cons] at * <;> omega

theorem count_honest : ∀ ws : List Bool, ws.countP (fun b => b != false) = ws.countP (fun b => b)
  | [] => rfl
  | b :: r => by
    have := count_honest r
    cases b <;> simp [List.countP_cons] at *

/-- What is proved of a claim that was run: with f faults. -/
theorem proved_run {hand : Bool} {ws : List Bool} {c : Cl} (h : runB ws c = true) (f : Nat) (hf : f ≤ 2) : provedOk f (runL hand ws c) c = true ∧ provedV f (runL hand ws c) c = decide ((f : Int) < (if hand then ((ws.length - honN ws ws.length : Nat) : Int) else (honN ws ws.length : Int))) := by
  have h7 : ws.length ≤ 7 := by have := h; unfold runB at this; rw [Bool.and_eq_true] at this; exact of_decide_eq_true this.1
  have hc : clB c = true := by have := h; unfold runB at this; rw [Bool.and_eq_true] at this; exact this.2
  have hin : inB (f : Int) 0 2 = true := decide_eq_true ⟨by omega, by omega⟩
  have e1 : provedOk f (runL hand ws c) c = true := by unfold provedOk; rw [runL_good h, hc, hin]; rfl
  refine ⟨e1, ?_⟩
  unfold provedV
  rw [if_pos e1]
  unfold provedB
  rw [ref_count hand ws c h7]
  have ht : honN ws ws.length = ws.countP (fun b => b) := by unfold honN; rw [List.take_of_length_le (Nat.le_refl _)]
  rw [ht]
  cases hand
  · rw [count_honest]; rfl
  · have := count_liars ws
    have e : ws.countP (fun b => b != true) = ws.length - ws.countP (fun b => b) := by omega
    rw [e]; rfl

end Go.Proofs.Ytofdlggohnfgaaa

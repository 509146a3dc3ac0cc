/- The specification's ReduceBig. -/
import Derived.Test.YtaedplfihjfchaaDoorSpecDivl
import Derived.Test.YtaedplfihjfchaaDoorRedNl
import Derived.Deep.RegionHeld3
import Derived.Deep.AppendLies
import Derived.Deep.DrawnRows
import Derived.Deep.DeepCutAuto
import Derived.Deep.Light
namespace Go.Proofs.YtaedplfihjfchaaDoor
set_option linter.unusedVariables false
set_option maxRecDepth 1000000
set_option linter.unusedSimpArgs false
open Go.RowKit

/-- What may be reduced. -/
def redOK (xs ys : List Int) : Prop := ys.length = 1 ∧ ys.getD 0 0 % 2 = 1 ∧ ys.getD 0 0 ≠ 1 ∧ val xs < 65536 * ys.getD 0 0
instance (xs ys : List Int) : Decidable (redOK xs ys) := by unfold redOK; infer_instance
def redF (xs ys : List Int) : List Int × Bool := if goodB xs && goodB ys then (if redOK xs ys then (bigL (redS (ys.getD 0 0) (val xs) 16), true) else ([], false)) else ([], false)

theorem redF_short {xs ys zs : List Int} {fb : Bool} (h : redF xs ys = (zs, fb)) : zs.length ≤ 6 := by
  unfold redF at h
  split at h
  · split at h
    · rename_i hg hk
      simp only [Prod.mk.injEq] at h
      obtain ⟨rfl, rfl⟩ := h
      have hp : 0 < ys.getD 0 0 ∧ ys.getD 0 0 < 65536 := by
        have hy : goodB ys = true := by simp at hg; exact hg.2
        have := (goodB_digs hy).2.1.getD 0
        have h2 := hk.2.1
        omega
      have hb := redS_bd (A := val xs) hp.1 16
      exact digits_short _ _ 6 (by
        have e : (65536 : Int) ^ 6 = 79228162514264337593543950336 := by decide
        rw [e]; omega)
    · simp only [Prod.mk.injEq] at h; rw [← h.1]; simp
  · simp only [Prod.mk.injEq] at h; rw [← h.1]; simp

theorem takeD {P : Program} {ops : Array Oper} {Q : Exit → Act → World → Prop} {md : Region.Mode} {S : World → Prop} {i : Nat} {oi : Oper} {v : Value} {d : Option Tmp} {fuel : Nat} {listed : Array Bool} {a : Act} {w : World} (hi : ops[i]? = some oi) (hd : oi.dst = d)
    (hs : Region.noSelect ops = true) (hf : Region.free md ops listed i = true) (hr : (Region.ready md ops listed).contains i = true)
    (hQ : ∀ c a w, Q (.panic c) (a.put d v) w → Q (.panic c) a w) (hy : YieldsIf P ops S oi v a) (hS : S w)
    (h : wpAnyH P md ops Q S fuel (listed.setIfInBounds i true) (a.put d v) w) : wpAnyH P md ops Q S (fuel + 1) listed a w := by
  subst hd
  exact wpAnyH_take hi hs hf hr hQ hy hS h

theorem redmul_bd {a b A B : Int} (a0 : 0 ≤ a) (a1 : a ≤ A) (b0 : 0 ≤ b) (b1 : b ≤ B) : 0 ≤ a * b ∧ a * b ≤ A * B :=
  ⟨Int.mul_nonneg a0 b0, Int.mul_le_mul a1 b1 b0 (by omega)⟩

theorem bigL_one {n : Int} (h0 : 0 ≤ n) (h1 : n < 65536) : (bigL n).getD 0 0 = n := by
  have hs : (bigL n).length ≤ 1 := digits_short _ _ 1 (by simpa using h1)
  have hv := (bigL_spec h0).2.1
  generalize bigL n = l at hs hv
  match l, hs with
  | [], _ => simpa [val] using hv
  | [x], _ => simpa [val] using hv

theorem own_oneI (w : World) (x : Int) : Own (w.alloc (.cells #[.int .i64 x] 3)) w.heap.size (.slice (some ⟨w.heap.size, 0, none⟩) 1 1) [x] := by
  have := World.ownsRow_lit (base := w.heap.size) (e := 3) (size := 1) w #[.int .i64 x] 1 (Nat.le_refl _) (by unfold maxLen; omega) (by simp)
  simpa [Own, cellsI] using this
theorem one_news {w : World} {b o : Nat} {x : Value} (h : w.cell? ⟨b, o, none⟩ = some x) : ∀ j u, [x][j]? = some u → w.cell? ((⟨b, o, none⟩ : Addr).add j) = some u := by
  intro j u hj
  match j, hj with
  | 0, hj => simp at hj; subst hj; exact h
  | j + 1, hj => simp at hj

end Go.Proofs.YtaedplfihjfchaaDoor

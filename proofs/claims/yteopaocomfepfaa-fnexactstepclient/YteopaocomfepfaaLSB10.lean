/- The law on StepClient: what its regions want. -/
import Derived.Test.YteopaocomfepfaaSD10
import Derived.Test.YteopaocomfepfaaE10
import Derived.Test.YteopaocomfepfaaWF10
import Derived.Test.YteopaocomfepfaaK10
namespace Go.Proofs.Yteopaocomfepfaa
set_option linter.unusedVariables false
set_option maxRecDepth 1000000
set_option linter.unusedSimpArgs false
open Go.RowKit

def sndSeq2 : Code → Code | .seq _ b => b | c => c
def fstSeq2 : Code → Code | .seq a _ => a | c => c
def unBlock2 : Code → Code | .block _ c => c | c => c

theorem ownS_put3 {w : World} {base r : Nat} {v u0 u1 u2 : Value} {xs : List ByteArray} (h : OwnS w base v xs) (hne : ∀ k, v.ownBlock = some k → k ≠ r) : OwnS (((w.setCell ⟨r, 0, none⟩ u0).setCell ⟨r, 1, none⟩ u1).setCell ⟨r, 2, none⟩ u2) base v xs := by
  have hs : v.ownBlock = none ∨ v.ownBlock ≠ some r := by
    cases hv : v.ownBlock with
    | none => exact Or.inl rfl
    | some k => exact Or.inr fun e => hne k hv (by simpa using e)
  exact ((h.kept (grown_setCell _ _ _ _) hs).kept (grown_setCell _ _ _ _) hs).kept (grown_setCell _ _ _ _) hs
theorem stepV_zero {q : List ByteArray} {t y k : Int} {s : ByteArray} (h : (stepV q t y k s).ok = false) : stepV q t y k s = zeroSt := by
  by_cases h1 : sayOk q k s = true
  · rw [stepV_say h1] at h; cases h
  · by_cases h2 : tickOk t k s = true
    · rw [stepV_tick h1 h2] at h; cases h
    · exact stepV_no h1 h2

end Go.Proofs.Yteopaocomfepfaa

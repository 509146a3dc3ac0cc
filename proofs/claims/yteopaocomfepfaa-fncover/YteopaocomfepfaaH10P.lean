/- Chapter 10: plain facts of FnCover: what was said, step by step; every text that goes out is fine. -/
import Derived.Test.YteopaocomfepfaaG10P
namespace Go.Proofs.Yteopaocomfepfaa
set_option linter.unusedVariables false
set_option maxRecDepth 1000000
set_option linter.unusedSimpArgs false

theorem saidL_succ {l : List (Int × ByteArray)} {d : List Bool} {k : Nat} (h1 : k < l.length) (h2 : k < d.length) : saidL (l.take (k + 1)) (d.take (k + 1)) = if d.getD k false = true ∧ (l.getD k (0, ByteArray.empty)).1 = 1 then saidL (l.take k) (d.take k) ++ [(l.getD k (0, ByteArray.empty)).2] else saidL (l.take k) (d.take k) := by
  unfold saidL
  rw [take_snoc (0, ByteArray.empty) h1, take_snoc false h2, List.zip_append (by simp [List.length_take]; omega), List.filter_append, List.map_append]
  generalize l.getD k (0, ByteArray.empty) = x
  generalize d.getD k false = b
  by_cases hb : b = true
  · by_cases hx : x.1 = 1
    · simp [hb, hx]
    · simp [hb, hx]
  · simp [hb]

theorem saidL_len (l : List (Int × ByteArray)) (d : List Bool) : (saidL l d).length ≤ l.length := by
  unfold saidL
  rw [List.length_map]
  refine Nat.le_trans (List.length_filter_le _ _) ?_
  rw [List.length_zip]
  exact Nat.min_le_left _ _

theorem said_fine {y : Int} {l : List (Int × ByteArray)} (hy : waysB y = true) (h8 : l.length ≤ 80) (i : Nat) (hi : i < (playV y l).tx.length) : (gK (saidL l (playV y l).did) ((playV y l).tx.take i) < (saidL l (playV y l).did).length ∧ (saidL l (playV y l).did).getD (gK (saidL l (playV y l).did) ((playV y l).tx.take i)) ByteArray.empty = (playV y l).tx.getD i ByteArray.empty) ∨ (playV y l).tx.getD i ByteArray.empty = ByteArray.empty := by
  obtain ⟨a, ha, hs⟩ := play_out y l hy (by omega) l.length (Nat.le_refl _)
  rw [List.take_length] at ha hs
  rw [hs]
  exact out_fine ha _ i hi

end Go.Proofs.Yteopaocomfepfaa

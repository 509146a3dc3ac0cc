/- Chapter 7, the program's helpers over rows of bytes. -/
import Derived.Test.YtlepejafednlfaaR9Y
import Derived.Lib.UnsafeStr
import Derived.Lib.BufferWrite
namespace Go.Proofs.Ytlepejafednlfaa
set_option linter.unusedVariables false
set_option maxRecDepth 1000000
set_option linter.unusedSimpArgs false
open Go.RowKit

theorem xor_step {l m : Bs} {k : Nat} (z : Bs) (hk : k < l.length) (hlm : l.length = m.length) (hz : z.length = l.length) (ht : z = (xorB l m).take k ++ l.drop k) : z.set k (z.getD k 0 ^^^ m.getD k 0) = (xorB l m).take (k + 1) ++ l.drop (k + 1) := by
  have hx := xorB_length hlm
  have e1 : ((xorB l m).take k).length = k := by rw [List.length_take]; omega
  have hg : z.getD k 0 = l.getD k 0 := by
    rw [ht, List.getD, List.getElem?_append_right (by omega), e1, List.getElem?_drop, List.getD]; congr 2; omega
  rw [hg, ← xorB_get hlm hk, ht]
  rw [List.set_append_right _ _ (by omega), e1, Nat.sub_self, List.drop_eq_getElem_cons hk, List.set_cons_zero, List.take_succ_eq_append_getElem (show k < (xorB l m).length by omega), List.append_assoc]
  congr 1
  show _ = [(xorB l m)[k]] ++ l.drop (k + 1)
  rw [List.getD, List.getElem?_eq_getElem (show k < (xorB l m).length by omega)]
  rfl

theorem wsum_lt (l : Bs) (k : Nat) (h : k ≤ 40) : wsum l k ≤ 418200 := by have := wsum_le l k h; omega

theorem RowB.cellsAt {w : World} {g o n : Nat} {l m : Bs} (h : RowB w g l) (hm : (l.drop o).take n = m) (hn : o + n ≤ l.length) : ∀ j, j < n → w.cell? ⟨g, o + j, none⟩ = some (.int .u8 (bN m j : Nat)) := fun j hj => by
  rw [h.1 (o + j) (by omega)]
  unfold bN
  rw [← hm]
  congr 4
  rw [List.getD, List.getD, List.getElem?_take, if_pos hj, List.getElem?_drop]

end Go.Proofs.Ytlepejafednlfaa

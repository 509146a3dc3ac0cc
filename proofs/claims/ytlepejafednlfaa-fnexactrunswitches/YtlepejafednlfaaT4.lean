/- Texts two bytes by two: the program's helpers. -/
import Derived.Test.YtlepejafednlfaaK4
import Derived.Laws.BytesArg
import Derived.BigRegion
namespace Go.Proofs.Ytlepejafednlfaa
set_option linter.unusedVariables false
set_option maxRecDepth 1000000
set_option linter.unusedSimpArgs false
open Go.RowKit

theorem Try.infoByte : (Try.prog.info? 5).map (fun i => (i.zero, i.size, i.bytes)) = some (some (.int .u8 0), 1, 1) := by kernel_rfl
def cellsU (xs : List Int) : List Value := xs.map (Value.int .u8)
theorem getD_map_u8 (xs : List Int) (j : Nat) (h : j < xs.length) : (cellsU xs)[j]? = some (.int .u8 (xs.getD j 0)) := by
  unfold cellsU; simp [List.getD, h]
def OwnU (w : World) (base : Nat) (v : Value) (xs : List Int) : Prop := w.ownsRow base 5 1 v xs.length (cellsU xs)

def byteN (s : ByteArray) (i : Nat) : Nat := (s.get! i).toNat
theorem byteN_lt (s : ByteArray) (i : Nat) : byteN s i < 256 := (s.get! i).toNat_lt
theorem byteN_eq {s : ByteArray} {i : Nat} (h : i < s.size) : (s[i]'h).toNat = byteN s i := by
  unfold byteN
  congr 1
  simp [ByteArray.get!, ByteArray.get, h, getElem!_def]
  first | rfl | (rw [Array.getElem?_eq_getElem (by exact h)]; rfl) | skip
def pairN (s : ByteArray) (i : Nat) : Nat := 256 * byteN s i + byteN s (i + 1)
theorem pairN_lt (s : ByteArray) (i : Nat) : pairN s i < 65536 := by
  have := byteN_lt s i; have := byteN_lt s (i + 1); unfold pairN; omega
def pairsB (s : ByteArray) : Bool := decide (s.size ≤ 40 ∧ s.size % 2 = 0)

theorem cell_new2 (w : World) (v u : Value) (t : TypeId) : ∀ j x, [v, u][j]? = some x → (w.alloc (.cells #[v, u] t)).cell? ((⟨w.heap.size, 0, none⟩ : Addr).add j) = some x := by
  intro j x hj
  match j, hj with
  | 0, hj => simp at hj; subst hj; rw [Go.WideShapes.add_plain]; simp
  | 1, hj => simp at hj; subst hj; rw [Go.WideShapes.add_plain]; simp
  | j + 2, hj => simp at hj

end Go.Proofs.Ytlepejafednlfaa

/- Chapter 7: rows of bytes that may be written. -/
import Derived.Test.YtlepejafednlfaaP7
import Derived.Test.YtlepejafednlfaaTS4
import Derived.Laws.IdiomStrings
import Derived.Laws.IdiomCopy
import Derived.Laws.MakeOwn
import Derived.Lib.LazyBuf
import Derived.Lib.SliceRun
namespace Go.Proofs.Ytlepejafednlfaa
set_option linter.unusedVariables false
set_option maxRecDepth 1000000
set_option linter.unusedSimpArgs false
open Go.RowKit

def cellsY (l : Bs) : List Value := l.map fun x => Value.int .u8 (x.toNat : Int)
theorem cellsY_length (l : Bs) : (cellsY l).length = l.length := by simp [cellsY]
theorem cellsY_get (l : Bs) (j : Nat) (h : j < l.length) : (cellsY l)[j]? = some (.int .u8 (bN l j : Nat)) := by
  unfold cellsY bN
  simp [List.getD, h]
theorem cellsY_oneCell (l : Bs) : ∀ v ∈ cellsY l, v.oneCell' = true := by
  intro v hv
  obtain ⟨x, _, rfl⟩ := List.mem_map.1 hv
  rfl

/-- Block g's first cells are the bytes l, and may be written. -/
def RowB (w : World) (g : Nat) (l : Bs) : Prop :=
  (∀ j, j < l.length → w.cell? ⟨g, j, none⟩ = some (.int .u8 (bN l j : Nat))) ∧ (∀ j, j < l.length → w.frozen? ⟨g, j, none⟩ = false)

theorem RowB.lt {w : World} {g : Nat} {l : Bs} (h : RowB w g l) (hl : 0 < l.length) : g < w.heap.size := World.block_lt_of_cell? w _ (h.1 0 hl)
theorem RowB.set {w : World} {g : Nat} {l : Bs} (h : RowB w g l) {k : Nat} (hk : k < l.length) (b : UInt8) : RowB (w.setCell ⟨g, k, none⟩ (.int .u8 (b.toNat : Int))) g (l.set k b) := by
  refine ⟨fun j hj => ?_, fun j hj => ?_⟩
  · by_cases e : j = k
    · subst e
      rw [World.cell?_setCell_same _ _ _ (h.1 j hk)]
      simp [bN, List.getD, hk]
    · rw [World.cell?_setCell_other _ _ _ _ (by simp [Ne.symm e]), h.1 j (by simpa using hj)]
      simp [bN, List.getD, List.getElem?_set, show k ≠ j by omega]
  · rw [World.frozen?_setCell]; exact h.2 j (by simpa using hj)
/-- Bytes written over others. -/
def overB (l : Bs) (o : Nat) (m : Bs) : Bs := l.take o ++ (m ++ l.drop (o + m.length))
theorem overB_length {l m : Bs} {o : Nat} (h : o + m.length ≤ l.length) : (overB l o m).length = l.length := by simp [overB]; omega
theorem overB_in {l m : Bs} {o j : Nat} (h : o + m.length ≤ l.length) (hj : j < m.length) : (overB l o m).getD (o + j) 0 = m.getD j 0 := by
  have e : (l.take o).length = o := by rw [List.length_take]; omega
  unfold overB
  rw [List.getD, List.getElem?_append_right (by omega), e, List.getElem?_append_left (by omega), List.getD]
  congr 2; omega
theorem overB_out {l m : Bs} {o j : Nat} (h : o + m.length ≤ l.length) (hj : j < o ∨ o + m.length ≤ j) : (overB l o m).getD j 0 = l.getD j 0 := by
  have e : (l.take o).length = o := by rw [List.length_take]; omega
  unfold overB
  rcases hj with hj | hj
  · rw [List.getD, List.getElem?_append_left (by omega), List.getElem?_take, if_pos hj, List.getD]
  · rw [List.getD, List.getElem?_append_right (by omega), e, List.getElem?_append_right (by omega), List.getElem?_drop, List.getD]
    congr 2; omega
theorem RowB.sets {w : World} {g : Nat} {l m : Bs} {o : Nat} (h : RowB w g l) (hf : o + m.length ≤ l.length) : RowB (w.setCells g o (cellsY m)) g (overB l o m) := by
  have hl := overB_length hf
  refine ⟨fun j hj => ?_, fun j hj => ?_⟩
  · rw [hl] at hj
    by_cases e : o ≤ j ∧ j < o + m.length
    · obtain ⟨i, rfl⟩ : ∃ i, j = o + i := ⟨j - o, by omega⟩
      have hi : i < m.length := by omega
      have := World.cell?_setCells_in g (cellsY m) o w (fun q hq => by rw [cellsY_length] at hq; rw [h.1 _ (by omega)]; rfl) i (by rw [cellsY_length]; exact hi)
      rw [this]
      unfold bN
      rw [overB_in hf hi]
      simp [cellsY, List.getD, hi]
    · rw [World.cell?_setCells_out g (cellsY m) o w _ (fun _ _ => by rw [cellsY_length]; show j < o ∨ _ ≤ j; omega), h.1 j hj]
      unfold bN
      rw [overB_out hf (by omega)]
  · rw [World.frozen?_setCells]; rw [hl] at hj; exact h.2 j hj
theorem RowB.later {w w' : World} {g : Nat} {l : Bs} (h : RowB w g l) (hb : Below w.heap.size w w') : RowB w' g l := by
  refine ⟨fun j hj => ?_, fun j hj => ?_⟩
  · rw [hb.cell (p := ⟨g, j, none⟩) (World.block_lt_of_cell? w _ (h.1 j hj))]; exact h.1 j hj
  · rw [hb.frozen (p := ⟨g, j, none⟩) (World.block_lt_of_cell? w _ (h.1 j hj))]; exact h.2 j hj
theorem RowB.kept {w w' : World} {g r : Nat} {l : Bs} (h : RowB w g l) (hg : w.grownBy w' (some r)) (hne : g ≠ r) : RowB w' g l := by
  have hb : ∀ j, j < l.length → w'.heap[g]? = w.heap[g]? := fun j hj => hg.block g (World.block_lt_of_cell? w _ (h.1 j hj)) (by simp; exact hne)
  refine ⟨fun j hj => ?_, fun j hj => ?_⟩
  · rw [World.cell?_of_block (w := w) (hb j hj)]; exact h.1 j hj
  · rw [World.frozen?_of_block (w := w) (hb j hj)]; exact h.2 j hj

theorem grown_trans {a b c : World} {r : Option Nat} (h : a.grownBy b r) (k : b.grownBy c r) : a.grownBy c r :=
  ⟨k.os.trans h.os, k.tape.trans h.tape, k.output.trans h.output, Nat.le_trans h.size k.size, fun q hq hne => (k.block q (Nat.lt_of_lt_of_le hq h.size) hne).trans (h.block q hq hne)⟩
theorem grown_below {a b : World} {r : Option Nat} (h : Below a.heap.size a b) : a.grownBy b r := ⟨h.os, h.tape, h.output, h.size, fun q hq _ => h.block q hq⟩
theorem grown_setCell (w : World) (g k : Nat) (v : Value) : w.grownBy (w.setCell ⟨g, k, none⟩ v) (some g) := by
  have hb : Below 0 w (w.setCell ⟨g, k, none⟩ v) := (Below.refl 0 w).setCell (by omega) v
  exact ⟨hb.os, hb.tape, hb.output, hb.size, fun q hq hne => Below.heap_setCell w _ v q (fun e => hne (by rw [e]))⟩
theorem grown_setCells (g : Nat) : ∀ (vs : List Value) (o : Nat) (w : World), w.grownBy (w.setCells g o vs) (some g)
  | [], _, w => World.grownBy.refl _ _
  | v :: r, o, w => grown_trans (grown_setCell w g o v) (grown_setCells g r (o + 1) _)
theorem below_grown {a b : World} {g B : Nat} (h : a.grownBy b (some g)) (hB : B ≤ g) (hs : B ≤ a.heap.size) : Below B a b :=
  ⟨h.os, h.tape, h.output, h.size, fun q hq => h.block q (by omega) (fun e => by simp at e; omega)⟩

/-- A text's bytes laid into a new row. -/
theorem bytes_new (s : ByteArray) (w : World) : ∃ c W, (convert 9 22 (.string s)).run Try.prog w = .ok (.slice (some ⟨w.heap.size, 0, none⟩) s.size c) W ∧ s.size ≤ c ∧ RowB W w.heap.size (bl s) ∧ Below w.heap.size w W ∧ W.heap.size = w.heap.size + 1 := by
  have hr := run_bytes_of_string (P := Try.prog) w 9 22 5 s Try.underlying9 Try.underlying22 Try.underlying5
  have hc : s.size ≤ grownCap w s.size 0 5 := grownCap_ge _ _ _ _
  refine ⟨_, _, hr, hc, ?_, ?_, ?_⟩
  · generalize grownCap w s.size 0 5 = c at hc
    have hsz : (bytesRow s c).size = c := by
      unfold bytesRow
      rw [Array.size_append, Array.size_map, Array.size_replicate]
      have : s.data.size = s.size := rfl
      omega
    refine ⟨fun j hj => ?_, fun j hj => ?_⟩
    · rw [bl_length] at hj
      show (w.drew.alloc _).cell? ⟨w.drew.heap.size, j, none⟩ = _
      rw [World.cell?_alloc_mark, bytesRow_at s c j hj]
      congr 3
      unfold bN bl
      have hj' : j < s.data.toList.length := by rw [Array.length_toList]; exact hj
      rw [List.getD, List.getElem?_eq_getElem hj', Option.getD_some, Array.getElem_toList]
    · rw [bl_length] at hj
      show (w.drew.alloc _).frozen? ⟨w.drew.heap.size, j, none⟩ = _
      rw [World.frozen?_alloc_mark, hsz, decide_eq_false (show ¬ c ≤ j by omega), Bool.false_and]
  · exact ((Below.refl _ w).drew).alloc (Nat.le_refl _) _
  · show (w.drew.heap.push _).size = _
    rw [Array.size_push]; rfl

theorem getD_byteInt (l : Bs) (i : Nat) (h : i < l.length) : (l.map fun b => (b.toNat : Int)).getD i 0 = (bN l i : Nat) := by
  simp [bN, List.getD, h]
theorem strOfNums_bytes (l : Bs) : strOfNums (l.map fun b => (b.toNat : Int)) = tx l := by
  unfold strOfNums tx
  congr 2
  rw [List.map_map]
  conv => rhs; rw [← List.map_id l]
  refine List.map_congr_left fun b _ => ?_
  show UInt8.ofNat ((b.toNat : Int).toNat) = b
  simp
/-- A row's bytes, or some of them, become a text. -/
theorem RowB.part {w : World} {g : Nat} {l : Bs} (h : RowB w g l) (o n c : Nat) (m : Bs) (hm : (l.drop o).take n = m) (hn : o + n ≤ l.length) : (convert 22 9 (.slice (some ⟨g, o, none⟩) n c)).run Try.prog w = .ok (.string (tx m)) w := by
  have hl : m.length = n := by rw [← hm, List.length_take, List.length_drop]; omega
  have := run_convert_bytes_arg (P := Try.prog) w 22 5 Try.underlying22 Try.underlying5 g o n c (m.map fun b => (b.toNat : Int)) (by rw [List.length_map, hl]) (fun i hi => by
    rw [getD_byteInt m i (by omega), h.1 (o + i) (by omega)]
    unfold bN
    rw [← hm]
    congr 4
    rw [List.getD, List.getD, List.getElem?_take, if_pos hi, List.getElem?_drop]) 9 Try.underlying9
  rw [this, strOfNums_bytes]
theorem RowB.text {w : World} {g : Nat} {l : Bs} (h : RowB w g l) (n c : Nat) (hn : l.length = n) : (convert 22 9 (.slice (some ⟨g, 0, none⟩) n c)).run Try.prog w = .ok (.string (tx l)) w :=
  h.part 0 n c l (by rw [List.drop_zero, List.take_of_length_le (by omega)]) (by omega)

theorem u8_xor (x y : UInt8) : bits .xor .u8 (x.toNat : Int) (y.toNat : Int) = ((x ^^^ y).toNat : Int) := by
  have key : (BitVec.ofInt 8 (x.toNat : Int) ^^^ BitVec.ofInt 8 (y.toNat : Int)).toNat = (x ^^^ y).toNat := by
    rw [BitVec.toNat_xor, UInt8.toNat_xor, BitVec.toNat_ofInt, BitVec.toNat_ofInt]
    have := x.toNat_lt
    have := y.toNat_lt
    congr 1 <;> omega
  have hlt := (x ^^^ y).toNat_lt
  show IntKind.u8.wrap ((BitVec.ofInt 8 (x.toNat : Int) ^^^ BitVec.ofInt 8 (y.toNat : Int)).toNat : Nat) = _
  rw [key]
  first | (rw [IntKind.wrap_u8]; omega) | (simp [IntKind.wrap]; omega)

theorem byteN_bl (s : ByteArray) (i : Nat) (h : i < s.size) : byteN s i = bN (bl s) i := by
  rw [← byteN_eq h]
  unfold bN bl
  have hj' : i < s.data.toList.length := by rw [Array.length_toList]; exact h
  rw [List.getD, List.getElem?_eq_getElem hj', Option.getD_some, Array.getElem_toList]
  rfl
theorem byte_at (s : ByteArray) (i : Nat) (h : i < s.size) : (s[i]'h).toNat = bN (bl s) i := (byteN_eq h).trans (byteN_bl s i h)

end Go.Proofs.Ytlepejafednlfaa

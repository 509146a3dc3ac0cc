/- Chapter 8: rows of bytes, and texts that are copied by the library. -/
import Derived.Test.YtjpegbodhpnflaaDoorP8
import Derived.Laws.IdiomStrings
import Derived.Laws.IdiomCopy
import Derived.Laws.MakeOwn
import Derived.Lib.LazyBuf
import Derived.Lib.SliceRun
import Derived.Lib.UnsafeStr
import Derived.Lib.BufferWrite
import Derived.Lib.Strings
import Derived.Lib.Walk
import Derived.Test.YtjpegbodhpnflaaDoorX12
namespace Go.Proofs.YtjpegbodhpnflaaDoor
set_option linter.unusedVariables false
set_option maxRecDepth 1000000
set_option linter.unusedSimpArgs false
open Go.RowKit


abbrev Bs := List UInt8

/-- A text of bytes. -/
def tx (l : Bs) : ByteArray := ⟨l.toArray⟩

def bl (s : ByteArray) : Bs := s.data.toList

theorem bl_tx (l : Bs) : bl (tx l) = l := rfl

theorem tx_bl (s : ByteArray) : tx (bl s) = s := by unfold tx bl; simp

theorem tx_size (l : Bs) : (tx l).size = l.length := by simp [tx, ByteArray.size]

theorem bl_length (s : ByteArray) : (bl s).length = s.size := Array.length_toList

theorem bl_inj {a b : ByteArray} (h : bl a = bl b) : a = b := by rw [← tx_bl a, ← tx_bl b, h]

def bN (l : Bs) (i : Nat) : Nat := (l.getD i 0).toNat

theorem bN_lt (l : Bs) (i : Nat) : bN l i < 256 := (l.getD i 0).toNat_lt

def zeros (n : Nat) : Bs := List.replicate n 0

theorem Tryd.infoByte : (Tryd.prog.info? 5).map (fun i => (i.zero, i.size, i.bytes)) = some (some (.int .u8 0), 1, 1) := by kernel_rfl

def cellsY (l : Bs) : List Value := l.map fun x => Value.int .u8 (x.toNat : Int)

theorem cellsY_length (l : Bs) : (cellsY l).length = l.length := by simp [cellsY]

theorem cellsY_get (l : Bs) (j : Nat) (h : j < l.length) : (cellsY l)[j]? = some (.int .u8 (bN l j : Nat)) := by
  unfold cellsY bN
  simp [List.getD, h]

theorem cellsY_oneCell (l : Bs) : ∀ v ∈ cellsY l, v.oneCell' = true := by
  intro v hv
  obtain ⟨x, _, rfl⟩ := List.mem_map.1 hv
  rfl

/-- Block g's first cells are the bytes l, and may be written. -/
def RowB (w : World) (g : Nat) (l : Bs) : Prop :=
  (∀ j, j < l.length → w.cell? ⟨g, j, none⟩ = some (.int .u8 (bN l j : Nat))) ∧ (∀ j, j < l.length → w.frozen? ⟨g, j, none⟩ = false)

/-- Bytes written over others. -/
def overB (l : Bs) (o : Nat) (m : Bs) : Bs := l.take o ++ (m ++ l.drop (o + m.length))

theorem overB_length {l m : Bs} {o : Nat} (h : o + m.length ≤ l.length) : (overB l o m).length = l.length := by simp [overB]; omega

theorem overB_in {l m : Bs} {o j : Nat} (h : o + m.length ≤ l.length) (hj : j < m.length) : (overB l o m).getD (o + j) 0 = m.getD j 0 := by
  have e : (l.take o).length = o := by rw [List.length_take]; omega
  unfold overB
  rw [List.getD, List.getElem?_append_right (by omega), e, List.getElem?_append_left (by omega), List.getD]
  congr 2; omega

theorem overB_out {l m : Bs} {o j : Nat} (h : o + m.length ≤ l.length) (hj : j < o ∨ o + m.length ≤ j) : (overB l o m).getD j 0 = l.getD j 0 := by
  have e : (l.take o).length = o := by rw [List.length_take]; omega
  unfold overB
  rcases hj with hj | hj
  · rw [List.getD, List.getElem?_append_left (by omega), List.getElem?_take, if_pos hj, List.getD]
  · rw [List.getD, List.getElem?_append_right (by omega), e, List.getElem?_append_right (by omega), List.getElem?_drop, List.getD]
    congr 2; omega

theorem RowB.sets {w : World} {g : Nat} {l m : Bs} {o : Nat} (h : RowB w g l) (hf : o + m.length ≤ l.length) : RowB (w.setCells g o (cellsY m)) g (overB l o m) := by
  have hl := overB_length hf
  refine ⟨fun j hj => ?_, fun j hj => ?_⟩
  · rw [hl] at hj
    by_cases e : o ≤ j ∧ j < o + m.length
    · obtain ⟨i, rfl⟩ : ∃ i, j = o + i := ⟨j - o, by omega⟩
      have hi : i < m.length := by omega
      have := World.cell?_setCells_in g (cellsY m) o w (fun q hq => by rw [cellsY_length] at hq; rw [h.1 _ (by omega)]; rfl) i (by rw [cellsY_length]; exact hi)
      rw [this]
      unfold bN
      rw [overB_in hf hi]
      simp [cellsY, List.getD, hi]
    · rw [World.cell?_setCells_out g (cellsY m) o w _ (fun _ _ => by rw [cellsY_length]; show j < o ∨ _ ≤ j; omega), h.1 j hj]
      unfold bN
      rw [overB_out hf (by omega)]
  · rw [World.frozen?_setCells]; rw [hl] at hj; exact h.2 j hj


theorem grown_setCells (g : Nat) : ∀ (vs : List Value) (o : Nat) (w : World), w.grownBy (w.setCells g o vs) (some g)
  | [], _, w => World.grownBy.refl _ _
  | v :: r, o, w => grown_trans (grown_setCell w g o v) (grown_setCells g r (o + 1) _)

theorem below_grown {a b : World} {g B : Nat} (h : a.grownBy b (some g)) (hB : B ≤ g) (hs : B ≤ a.heap.size) : Below B a b :=
  ⟨h.os, h.tape, h.output, h.size, fun q hq => h.block q (by omega) (fun e => by simp at e; omega)⟩

def byteN (s : ByteArray) (i : Nat) : Nat := (s.get! i).toNat

theorem byteN_eq {s : ByteArray} {i : Nat} (h : i < s.size) : (s[i]'h).toNat = byteN s i := by
  unfold byteN
  congr 1
  simp [ByteArray.get!, ByteArray.get, h, getElem!_def]
  first | rfl | (rw [Array.getElem?_eq_getElem (by exact h)]; rfl) | skip

theorem byteN_bl (s : ByteArray) (i : Nat) (h : i < s.size) : byteN s i = bN (bl s) i := by
  rw [← byteN_eq h]
  unfold bN bl
  have hj' : i < s.data.toList.length := by rw [Array.length_toList]; exact h
  rw [List.getD, List.getElem?_eq_getElem hj', Option.getD_some, Array.getElem_toList]
  rfl

theorem byte_at (s : ByteArray) (i : Nat) (h : i < s.size) : (s[i]'h).toNat = bN (bl s) i := (byteN_eq h).trans (byteN_bl s i h)

/-- A row that was just made: bytes 0. -/
theorem make_run (n : Nat) (hn : n ≤ 1000) : ∃ M : Array Value, (∀ W : World, (Instr.makeSlice 22 (.int .i64 (n : Int)) (.int .i64 (n : Int))).run Tryd.prog W = .ok (.slice (some ⟨W.heap.size, 0, none⟩) n n) (W.alloc (.cells M 5))) ∧
    (∀ W : World, RowB (W.alloc (.cells M 5)) W.heap.size (zeros n)) := by
  obtain ⟨i0, hi, hz0, hz1, hz2⟩ := info_parts Tryd.infoByte
  have hM : (madeCells (Value.int .u8 0).cells (((n : Nat) : Int).toNat * i0.size)).toList = List.replicate n (Value.int .u8 0) := by
    rw [hz1, Nat.mul_one, Int.toNat_natCast]
    exact toList_madeCells_one _ _
  refine ⟨madeCells (Value.int .u8 0).cells (((n : Nat) : Int).toNat * i0.size), fun W => ?_, fun W => ⟨fun j hj => ?_, fun j hj => ?_⟩⟩
  · have h := run_make (P := Tryd.prog) W 22 5 i0 (.int .u8 0) Tryd.underlying22 hi hz0 .i64 .i64 (n : Int) (n : Int) (by omega) (by omega) (by rw [hz2]; omega) (by omega)
    simpa using h
  · have hj' : j < n := by simpa [zeros] using hj
    rw [World.cell?_alloc_mark, ← Array.getElem?_toList, hM]
    simp [bN, zeros, List.getD, List.getElem?_replicate, hj']
  · rw [World.frozen?_alloc_mark, decide_eq_false (show ¬ j < 0 by omega), Bool.and_false]

theorem shape_setCell (w : World) (a : Addr) (v : Value) (g : Nat) : (w.setCell a v).shape? g = w.shape? g := by
  unfold World.shape? World.setCell
  rw [Array.getElem?_modify]
  by_cases h : a.block = g
  · subst h
    rw [if_pos rfl]
    cases hw : w.heap[a.block]? with
    | none => rfl
    | some o =>
      cases o <;> simp
      split <;> simp
  · rw [if_neg h]

theorem shape_setCells (g b : Nat) : ∀ (vs : List Value) (o : Nat) (w : World), (w.setCells b o vs).shape? g = w.shape? g
  | [], _, _ => rfl
  | v :: r, o, w => by rw [World.setCells, shape_setCells g b r, shape_setCell]

theorem over_all (s : ByteArray) : overB (zeros s.size) 0 (bl s) = bl s := by
  unfold overB
  rw [List.take_zero, List.nil_append, List.drop_of_length_le (by rw [bl_length]; simp [zeros]), List.append_nil]

end Go.Proofs.YtjpegbodhpnflaaDoor

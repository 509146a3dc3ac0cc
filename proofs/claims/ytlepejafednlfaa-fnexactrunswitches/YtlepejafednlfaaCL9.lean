/- Chapter 9: a text copied. -/
import Derived.Test.YtlepejafednlfaaR9Y
import Derived.Test.YtlepejafednlfaaI9Y
import Derived.Lib.Strings
import Derived.Lib.Walk
namespace Go.Proofs.Ytlepejafednlfaa
set_option linter.unusedVariables false
set_option maxRecDepth 1000000
set_option linter.unusedSimpArgs false
open Go.RowKit

/-- A row that was just made: bytes 0. -/
theorem make_run9 (n : Nat) (hn : n ≤ 1048576) : ∃ M : Array Value, (∀ W : World, (Instr.makeSlice 22 (.int .i64 (n : Int)) (.int .i64 (n : Int))).run Try.prog W = .ok (.slice (some ⟨W.heap.size, 0, none⟩) n n) (W.alloc (.cells M 5))) ∧
    (∀ W : World, RowB (W.alloc (.cells M 5)) W.heap.size (zeros n)) := by
  obtain ⟨i0, hi, hz0, hz1, hz2⟩ := info_parts Try.infoByte
  have hM : (madeCells (Value.int .u8 0).cells (((n : Nat) : Int).toNat * i0.size)).toList = List.replicate n (Value.int .u8 0) := by
    rw [hz1, Nat.mul_one, Int.toNat_natCast]
    exact toList_madeCells_one _ _
  refine ⟨madeCells (Value.int .u8 0).cells (((n : Nat) : Int).toNat * i0.size), fun W => ?_, fun W => ⟨fun j hj => ?_, fun j hj => ?_⟩⟩
  · have h := run_make (P := Try.prog) W 22 5 i0 (.int .u8 0) Try.underlying22 hi hz0 .i64 .i64 (n : Int) (n : Int) (by omega) (by omega) (by rw [hz2]; omega) (by omega)
    simpa using h
  · have hj' : j < n := by simpa [zeros] using hj
    rw [World.cell?_alloc_mark, ← Array.getElem?_toList, hM]
    simp [bN, zeros, List.getD, List.getElem?_replicate, hj']
  · rw [World.frozen?_alloc_mark, decide_eq_false (show ¬ j < 0 by omega), Bool.and_false]

theorem shape_setCell (w : World) (a : Addr) (v : Value) (g : Nat) : (w.setCell a v).shape? g = w.shape? g := by
  unfold World.shape? World.setCell
  rw [Array.getElem?_modify]
  by_cases h : a.block = g
  · subst h
    rw [if_pos rfl]
    cases hw : w.heap[a.block]? with
    | none => rfl
    | some o =>
      cases o <;> simp
      split <;> simp
  · rw [if_neg h]
theorem shape_setCells (g b : Nat) : ∀ (vs : List Value) (o : Nat) (w : World), (w.setCells b o vs).shape? g = w.shape? g
  | [], _, _ => rfl
  | v :: r, o, w => by rw [World.setCells, shape_setCells g b r, shape_setCell]
theorem over_all (s : ByteArray) : overB (zeros s.size) 0 (bl s) = bl s := by
  unfold overB
  rw [List.take_zero, List.nil_append, List.drop_of_length_le (by rw [bl_length]; simp [zeros]), List.append_nil]

set_option maxHeartbeats 4000000 in
/-- A text that is copied is the same text; nothing that was there has turned. -/
theorem clone9_c (s : ByteArray) (w : World) (hlim : s.size ≤ 1048576) :
    Calls Try.prog 98 #[.string s] w fun e w' => e = .returned (.string s) ∧ Below w.heap.size w w' := by
  by_cases h0 : s.size = 0
  · obtain rfl : s = ByteArray.empty := bl_inj (by rw [List.length_eq_zero_iff.1 ((bl_length s).trans h0)]; rfl)
    go_enter Try.func98, Try.ntmps98
    go_wp2
    go_ret
    exact ⟨rfl, Below.refl _ _⟩
  · obtain ⟨M, hmk, hrow⟩ := make_run9 s.size hlim
    have hz : (zeros s.size).length = s.size := by simp [zeros]
    have hM : s.size ≤ M.size := by
      have h := (hrow w).1 (s.size - 1) (by rw [hz]; omega)
      rw [World.cell?_alloc_mark] at h
      have := (Array.getElem?_eq_some_iff.1 h).1
      omega
    have hcp : ∀ ty, (Builtin.copy_ #[22, 9] ty #[.slice (some ⟨w.heap.size, 0, none⟩) s.size s.size, .string s]).run Try.prog (w.alloc (.cells M 5)) = .ok (goInt s.size) ((w.alloc (.cells M 5)).setCells w.heap.size 0 (cellsY (bl s))) := fun ty =>
      run_copy_string (P := Try.prog) (w.alloc (.cells M 5)) 22 9 ty 5 w.heap.size 0 s.size s.size s Try.underlying22 (fun w => by kernel_rfl) (Nat.le_refl _) (fun j hj => by rw [Nat.zero_add, (hrow w).1 j (by rw [hz]; exact hj)]; rfl) (fun j hj => by rw [Nat.zero_add]; exact (hrow w).2 j (by rw [hz]; exact hj))
    have hr1 := (hrow w).sets (o := 0) (m := bl s) (by rw [hz, bl_length]; omega)
    rw [over_all] at hr1
    have hb1 : Below w.heap.size w ((w.alloc (.cells M 5)).setCells w.heap.size 0 (cellsY (bl s))) := (balloc w _).trans (below_grown (grown_setCells _ _ _ _) (Nat.le_refl _) (by simp))
    have hs1 : ((w.alloc (.cells M 5)).setCells w.heap.size 0 (cellsY (bl s))).shape? w.heap.size = some (5, M.size) := by
      rw [shape_setCells]
      unfold World.shape?
      rw [heap_alloc_new w _]
    generalize (w.alloc (.cells M 5)).setCells w.heap.size 0 (cellsY (bl s)) = V at hcp hr1 hb1 hs1
    have hus := Lib.run_unsafeString_row (P := Try.prog) V 106 3 9 5 Try.underlying106 (by kernel_rfl) w.heap.size M.size hs1 (bl s) (fun e => h0 (by rw [← bl_length s, e]; rfl)) (by rw [bl_length]; exact hM) (by rw [bl_length]; omega)
      (fun j x hx => by
        have hj := (List.getElem?_eq_some_iff.1 hx).1
        rw [Go.WideShapes.add_plain, Nat.zero_add, hr1.1 j hj]
        unfold bN
        rw [List.getD, hx]
        rfl)
    rw [bl_length, show (⟨(bl s).toArray⟩ : ByteArray) = s from tx_bl s] at hus
    have HB : Hid (Below w.heap.size w (V.freeze ⟨w.heap.size, 0, none⟩ s.size)) := Lib.below_freeze hb1 (p := ⟨w.heap.size, 0, none⟩) (Nat.le_refl _) _
    have hne : ((s.size : Int) == 0) = false := by rw [beq_eq_false_iff_ne]; omega
    have hpos : (0 : Int) < (s.size : Int) := by omega
    clear hrow hr1 hb1 hs1 hM hz
    go_enter Try.func98, Try.ntmps98
    go_wp2
    go_ret
    exact ⟨rfl, HB.out⟩

theorem strClone9_c (s : ByteArray) (w : World) (hlim : s.size ≤ 1048576) :
    Calls Try.prog 68 #[.string s] w fun e w' => e = .returned (.string s) ∧ Below w.heap.size w w' := by
  go_enter Try.func68, Try.ntmps68
  go_wp2_with fail
  refine (clone9_c s _ hlim).mono ?_
  rintro e w' ⟨rfl, hb⟩
  have HB : Hid (Below w.heap.size w w') := hb
  clear hb
  go_wp2
  go_ret
  exact ⟨rfl, HB.out⟩

end Go.Proofs.Ytlepejafednlfaa

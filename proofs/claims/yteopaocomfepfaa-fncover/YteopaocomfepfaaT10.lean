/- Texts that are copied by the library; small things that the walks want. -/
import Derived.Test.YteopaocomfepfaaBS
import Derived.Test.YteopaocomfepfaaB3B
import Derived.Deep.RegionHeld3
import Derived.Laws.IdiomStrings
import Derived.Laws.IdiomCopy
import Derived.Laws.MakeOwn
import Derived.Lib.LazyBuf
import Derived.Lib.SliceRun
import Derived.Lib.UnsafeStr
import Derived.Lib.BufferWrite
import Derived.Lib.Strings
import Derived.Lib.Walk
namespace Go.Proofs.Yteopaocomfepfaa
set_option linter.unusedVariables false
set_option maxRecDepth 1000000
set_option linter.unusedSimpArgs false
open Go.RowKit


abbrev Bs := List UInt8

/-- A text of bytes. -/
def tx (l : Bs) : ByteArray := ⟨l.toArray⟩

def bl (s : ByteArray) : Bs := s.data.toList

theorem bl_tx (l : Bs) : bl (tx l) = l := rfl

theorem tx_bl (s : ByteArray) : tx (bl s) = s := by unfold tx bl; simp

theorem tx_size (l : Bs) : (tx l).size = l.length := by simp [tx, ByteArray.size]

theorem bl_length (s : ByteArray) : (bl s).length = s.size := Array.length_toList

theorem bl_inj {a b : ByteArray} (h : bl a = bl b) : a = b := by rw [← tx_bl a, ← tx_bl b, h]

def bN (l : Bs) (i : Nat) : Nat := (l.getD i 0).toNat

theorem bN_lt (l : Bs) (i : Nat) : bN l i < 256 := (l.getD i 0).toNat_lt

def zeros (n : Nat) : Bs := List.replicate n 0

theorem Try.infoByte : (Try.prog.info? 5).map (fun i => (i.zero, i.size, i.bytes)) = some (some (.int .u8 0), 1, 1) := by kernel_rfl

def cellsY (l : Bs) : List Value := l.map fun x => Value.int .u8 (x.toNat : Int)

theorem cellsY_length (l : Bs) : (cellsY l).length = l.length := by simp [cellsY]

theorem cellsY_get (l : Bs) (j : Nat) (h : j < l.length) : (cellsY l)[j]? = some (.int .u8 (bN l j : Nat)) := by
  unfold cellsY bN
  simp [List.getD, h]

theorem cellsY_oneCell (l : Bs) : ∀ v ∈ cellsY l, v.oneCell' = true := by
  intro v hv
  obtain ⟨x, _, rfl⟩ := List.mem_map.1 hv
  rfl

/-- Block g's first cells are the bytes l, and may be written. -/
def RowB (w : World) (g : Nat) (l : Bs) : Prop :=
  (∀ j, j < l.length → w.cell? ⟨g, j, none⟩ = some (.int .u8 (bN l j : Nat))) ∧ (∀ j, j < l.length → w.frozen? ⟨g, j, none⟩ = false)

/-- Bytes written over others. -/
def overB (l : Bs) (o : Nat) (m : Bs) : Bs := l.take o ++ (m ++ l.drop (o + m.length))

theorem overB_length {l m : Bs} {o : Nat} (h : o + m.length ≤ l.length) : (overB l o m).length = l.length := by simp [overB]; omega

theorem overB_in {l m : Bs} {o j : Nat} (h : o + m.length ≤ l.length) (hj : j < m.length) : (overB l o m).getD (o + j) 0 = m.getD j 0 := by
  have e : (l.take o).length = o := by rw [List.length_take]; omega
  unfold overB
  rw [List.getD, List.getElem?_append_right (by omega), e, List.getElem?_append_left (by omega), List.getD]
  congr 2; omega

theorem overB_out {l m : Bs} {o j : Nat} (h : o + m.length ≤ l.length) (hj : j < o ∨ o + m.length ≤ j) : (overB l o m).getD j 0 = l.getD j 0 := by
  have e : (l.take o).length = o := by rw [List.length_take]; omega
  unfold overB
  rcases hj with hj | hj
  · rw [List.getD, List.getElem?_append_left (by omega), List.getElem?_take, if_pos hj, List.getD]
  · rw [List.getD, List.getElem?_append_right (by omega), e, List.getElem?_append_right (by omega), List.getElem?_drop, List.getD]
    congr 2; omega

theorem RowB.sets {w : World} {g : Nat} {l m : Bs} {o : Nat} (h : RowB w g l) (hf : o + m.length ≤ l.length) : RowB (w.setCells g o (cellsY m)) g (overB l o m) := by
  have hl := overB_length hf
  refine ⟨fun j hj => ?_, fun j hj => ?_⟩
  · rw [hl] at hj
    by_cases e : o ≤ j ∧ j < o + m.length
    · obtain ⟨i, rfl⟩ : ∃ i, j = o + i := ⟨j - o, by omega⟩
      have hi : i < m.length := by omega
      have := World.cell?_setCells_in g (cellsY m) o w (fun q hq => by rw [cellsY_length] at hq; rw [h.1 _ (by omega)]; rfl) i (by rw [cellsY_length]; exact hi)
      rw [this]
      unfold bN
      rw [overB_in hf hi]
      simp [cellsY, List.getD, hi]
    · rw [World.cell?_setCells_out g (cellsY m) o w _ (fun _ _ => by rw [cellsY_length]; show j < o ∨ _ ≤ j; omega), h.1 j hj]
      unfold bN
      rw [overB_out hf (by omega)]
  · rw [World.frozen?_setCells]; rw [hl] at hj; exact h.2 j hj

theorem grown_setCell (w : World) (g k : Nat) (v : Value) : w.grownBy (w.setCell ⟨g, k, none⟩ v) (some g) := by
  have hb : Below 0 w (w.setCell ⟨g, k, none⟩ v) := (Below.refl 0 w).setCell (by omega) v
  exact ⟨hb.os, hb.tape, hb.output, hb.size, fun q hq hne => Below.heap_setCell w _ v q (fun e => hne (by rw [e]))⟩

theorem grown_setCells (g : Nat) : ∀ (vs : List Value) (o : Nat) (w : World), w.grownBy (w.setCells g o vs) (some g)
  | [], _, w => World.grownBy.refl _ _
  | v :: r, o, w => grown_trans (grown_setCell w g o v) (grown_setCells g r (o + 1) _)

theorem below_grown {a b : World} {g B : Nat} (h : a.grownBy b (some g)) (hB : B ≤ g) (hs : B ≤ a.heap.size) : Below B a b :=
  ⟨h.os, h.tape, h.output, h.size, fun q hq => h.block q (by omega) (fun e => by simp at e; omega)⟩

def byteN (s : ByteArray) (i : Nat) : Nat := (s.get! i).toNat

theorem byteN_eq {s : ByteArray} {i : Nat} (h : i < s.size) : (s[i]'h).toNat = byteN s i := by
  unfold byteN
  congr 1
  simp [ByteArray.get!, ByteArray.get, h, getElem!_def]
  first | rfl | (rw [Array.getElem?_eq_getElem (by exact h)]; rfl) | skip

theorem byteN_bl (s : ByteArray) (i : Nat) (h : i < s.size) : byteN s i = bN (bl s) i := by
  rw [← byteN_eq h]
  unfold bN bl
  have hj' : i < s.data.toList.length := by rw [Array.length_toList]; exact h
  rw [List.getD, List.getElem?_eq_getElem hj', Option.getD_some, Array.getElem_toList]
  rfl

theorem byte_at (s : ByteArray) (i : Nat) (h : i < s.size) : (s[i]'h).toNat = bN (bl s) i := (byteN_eq h).trans (byteN_bl s i h)

/-- A row that was just made: bytes 0. -/
theorem make_run (n : Nat) (hn : n ≤ 1000) : ∃ M : Array Value, (∀ W : World, (Instr.makeSlice 22 (.int .i64 (n : Int)) (.int .i64 (n : Int))).run Try.prog W = .ok (.slice (some ⟨W.heap.size, 0, none⟩) n n) (W.alloc (.cells M 5))) ∧
    (∀ W : World, RowB (W.alloc (.cells M 5)) W.heap.size (zeros n)) := by
  obtain ⟨i0, hi, hz0, hz1, hz2⟩ := info_parts Try.infoByte
  have hM : (madeCells (Value.int .u8 0).cells (((n : Nat) : Int).toNat * i0.size)).toList = List.replicate n (Value.int .u8 0) := by
    rw [hz1, Nat.mul_one, Int.toNat_natCast]
    exact toList_madeCells_one _ _
  refine ⟨madeCells (Value.int .u8 0).cells (((n : Nat) : Int).toNat * i0.size), fun W => ?_, fun W => ⟨fun j hj => ?_, fun j hj => ?_⟩⟩
  · have h := run_make (P := Try.prog) W 22 5 i0 (.int .u8 0) Try.underlying22 hi hz0 .i64 .i64 (n : Int) (n : Int) (by omega) (by omega) (by rw [hz2]; omega) (by omega)
    simpa using h
  · have hj' : j < n := by simpa [zeros] using hj
    rw [World.cell?_alloc_mark, ← Array.getElem?_toList, hM]
    simp [bN, zeros, List.getD, List.getElem?_replicate, hj']
  · rw [World.frozen?_alloc_mark, decide_eq_false (show ¬ j < 0 by omega), Bool.and_false]

theorem shape_setCell (w : World) (a : Addr) (v : Value) (g : Nat) : (w.setCell a v).shape? g = w.shape? g := by
  unfold World.shape? World.setCell
  rw [Array.getElem?_modify]
  by_cases h : a.block = g
  · subst h
    rw [if_pos rfl]
    cases hw : w.heap[a.block]? with
    | none => rfl
    | some o =>
      cases o <;> simp
      split <;> simp
  · rw [if_neg h]

theorem shape_setCells (g b : Nat) : ∀ (vs : List Value) (o : Nat) (w : World), (w.setCells b o vs).shape? g = w.shape? g
  | [], _, _ => rfl
  | v :: r, o, w => by rw [World.setCells, shape_setCells g b r, shape_setCell]

theorem over_all (s : ByteArray) : overB (zeros s.size) 0 (bl s) = bl s := by
  unfold overB
  rw [List.take_zero, List.nil_append, List.drop_of_length_le (by rw [bl_length]; simp [zeros]), List.append_nil]

set_option maxHeartbeats 4000000 in
/-- A text that is copied is the same text; nothing that was there has turned. -/
theorem clone_c (s : ByteArray) (w : World) (hlim : s.size ≤ 1000) :
    Calls Try.prog 86 #[.string s] w fun e w' => e = .returned (.string s) ∧ Below w.heap.size w w' := by
  by_cases h0 : s.size = 0
  · obtain rfl : s = ByteArray.empty := bl_inj (by rw [List.length_eq_zero_iff.1 ((bl_length s).trans h0)]; rfl)
    go_enter Try.func86, Try.ntmps86
    go_wp2
    go_ret
    exact ⟨rfl, Below.refl _ _⟩
  · obtain ⟨M, hmk, hrow⟩ := make_run s.size hlim
    have hz : (zeros s.size).length = s.size := by simp [zeros]
    have hM : s.size ≤ M.size := by
      have h := (hrow w).1 (s.size - 1) (by rw [hz]; omega)
      rw [World.cell?_alloc_mark] at h
      have := (Array.getElem?_eq_some_iff.1 h).1
      omega
    have hcp : ∀ ty, (Builtin.copy_ #[22, 9] ty #[.slice (some ⟨w.heap.size, 0, none⟩) s.size s.size, .string s]).run Try.prog (w.alloc (.cells M 5)) = .ok (goInt s.size) ((w.alloc (.cells M 5)).setCells w.heap.size 0 (cellsY (bl s))) := fun ty =>
      run_copy_string (P := Try.prog) (w.alloc (.cells M 5)) 22 9 ty 5 w.heap.size 0 s.size s.size s Try.underlying22 (fun w => by kernel_rfl) (Nat.le_refl _) (fun j hj => by rw [Nat.zero_add, (hrow w).1 j (by rw [hz]; exact hj)]; rfl) (fun j hj => by rw [Nat.zero_add]; exact (hrow w).2 j (by rw [hz]; exact hj))
    have hr1 := (hrow w).sets (o := 0) (m := bl s) (by rw [hz, bl_length]; omega)
    rw [over_all] at hr1
    have hb1 : Below w.heap.size w ((w.alloc (.cells M 5)).setCells w.heap.size 0 (cellsY (bl s))) := (balloc w _).trans (below_grown (grown_setCells _ _ _ _) (Nat.le_refl _) (by simp))
    have hs1 : ((w.alloc (.cells M 5)).setCells w.heap.size 0 (cellsY (bl s))).shape? w.heap.size = some (5, M.size) := by
      rw [shape_setCells]
      unfold World.shape?
      rw [heap_alloc_new w _]
    generalize (w.alloc (.cells M 5)).setCells w.heap.size 0 (cellsY (bl s)) = V at hcp hr1 hb1 hs1
    have hus := Lib.run_unsafeString_row (P := Try.prog) V 118 3 9 5 Try.underlying118 (by kernel_rfl) w.heap.size M.size hs1 (bl s) (fun e => h0 (by rw [← bl_length s, e]; rfl)) (by rw [bl_length]; exact hM) (by rw [bl_length]; omega)
      (fun j x hx => by
        have hj := (List.getElem?_eq_some_iff.1 hx).1
        rw [Go.WideShapes.add_plain, Nat.zero_add, hr1.1 j hj]
        unfold bN
        rw [List.getD, hx]
        rfl)
    rw [bl_length, show (⟨(bl s).toArray⟩ : ByteArray) = s from tx_bl s] at hus
    have HB : Hid (Below w.heap.size w (V.freeze ⟨w.heap.size, 0, none⟩ s.size)) := Lib.below_freeze hb1 (p := ⟨w.heap.size, 0, none⟩) (Nat.le_refl _) _
    have hne : ((s.size : Int) == 0) = false := by rw [beq_eq_false_iff_ne]; omega
    have hpos : (0 : Int) < (s.size : Int) := by omega
    clear hrow hr1 hb1 hs1 hM hz
    go_enter Try.func86, Try.ntmps86
    go_wp2
    go_ret
    exact ⟨rfl, HB.out⟩

theorem strClone_c (s : ByteArray) (w : World) (hlim : s.size ≤ 1000) :
    Calls Try.prog 85 #[.string s] w fun e w' => e = .returned (.string s) ∧ Below w.heap.size w w' := by
  go_enter Try.func85, Try.ntmps85
  go_wp2_with fail
  refine (clone_c s _ hlim).mono ?_
  rintro e w' ⟨rfl, hb⟩
  have HB : Hid (Below w.heap.size w w') := hb
  clear hb
  go_wp2
  go_ret
  exact ⟨rfl, HB.out⟩

theorem ret_int {a b : Int} (h : a = b) : Ending.returned (.int .i64 a) = .returned (.int .i64 b) := by rw [h]
theorem Rd.get {w : World} {ao : Option Addr} {xs : List Int} (h : Rd w ao xs) {k : Nat} (hk : k < xs.length) : ∃ b o, ao = some ⟨b, o, none⟩ ∧ w.cell? ⟨b, o + k, none⟩ = some (.int .i64 (xs.getD k 0)) := by
  rcases h with rfl | ⟨b, o, rfl, hc⟩
  · simp at hk
  · exact ⟨b, o, rfl, hc k hk⟩
theorem RdS.get {w : World} {ao : Option Addr} {xs : List ByteArray} (h : RdS w ao xs) {k : Nat} (hk : k < xs.length) : ∃ b o, ao = some ⟨b, o, none⟩ ∧ w.cell? ⟨b, o + k, none⟩ = some (.string (xs.getD k ByteArray.empty)) := by
  rcases h with rfl | ⟨b, o, rfl, hc⟩
  · simp at hk
  · exact ⟨b, o, rfl, hc k hk⟩
theorem mem_getD {α : Type} {xs : List α} {k : Nat} (d : α) (h : k < xs.length) : xs.getD k d ∈ xs := by
  simp only [List.getD, List.getElem?_eq_getElem h, Option.getD_some]; exact List.getElem_mem _
theorem of_mem_getD {α : Type} {xs : List α} (d : α) {x : α} (h : x ∈ xs) : ∃ j, j < xs.length ∧ xs.getD j d = x := by
  obtain ⟨i, hi, e⟩ := List.getElem_of_mem h
  exact ⟨i, hi, by simpa [List.getD, hi] using e⟩
theorem all_out {α : Type} {d : α} {xs : List α} {p : α → Bool} {k : Nat} (hk : k < xs.length) (h : p (xs.getD k d) = false) : xs.all p = false := by
  rw [List.all_eq_false]
  exact ⟨_, mem_getD d hk, by rw [h]; simp⟩
theorem all_end {α : Type} {d : α} {xs : List α} {p : α → Bool} (h : ∀ j, j < xs.length → p (xs.getD j d) = true) : xs.all p = true := by
  rw [List.all_eq_true]
  intro x hx
  obtain ⟨j, hj, e⟩ := of_mem_getD d hx
  rw [← e]; exact h j hj
theorem take_snoc {α : Type} (d : α) {xs : List α} {k : Nat} (h : k < xs.length) : xs.take (k + 1) = xs.take k ++ [xs.getD k d] := by
  rw [List.take_succ_eq_append_getElem h]; simp [List.getD, h]

theorem l1In_c (x lo hi : Int) (w : World) :
    Calls Try.prog 67 #[.int .i64 x, .int .i64 lo, .int .i64 hi] w fun e w' => e = .returned (.bool (decide (lo ≤ x ∧ x ≤ hi))) ∧ w' = w := by
  by_cases h1 : lo ≤ x
  · by_cases h2 : x ≤ hi
    · rw [decide_eq_true ⟨h1, h2⟩]
      go_enter Try.func67, Try.ntmps67
      go_wp2
      go_ret
      exact ⟨rfl, rfl⟩
    · rw [decide_eq_false (by omega)]
      go_enter Try.func67, Try.ntmps67
      go_wp2
      go_ret
      exact ⟨rfl, rfl⟩
  · rw [decide_eq_false (by omega)]
    go_enter Try.func67, Try.ntmps67
    go_wp2
    go_ret
    exact ⟨rfl, rfl⟩


set_option maxHeartbeats 2000000 in
theorem each_c (ao : Option Addr) (n c : Nat) (xs : List ByteArray) (w : World) (hx : xs.length = n) (hn : n ≤ 1048576) (hr : RdS w ao xs) (hs : ∀ s ∈ xs, s.size ≤ 1000) :
    Calls Try.prog 84 #[.slice ao n c, .func (.func 85) #[] #[]] w fun e w' => ∃ a' c', e = .returned (.slice a' n c') ∧ OwnS w' w.heap.size (.slice a' n c') xs ∧ Below w.heap.size w w' := by
  obtain ⟨i0, hi, hz0, hz1, hz2⟩ := info_parts Try.infoStr
  have HX : Hid (xs.length = n) := hx
  have HR : Hid (RdS w ao xs) := hr
  have HZ : Hid (∀ s ∈ xs, s.size ≤ 1000) := hs
  clear hx hr hs
  go_enter Try.func84, Try.ntmps84
  go_wp2
  go_loopw [5, 10] (fun v i wr => ∃ k : Nat, k ≤ n ∧ i = .int .i64 k ∧ Hid (OwnS wr w.heap.size v (xs.take k)) ∧ Hid (Below w.heap.size w wr)) (fun _ i _ => n - (intOf i).toNat)
  case atStart => exact ⟨0, Nat.zero_le _, rfl, World.ownsRow_nil _ _ _ _, Below.refl _ _⟩
  case round =>
    obtain ⟨k, hk, rfl, hO, hB⟩ := hrel
    by_cases hlt : k < n
    · have hkl : k < xs.length := by rw [HX.out]; exact hlt
      obtain ⟨b, o, rfl, g1⟩ := (HR.out.later hB.out).get hkl
      have hzk := HZ.out _ (mem_getD ByteArray.empty hkl)
      have HT : Hid (xs.take (k + 1) = xs.take k ++ [xs.getD k ByteArray.empty]) := take_snoc ByteArray.empty hkl
      have hlen : (xs.take k).length = k := by rw [List.length_take]; omega
      generalize xs.getD k ByteArray.empty = x0 at g1 hzk HT
      have HL : Hid ((xs.take k).length = k) := hlen
      have qw := strClone_c x0 wr hzk
      generalize xs.take k = out at hO HL HT
      clear hlen hkl hzk
      go_wp2_with fail
      refine qw.mono ?_
      clear qw
      rintro e w1 ⟨rfl, hb⟩
      have HO1 : Hid (OwnS w1 w.heap.size u5 out) := hO.out.later hb
      have HB1 : Hid (Below w.heap.size w w1) := hB.out.trans (hb.mono hB.out.size)
      clear hb hO hB
      have hob : ∀ k', u5.ownBlock = some k' → w.heap.size ≤ k' := own_block_geS HO1.out
      have hown : w1.ownsRow w.heap.size 9 1 u5 k (cellsS out) := by have h := HO1.out; unfold OwnS at h; rw [HL.out] at h; exact h
      go_wp2_with (at_builtin; refine wpList_append_own _ rfl _ _ 27 rfl w.heap.size 9 i0 (.string ByteArray.empty) 1 16 Try.underlying27 hi hz0 hz1 hz2 rfl (by decide) _ _ _ rfl (hown.alloc _) ⟨w1.heap.size, 0, none⟩ 1 1 [.string x0] rfl rfl (cell_new1 _ _ _) (strs_oneCell [x0]) (by unfold maxLen; omega) (by omega) (by have := HB1.out.size; simp; omega) ?_; intro v' w2 hown' hgrow _; have HO' : Hid (OwnS w2 w.heap.size v' (out ++ [x0])) := own_pushS (w := w1) (v := u5) (by simpa [HL.out] using hown'); have HB' : Hid (Below w.heap.size w w2) := (HB1.out.alloc HB1.out.size _).grown hgrow (by have := HB1.out.size; simp; omega) (fun k' e => hob k' e); clear hown' hgrow)
      go_roundw
      case rel => exact ⟨k + 1, by omega, by go_num, by show OwnS _ _ _ _; rw [HT.out]; exact HO'.out, HB'⟩
      case measure => simp [intOf]; omega
    · obtain rfl : k = n := by omega
      rw [List.take_of_length_le (by rw [HX.out]; exact Nat.le_refl _)] at hO
      obtain ⟨a', c', hv⟩ := hO.out.shape
      rw [HX.out] at hv
      subst hv
      go_wp2
      go_ret
      exact ⟨a', c', rfl, hO.out, hB.out⟩


theorem Own.nil {w : World} {base n c : Nat} {ao : Option Addr} {xs : List Int} (h : Own w base (.slice ao n c) xs) : ao = none → n = 0 ∧ c = 0 := by
  intro e
  rcases h.form with ⟨h1, _⟩ | ⟨g, cap, h1, _⟩
  · simp only [Value.slice.injEq] at h1; exact ⟨h1.2.1, h1.2.2⟩
  · simp only [Value.slice.injEq] at h1; rw [e] at h1; cases h1.1
theorem OwnS.nil {w : World} {base n c : Nat} {ao : Option Addr} {xs : List ByteArray} (h : OwnS w base (.slice ao n c) xs) : ao = none → n = 0 ∧ c = 0 := by
  intro e
  rcases h.form with ⟨h1, _⟩ | ⟨g, cap, h1, _⟩
  · simp only [Value.slice.injEq] at h1; exact ⟨h1.2.1, h1.2.2⟩
  · simp only [Value.slice.injEq] at h1; rw [e] at h1; cases h1.1
theorem sep_types {w : World} {b1 b2 : Nat} {v u : Value} {xs : List Int} {ys : List ByteArray} (h : Own w b1 v xs) (k : OwnS w b2 u ys) : v.ownBlock = none ∨ v.ownBlock ≠ u.ownBlock := by
  rcases h.2 with ⟨rfl, _⟩ | ⟨g, cap, cur, rfl, _, hg, _⟩
  · exact Or.inl rfl
  · rcases k.2 with ⟨rfl, _⟩ | ⟨g', cap', cur', rfl, _, hg', _⟩
    · exact Or.inr (by simp [Value.ownBlock])
    · refine Or.inr fun e => ?_
      simp only [Value.ownBlock, Option.some.injEq] at e
      subst e
      rw [hg] at hg'
      simp at hg'
theorem sep_types' {w : World} {b1 b2 : Nat} {v u : Value} {xs : List Int} {ys : List ByteArray} (h : Own w b1 v xs) (k : OwnS w b2 u ys) : u.ownBlock = none ∨ u.ownBlock ≠ v.ownBlock := by
  rcases sep_types h k with h1 | h1
  · rcases Option.eq_none_or_eq_some u.ownBlock with e | ⟨x, e⟩
    · exact Or.inl e
    · exact Or.inr (by rw [h1, e]; simp)
  · exact Or.inr fun e => h1 e.symm


theorem ownsRow_later {w w' : World} {base : Nat} {ty : TypeId} {K n : Nat} {v : Value} {cs : List Value} (h : w.ownsRow base ty K v n cs) (hb : Below w.heap.size w w') : w'.ownsRow base ty K v n cs := by
  refine ⟨h.1, ?_⟩
  rcases h.2 with h2 | ⟨g, cap, cur, hv, hg, hh, r⟩
  · exact Or.inl h2
  · exact Or.inr ⟨g, cap, cur, hv, hg, by rw [hb.block g (Array.getElem?_eq_some_iff.1 hh).1]; exact hh, r⟩

end Go.Proofs.Yteopaocomfepfaa

/- Chapter 8: the small functions of both sides; boxes of mixes. -/
import Derived.Test.YtjpegbodhpnflaaDoorR13
import Derived.Deep.RegionHeld3
namespace Go.Proofs.YtjpegbodhpnflaaDoor
set_option linter.unusedVariables false
set_option maxRecDepth 1000000
set_option linter.unusedSimpArgs false
open Go.RowKit

theorem ret_int {a b : Int} (h : a = b) : Ending.returned (.int .i64 a) = .returned (.int .i64 b) := by rw [h]
theorem Rd.get {w : World} {ao : Option Addr} {xs : List Int} (h : Rd w ao xs) {k : Nat} (hk : k < xs.length) : ∃ b o, ao = some ⟨b, o, none⟩ ∧ w.cell? ⟨b, o + k, none⟩ = some (.int .i64 (xs.getD k 0)) := by
  rcases h with rfl | ⟨b, o, rfl, hc⟩
  · simp at hk
  · exact ⟨b, o, rfl, hc k hk⟩
theorem RdS.get {w : World} {ao : Option Addr} {xs : List ByteArray} (h : RdS w ao xs) {k : Nat} (hk : k < xs.length) : ∃ b o, ao = some ⟨b, o, none⟩ ∧ w.cell? ⟨b, o + k, none⟩ = some (.string (xs.getD k ByteArray.empty)) := by
  rcases h with rfl | ⟨b, o, rfl, hc⟩
  · simp at hk
  · exact ⟨b, o, rfl, hc k hk⟩
theorem of_mem_getD {α : Type} {xs : List α} (d : α) {x : α} (h : x ∈ xs) : ∃ j, j < xs.length ∧ xs.getD j d = x := by
  obtain ⟨i, hi, e⟩ := List.getElem_of_mem h
  exact ⟨i, hi, by simpa [List.getD, hi] using e⟩
theorem all_out {α : Type} {d : α} {xs : List α} {p : α → Bool} {k : Nat} (hk : k < xs.length) (h : p (xs.getD k d) = false) : xs.all p = false := by
  rw [List.all_eq_false]
  exact ⟨_, mem_getD d hk, by rw [h]; simp⟩
theorem all_end {α : Type} {d : α} {xs : List α} {p : α → Bool} (h : ∀ j, j < xs.length → p (xs.getD j d) = true) : xs.all p = true := by
  rw [List.all_eq_true]
  intro x hx
  obtain ⟨j, hj, e⟩ := of_mem_getD d hx
  rw [← e]; exact h j hj
theorem take_snoc {α : Type} (d : α) {xs : List α} {k : Nat} (h : k < xs.length) : xs.take (k + 1) = xs.take k ++ [xs.getD k d] := by
  rw [List.take_succ_eq_append_getElem h]; simp [List.getD, h]

theorem l1In_c (x lo hi : Int) (w : World) :
    Calls Tryd.prog 51 #[.int .i64 x, .int .i64 lo, .int .i64 hi] w fun e w' => e = .returned (.bool (decide (lo ≤ x ∧ x ≤ hi))) ∧ w' = w := by
  by_cases h1 : lo ≤ x
  · by_cases h2 : x ≤ hi
    · rw [decide_eq_true ⟨h1, h2⟩]
      go_enter Tryd.func51, Tryd.ntmps51
      go_wp2
      go_ret
      exact ⟨rfl, rfl⟩
    · rw [decide_eq_false (by omega)]
      go_enter Tryd.func51, Tryd.ntmps51
      go_wp2
      go_ret
      exact ⟨rfl, rfl⟩
  · rw [decide_eq_false (by omega)]
    go_enter Tryd.func51, Tryd.ntmps51
    go_wp2
    go_ret
    exact ⟨rfl, rfl⟩

set_option maxHeartbeats 1000000 in
theorem l1Has_c (ao : Option Addr) (n c : Nat) (t : Int) (xs : List Int) (w : World) (hx : xs.length = n) (hn : n ≤ 17592186044416) (hr : Rd w ao xs) :
    Calls Tryd.prog 44 #[.slice ao n c, .int .i64 t] w fun e w' => e = .returned (.bool (decide (t ∈ xs))) ∧ w' = w := by
  have HX : Hid (xs.length = n) := hx
  have HR : Hid (Rd w ao xs) := hr
  obtain ⟨G, hG⟩ : ∃ G, G = decide (t ∈ xs) := ⟨_, rfl⟩
  rw [← hG]
  have HG : Hid (G = decide (t ∈ xs)) := hG
  clear hx hr hG
  go_enter Tryd.func44, Tryd.ntmps44
  go_wp2
  go_loop [9] (fun i => ∃ k : Nat, k ≤ n ∧ i = .int .i64 k ∧ Hid (∀ j, j < k → xs.getD j 0 ≠ t)) (fun i => n - (intOf i).toNat)
  case atStart => exact ⟨0, Nat.zero_le _, rfl, fun j h => absurd h (by omega)⟩
  case round =>
    obtain ⟨k, hk, rfl, hall⟩ := hrel
    by_cases hlt : k < n
    · obtain ⟨b, o, hao, g1⟩ := HR.out.get (k := k) (by rw [HX.out]; exact hlt)
      subst hao
      have k0 : (0 : Int) ≤ (k : Int) := by omega
      have k1 : (k : Int) < (n : Int) := by omega
      by_cases he : xs.getD k 0 = t
      · have hG : G = true := by rw [HG.out]; exact decide_eq_true (by rw [← he]; exact mem_getD 0 (by rw [HX.out]; exact hlt))
        rw [he] at g1
        subst hG
        clear he hall
        go_wp2
        go_ret
        exact ⟨rfl, rfl⟩
      · have HN : Hid (∀ j, j < k + 1 → xs.getD j 0 ≠ t) := fun j hj => by
          by_cases e : j = k
          · subst e; exact he
          · exact hall.out j (by omega)
        generalize xs.getD k 0 = y at g1 he
        have hb : (y == t) = false := by rw [beq_eq_false_iff_ne]; exact he
        clear hall he
        go_wp2
        go_round
        case rel => exact ⟨k + 1, by omega, by go_num, HN⟩
        case measure => simp [intOf]; omega
    · have hG : G = false := by
        rw [HG.out]
        exact decide_eq_false fun h => by
          obtain ⟨j, hj, e⟩ := of_mem_getD 0 h
          exact hall.out j (by rw [HX.out] at hj; omega) e
      subst hG
      clear hall
      go_wp2
      go_ret
      exact ⟨rfl, rfl⟩

/-- The tag of the first k bytes. -/
def tagK (s : ByteArray) (k : Nat) : Int := (s.toList.take k).foldl tagStep 0
theorem tagK_all (s : ByteArray) : tagK s s.size = tagN s := by
  unfold tagK tagN
  rw [List.take_of_length_le (by rw [ByteArray.toList_eq]; exact Nat.le_of_eq (bl_length s))]
theorem tagK_succ {s : ByteArray} {k : Nat} (h : k < s.size) : tagK s (k + 1) = (257 * tagK s k + (bN (bl s) k : Int) + 1) % 4093 := by
  have hl : k < s.toList.length := by rw [ByteArray.toList_eq]; exact Nat.lt_of_lt_of_eq h (bl_length s).symm
  unfold tagK
  rw [take_snoc 0 hl, List.foldl_append]
  show tagStep _ _ = _
  unfold tagStep bN
  rw [ByteArray.toList_eq]
  rfl
theorem tagK_bd (s : ByteArray) (k : Nat) : 0 ≤ tagK s k ∧ tagK s k < 4093 := foldl_tag_bd _ 0 (by omega) (by omega)

def tagF (s : ByteArray) : Int × Bool := if shortB s = true then (tagN s, true) else (0, false)

/-- A box of a mix. -/
def C5 (w : World) (r : Nat) (p : Value) (a b o : Int) (s : Value) : Prop :=
  (w.cell? ⟨r, 0, none⟩ = some p ∧ w.cell? ⟨r, 1, none⟩ = some (.int .i64 a) ∧ w.cell? ⟨r, 2, none⟩ = some (.int .i64 b) ∧ w.cell? ⟨r, 3, none⟩ = some (.int .i64 o) ∧ w.cell? ⟨r, 4, none⟩ = some s) ∧ ∀ j, w.frozen? ⟨r, j, none⟩ = false
theorem c5_new (w : World) (p : Value) (a b o : Int) (s : Value) (t : TypeId) (r : Nat) (hr : r = w.heap.size) : C5 (w.alloc (.cells #[p, .int .i64 a, .int .i64 b, .int .i64 o, s] t)) r p a b o s := by
  subst hr
  refine ⟨⟨by simp, by simp, by simp, by simp, by simp⟩, fun j => ?_⟩
  rw [World.frozen?_alloc_mark]; simp
theorem C5.lt {w : World} {r : Nat} {p s : Value} {a b o : Int} (h : C5 w r p a b o s) : r < w.heap.size := World.block_lt_of_cell? w _ h.1.1
theorem C5.later {w w' : World} {r : Nat} {p s : Value} {a b o : Int} (h : C5 w r p a b o s) (hb : Below w.heap.size w w') : C5 w' r p a b o s := by
  have hlt := h.lt
  obtain ⟨⟨c0, c1, c2, c3, c4⟩, f⟩ := h
  refine ⟨⟨?_, ?_, ?_, ?_, ?_⟩, fun j => ?_⟩
  · rw [hb.cell (p := ⟨r, 0, none⟩) hlt]; exact c0
  · rw [hb.cell (p := ⟨r, 1, none⟩) hlt]; exact c1
  · rw [hb.cell (p := ⟨r, 2, none⟩) hlt]; exact c2
  · rw [hb.cell (p := ⟨r, 3, none⟩) hlt]; exact c3
  · rw [hb.cell (p := ⟨r, 4, none⟩) hlt]; exact c4
  · rw [hb.frozen (p := ⟨r, j, none⟩) hlt]; exact f j
theorem C5.grown {w w' : World} {r : Nat} {p s : Value} {a b o : Int} {row : Option Nat} (h : C5 w r p a b o s) (hg : w.grownBy w' row) (hne : some r ≠ row) : C5 w' r p a b o s := by
  have e := hg.block r h.lt hne
  obtain ⟨⟨c0, c1, c2, c3, c4⟩, f⟩ := h
  refine ⟨⟨?_, ?_, ?_, ?_, ?_⟩, fun j => ?_⟩
  · rw [World.cell?_of_block (w := w) (a := ⟨r, 0, none⟩) e]; exact c0
  · rw [World.cell?_of_block (w := w) (a := ⟨r, 1, none⟩) e]; exact c1
  · rw [World.cell?_of_block (w := w) (a := ⟨r, 2, none⟩) e]; exact c2
  · rw [World.cell?_of_block (w := w) (a := ⟨r, 3, none⟩) e]; exact c3
  · rw [World.cell?_of_block (w := w) (a := ⟨r, 4, none⟩) e]; exact c4
  · rw [World.frozen?_of_block (w := w) (a := ⟨r, j, none⟩) e]; exact f j

/-- A mix as a value. -/
def mixV (p : Value) (a b o : Int) (s : Value) : Value := .agg #[p, .int .i64 a, .int .i64 b, .int .i64 o, s]

end Go.Proofs.YtjpegbodhpnflaaDoor

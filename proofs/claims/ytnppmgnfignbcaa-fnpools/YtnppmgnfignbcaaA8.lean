/- Chapter 8: the small functions of both sides; boxes of mixes. -/
import Derived.Test.YtnppmgnfignbcaaR8
import Derived.Deep.RegionHeld3
namespace Go.Proofs.Ytnppmgnfignbcaa
set_option linter.unusedVariables false
set_option maxRecDepth 1000000
set_option linter.unusedSimpArgs false
open Go.RowKit

theorem ret_int {a b : Int} (h : a = b) : Ending.returned (.int .i64 a) = .returned (.int .i64 b) := by rw [h]
theorem Rd.get {w : World} {ao : Option Addr} {xs : List Int} (h : Rd w ao xs) {k : Nat} (hk : k < xs.length) : ∃ b o, ao = some ⟨b, o, none⟩ ∧ w.cell? ⟨b, o + k, none⟩ = some (.int .i64 (xs.getD k 0)) := by
  rcases h with rfl | ⟨b, o, rfl, hc⟩
  · simp at hk
  · exact ⟨b, o, rfl, hc k hk⟩
theorem RdS.get {w : World} {ao : Option Addr} {xs : List ByteArray} (h : RdS w ao xs) {k : Nat} (hk : k < xs.length) : ∃ b o, ao = some ⟨b, o, none⟩ ∧ w.cell? ⟨b, o + k, none⟩ = some (.string (xs.getD k ByteArray.empty)) := by
  rcases h with rfl | ⟨b, o, rfl, hc⟩
  · simp at hk
  · exact ⟨b, o, rfl, hc k hk⟩
theorem mem_getD {α : Type} {xs : List α} {k : Nat} (d : α) (h : k < xs.length) : xs.getD k d ∈ xs := by
  simp only [List.getD, List.getElem?_eq_getElem h, Option.getD_some]; exact List.getElem_mem _
theorem of_mem_getD {α : Type} {xs : List α} (d : α) {x : α} (h : x ∈ xs) : ∃ j, j < xs.length ∧ xs.getD j d = x := by
  obtain ⟨i, hi, e⟩ := List.getElem_of_mem h
  exact ⟨i, hi, by simpa [List.getD, hi] using e⟩
theorem all_out {α : Type} {d : α} {xs : List α} {p : α → Bool} {k : Nat} (hk : k < xs.length) (h : p (xs.getD k d) = false) : xs.all p = false := by
  rw [List.all_eq_false]
  exact ⟨_, mem_getD d hk, by rw [h]; simp⟩
theorem all_end {α : Type} {d : α} {xs : List α} {p : α → Bool} (h : ∀ j, j < xs.length → p (xs.getD j d) = true) : xs.all p = true := by
  rw [List.all_eq_true]
  intro x hx
  obtain ⟨j, hj, e⟩ := of_mem_getD d hx
  rw [← e]; exact h j hj
theorem take_snoc {α : Type} (d : α) {xs : List α} {k : Nat} (h : k < xs.length) : xs.take (k + 1) = xs.take k ++ [xs.getD k d] := by
  rw [List.take_succ_eq_append_getElem h]; simp [List.getD, h]

theorem l1In_c (x lo hi : Int) (w : World) :
    Calls Try.prog 85 #[.int .i64 x, .int .i64 lo, .int .i64 hi] w fun e w' => e = .returned (.bool (decide (lo ≤ x ∧ x ≤ hi))) ∧ w' = w := by
  by_cases h1 : lo ≤ x
  · by_cases h2 : x ≤ hi
    · rw [decide_eq_true ⟨h1, h2⟩]
      go_enter Try.func85, Try.ntmps85
      go_wp2
      go_ret
      exact ⟨rfl, rfl⟩
    · rw [decide_eq_false (by omega)]
      go_enter Try.func85, Try.ntmps85
      go_wp2
      go_ret
      exact ⟨rfl, rfl⟩
  · rw [decide_eq_false (by omega)]
    go_enter Try.func85, Try.ntmps85
    go_wp2
    go_ret
    exact ⟨rfl, rfl⟩

set_option maxHeartbeats 1000000 in
theorem l1Has_c (ao : Option Addr) (n c : Nat) (t : Int) (xs : List Int) (w : World) (hx : xs.length = n) (hn : n ≤ 17592186044416) (hr : Rd w ao xs) :
    Calls Try.prog 84 #[.slice ao n c, .int .i64 t] w fun e w' => e = .returned (.bool (decide (t ∈ xs))) ∧ w' = w := by
  have HX : Hid (xs.length = n) := hx
  have HR : Hid (Rd w ao xs) := hr
  obtain ⟨G, hG⟩ : ∃ G, G = decide (t ∈ xs) := ⟨_, rfl⟩
  rw [← hG]
  have HG : Hid (G = decide (t ∈ xs)) := hG
  clear hx hr hG
  go_enter Try.func84, Try.ntmps84
  go_wp2
  go_loop [9] (fun i => ∃ k : Nat, k ≤ n ∧ i = .int .i64 k ∧ Hid (∀ j, j < k → xs.getD j 0 ≠ t)) (fun i => n - (intOf i).toNat)
  case atStart => exact ⟨0, Nat.zero_le _, rfl, fun j h => absurd h (by omega)⟩
  case round =>
    obtain ⟨k, hk, rfl, hall⟩ := hrel
    by_cases hlt : k < n
    · obtain ⟨b, o, hao, g1⟩ := HR.out.get (k := k) (by rw [HX.out]; exact hlt)
      subst hao
      have k0 : (0 : Int) ≤ (k : Int) := by omega
      have k1 : (k : Int) < (n : Int) := by omega
      by_cases he : xs.getD k 0 = t
      · have hG : G = true := by rw [HG.out]; exact decide_eq_true (by rw [← he]; exact mem_getD 0 (by rw [HX.out]; exact hlt))
        rw [he] at g1
        subst hG
        clear he hall
        go_wp2
        go_ret
        exact ⟨rfl, rfl⟩
      · have HN : Hid (∀ j, j < k + 1 → xs.getD j 0 ≠ t) := fun j hj => by
          by_cases e : j = k
          · subst e; exact he
          · exact hall.out j (by omega)
        generalize xs.getD k 0 = y at g1 he
        have hb : (y == t) = false := by rw [beq_eq_false_iff_ne]; exact he
        clear hall he
        go_wp2
        go_round
        case rel => exact ⟨k + 1, by omega, by go_num, HN⟩
        case measure => simp [intOf]; omega
    · have hG : G = false := by
        rw [HG.out]
        exact decide_eq_false fun h => by
          obtain ⟨j, hj, e⟩ := of_mem_getD 0 h
          exact hall.out j (by rw [HX.out] at hj; omega) e
      subst hG
      clear hall
      go_wp2
      go_ret
      exact ⟨rfl, rfl⟩

theorem l1Least_c (x y : Int) (w : World) : Calls Try.prog 97 #[.int .i64 x, .int .i64 y] w fun e w' => e = .returned (.int .i64 (min x y)) ∧ w' = w := by
  by_cases h : x < y
  · rw [show min x y = x by omega]
    go_enter Try.func97, Try.ntmps97
    go_wp2
    go_ret
    exact ⟨rfl, rfl⟩
  · rw [show min x y = y by omega]
    go_enter Try.func97, Try.ntmps97
    go_wp2
    go_ret
    exact ⟨rfl, rfl⟩

theorem l8Text_c (s : ByteArray) (w : World) (hs : s.size ≤ 9223372036854775807) : Calls Try.prog 74 #[.string s] w fun e w' => e = .returned (.bool (shortB s)) ∧ w' = w := by
  have e : shortB s = decide ((s.size : Int) ≤ 24) := by unfold shortB; exact decide_eq_decide.2 (by omega)
  rw [e]
  by_cases h : (s.size : Int) ≤ 24
  · rw [decide_eq_true h]
    go_enter Try.func74, Try.ntmps74
    go_wp2
    go_ret
    exact ⟨rfl, rfl⟩
  · rw [decide_eq_false h]
    go_enter Try.func74, Try.ntmps74
    go_wp2
    go_ret
    exact ⟨rfl, rfl⟩

theorem isLetter_c (s : ByteArray) (w : World) (hs : s.size ≤ 9223372036854775807) : Calls Try.prog 56 #[.string s] w fun e w' => e = .returned (.bool (shortB s)) ∧ w' = w := by
  have e : shortB s = decide ((s.size : Int) ≤ 24) := by unfold shortB; exact decide_eq_decide.2 (by omega)
  rw [e]
  by_cases h : (s.size : Int) ≤ 24
  · rw [decide_eq_true h]
    go_enter Try.func56, Try.ntmps56
    go_wp2
    go_ret
    exact ⟨rfl, rfl⟩
  · rw [decide_eq_false h]
    go_enter Try.func56, Try.ntmps56
    go_wp2
    go_ret
    exact ⟨rfl, rfl⟩

theorem isTag_c (n : Int) (w : World) : Calls Try.prog 79 #[.int .i64 n] w fun e w' => e = .returned (.bool (tagB n)) ∧ w' = w := by
  unfold tagB
  by_cases h1 : 0 ≤ n
  · by_cases h2 : n < 4093
    · rw [decide_eq_true ⟨h1, h2⟩]
      go_enter Try.func79, Try.ntmps79
      go_wp2
      go_ret
      exact ⟨rfl, rfl⟩
    · rw [decide_eq_false (by omega)]
      go_enter Try.func79, Try.ntmps79
      go_wp2
      go_ret
      exact ⟨rfl, rfl⟩
  · rw [decide_eq_false (by omega)]
    go_enter Try.func79, Try.ntmps79
    go_wp2
    go_ret
    exact ⟨rfl, rfl⟩

theorem isAge_c (o : Int) (n : Nat) (w : World) (hn : n ≤ 17592186044416) : Calls Try.prog 77 #[.int .i64 o, .int .i64 n] w fun e w' => e = .returned (.bool (ageB o n)) ∧ w' = w := by
  unfold ageB
  by_cases h0 : n = 0
  · subst h0
    rw [if_pos rfl]
    by_cases h : o = 0
    · subst h
      go_enter Try.func77, Try.ntmps77
      go_wp2
      go_ret
      exact ⟨rfl, rfl⟩
    · have e : (o == 0) = false := by rw [beq_eq_false_iff_ne]; exact h
      rw [decide_eq_false h]
      clear h
      go_enter Try.func77, Try.ntmps77
      go_wp2
      go_ret
      exact ⟨rfl, rfl⟩
  · rw [if_neg h0]
    have e : ((n : Int) == 0) = false := by rw [beq_eq_false_iff_ne]; omega
    have e2 : ¬ ((n : Int) = 0) := by omega
    clear h0
    by_cases h1 : 0 ≤ o
    · by_cases h2 : o ≤ 10
      · rw [decide_eq_true ⟨h1, h2⟩]
        go_enter Try.func77, Try.ntmps77
        go_wp2
        go_ret
        exact ⟨rfl, rfl⟩
      · rw [decide_eq_false (by omega)]
        go_enter Try.func77, Try.ntmps77
        go_wp2
        go_ret
        exact ⟨rfl, rfl⟩
    · rw [decide_eq_false (by omega)]
      go_enter Try.func77, Try.ntmps77
      go_wp2
      go_ret
      exact ⟨rfl, rfl⟩

/-- The tag of the first k bytes. -/
def tagK (s : ByteArray) (k : Nat) : Int := (s.toList.take k).foldl tagStep 0
theorem tagK_all (s : ByteArray) : tagK s s.size = tagN s := by
  unfold tagK tagN
  rw [List.take_of_length_le (by rw [ByteArray.toList_eq]; exact Nat.le_of_eq (bl_length s))]
theorem tagK_succ {s : ByteArray} {k : Nat} (h : k < s.size) : tagK s (k + 1) = (257 * tagK s k + (bN (bl s) k : Int) + 1) % 4093 := by
  have hl : k < s.toList.length := by rw [ByteArray.toList_eq]; exact Nat.lt_of_lt_of_eq h (bl_length s).symm
  unfold tagK
  rw [take_snoc 0 hl, List.foldl_append]
  show tagStep _ _ = _
  unfold tagStep bN
  rw [ByteArray.toList_eq]
  rfl
theorem tagK_bd (s : ByteArray) (k : Nat) : 0 ≤ tagK s k ∧ tagK s k < 4093 := foldl_tag_bd _ 0 (by omega) (by omega)

set_option maxHeartbeats 1000000 in
theorem l8Tag_c (s : ByteArray) (w : World) (hs : s.size ≤ 9223372036854775807) : Calls Try.prog 83 #[.string s] w fun e w' => e = .returned (.int .i64 (tagN s)) ∧ w' = w := by
  have HV : Hid (tagK s s.size = tagN s) := tagK_all s
  generalize tagN s = z at HV ⊢
  go_enter Try.func83, Try.ntmps83
  go_wp2
  go_loop [3, 4] (fun nv iv => ∃ (k : Nat) (t : Int), k ≤ s.size ∧ iv = .int .i64 k ∧ nv = .int .i64 t ∧ 0 ≤ t ∧ t < 4093 ∧ Hid (tagK s k = t)) (fun _ iv => s.size - (intOf iv).toNat)
  case atStart => exact ⟨0, 0, Nat.zero_le _, rfl, rfl, by omega, by omega, rfl⟩
  case round =>
    obtain ⟨k, t, hk, rfl, rfl, t0, t1, HT⟩ := hrel
    by_cases hlt : k < s.size
    · have H2 : Hid (tagK s (k + 1) = (257 * t + (bN (bl s) k : Int) + 1) % 4093) := by show _ = _; rw [tagK_succ hlt, HT.out]
      have hb := byte_at s k hlt
      have hl := bN_lt (bl s) k
      generalize bN (bl s) k = y at hb hl H2
      have h0 : (0 : Int) ≤ (k : Int) := by omega
      have h1 : (k : Int) < (s.size : Int) := by omega
      go_wp2
      go_round
      case rel => exact ⟨k + 1, (257 * t + (y : Int) + 1) % 4093, by omega, by go_num, by go_num, by omega, by omega, H2⟩
      case measure => simp [intOf]; omega
    · obtain rfl : k = s.size := by omega
      have e : t = z := by rw [← HT.out, HV.out]
      subst e
      go_wp2
      go_ret
      exact ⟨rfl, rfl⟩

set_option maxHeartbeats 1000000 in
theorem tagOfLetter_c (s : ByteArray) (w : World) (hs : s.size ≤ 9223372036854775807) : Calls Try.prog 61 #[.string s] w fun e w' => e = .returned (.int .i64 (tagN s)) ∧ w' = w := by
  have HV : Hid (tagK s s.size = tagN s) := tagK_all s
  generalize tagN s = z at HV ⊢
  go_enter Try.func61, Try.ntmps61
  go_wp2
  go_loop [3, 7] (fun nv iv => ∃ (k : Nat) (t : Int), k ≤ s.size ∧ iv = .int .i64 k ∧ nv = .int .i64 t ∧ 0 ≤ t ∧ t < 4093 ∧ Hid (tagK s k = t)) (fun _ iv => s.size - (intOf iv).toNat)
  case atStart => exact ⟨0, 0, Nat.zero_le _, rfl, rfl, by omega, by omega, rfl⟩
  case round =>
    obtain ⟨k, t, hk, rfl, rfl, t0, t1, HT⟩ := hrel
    by_cases hlt : k < s.size
    · have H2 : Hid (tagK s (k + 1) = (t * 257 + (bN (bl s) k : Int) + 1) % 4093) := by show _ = _; rw [tagK_succ hlt, HT.out, Int.mul_comm]
      have hb := byte_at s k hlt
      have hl := bN_lt (bl s) k
      generalize bN (bl s) k = y at hb hl H2
      have h0 : (0 : Int) ≤ (k : Int) := by omega
      have h1 : (k : Int) < (s.size : Int) := by omega
      go_wp2
      go_round
      case rel => exact ⟨k + 1, (t * 257 + (y : Int) + 1) % 4093, by omega, by go_num, by go_num, by omega, by omega, H2⟩
      case measure => simp [intOf]; omega
    · obtain rfl : k = s.size := by omega
      have e : t = z := by rw [← HT.out, HV.out]
      subst e
      go_wp2
      go_ret
      exact ⟨rfl, rfl⟩

def tagF (s : ByteArray) : Int × Bool := if shortB s = true then (tagN s, true) else (0, false)

theorem specTag_c (s : ByteArray) (w : World) (hs : s.size ≤ 9223372036854775807) (t : Int) (fb : Bool) (hF : tagF s = (t, fb)) : Calls Try.prog 37 #[.string s] w fun e w' => e = .returned (.tuple #[.int .i64 t, .bool fb]) ∧ w' = w := by
  have HQ : Hid (∀ wx, Calls Try.prog 83 #[.string s] wx fun e w' => e = .returned (.int .i64 (tagN s)) ∧ w' = wx) := fun wx => l8Tag_c s wx hs
  have HT : Hid (∀ wx, Calls Try.prog 74 #[.string s] wx fun e w' => e = .returned (.bool (shortB s)) ∧ w' = wx) := fun wx => l8Text_c s wx hs
  unfold tagF at hF
  cases hb : shortB s with
  | true =>
    rw [hb] at HT
    rw [if_pos hb] at hF
    simp only [Prod.mk.injEq] at hF
    obtain ⟨rfl, rfl⟩ := hF
    generalize tagN s = z at HQ ⊢
    go_enter Try.func37, Try.ntmps37
    go_wp2_with (first | (go_at_call 74; refine (HT.out _).mono ?_; clear HT; rintro e w' ⟨rfl, hw⟩; subst w') | (go_at_call 83; refine (HQ.out _).mono ?_; clear HQ; rintro e w' ⟨rfl, hw⟩; subst w'))
    refine bodyPost_ret (v := .tuple #[.int .i64 z, .bool true]) (by simp [results, Try.results37, go_sem]; try rfl) rfl ?_
    exact ⟨rfl, rfl⟩
  | false =>
    rw [hb] at HT
    rw [if_neg (by rw [hb]; simp)] at hF
    simp only [Prod.mk.injEq] at hF
    obtain ⟨rfl, rfl⟩ := hF
    go_enter Try.func37, Try.ntmps37
    go_wp2_with (go_at_call 74; refine (HT.out _).mono ?_; clear HT; rintro e w' ⟨rfl, hw⟩; subst w')
    refine bodyPost_ret (v := .tuple #[.int .i64 0, .bool false]) (by simp [results, Try.results37, go_sem]; try rfl) rfl ?_
    exact ⟨rfl, rfl⟩

theorem implTag_c (s : ByteArray) (w : World) (hs : s.size ≤ 9223372036854775807) (t : Int) (fb : Bool) (hF : tagF s = (t, fb)) : Calls Try.prog 17 #[.string s] w fun e w' => e = .returned (.tuple #[.int .i64 t, .bool fb]) ∧ w' = w := by
  have HQ : Hid (∀ wx, Calls Try.prog 61 #[.string s] wx fun e w' => e = .returned (.int .i64 (tagN s)) ∧ w' = wx) := fun wx => tagOfLetter_c s wx hs
  have HT : Hid (∀ wx, Calls Try.prog 56 #[.string s] wx fun e w' => e = .returned (.bool (shortB s)) ∧ w' = wx) := fun wx => isLetter_c s wx hs
  unfold tagF at hF
  cases hb : shortB s with
  | true =>
    rw [hb] at HT
    rw [if_pos hb] at hF
    simp only [Prod.mk.injEq] at hF
    obtain ⟨rfl, rfl⟩ := hF
    generalize tagN s = z at HQ ⊢
    go_enter Try.func17, Try.ntmps17
    go_wp2_with (first | (go_at_call 56; refine (HT.out _).mono ?_; clear HT; rintro e w' ⟨rfl, hw⟩; subst w') | (go_at_call 61; refine (HQ.out _).mono ?_; clear HQ; rintro e w' ⟨rfl, hw⟩; subst w'))
    refine bodyPost_ret (v := .tuple #[.int .i64 z, .bool true]) (by simp [results, Try.results17, go_sem]; try rfl) rfl ?_
    exact ⟨rfl, rfl⟩
  | false =>
    rw [hb] at HT
    rw [if_neg (by rw [hb]; simp)] at hF
    simp only [Prod.mk.injEq] at hF
    obtain ⟨rfl, rfl⟩ := hF
    go_enter Try.func17, Try.ntmps17
    go_wp2_with (go_at_call 56; refine (HT.out _).mono ?_; clear HT; rintro e w' ⟨rfl, hw⟩; subst w')
    refine bodyPost_ret (v := .tuple #[.int .i64 0, .bool false]) (by simp [results, Try.results17, go_sem]; try rfl) rfl ?_
    exact ⟨rfl, rfl⟩

/-- A box of a mix. -/
def C5 (w : World) (r : Nat) (p : Value) (a b o : Int) (s : Value) : Prop :=
  (w.cell? ⟨r, 0, none⟩ = some p ∧ w.cell? ⟨r, 1, none⟩ = some (.int .i64 a) ∧ w.cell? ⟨r, 2, none⟩ = some (.int .i64 b) ∧ w.cell? ⟨r, 3, none⟩ = some (.int .i64 o) ∧ w.cell? ⟨r, 4, none⟩ = some s) ∧ ∀ j, w.frozen? ⟨r, j, none⟩ = false
theorem c5_new (w : World) (p : Value) (a b o : Int) (s : Value) (t : TypeId) (r : Nat) (hr : r = w.heap.size) : C5 (w.alloc (.cells #[p, .int .i64 a, .int .i64 b, .int .i64 o, s] t)) r p a b o s := by
  subst hr
  refine ⟨⟨by simp, by simp, by simp, by simp, by simp⟩, fun j => ?_⟩
  rw [World.frozen?_alloc_mark]; simp
theorem C5.lt {w : World} {r : Nat} {p s : Value} {a b o : Int} (h : C5 w r p a b o s) : r < w.heap.size := World.block_lt_of_cell? w _ h.1.1
theorem C5.later {w w' : World} {r : Nat} {p s : Value} {a b o : Int} (h : C5 w r p a b o s) (hb : Below w.heap.size w w') : C5 w' r p a b o s := by
  have hlt := h.lt
  obtain ⟨⟨c0, c1, c2, c3, c4⟩, f⟩ := h
  refine ⟨⟨?_, ?_, ?_, ?_, ?_⟩, fun j => ?_⟩
  · rw [hb.cell (p := ⟨r, 0, none⟩) hlt]; exact c0
  · rw [hb.cell (p := ⟨r, 1, none⟩) hlt]; exact c1
  · rw [hb.cell (p := ⟨r, 2, none⟩) hlt]; exact c2
  · rw [hb.cell (p := ⟨r, 3, none⟩) hlt]; exact c3
  · rw [hb.cell (p := ⟨r, 4, none⟩) hlt]; exact c4
  · rw [hb.frozen (p := ⟨r, j, none⟩) hlt]; exact f j
theorem C5.grown {w w' : World} {r : Nat} {p s : Value} {a b o : Int} {row : Option Nat} (h : C5 w r p a b o s) (hg : w.grownBy w' row) (hne : some r ≠ row) : C5 w' r p a b o s := by
  have e := hg.block r h.lt hne
  obtain ⟨⟨c0, c1, c2, c3, c4⟩, f⟩ := h
  refine ⟨⟨?_, ?_, ?_, ?_, ?_⟩, fun j => ?_⟩
  · rw [World.cell?_of_block (w := w) (a := ⟨r, 0, none⟩) e]; exact c0
  · rw [World.cell?_of_block (w := w) (a := ⟨r, 1, none⟩) e]; exact c1
  · rw [World.cell?_of_block (w := w) (a := ⟨r, 2, none⟩) e]; exact c2
  · rw [World.cell?_of_block (w := w) (a := ⟨r, 3, none⟩) e]; exact c3
  · rw [World.cell?_of_block (w := w) (a := ⟨r, 4, none⟩) e]; exact c4
  · rw [World.frozen?_of_block (w := w) (a := ⟨r, j, none⟩) e]; exact f j

/-- A mix as a value. -/
def mixV (p : Value) (a b o : Int) (s : Value) : Value := .agg #[p, .int .i64 a, .int .i64 b, .int .i64 o, s]

end Go.Proofs.Ytnppmgnfignbcaa

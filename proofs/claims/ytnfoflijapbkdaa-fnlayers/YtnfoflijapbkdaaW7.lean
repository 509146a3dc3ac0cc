/- Chapter 7: onions walked, both sides. -/
import Derived.Test.YtnfoflijapbkdaaSP7
namespace Go.Proofs.Ytnfoflijapbkdaa
set_option linter.unusedVariables false
set_option maxRecDepth 1000000
set_option linter.unusedSimpArgs false
open Go.RowKit

theorem Rd.get {w : World} {ao : Option Addr} {xs : List Int} (h : Rd w ao xs) {k : Nat} (hk : k < xs.length) : ∃ b o, ao = some ⟨b, o, none⟩ ∧ w.cell? ⟨b, o + k, none⟩ = some (.int .i64 (xs.getD k 0)) := by
  rcases h with rfl | ⟨b, o, rfl, hc⟩
  · simp at hk
  · exact ⟨b, o, rfl, hc k hk⟩

theorem C3.grown {w w' : World} {r : Nat} {x : Int} {a b : ByteArray} {row : Option Nat} (h : C3 w r x a b) (hg : w.grownBy w' row) (hne : some r ≠ row) : C3 w' r x a b := by
  obtain ⟨c0, c1, c2, f0, f1, f2⟩ := h
  have hlt : r < w.heap.size := World.block_lt_of_cell? w _ c0
  have e := hg.block r hlt hne
  refine ⟨?_, ?_, ?_, ?_, ?_, ?_⟩
  · rw [World.cell?_of_block (w := w) (a := ⟨r, 0, none⟩) e]; exact c0
  · rw [World.cell?_of_block (w := w) (a := ⟨r, 1, none⟩) e]; exact c1
  · rw [World.cell?_of_block (w := w) (a := ⟨r, 2, none⟩) e]; exact c2
  · rw [World.frozen?_of_block (w := w) (a := ⟨r, 0, none⟩) e]; exact f0
  · rw [World.frozen?_of_block (w := w) (a := ⟨r, 1, none⟩) e]; exact f1
  · rw [World.frozen?_of_block (w := w) (a := ⟨r, 2, none⟩) e]; exact f2

/-- A box written anew. -/
def C3.put (w : World) (r : Nat) (x : Int) (a b : ByteArray) : World := ((w.setCell ⟨r, 0, none⟩ (.int .i64 x)).setCell ⟨r, 1, none⟩ (.string a)).setCell ⟨r, 2, none⟩ (.string b)
theorem C3.sets {w : World} {r : Nat} {x0 : Int} {a0 b0 : ByteArray} (h : C3 w r x0 a0 b0) (x : Int) (a b : ByteArray) : C3 (C3.put w r x a b) r x a b := by
  obtain ⟨c0, c1, c2, f0, f1, f2⟩ := h
  unfold C3.put
  refine ⟨?_, ?_, ?_, ?_, ?_, ?_⟩
  · rw [World.cell?_setCell_other _ _ _ _ (by simp), World.cell?_setCell_other _ _ _ _ (by simp)]
    exact World.cell?_setCell_same _ _ _ c0
  · rw [World.cell?_setCell_other _ _ _ _ (by simp)]
    exact World.cell?_setCell_same _ _ _ (by rw [World.cell?_setCell_other _ _ _ _ (by simp)]; exact c1)
  · exact World.cell?_setCell_same _ _ _ (by rw [World.cell?_setCell_other _ _ _ _ (by simp), World.cell?_setCell_other _ _ _ _ (by simp)]; exact c2)
  · rw [World.frozen?_setCell, World.frozen?_setCell, World.frozen?_setCell]; exact f0
  · rw [World.frozen?_setCell, World.frozen?_setCell, World.frozen?_setCell]; exact f1
  · rw [World.frozen?_setCell, World.frozen?_setCell, World.frozen?_setCell]; exact f2
theorem C3.putGrown (w : World) (r : Nat) (x : Int) (a b : ByteArray) : w.grownBy (C3.put w r x a b) (some r) :=
  grown_trans (grown_trans (grown_setCell _ _ _ _) (grown_setCell _ _ _ _)) (grown_setCell _ _ _ _)

/-- All keys' layers taken off, one behind the other. -/
def walkS : List Int → List Int × ByteArray × ByteArray → Option (List Int × ByteArray × ByteArray)
  | [], st => some st
  | k :: r, (hs, s, _) => match peelF k s with
    | none => none
    | some p => walkS r (hs ++ [(p.next : Int)], tx p.rest, tx p.body)
def walkO : Option (List Int × ByteArray × ByteArray) → List Int × ByteArray × Bool
  | none => ([], ByteArray.empty, false)
  | some (hs, _, b) => (hs, b, true)
def walkF (xs : List Int) (s : ByteArray) : List Int × ByteArray × Bool := if xs.length ≤ 4 then walkO (walkS xs ([], s, ByteArray.empty)) else ([], ByteArray.empty, false)

theorem walkS_step {xs : List Int} {j : Nat} (hj : j < xs.length) (hs : List Int) (s b : ByteArray) : walkS (xs.drop j) (hs, s, b) = match peelF (xs.getD j 0) s with
    | none => none
    | some p => walkS (xs.drop (j + 1)) (hs ++ [(p.next : Int)], tx p.rest, tx p.body) := by
  rw [List.drop_eq_getElem_cons hj, walkS]
  simp [List.getD, hj]
theorem walkS_end {xs : List Int} {j : Nat} (hj : xs.length ≤ j) (st : List Int × ByteArray × ByteArray) : walkS (xs.drop j) st = some st := by
  rw [List.drop_of_length_le hj, walkS]
theorem peelF_rest {k : Int} {s : ByteArray} {p : Peel} (h : peelF k s = some p) : (tx p.rest).size = 24 := by
  unfold peelF at h
  split at h
  · rename_i hc
    unfold peelB at h
    simp only at h
    split at h
    · simp only [Option.some.injEq] at h
      subst h
      rw [tx_size]
      show (List.drop 2 (xorB (bl s) (padU k)) ++ [0, 0]).length = 24
      rw [List.length_append, List.length_drop, xorB_length (by rw [bl_length, padU_length hc.1]; exact hc.2), bl_length, hc.2]
      rfl
    · cases h
  · cases h

set_option maxHeartbeats 4000000 in
theorem specWalk_c (ao : Option Addr) (n c : Nat) (s : ByteArray) (xs : List Int) (w : World) (hx : xs.length = n) (hn : n ≤ 17592186044416) (hz : s.size ≤ 17592186044416) (hr : Rd w ao xs) (hs : List Int) (bd : ByteArray) (fb : Bool) (hF : walkF xs s = (hs, bd, fb)) :
    Calls Try.prog 22 #[.slice ao n c, .string s] w fun e w' => ∃ a' c', e = .returned (.tuple #[.slice a' hs.length c', .string bd, .bool fb]) ∧ Own w' w.heap.size (.slice a' hs.length c') hs ∧ Below w.heap.size w w' := by
  obtain ⟨i0, hi, hz0, hz1, hz2⟩ := info_parts Try.infoInt
  unfold walkF at hF
  rw [hx] at hF
  by_cases h4 : n ≤ 4
  · have i4 : ¬ (4 : Int) < (n : Int) := by omega
    rw [if_pos h4] at hF
    have HX : Hid (xs.length = n) := hx
    have HR : Hid (Rd w ao xs) := hr
    have HF : Hid (walkO (walkS (xs.drop 0) ([], s, ByteArray.empty)) = (hs, bd, fb)) := by rw [List.drop_zero]; exact hF
    clear hx hr hF
    go_enter Try.func22, Try.ntmps22
    go_wp2
    go_loopw [1, 7, 8, 18] (fun sv v bv i wr => ∃ (k : Nat) (out : List Int) (cur bod : ByteArray), k ≤ n ∧ i = .int .i64 k ∧ sv = .string cur ∧ bv = .string bod ∧ cur.size ≤ 17592186044416 ∧ Hid (out.length = k) ∧ Hid (walkO (walkS (xs.drop k) (out, cur, bod)) = (hs, bd, fb)) ∧ Hid (Own wr w.heap.size v out) ∧ Hid (Below w.heap.size w wr)) (fun _ _ _ i _ => n - (intOf i).toNat)
    case atStart => exact ⟨0, [], s, ByteArray.empty, Nat.zero_le _, rfl, rfl, rfl, hz, rfl, HF, World.ownsRow_nil _ _ _ _, Below.refl _ _⟩
    case round =>
      obtain ⟨k, out, cur, bod, hk, rfl, rfl, rfl, hcz, HL, HW, hO, hB⟩ := hrel
      by_cases hlt : k < n
      · have hkl : k < xs.length := by rw [HX.out]; exact hlt
        obtain ⟨b, o, rfl, g1⟩ := Rd.get (HR.out.later hB.out) hkl
        have hW := HW.out
        rw [walkS_step hkl] at hW
        generalize xs.getD k 0 = key at g1 hW
        obtain ⟨x, a, d, f, hP⟩ : ∃ x a d f, peelR (peelF key cur) = (x, a, d, f) := ⟨_, _, _, _, rfl⟩
        have qw := specPeel_c key cur wr hcz x a d f hP
        have hob : ∀ k', u7.ownBlock = some k' → w.heap.size ≤ k' := own_block_ge hO.out
        cases hpe : peelF key cur with
        | none =>
          rw [hpe] at hP hW
          simp only [peelR, Prod.mk.injEq] at hP
          obtain ⟨rfl, rfl, rfl, rfl⟩ := hP
          simp only [walkO, Prod.mk.injEq] at hW
          obtain ⟨h1, h2, h3⟩ := hW
          subst h1; subst h2; subst h3
          clear hpe hkl
          go_wp2_with fail
          refine qw.mono ?_
          clear qw
          rintro e w1 ⟨rfl, hb⟩
          have HB1 : Hid (Below w.heap.size w (w1.alloc (.cells #[.int .i64 0, .string ByteArray.empty, .string ByteArray.empty] 31))) := Below.alloc (hB.out.trans (hb.mono hB.out.size)) (Nat.le_trans hB.out.size hb.size) _
          clear hb
          go_wp2
          refine bodyPost_ret (v := .tuple #[.slice none 0 0, .string ByteArray.empty, .bool false]) (by simp [results, Try.results22, go_sem]; try rfl) rfl ?_
          exact ⟨none, 0, rfl, World.ownsRow_nil _ _ _ _, HB1.out⟩
        | some p =>
          have hpr := peelF_rest hpe
          rw [hpe] at hP hW
          simp only [peelR, Prod.mk.injEq] at hP
          obtain ⟨rfl, rfl, rfl, rfl⟩ := hP
          have HW2 : Hid (walkO (walkS (xs.drop (k + 1)) (out ++ [(p.next : Int)], tx p.rest, tx p.body)) = (hs, bd, fb)) := hW
          generalize (p.next : Int) = x at qw HW2
          generalize tx p.rest = a at qw HW2 hpr
          generalize tx p.body = d at qw HW2
          clear hpe hkl hW HW
          go_wp2_with fail
          refine qw.mono ?_
          clear qw
          rintro e w1 ⟨rfl, hb⟩
          have hB1 : Below w.heap.size w (w1.alloc (.cells #[.int .i64 x, .string a, .string d] 31)) := Below.alloc (hB.out.trans (hb.mono hB.out.size)) (Nat.le_trans hB.out.size hb.size) _
          have hC1 : C3 (w1.alloc (.cells #[.int .i64 x, .string a, .string d] 31)) w1.heap.size x a d := c3_new _ _ _ _ _ _ rfl
          have hO1 : Own (w1.alloc (.cells #[.int .i64 x, .string a, .string d] 31)) w.heap.size u7 out := (hO.out.later hb).later (balloc _ _)
          have hT1 : (∀ k', u7.ownBlock = some k' → k' < w1.heap.size) := fun k' h => (World.ownsRow.lt (hO.out.later hb) k' h).2
          obtain ⟨V, hV⟩ : ∃ V, w1.alloc (.cells #[.int .i64 x, .string a, .string d] 31) = V := ⟨_, rfl⟩
          rw [hV] at hB1 hC1 hO1
          have hown : V.ownsRow w.heap.size 3 1 u7 k (cellsI out) := by have h := hO1; unfold Own at h; rw [HL.out] at h; exact h
          have HC : Hid (C3 V w1.heap.size x a d) := hC1
          obtain ⟨c0, c1, c2, _, _, _⟩ := hC1
          have HB1 : Hid (Below w.heap.size w V) := hB1
          have HT1 : Hid (∀ k', u7.ownBlock = some k' → k' < w1.heap.size) := hT1
          clear hb hO1 hB1 hT1 hO hB
          go_wp2_with (at_builtin; refine wpList_append_own _ rfl _ _ 23 rfl w.heap.size 3 i0 (.int .i64 0) 1 8 Try.underlying23 hi hz0 hz1 hz2 rfl (by decide) _ _ _ rfl (hown.alloc _) ⟨V.heap.size, 0, none⟩ 1 1 [.int .i64 x] rfl rfl (cell_new1 _ _ _) (ints_oneCell .i64 [x]) (by unfold maxLen; omega) (by omega) (by have := HB1.out.size; simp; omega) ?_; intro v' w2 hown' hgrow _; have HO' : Hid (Own w2 w.heap.size v' (out ++ [x])) := own_push (w := V) (v := u7) (by simpa [HL.out] using hown'); have HB' : Hid (Below w.heap.size w w2) := (HB1.out.alloc HB1.out.size _).grown hgrow (by have := HB1.out.size; simp; omega) (fun k' e => hob k' e); have hC2 : C3 w2 w1.heap.size x a d := (HC.out.later (balloc _ _)).grown hgrow (fun e => by have := HT1.out _ e.symm; omega); obtain ⟨e0, e1, e2, _, _, _⟩ := hC2; clear hown' hgrow c0 c1 c2)
          go_roundw
          case rel => exact ⟨k + 1, out ++ [x], a, d, by omega, by go_num, rfl, rfl, by omega, by show _ = _; rw [List.length_append, HL.out]; rfl, HW2, HO', HB'⟩
          case measure => simp [intOf]; omega
      · obtain rfl : k = n := by omega
        have hW := HW.out
        rw [walkS_end (by rw [HX.out]; exact Nat.le_refl _)] at hW
        simp only [walkO, Prod.mk.injEq] at hW
        obtain ⟨h1, h2, h3⟩ := hW
        subst h1; subst h2; subst h3
        obtain ⟨a', c', hv⟩ := hO.out.shape
        subst hv
        go_wp2
        refine bodyPost_ret (v := .tuple #[.slice a' out.length c', .string bod, .bool true]) (by simp [results, Try.results22, go_sem]; try rfl) rfl ?_
        exact ⟨a', c', rfl, hO.out, hB.out⟩
  · have i4 : (4 : Int) < (n : Int) := by omega
    rw [if_neg h4] at hF
    simp only [Prod.mk.injEq] at hF
    obtain ⟨rfl, rfl, rfl⟩ := hF
    clear hx hr
    go_enter Try.func22, Try.ntmps22
    go_wp2
    refine bodyPost_ret (v := .tuple #[.slice none 0 0, .string ByteArray.empty, .bool false]) (by simp [results, Try.results22, go_sem]; try rfl) rfl ?_
    exact ⟨none, 0, rfl, World.ownsRow_nil _ _ _ _, Below.refl _ _⟩

set_option maxHeartbeats 4000000 in
theorem implWalk_c (ao : Option Addr) (n c : Nat) (s : ByteArray) (xs : List Int) (w : World) (hx : xs.length = n) (hn : n ≤ 17592186044416) (hz : s.size ≤ 17592186044416) (hr : Rd w ao xs) (hs : List Int) (bd : ByteArray) (fb : Bool) (hF : walkF xs s = (hs, bd, fb)) :
    Calls Try.prog 16 #[.slice ao n c, .string s] w fun e w' => ∃ a' c', e = .returned (.tuple #[.slice a' hs.length c', .string bd, .bool fb]) ∧ Own w' w.heap.size (.slice a' hs.length c') hs ∧ Below w.heap.size w w' := by
  obtain ⟨i0, hi, hz0, hz1, hz2⟩ := info_parts Try.infoInt
  unfold walkF at hF
  rw [hx] at hF
  by_cases h4 : n ≤ 4
  · have i4 : ¬ (4 : Int) < (n : Int) := by omega
    rw [if_pos h4] at hF
    have HX : Hid (xs.length = n) := hx
    have HR : Hid (Rd w ao xs) := hr
    have HF : Hid (walkO (walkS (xs.drop 0) ([], s, ByteArray.empty)) = (hs, bd, fb)) := by rw [List.drop_zero]; exact hF
    clear hx hr hF
    have hC0 := c3_new w 0 s ⟨#[]⟩ 31 w.heap.size rfl
    have hB0 := balloc w (.cells #[.int .i64 0, .string s, .string ⟨#[]⟩] 31)
    have hZ0 : (w.alloc (.cells #[.int .i64 0, .string s, .string ⟨#[]⟩] 31)).heap.size = w.heap.size + 1 := by simp
    obtain ⟨W0, hW0⟩ : ∃ W0, w.alloc (.cells #[.int .i64 0, .string s, .string ⟨#[]⟩] 31) = W0 := ⟨_, rfl⟩
    rw [hW0] at hC0 hB0 hZ0
    have HC0 : Hid (C3 W0 w.heap.size 0 s ⟨#[]⟩) := hC0
    have HB0 : Hid (Below w.heap.size w W0) := hB0
    have HZ0 : Hid (W0.heap.size = w.heap.size + 1) := hZ0
    have HW0 : Hid (w.alloc (.cells #[.int .i64 0, .string s, .string ⟨#[]⟩] 31) = W0) := hW0
    clear hC0 hB0 hZ0 hW0
    go_enter Try.func16, Try.ntmps16
    go_wp2
    go_loopw [7, 20] (fun v i wr => ∃ (k : Nat) (out : List Int) (x0 : Int) (cur bod : ByteArray), k ≤ n ∧ i = .int .i64 k ∧ Hid (C3 wr w.heap.size x0 cur bod) ∧ cur.size ≤ 17592186044416 ∧ Hid (out.length = k) ∧ Hid (walkO (walkS (xs.drop k) (out, cur, bod)) = (hs, bd, fb)) ∧ Hid (Own wr W0.heap.size v out) ∧ Hid (Below w.heap.size w wr) ∧ Hid (W0.heap.size ≤ wr.heap.size)) (fun _ i _ => n - (intOf i).toNat)
    case atStart => rw [HW0.out]; exact ⟨0, [], 0, s, ⟨#[]⟩, Nat.zero_le _, rfl, HC0, hz, rfl, HF, World.ownsRow_nil _ _ _ _, HB0, Nat.le_refl _⟩
    case round =>
      obtain ⟨k, out, x0, cur, bod, hk, rfl, HC, hcz, HL, HW, hO, hB, HZ⟩ := hrel
      by_cases hlt : k < n
      · have hkl : k < xs.length := by rw [HX.out]; exact hlt
        obtain ⟨b, o, rfl, g1⟩ := Rd.get (HR.out.later hB.out) hkl
        have hW := HW.out
        rw [walkS_step hkl] at hW
        generalize xs.getD k 0 = key at g1 hW
        obtain ⟨x, a, d, f, hP⟩ : ∃ x a d f, peelR (peelF key cur) = (x, a, d, f) := ⟨_, _, _, _, rfl⟩
        have qw := implPeel_c key cur wr hcz x a d f hP
        have hob : ∀ k', u7.ownBlock = some k' → W0.heap.size ≤ k' := own_block_ge hO.out
        obtain ⟨c0, c1, c2, f0, f1, f2⟩ := HC.out
        cases hpe : peelF key cur with
        | none =>
          rw [hpe] at hP hW
          simp only [peelR, Prod.mk.injEq] at hP
          obtain ⟨rfl, rfl, rfl, rfl⟩ := hP
          simp only [walkO, Prod.mk.injEq] at hW
          obtain ⟨h1, h2, h3⟩ := hW
          subst h1; subst h2; subst h3
          clear hpe hkl
          go_wp2_with fail
          refine qw.mono ?_
          clear qw
          rintro e w1 ⟨rfl, hb⟩
          have HB1 : Hid (Below w.heap.size w (w1.alloc (.cells #[.int .i64 0, .string ByteArray.empty, .string ByteArray.empty] 31))) := Below.alloc (hB.out.trans (hb.mono hB.out.size)) (Nat.le_trans hB.out.size hb.size) _
          clear hb
          go_wp2
          refine bodyPost_ret (v := .tuple #[.slice none 0 0, .string ByteArray.empty, .bool false]) (by simp [results, Try.results16, go_sem]; try rfl) rfl ?_
          exact ⟨none, 0, rfl, World.ownsRow_nil _ _ _ _, HB1.out⟩
        | some p =>
          have hpr := peelF_rest hpe
          rw [hpe] at hP hW
          simp only [peelR, Prod.mk.injEq] at hP
          obtain ⟨rfl, rfl, rfl, rfl⟩ := hP
          have HW2 : Hid (walkO (walkS (xs.drop (k + 1)) (out ++ [(p.next : Int)], tx p.rest, tx p.body)) = (hs, bd, fb)) := hW
          generalize (p.next : Int) = x at qw HW2
          generalize tx p.rest = a at qw HW2 hpr
          generalize tx p.body = d at qw HW2
          clear hpe hkl hW HW
          go_wp2_with fail
          refine qw.mono ?_
          clear qw
          rintro e w1 ⟨rfl, hb⟩
          have hB1 : Below w.heap.size w (w1.alloc (.cells #[.int .i64 x, .string a, .string d] 31)) := Below.alloc (hB.out.trans (hb.mono hB.out.size)) (Nat.le_trans hB.out.size hb.size) _
          have hC1 : C3 (w1.alloc (.cells #[.int .i64 x, .string a, .string d] 31)) w1.heap.size x a d := c3_new _ _ _ _ _ _ rfl
          have hD1 : C3 (w1.alloc (.cells #[.int .i64 x, .string a, .string d] 31)) w.heap.size x0 cur bod := (HC.out.later hb).later (balloc _ _)
          have hO1 : Own (w1.alloc (.cells #[.int .i64 x, .string a, .string d] 31)) W0.heap.size u7 out := (hO.out.later hb).later (balloc _ _)
          have hT1 : (∀ k', u7.ownBlock = some k' → k' < w1.heap.size) := fun k' h => (World.ownsRow.lt (hO.out.later hb) k' h).2
          have hS1 : W0.heap.size ≤ (w1.alloc (.cells #[.int .i64 x, .string a, .string d] 31)).heap.size := by have h1 := HZ.out; have h2 := hb.size; simp; omega
          have HN1 : Hid (w.heap.size < w1.heap.size) := by have h1 := HZ.out; have h2 := hb.size; have h3 := HZ0.out; show _ < _; omega
          obtain ⟨V, hV⟩ : ∃ V, w1.alloc (.cells #[.int .i64 x, .string a, .string d] 31) = V := ⟨_, rfl⟩
          rw [hV] at hB1 hC1 hO1 hD1 hS1
          have hown : V.ownsRow W0.heap.size 3 1 u7 k (cellsI out) := by have h := hO1; unfold Own at h; rw [HL.out] at h; exact h
          have HC1 : Hid (C3 V w1.heap.size x a d) := hC1
          have HD1 : Hid (C3 V w.heap.size x0 cur bod) := hD1
          obtain ⟨c0', _, _, _, _, _⟩ := hC1
          have HB1 : Hid (Below w.heap.size w V) := hB1
          have HS1 : Hid (W0.heap.size ≤ V.heap.size) := hS1
          have HT1 : Hid (∀ k', u7.ownBlock = some k' → k' < w1.heap.size) := hT1
          clear hb hO1 hB1 hT1 hO hB hD1 hS1 HC c0 c1 c2 f0 f1 f2
          go_wp2_with (at_builtin; refine wpList_append_own _ rfl _ _ 23 rfl W0.heap.size 3 i0 (.int .i64 0) 1 8 Try.underlying23 hi hz0 hz1 hz2 rfl (by decide) _ _ _ rfl (hown.alloc _) ⟨V.heap.size, 0, none⟩ 1 1 [.int .i64 x] rfl rfl (cell_new1 _ _ _) (ints_oneCell .i64 [x]) (by unfold maxLen; omega) (by omega) (by have := HS1.out; simp; omega) ?_; intro v' w2 hown' hgrow _; have HO' : Hid (Own w2 W0.heap.size v' (out ++ [x])) := own_push (w := V) (v := u7) (by simpa [HL.out] using hown'); have HB' : Hid (Below w.heap.size w w2) := (HB1.out.alloc HB1.out.size _).grown hgrow (by have := HB1.out.size; simp; omega) (fun k' e => by have := hob k' e; have := HZ0.out; omega); have hC2 : C3 w2 w1.heap.size x a d := (HC1.out.later (balloc _ _)).grown hgrow (fun e => by have := HT1.out _ e.symm; omega); have hD2 : C3 w2 w.heap.size x0 cur bod := (HD1.out.later (balloc _ _)).grown hgrow (fun e => by have := hob _ e.symm; have := HZ0.out; omega); have HS2 : Hid (W0.heap.size ≤ w2.heap.size) := (by have h1 := HS1.out; have h2 := hgrow.size; simp at h2; show _ ≤ _; omega); have HOB : Hid (∀ k', v'.ownBlock = some k' → W0.heap.size ≤ k') := own_block_ge HO'.out; obtain ⟨e0, e1, e2, _, _, _⟩ := hC2; have HD2 : Hid (C3 w2 w.heap.size x0 cur bod) := hD2; obtain ⟨d0, d1, d2, f0, f1, f2⟩ := hD2; clear hown' hgrow c0')
          have HP := C3.putGrown w2 w.heap.size x a d
          have HD3 := HD2.out.sets x a d
          have HO3 := HO'.out.kept HP (by
            cases hv : v'.ownBlock with
            | none => exact Or.inl rfl
            | some k' => exact Or.inr (fun e => by have := HOB.out k' hv; have := HZ0.out; simp at e; omega))
          have HB3 : Below w.heap.size w (C3.put w2 w.heap.size x a d) := HB'.out.trans (below_grown HP (Nat.le_refl _) HB'.out.size)
          have HS3 : W0.heap.size ≤ (C3.put w2 w.heap.size x a d).heap.size := Nat.le_trans HS2.out HP.size
          go_roundw
          case rel => exact ⟨k + 1, out ++ [x], x, a, d, by omega, by go_num, HD3, by omega, by show _ = _; rw [List.length_append, HL.out]; rfl, HW2, HO3, HB3, HS3⟩
          case measure => simp [intOf]; omega
      · obtain rfl : k = n := by omega
        have hW := HW.out
        rw [walkS_end (by rw [HX.out]; exact Nat.le_refl _)] at hW
        simp only [walkO, Prod.mk.injEq] at hW
        obtain ⟨h1, h2, h3⟩ := hW
        subst h1; subst h2; subst h3
        obtain ⟨a', c', hv⟩ := hO.out.shape
        subst hv
        obtain ⟨c0, c1, c2, f0, f1, f2⟩ := HC.out
        go_wp2
        go_quiet (fail)
        go_wp2
        refine bodyPost_ret (v := .tuple #[.slice a' out.length c', .string bod, .bool true]) (by simp [results, Try.results16, go_sem]; try rfl) rfl ?_
        exact ⟨a', c', rfl, (hO.out.mono (by have := HZ0.out; omega)).later (below_drewN (Below.refl _ _) _), below_drewN hB.out _⟩
  · have i4 : (4 : Int) < (n : Int) := by omega
    rw [if_neg h4] at hF
    simp only [Prod.mk.injEq] at hF
    obtain ⟨rfl, rfl, rfl⟩ := hF
    clear hx hr
    go_enter Try.func16, Try.ntmps16
    go_wp2
    refine bodyPost_ret (v := .tuple #[.slice none 0 0, .string ByteArray.empty, .bool false]) (by simp [results, Try.results16, go_sem]; try rfl) rfl ?_
    exact ⟨none, 0, rfl, World.ownsRow_nil _ _ _ _, Below.refl _ _⟩

end Go.Proofs.Ytnfoflijapbkdaa

/- RunsOf: the contracts, the program's and the specification's. -/
import Derived.Test.YtjdfpjeeipbghaaB3B
import Derived.Deep.AppendLies
namespace Go.Proofs.Ytjdfpjeeipbghaa
set_option linter.unusedVariables false
set_option linter.unusedSimpArgs false
open Go.RowKit

/-- The runs when k bits have been seen. -/
def runsAt (xs : List Bool) : Nat → List Int
  | 0 => []
  | k + 1 => if 0 < k ∧ xs.getD (k - 1) false = xs.getD k false then (runsAt xs k).set ((runsAt xs k).length - 1) ((runsAt xs k).getD ((runsAt xs k).length - 1) 0 + 1) else runsAt xs k ++ [1]

theorem getD_set_eq (l : List Int) (i j : Nat) (v : Int) : (l.set i v).getD j 0 = if i = j ∧ j < l.length then v else l.getD j 0 := by
  simp only [List.getD, List.getElem?_set]
  by_cases h : i = j
  · subst h
    by_cases h2 : i < l.length
    · simp [h2]
    · simp [h2]
  · simp [h]

theorem getD_snoc (l : List Int) (j : Nat) (v : Int) : (l ++ [v]).getD j 0 = if j = l.length then v else l.getD j 0 := by
  by_cases h : j < l.length
  · rw [if_neg (by omega)]
    simp [List.getD, List.getElem?_append_left h]
  · by_cases h2 : j = l.length
    · subst h2; simp [List.getD]
    · rw [if_neg h2]
      simp [List.getD, List.getElem?_eq_none (show l.length ≤ j by omega), List.getElem?_eq_none (show (l ++ [v]).length ≤ j by simp; omega)]

theorem runsAt_ok (xs : List Bool) : ∀ k : Nat, (runsAt xs k).length ≤ k ∧ (0 < k → 0 < (runsAt xs k).length) ∧ ∀ j, 0 ≤ (runsAt xs k).getD j 0 ∧ (runsAt xs k).getD j 0 ≤ k
  | 0 => by simp [runsAt]
  | k + 1 => by
    obtain ⟨h1, h2, h3⟩ := runsAt_ok xs k
    simp only [runsAt]
    by_cases h : 0 < k ∧ xs.getD (k - 1) false = xs.getD k false
    · rw [if_pos h]
      refine ⟨by rw [List.length_set]; omega, fun _ => by rw [List.length_set]; exact h2 h.1, fun j => ?_⟩
      rw [getD_set_eq]
      have a := h3 j
      have b := h3 ((runsAt xs k).length - 1)
      split <;> omega
    · rw [if_neg h]
      refine ⟨by simp; omega, fun _ => by simp, fun j => ?_⟩
      rw [getD_snoc]
      have a := h3 j
      split <;> omega

theorem runsAt_more {xs : List Bool} {k : Nat} (h : 0 < k ∧ xs.getD (k - 1) false = xs.getD k false) : runsAt xs (k + 1) = (runsAt xs k).set ((runsAt xs k).length - 1) ((runsAt xs k).getD ((runsAt xs k).length - 1) 0 + 1) := by
  simp only [runsAt]; rw [if_pos h]
theorem runsAt_new {xs : List Bool} {k : Nat} (h : ¬ (0 < k ∧ xs.getD (k - 1) false = xs.getD k false)) : runsAt xs (k + 1) = runsAt xs k ++ [1] := by
  simp only [runsAt]; rw [if_neg h]

def runsF (xs : List Bool) : List Int × Bool := if xs.length ≤ 40 then (runsAt xs xs.length, true) else ([], false)
theorem runsF_short {xs : List Bool} {zs : List Int} {fb : Bool} (h : runsF xs = (zs, fb)) : zs.length ≤ 40 := by
  unfold runsF at h
  split at h
  · simp only [Prod.mk.injEq] at h
    rw [← h.1]; have := (runsAt_ok xs xs.length).1; omega
  · simp only [Prod.mk.injEq] at h
    rw [← h.1]; simp

theorem own_set {w : World} {base g r cap : Nat} {l : List Int} (h : Own w base (.slice (some ⟨g, 0, none⟩) r cap) l) (hr : l.length = r) (i : Nat) (x : Int) : Own (w.setCell ⟨g, i, none⟩ (.int .i64 x)) base (.slice (some ⟨g, 0, none⟩) r cap) (l.set i x) := by
  have hst := World.ownsRow.stored (by have h' := h; unfold Own at h'; rw [hr] at h'; exact h' : w.ownsRow base 3 1 (.slice (some ⟨g, 0, none⟩) r cap) r (cellsI l)) i (.int .i64 x)
  rw [cellsI_set] at hst
  unfold Own
  rw [List.length_set, hr]
  exact hst.1

set_option maxHeartbeats 1000000 in
theorem implRuns_at (b o n c p : Nat) (xs : List Bool) (w : World) (hx : xs.length = n) (h40 : n ≤ 40) (hp : (runsAt xs n).length = p)
    (hcx : ∀ j, j < n → w.cell? ⟨b, o + j, none⟩ = some (.bool (xs.getD j false))) :
    Calls Try.prog 40 #[.slice (some ⟨b, o, none⟩) n c] w fun e w' => ∃ a' c', e = .returned (.tuple #[.slice a' p c', .bool true]) ∧ Own w' w.heap.size (.slice a' p c') (runsAt xs n) ∧ Below w.heap.size w w' := by
  obtain ⟨i0, hi, hz0, hz1, hz2⟩ := info_parts Try.infoInt
  have HX : Hid (xs.length = n) := hx
  have HP : Hid ((runsAt xs n).length = p) := hp
  have HC : Hid (∀ j, j < n → w.cell? ⟨b, o + j, none⟩ = some (.bool (xs.getD j false))) := hcx
  have h40i : (n : Int) ≤ 40 := by omega
  have hd : decide ((n : Int) ≤ 40) = true := decide_eq_true (by omega)
  clear hx hp hcx
  go_enter Try.func40, Try.ntmps40
  go_wp2
  go_loopw [4, 12] (fun v i wr => ∃ k : Nat, k ≤ n ∧ i = .int .i64 k ∧ Hid (Own wr w.heap.size v (runsAt xs k)) ∧ Hid (Below w.heap.size w wr)) (fun _ i _ => n - (intOf i).toNat)
  case atStart => exact ⟨0, Nat.zero_le _, rfl, World.ownsRow_nil _ _ _ _, Below.refl _ _⟩
  case round =>
    obtain ⟨k, hk, rfl, hO, hB⟩ := hrel
    by_cases hlt : k < n
    · have hbx := World.block_lt_of_cell? w _ (HC.out k hlt)
      have g1 : wr.cell? ⟨b, o + k, none⟩ = some (.bool (xs.getD k false)) := by rw [hB.out.cell (p := ⟨b, o + k, none⟩) hbx]; exact HC.out k hlt
      have hk0 : (0 : Int) ≤ (k : Int) := by omega
      have hkl : (k : Int) < (n : Int) := by omega
      have hol := (runsAt_ok xs k).1
      by_cases hk1 : 0 < k
      · have hbx2 := World.block_lt_of_cell? w _ (HC.out (k - 1) (by omega))
        have g2 : wr.cell? ⟨b, o + (k - 1), none⟩ = some (.bool (xs.getD (k - 1) false)) := by rw [hB.out.cell (p := ⟨b, o + (k - 1), none⟩) hbx2]; exact HC.out (k - 1) (by omega)
        have k1 : (0 : Int) < (k : Int) := by omega
        have k2 : (0 : Int) ≤ (k : Int) - 1 := by omega
        have k3 : (k : Int) - 1 < (n : Int) := by omega
        have k4 : ((k : Int) - 1).toNat = k - 1 := by omega
        have k5 : ((k : Int) == 0) = false := by rw [beq_eq_false_iff_ne]; omega
        clear hbx hbx2
        by_cases hxy : xs.getD (k - 1) false = xs.getD k false
        · -- one run more of the same
          have hr1 := (runsAt_ok xs k).2.1 hk1
          have hr0 := (runsAt_ok xs k).1
          rcases hO.out.form with ⟨_, h0⟩ | ⟨g, cap, hv, hgb, _, _⟩
          · rw [h0] at hr1; simp at hr1
          obtain ⟨r, hr⟩ : ∃ r, (runsAt xs k).length = r + 1 := ⟨(runsAt xs k).length - 1, by omega⟩
          rw [hr] at hv
          subst hv
          have hy3 := (runsAt_ok xs k).2.2 r
          have gl : wr.cell? ⟨g, r, none⟩ = some (.int .i64 ((runsAt xs k).getD r 0)) := Own.cell (g := g) (cap := cap) (by rw [hr]; exact hO.out) r (by omega)
          have gf : wr.frozen? ⟨g, r, none⟩ = false := Own.free (g := g) (cap := cap) (xs := runsAt xs k) (by rw [hr]; exact hO.out) r
          have HS : Hid (Own (wr.setCell ⟨g, r, none⟩ (.int .i64 ((runsAt xs k).getD r 0 + 1))) w.heap.size (.slice (some ⟨g, 0, none⟩) (r + 1) cap) (runsAt xs (k + 1))) := by
            show Own _ _ _ _
            rw [runsAt_more ⟨hk1, hxy⟩, show (runsAt xs k).length - 1 = r by omega]
            exact own_set hO.out hr r _
          generalize (runsAt xs k).getD r 0 = y at gl HS hy3
          have hr40 : r ≤ 40 := by omega
          clear hr1 hr0 hr
          rw [hxy] at g2
          generalize xs.getD k false = x at g1 g2
          clear hk1 hxy
          cases x
          all_goals go_wp2
          all_goals go_roundw
          all_goals first | (case rel => exact ⟨k + 1, by omega, by go_num, HS, hB.out.setCell hgb _⟩) | skip
          all_goals (simp [intOf]; omega)
        · have HN : Hid (runsAt xs (k + 1) = runsAt xs k ++ [1]) := runsAt_new (fun h => hxy h.2)
          generalize xs.getD (k - 1) false = x at g2 hxy
          generalize xs.getD k false = y at g1 hxy
          have hob : ∀ k', u4.ownBlock = some k' → w.heap.size ≤ k' := own_block_ge hO.out
          obtain ⟨out, hout⟩ : ∃ out, out = runsAt xs k := ⟨_, rfl⟩
          obtain ⟨r, hr⟩ : ∃ r, out.length = r := ⟨_, rfl⟩
          have HL : Hid (out.length = r) := hr
          have hr40 : r ≤ 40 := by rw [← hr, hout]; omega
          have hown : wr.ownsRow w.heap.size 3 1 u4 r (cellsI out) := by have h := hO.out; unfold Own at h; rw [← hout, hr] at h; exact h
          rw [← hout] at HN
          clear hout hr hol
          cases x <;> cases y <;> first | exact absurd rfl hxy | skip
          all_goals clear hxy hk1
          all_goals go_wp2_with (at_builtin; refine wpList_append_lies _ rfl _ _ 25 rfl w.heap.size 3 i0 (.int .i64 0) 1 8 Try.underlying25 hi hz0 hz1 hz2 rfl (by decide) _ _ _ rfl (hown.alloc _) ⟨wr.heap.size, 0, none⟩ 1 1 [.int .i64 (0)] rfl rfl (cell_new1 _ _ _) (ints_oneCell .i64 [0]) (by omega) (by unfold maxLen; omega) (by omega) (by have := hB.out.size; simp; omega) _ rfl ?_; intro g cap w2 hown' hgrow _ hlg; have HO1 : Hid (Own w2 w.heap.size (.slice (some ⟨g, 0, none⟩) (r + 1) cap) (out ++ [0])) := own_push (w := wr) (v := u4) (by simpa [HL.out] using hown'); have HB1 : Hid (Below w.heap.size w w2) := (hB.out.alloc hB.out.size _).grown hgrow (by have := hB.out.size; simp; omega) (fun k' e => hob k' e); have hl1 : (out ++ [(0 : Int)]).length = r + 1 := (by rw [List.length_append, HL.out]; rfl); have gl : w2.cell? ⟨g, r, none⟩ = some (.int .i64 0) := (by have h := Own.cell (g := g) (cap := cap) (xs := out ++ [(0 : Int)]) (by rw [hl1]; exact HO1.out) r (by omega); rw [getD_snoc, if_pos HL.out.symm] at h; exact h); have gf : w2.frozen? ⟨g, r, none⟩ = false := Own.free (g := g) (cap := cap) (xs := out ++ [(0 : Int)]) (by rw [hl1]; exact HO1.out) r; have hgb : w.heap.size ≤ g := own_block_ge HO1.out g rfl; have HO' : Hid (Own (w2.setCell ⟨g, r, none⟩ (.int .i64 1)) w.heap.size (.slice (some ⟨g, 0, none⟩) (r + 1) cap) (out ++ [1])) := (by have h := own_set HO1.out hl1 r 1; have e : (out ++ [(0 : Int)]).set r 1 = out ++ [1] := (by rw [← HL.out]; simp); rw [e] at h; exact h); have HB' : Hid (Below w.heap.size w (w2.setCell ⟨g, r, none⟩ (.int .i64 1))) := HB1.out.setCell hgb _; clear hl1 HO1 HB1; clear hown' hgrow)
          all_goals go_roundw
          all_goals first | (case rel => exact ⟨k + 1, by omega, by go_num, by show Own _ _ _ _; rw [HN.out]; exact HO'.out, HB'⟩) | skip
          all_goals (simp [intOf]; omega)
      · have HN : Hid (runsAt xs (k + 1) = runsAt xs k ++ [1]) := runsAt_new (fun h => hk1 h.1)
        have k5 : ((k : Int) == 0) = true := by rw [beq_iff_eq]; omega
        have k6 : ¬ (0 : Int) < (k : Int) := by omega
        generalize xs.getD k false = y at g1
        have hob : ∀ k', u4.ownBlock = some k' → w.heap.size ≤ k' := own_block_ge hO.out
        obtain ⟨out, hout⟩ : ∃ out, out = runsAt xs k := ⟨_, rfl⟩
        obtain ⟨r, hr⟩ : ∃ r, out.length = r := ⟨_, rfl⟩
        have HL : Hid (out.length = r) := hr
        have hr40 : r ≤ 40 := by rw [← hr, hout]; omega
        have hown : wr.ownsRow w.heap.size 3 1 u4 r (cellsI out) := by have h := hO.out; unfold Own at h; rw [← hout, hr] at h; exact h
        rw [← hout] at HN
        clear hout hr hol
        clear hk1 hbx
        go_wp2_with (at_builtin; refine wpList_append_lies _ rfl _ _ 25 rfl w.heap.size 3 i0 (.int .i64 0) 1 8 Try.underlying25 hi hz0 hz1 hz2 rfl (by decide) _ _ _ rfl (hown.alloc _) ⟨wr.heap.size, 0, none⟩ 1 1 [.int .i64 (0)] rfl rfl (cell_new1 _ _ _) (ints_oneCell .i64 [0]) (by omega) (by unfold maxLen; omega) (by omega) (by have := hB.out.size; simp; omega) _ rfl ?_; intro g cap w2 hown' hgrow _ hlg; have HO1 : Hid (Own w2 w.heap.size (.slice (some ⟨g, 0, none⟩) (r + 1) cap) (out ++ [0])) := own_push (w := wr) (v := u4) (by simpa [HL.out] using hown'); have HB1 : Hid (Below w.heap.size w w2) := (hB.out.alloc hB.out.size _).grown hgrow (by have := hB.out.size; simp; omega) (fun k' e => hob k' e); have hl1 : (out ++ [(0 : Int)]).length = r + 1 := (by rw [List.length_append, HL.out]; rfl); have gl : w2.cell? ⟨g, r, none⟩ = some (.int .i64 0) := (by have h := Own.cell (g := g) (cap := cap) (xs := out ++ [(0 : Int)]) (by rw [hl1]; exact HO1.out) r (by omega); rw [getD_snoc, if_pos HL.out.symm] at h; exact h); have gf : w2.frozen? ⟨g, r, none⟩ = false := Own.free (g := g) (cap := cap) (xs := out ++ [(0 : Int)]) (by rw [hl1]; exact HO1.out) r; have hgb : w.heap.size ≤ g := own_block_ge HO1.out g rfl; have HO' : Hid (Own (w2.setCell ⟨g, r, none⟩ (.int .i64 1)) w.heap.size (.slice (some ⟨g, 0, none⟩) (r + 1) cap) (out ++ [1])) := (by have h := own_set HO1.out hl1 r 1; have e : (out ++ [(0 : Int)]).set r 1 = out ++ [1] := (by rw [← HL.out]; simp); rw [e] at h; exact h); have HB' : Hid (Below w.heap.size w (w2.setCell ⟨g, r, none⟩ (.int .i64 1))) := HB1.out.setCell hgb _; clear hl1 HO1 HB1; clear hown' hgrow)
        go_roundw
        case rel => exact ⟨k + 1, by omega, by go_num, by show Own _ _ _ _; rw [HN.out]; exact HO'.out, HB'⟩
        case measure => simp [intOf]; omega
    · obtain rfl : k = n := by omega
      obtain ⟨a', c', hv⟩ := hO.out.shape
      rw [HP.out] at hv
      subst hv
      go_wp2
      refine bodyPost_ret (v := .tuple #[.slice a' p c', .bool true]) (by simp [results, Try.results40, go_sem]) rfl ⟨a', c', rfl, hO.out, hB.out⟩

theorem implRuns_nil (ao : Option Addr) (c : Nat) (w : World) :
    Calls Try.prog 40 #[.slice ao 0 c] w fun e w' => e = .returned (.tuple #[.slice none 0 0, .bool true]) ∧ w' = w := by
  have hd : decide (((0 : Nat) : Int) ≤ 40) = true := decide_eq_true (by omega)
  go_enter Try.func40, Try.ntmps40
  go_wp2
  refine wp_loop_rounds 1 ?_
  rw [rounds_succ]
  go_wp2
  refine bodyPost_ret (v := .tuple #[.slice none 0 0, .bool true]) (by simp [results, Try.results40, go_sem]) rfl ⟨rfl, rfl⟩

theorem implRuns_no (ao : Option Addr) (n c : Nat) (w : World) (h : ¬ n ≤ 40) (hn : n ≤ 17592186044416) :
    Calls Try.prog 40 #[.slice ao n c] w fun e w' => e = .returned (.tuple #[.slice none 0 0, .bool false]) ∧ w' = w := by
  have h4 : (40 : Int) < n := by omega
  have hd : decide ((n : Int) ≤ 40) = false := decide_eq_false (by omega)
  go_enter Try.func40, Try.ntmps40
  go_wp2
  refine bodyPost_ret (v := .tuple #[.slice none 0 0, .bool false]) (by simp [results, Try.results40, go_sem]) rfl ⟨rfl, rfl⟩

theorem implRuns_c (ao : Option Addr) (n c : Nat) (xs : List Bool) (w : World) (hx : xs.length = n) (hn : n ≤ 17592186044416) (hr : RdB w ao xs) (zs : List Int) (fb : Bool) (p : Nat) (hF : runsF xs = (zs, fb)) (hp : zs.length = p) :
    Calls Try.prog 40 #[.slice ao n c] w fun e w' => ∃ a' c', e = .returned (.tuple #[.slice a' p c', .bool fb]) ∧ Own w' w.heap.size (.slice a' p c') zs ∧ Below w.heap.size w w' := by
  unfold runsF at hF
  rw [hx] at hF
  by_cases h : n ≤ 40
  · rw [if_pos h] at hF
    simp only [Prod.mk.injEq] at hF
    obtain ⟨rfl, rfl⟩ := hF
    by_cases h0 : n = 0
    · subst h0
      simp [runsAt] at hp
      subst hp
      refine (implRuns_nil ao c w).mono ?_
      rintro e w' ⟨rfl, hw⟩
      subst w'
      exact ⟨none, 0, rfl, World.ownsRow_nil _ _ _ _, Below.refl _ _⟩
    · obtain ⟨b, o, rfl, hcx⟩ := hr.at hx (by omega)
      exact implRuns_at b o n c p xs w hx h hp hcx
  · rw [if_neg h] at hF
    simp only [Prod.mk.injEq] at hF
    obtain ⟨rfl, rfl⟩ := hF
    simp at hp
    subst hp
    refine (implRuns_no ao n c w h hn).mono ?_
    rintro e w' ⟨rfl, hw⟩
    subst w'
    exact ⟨none, 0, rfl, World.ownsRow_nil _ _ _ _, Below.refl _ _⟩

set_option maxHeartbeats 1000000 in
theorem specRuns_at (b o n c p : Nat) (xs : List Bool) (w : World) (hx : xs.length = n) (h40 : n ≤ 40) (hp : (runsAt xs n).length = p)
    (hcx : ∀ j, j < n → w.cell? ⟨b, o + j, none⟩ = some (.bool (xs.getD j false))) :
    Calls Try.prog 41 #[.slice (some ⟨b, o, none⟩) n c] w fun e w' => ∃ a' c', e = .returned (.tuple #[.slice a' p c', .bool true]) ∧ Own w' w.heap.size (.slice a' p c') (runsAt xs n) ∧ Below w.heap.size w w' := by
  obtain ⟨i0, hi, hz0, hz1, hz2⟩ := info_parts Try.infoInt
  have HX : Hid (xs.length = n) := hx
  have HP : Hid ((runsAt xs n).length = p) := hp
  have HC : Hid (∀ j, j < n → w.cell? ⟨b, o + j, none⟩ = some (.bool (xs.getD j false))) := hcx
  have h40i : (n : Int) ≤ 40 := by omega
  have hd : decide ((n : Int) ≤ 40) = true := decide_eq_true (by omega)
  clear hx hp hcx
  go_enter Try.func41, Try.ntmps41
  go_wp2_with (go_at_call 54; refine (l3Long_c _ _ _ _ (by omega)).mono ?_; rw [hd]; clear hd; rintro e w' ⟨rfl, hw⟩; subst w')
  go_loopw [4, 12] (fun v i wr => ∃ k : Nat, k ≤ n ∧ i = .int .i64 k ∧ Hid (Own wr w.heap.size v (runsAt xs k)) ∧ Hid (Below w.heap.size w wr)) (fun _ i _ => n - (intOf i).toNat)
  case atStart => exact ⟨0, Nat.zero_le _, rfl, World.ownsRow_nil _ _ _ _, Below.refl _ _⟩
  case round =>
    obtain ⟨k, hk, rfl, hO, hB⟩ := hrel
    by_cases hlt : k < n
    · have hbx := World.block_lt_of_cell? w _ (HC.out k hlt)
      have g1 : wr.cell? ⟨b, o + k, none⟩ = some (.bool (xs.getD k false)) := by rw [hB.out.cell (p := ⟨b, o + k, none⟩) hbx]; exact HC.out k hlt
      have hk0 : (0 : Int) ≤ (k : Int) := by omega
      have hkl : (k : Int) < (n : Int) := by omega
      have hol := (runsAt_ok xs k).1
      by_cases hk1 : 0 < k
      · have hbx2 := World.block_lt_of_cell? w _ (HC.out (k - 1) (by omega))
        have g2 : wr.cell? ⟨b, o + (k - 1), none⟩ = some (.bool (xs.getD (k - 1) false)) := by rw [hB.out.cell (p := ⟨b, o + (k - 1), none⟩) hbx2]; exact HC.out (k - 1) (by omega)
        have k1 : (0 : Int) < (k : Int) := by omega
        have k2 : (0 : Int) ≤ (k : Int) - 1 := by omega
        have k3 : (k : Int) - 1 < (n : Int) := by omega
        have k4 : ((k : Int) - 1).toNat = k - 1 := by omega
        have k5 : ((k : Int) == 0) = false := by rw [beq_eq_false_iff_ne]; omega
        clear hbx hbx2
        by_cases hxy : xs.getD (k - 1) false = xs.getD k false
        · -- one run more of the same
          have hr1 := (runsAt_ok xs k).2.1 hk1
          have hr0 := (runsAt_ok xs k).1
          rcases hO.out.form with ⟨_, h0⟩ | ⟨g, cap, hv, hgb, _, _⟩
          · rw [h0] at hr1; simp at hr1
          obtain ⟨r, hr⟩ : ∃ r, (runsAt xs k).length = r + 1 := ⟨(runsAt xs k).length - 1, by omega⟩
          rw [hr] at hv
          subst hv
          have hy3 := (runsAt_ok xs k).2.2 r
          have gl : wr.cell? ⟨g, r, none⟩ = some (.int .i64 ((runsAt xs k).getD r 0)) := Own.cell (g := g) (cap := cap) (by rw [hr]; exact hO.out) r (by omega)
          have gf : wr.frozen? ⟨g, r, none⟩ = false := Own.free (g := g) (cap := cap) (xs := runsAt xs k) (by rw [hr]; exact hO.out) r
          have HS : Hid (Own (wr.setCell ⟨g, r, none⟩ (.int .i64 ((runsAt xs k).getD r 0 + 1))) w.heap.size (.slice (some ⟨g, 0, none⟩) (r + 1) cap) (runsAt xs (k + 1))) := by
            show Own _ _ _ _
            rw [runsAt_more ⟨hk1, hxy⟩, show (runsAt xs k).length - 1 = r by omega]
            exact own_set hO.out hr r _
          generalize (runsAt xs k).getD r 0 = y at gl HS hy3
          have hr40 : r ≤ 40 := by omega
          clear hr1 hr0 hr
          rw [hxy] at g2
          generalize xs.getD k false = x at g1 g2
          clear hk1 hxy
          cases x
          all_goals go_wp2
          all_goals go_roundw
          all_goals first | (case rel => exact ⟨k + 1, by omega, by go_num, HS, hB.out.setCell hgb _⟩) | skip
          all_goals (simp [intOf]; omega)
        · have HN : Hid (runsAt xs (k + 1) = runsAt xs k ++ [1]) := runsAt_new (fun h => hxy h.2)
          generalize xs.getD (k - 1) false = x at g2 hxy
          generalize xs.getD k false = y at g1 hxy
          have hob : ∀ k', u4.ownBlock = some k' → w.heap.size ≤ k' := own_block_ge hO.out
          obtain ⟨out, hout⟩ : ∃ out, out = runsAt xs k := ⟨_, rfl⟩
          obtain ⟨r, hr⟩ : ∃ r, out.length = r := ⟨_, rfl⟩
          have HL : Hid (out.length = r) := hr
          have hr40 : r ≤ 40 := by rw [← hr, hout]; omega
          have hown : wr.ownsRow w.heap.size 3 1 u4 r (cellsI out) := by have h := hO.out; unfold Own at h; rw [← hout, hr] at h; exact h
          rw [← hout] at HN
          clear hout hr hol
          cases x <;> cases y <;> first | exact absurd rfl hxy | skip
          all_goals clear hxy hk1
          all_goals go_wp2_with (at_builtin; refine wpList_append_lies _ rfl _ _ 25 rfl w.heap.size 3 i0 (.int .i64 0) 1 8 Try.underlying25 hi hz0 hz1 hz2 rfl (by decide) _ _ _ rfl (hown.alloc _) ⟨wr.heap.size, 0, none⟩ 1 1 [.int .i64 (1)] rfl rfl (cell_new1 _ _ _) (ints_oneCell .i64 [1]) (by omega) (by unfold maxLen; omega) (by omega) (by have := hB.out.size; simp; omega) _ rfl ?_; intro g cap w2 hown' hgrow _ hlg; have HO1 : Hid (Own w2 w.heap.size (.slice (some ⟨g, 0, none⟩) (r + 1) cap) (out ++ [1])) := own_push (w := wr) (v := u4) (by simpa [HL.out] using hown'); have HB1 : Hid (Below w.heap.size w w2) := (hB.out.alloc hB.out.size _).grown hgrow (by have := hB.out.size; simp; omega) (fun k' e => hob k' e); have HO' : Hid (Own w2 w.heap.size (.slice (some ⟨g, 0, none⟩) (r + 1) cap) (out ++ [1])) := HO1; have HB' := HB1; clear hown' hgrow)
          all_goals go_roundw
          all_goals first | (case rel => exact ⟨k + 1, by omega, by go_num, by show Own _ _ _ _; rw [HN.out]; exact HO'.out, HB'⟩) | skip
          all_goals (simp [intOf]; omega)
      · have HN : Hid (runsAt xs (k + 1) = runsAt xs k ++ [1]) := runsAt_new (fun h => hk1 h.1)
        have k5 : ((k : Int) == 0) = true := by rw [beq_iff_eq]; omega
        have k6 : ¬ (0 : Int) < (k : Int) := by omega
        generalize xs.getD k false = y at g1
        have hob : ∀ k', u4.ownBlock = some k' → w.heap.size ≤ k' := own_block_ge hO.out
        obtain ⟨out, hout⟩ : ∃ out, out = runsAt xs k := ⟨_, rfl⟩
        obtain ⟨r, hr⟩ : ∃ r, out.length = r := ⟨_, rfl⟩
        have HL : Hid (out.length = r) := hr
        have hr40 : r ≤ 40 := by rw [← hr, hout]; omega
        have hown : wr.ownsRow w.heap.size 3 1 u4 r (cellsI out) := by have h := hO.out; unfold Own at h; rw [← hout, hr] at h; exact h
        rw [← hout] at HN
        clear hout hr hol
        clear hk1 hbx
        go_wp2_with (at_builtin; refine wpList_append_lies _ rfl _ _ 25 rfl w.heap.size 3 i0 (.int .i64 0) 1 8 Try.underlying25 hi hz0 hz1 hz2 rfl (by decide) _ _ _ rfl (hown.alloc _) ⟨wr.heap.size, 0, none⟩ 1 1 [.int .i64 (1)] rfl rfl (cell_new1 _ _ _) (ints_oneCell .i64 [1]) (by omega) (by unfold maxLen; omega) (by omega) (by have := hB.out.size; simp; omega) _ rfl ?_; intro g cap w2 hown' hgrow _ hlg; have HO1 : Hid (Own w2 w.heap.size (.slice (some ⟨g, 0, none⟩) (r + 1) cap) (out ++ [1])) := own_push (w := wr) (v := u4) (by simpa [HL.out] using hown'); have HB1 : Hid (Below w.heap.size w w2) := (hB.out.alloc hB.out.size _).grown hgrow (by have := hB.out.size; simp; omega) (fun k' e => hob k' e); have HO' : Hid (Own w2 w.heap.size (.slice (some ⟨g, 0, none⟩) (r + 1) cap) (out ++ [1])) := HO1; have HB' := HB1; clear hown' hgrow)
        go_roundw
        case rel => exact ⟨k + 1, by omega, by go_num, by show Own _ _ _ _; rw [HN.out]; exact HO'.out, HB'⟩
        case measure => simp [intOf]; omega
    · obtain rfl : k = n := by omega
      obtain ⟨a', c', hv⟩ := hO.out.shape
      rw [HP.out] at hv
      subst hv
      go_wp2
      refine bodyPost_ret (v := .tuple #[.slice a' p c', .bool true]) (by simp [results, Try.results41, go_sem]) rfl ⟨a', c', rfl, hO.out, hB.out⟩

theorem specRuns_nil (ao : Option Addr) (c : Nat) (w : World) :
    Calls Try.prog 41 #[.slice ao 0 c] w fun e w' => e = .returned (.tuple #[.slice none 0 0, .bool true]) ∧ w' = w := by
  have hd : decide (((0 : Nat) : Int) ≤ 40) = true := decide_eq_true (by omega)
  go_enter Try.func41, Try.ntmps41
  go_wp2_with (go_at_call 54; refine (l3Long_c _ _ _ _ (by omega)).mono ?_; rw [hd]; clear hd; rintro e w' ⟨rfl, hw⟩; subst w')
  refine wp_loop_rounds 1 ?_
  rw [rounds_succ]
  go_wp2
  refine bodyPost_ret (v := .tuple #[.slice none 0 0, .bool true]) (by simp [results, Try.results41, go_sem]) rfl ⟨rfl, rfl⟩

theorem specRuns_no (ao : Option Addr) (n c : Nat) (w : World) (h : ¬ n ≤ 40) (hn : n ≤ 17592186044416) :
    Calls Try.prog 41 #[.slice ao n c] w fun e w' => e = .returned (.tuple #[.slice none 0 0, .bool false]) ∧ w' = w := by
  have h4 : (40 : Int) < n := by omega
  have hd : decide ((n : Int) ≤ 40) = false := decide_eq_false (by omega)
  go_enter Try.func41, Try.ntmps41
  go_wp2_with (go_at_call 54; refine (l3Long_c _ _ _ _ (by omega)).mono ?_; rw [hd]; clear hd; rintro e w' ⟨rfl, hw⟩; subst w')
  refine bodyPost_ret (v := .tuple #[.slice none 0 0, .bool false]) (by simp [results, Try.results41, go_sem]) rfl ⟨rfl, rfl⟩

theorem specRuns_c (ao : Option Addr) (n c : Nat) (xs : List Bool) (w : World) (hx : xs.length = n) (hn : n ≤ 17592186044416) (hr : RdB w ao xs) (zs : List Int) (fb : Bool) (p : Nat) (hF : runsF xs = (zs, fb)) (hp : zs.length = p) :
    Calls Try.prog 41 #[.slice ao n c] w fun e w' => ∃ a' c', e = .returned (.tuple #[.slice a' p c', .bool fb]) ∧ Own w' w.heap.size (.slice a' p c') zs ∧ Below w.heap.size w w' := by
  unfold runsF at hF
  rw [hx] at hF
  by_cases h : n ≤ 40
  · rw [if_pos h] at hF
    simp only [Prod.mk.injEq] at hF
    obtain ⟨rfl, rfl⟩ := hF
    by_cases h0 : n = 0
    · subst h0
      simp [runsAt] at hp
      subst hp
      refine (specRuns_nil ao c w).mono ?_
      rintro e w' ⟨rfl, hw⟩
      subst w'
      exact ⟨none, 0, rfl, World.ownsRow_nil _ _ _ _, Below.refl _ _⟩
    · obtain ⟨b, o, rfl, hcx⟩ := hr.at hx (by omega)
      exact specRuns_at b o n c p xs w hx h hp hcx
  · rw [if_neg h] at hF
    simp only [Prod.mk.injEq] at hF
    obtain ⟨rfl, rfl⟩ := hF
    simp at hp
    subst hp
    refine (specRuns_no ao n c w h hn).mono ?_
    rintro e w' ⟨rfl, hw⟩
    subst w'
    exact ⟨none, 0, rfl, World.ownsRow_nil _ _ _ _, Below.refl _ _⟩

end Go.Proofs.Ytjdfpjeeipbghaa

/- Chapter 5: SecretFits: the least place that is free, and the program's side. -/
import Derived.Test.YtamppekadobagaaTI5
import Derived.Test.YtamppekadobagaaSP5
import Derived.Test.YtamppekadobagaaAE5
namespace Go.Proofs.Ytamppekadobagaa
set_option linter.unusedVariables false
set_option linter.unusedSimpArgs false
open Go.RowKit

theorem short_of_sub : ∀ (l xs : List Int), l.Nodup → (∀ a ∈ l, a ∈ xs) → l.length ≤ xs.length
  | [], _, _, _ => Nat.zero_le _
  | a :: l, xs, hn, h => by
    have hn' := List.nodup_cons.1 hn
    have ha := h a List.mem_cons_self
    have ih := short_of_sub l (xs.erase a) hn'.2 (fun b hb => by
      have hne : b ≠ a := fun e => hn'.1 (e ▸ hb)
      exact (List.mem_erase_of_ne hne).2 (h b (List.mem_cons_of_mem _ hb)))
    rw [List.length_erase_of_mem ha] at ih
    have : 0 < xs.length := List.length_pos_of_mem ha
    rw [List.length_cons]; omega
theorem ones_nodup : ∀ k : Nat, ((List.range k).map fun j : Nat => (j : Int) + 1).Nodup := fun k => by
  refine List.Pairwise.map _ (fun a b (h : a ≠ b) => ?_) List.nodup_range
  intro e
  omega
/-- Where all from 1 up to k are there, there are k at least. -/
theorem ones_le {xs : List Int} {k : Nat} (h : ∀ j : Nat, j < k → ((j : Int) + 1) ∈ xs) : k ≤ xs.length := by
  have := short_of_sub _ xs (ones_nodup k) (fun a ha => by
    obtain ⟨j, hj, rfl⟩ := List.mem_map.1 ha
    exact h j (List.mem_range.1 hj))
  simpa using this
/-- m is the least from 1 on that is not there. -/
def IsLeast (xs : List Int) (m : Nat) : Prop := ((m : Int) + 1) ∉ xs ∧ ∀ j : Nat, j < m → ((j : Int) + 1) ∈ xs
theorem IsLeast.one {xs : List Int} {m k : Nat} (h : IsLeast xs m) (h' : IsLeast xs k) : m = k := by
  rcases Nat.lt_trichotomy m k with e | e | e
  · exact absurd (h'.2 m e) h.1
  · exact e
  · exact absurd (h.2 k e) h'.1
def leastF (xs : List Int) : Nat → Nat → Nat
  | 0, m => m
  | f + 1, m => if ((m : Int) + 1) ∈ xs then leastF xs f (m + 1) else m
theorem leastF_is (xs : List Int) : ∀ (f m : Nat), xs.length < m + f → (∀ j : Nat, j < m → ((j : Int) + 1) ∈ xs) → IsLeast xs (leastF xs f m)
  | 0, m, hl, h => by
    have := ones_le h
    omega
  | f + 1, m, hl, h => by
    rw [leastF]
    by_cases e : ((m : Int) + 1) ∈ xs
    · rw [if_pos e]
      refine leastF_is xs f (m + 1) (by omega) fun j hj => ?_
      by_cases e' : j = m
      · subst e'; exact e
      · exact h j (by omega)
    · rw [if_neg e]
      exact ⟨e, h⟩
def leastN (xs : List Int) : Nat := leastF xs (xs.length + 1) 0
theorem leastN_is (xs : List Int) : IsLeast xs (leastN xs) := leastF_is xs _ 0 (by omega) (fun j h => absurd h (by omega))
theorem leastN_le (xs : List Int) : leastN xs ≤ xs.length := ones_le (leastN_is xs).2

def fitsF (l : List (Int × Int)) (s : Int) : (Int × Int) × Bool := if (partsB l = true ∧ l.length ≠ 8) ∧ smallB s = true then (((leastN (fsts l) : Int) + 1, vI (fitF (l.map toP) (toF s) (toF ((leastN (fsts l) : Int) + 1)))), true) else ((0, 0), false)

/-- A block of two numbers that may be written. -/
def C2 (w : World) (g : Nat) (a b : Int) : Prop :=
  w.cell? ⟨g, 0, none⟩ = some (.int .i64 a) ∧ w.cell? ⟨g, 1, none⟩ = some (.int .i64 b) ∧ w.frozen? ⟨g, 0, none⟩ = false ∧ w.frozen? ⟨g, 1, none⟩ = false

theorem C2.lt {w : World} {g : Nat} {a b : Int} (h : C2 w g a b) : g < w.heap.size := World.block_lt_of_cell? w _ h.1

theorem C2.keep {w w' : World} {g : Nat} {a b : Int} (h : C2 w g a b) (hb : Below w.heap.size w w') : C2 w' g a b :=
  ⟨by rw [hb.cell (p := ⟨g, 0, none⟩) h.lt]; exact h.1, by rw [hb.cell (p := ⟨g, 1, none⟩) h.lt]; exact h.2.1,
   by rw [hb.frozen (p := ⟨g, 0, none⟩) h.lt]; exact h.2.2.1, by rw [hb.frozen (p := ⟨g, 1, none⟩) h.lt]; exact h.2.2.2⟩

theorem C2.alloc {w : World} {g : Nat} {a b : Int} (h : C2 w g a b) (o : Obj) : C2 (w.alloc o) g a b := h.keep ((Below.refl _ _).alloc (Nat.le_refl _) o)

theorem c2_new (w : World) (a b : Int) (t : TypeId) (g : Nat) (hg : g = w.heap.size) : C2 (w.alloc (.cells #[.int .i64 a, .int .i64 b] t)) g a b := by
  subst hg
  refine ⟨?_, ?_, ?_, ?_⟩
  · simp
  · simp
  · rw [World.frozen?_alloc_at _ _ _ _ (by simp)]
  · rw [World.frozen?_alloc_at _ _ _ _ (by simp)]

theorem pIs_cons (p : F × F) (fl : List (F × F)) : pIs (p :: fl) = pI p :: pIs fl := rfl
theorem rdP_cells {w : World} {b o n : Nat} {l : List (Int × Int)} (hx : l.length = n) (hc : ∀ j, j < n → w.cell? ⟨b, o + j * 2, none⟩ = some (.int .i64 (l.getD j (0, 0)).1) ∧ w.cell? ⟨b, o + j * 2 + 1, none⟩ = some (.int .i64 (l.getD j (0, 0)).2)) : ∀ j u, (cellsP l)[j]? = some u → w.cell? ((⟨b, o, none⟩ : Addr).add j) = some u := by
  intro j u hj
  have hjl : j < (cellsP l).length := (List.getElem?_eq_some_iff.1 hj).1
  rw [cellsP_length] at hjl
  have h2 : j / 2 < l.length := by omega
  have hat := cellsP_at l (j / 2) h2
  have hcc := hc (j / 2) (by omega)
  rw [Go.WideShapes.add_plain]
  rcases Nat.mod_two_eq_zero_or_one j with h | h
  · rw [show j / 2 * 2 = j by omega] at hat hcc
    rw [hcc.1, ← hj, hat.1]
  · rw [show j / 2 * 2 + 1 = j by omega] at hat
    rw [show o + j / 2 * 2 + 1 = o + j by omega] at hcc
    rw [hcc.2, ← hj, hat.2]

set_option maxHeartbeats 4000000 in
theorem implFits_yes (b o n c : Nat) (fl : List (F × F)) (s : F) (w : World) (hx : fl.length = n) (hg : GoodP fl) (h7 : n ≤ 7) (hr : RdP w (some ⟨b, o, none⟩) (pIs fl)) :
    Calls Try.prog 31 #[.slice (some ⟨b, o, none⟩) n c, .int .i64 (vI s)] w fun e w' => e = .returned (.tuple #[.agg #[.int .i64 ((leastN (fsts (pIs fl)) : Int) + 1), .int .i64 (vI (fitF fl s (toF ((leastN (fsts (pIs fl)) : Int) + 1))))], .bool true]) ∧ Below w.heap.size w w' := by
  obtain ⟨i0, hi, hz0, hz1, hz2⟩ := info_parts Try.infoPart
  have n1 : 1 ≤ n := by have := hg.2.2.1; omega
  have HXP : Hid ((pIs fl).length = n) := by show _ = _; rw [pIs_length]; exact hx
  have HX : Hid (fl.length = n) := hx
  have hN := leastN_is (fsts (pIs fl))
  have hNle := leastN_le (fsts (pIs fl))
  rw [fsts_length, pIs_length, hx] at hNle
  obtain ⟨V, hV⟩ : ∃ V, w.alloc (.cells #[.int .i64 0, .int .i64 0] 46) = V := ⟨_, rfl⟩
  have HBV : Hid (Below w.heap.size w V) := by rw [← hV]; exact balloc _ _
  have c2V : Hid (C2 V w.heap.size 0 0) := by rw [← hV]; exact c2_new _ _ _ _ _ rfl
  have hVs : w.heap.size < V.heap.size := by rw [← hV]; simp
  have q1 := areParts_c (some ⟨b, o, none⟩) n c (pIs fl) V HXP.out (by omega) (hr.later HBV.out)
  rw [partsB_good hg] at q1
  have q2 := isSmall_c (vI s)
  have e2 : smallB (vI s) = true := by unfold smallB; rw [decide_eq_true_iff]; have := vI_mem s; omega
  rw [e2] at q2
  have HR : Hid (RdP w (some ⟨b, o, none⟩) (pIs fl)) := hr
  have HN : Hid (IsLeast (fsts (pIs fl)) (leastN (fsts (pIs fl)))) := hN
  have hn8 : ((n : Int) == 8) = false := by rw [beq_eq_false_iff_ne]; omega
  generalize leastN (fsts (pIs fl)) = m at *
  clear hx hr e2 hN hg
  go_enter Try.func31, Try.ntmps31
  go_wp2_with fail
  clear hV
  refine q1.mono ?_
  clear q1
  rintro e w1 ⟨rfl, hb⟩
  have HB1 : Hid (Below V.heap.size V w1) := hb
  clear hb
  go_wp2_with fail
  refine (q2 _).mono ?_
  clear q2
  rintro e w' ⟨rfl, hw⟩
  subst w'
  go_wp2_with fail
  refine (placesIn_c (some ⟨b, o, none⟩) n c (pIs fl) w1 HXP.out (by omega) ((HR.out.later HBV.out).later HB1.out)).mono ?_
  rintro e w2 ⟨a2, c2, rfl, ho, hb⟩
  have HB2 : Hid (Below V.heap.size V w2) := HB1.out.trans (hb.mono HB1.out.size)
  have HO2 : Hid (Own w2 w1.heap.size (.slice a2 n c2) (fsts (pIs fl))) := ho
  clear hb ho HB1
  go_wp2
  go_loop [7] (fun x => ∃ (j : Nat), x = .int .i64 ((j : Int) + 1) ∧ j ≤ m) (fun x => m + 1 - (intOf x).toNat)
  case atStart => exact ⟨0, rfl, Nat.zero_le _⟩
  case round =>
    obtain ⟨j, rfl, hj⟩ := hrel
    have qc := containsInt_c a2 n c2 (fsts (pIs fl)) ((j : Int) + 1) w2 HO2.out.rd'.1 (by omega) HO2.out.rd'.2
    by_cases hjm : j < m
    · rw [decide_eq_true (HN.out.2 j hjm)] at qc
      go_wp2_with fail
      refine qc.mono ?_
      clear qc
      rintro e w' ⟨rfl, hw⟩
      subst w'
      go_wp2
      go_round
      case rel => exact ⟨j + 1, by go_num, by omega⟩
      case measure => simp [intOf]; omega
    · obtain rfl : j = m := by omega
      rw [decide_eq_false HN.out.1] at qc
      go_wp2_with fail
      refine qc.mono ?_
      clear qc
      rintro e w' ⟨rfl, hw⟩
      subst w'
      obtain ⟨bb, oo, e1, hcx⟩ := ((HR.out.later HBV.out).later HB2.out).at HXP.out (by omega)
      cases e1
      have hnews := rdP_cells HXP.out hcx
      have hown1 : (w2.alloc (.cells #[.int .i64 0, .int .i64 (vI s)] 46)).ownsRow V.heap.size 46 2 (.slice (some ⟨w2.heap.size, 0, none⟩) 1 1) 1 (cellsP [(0, vI s)]) := by
        refine ⟨rfl, .inr ⟨w2.heap.size, 1, _, rfl, HB2.out.size, World.alloc_heap_new w2 _, Nat.le_refl _, by unfold maxLen; omega, rfl, rfl⟩⟩
      have hob1 : ∀ k', (Value.slice (some ⟨w2.heap.size, 0, none⟩) 1 1).ownBlock = some k' → V.heap.size ≤ k' := fun k' e => by have := HB2.out.size; simp [Value.ownBlock] at e; omega
      go_wp2_with (at_builtin; refine wpList_append_own _ rfl _ _ 26 rfl V.heap.size 46 i0 (.agg #[.int .i64 0, .int .i64 0]) 2 16 Try.underlying26 hi hz0 hz1 hz2 rfl (by decide) _ _ _ rfl hown1 ⟨b, o, none⟩ n c (cellsP (pIs fl)) rfl (by rw [cellsP_length, HXP.out]) (fun j u h => calloc (hnews j u h)) (cellsP_one _) (by unfold maxLen; omega) (by omega) (by have := HB2.out.size; simp; omega) ?_; intro v' w3 hown' hgrow _; have HO3 : Hid (OwnP w3 V.heap.size v' (pIs ((0, s) :: fl))) := (by show OwnP _ _ _ _; unfold OwnP; rw [pIs_length, List.length_cons, HX.out, Nat.add_comm n 1]; exact hown'); have HB3 : Hid (Below V.heap.size V w3) := (HB2.out.alloc HB2.out.size _).grown hgrow (by have := HB2.out.size; simp; omega) (fun k' e => hob1 k' e); clear hown' hgrow hown1 hnews hcx hob1)
      obtain ⟨a3, c3, hv⟩ := HO3.out.shape
      rw [pIs_length, List.length_cons, HX.out] at hv
      subst hv
      refine (curveThrough_c a3 (n + 1) c3 (pIs ((0, s) :: fl)) w3 (by rw [pIs_length, List.length_cons, HX.out]) (by omega) HO3.out.rd'.2).mono ?_
      rintro e w4 ⟨Bp, a4, c4, rfl, g1, g2, hr4, hb⟩
      have HB4 : Hid (Below V.heap.size V w4) := HB3.out.trans (hb.mono HB3.out.size)
      have hcv := curveThrough1_c Bp w3.heap.size a3 a4 (n + 1) c3 c4 ((0, s) :: fl) (toF ((j : Int) + 1)) w4 (by rw [List.length_cons, HX.out]) (by omega) (by omega) g1 hr4 g2 (HO3.out.rd'.2.later hb)
      rw [vI_toF' (n := (j : Int) + 1) (by omega) (by omega)] at hcv
      clear hb g1 g2 hr4 HO3 HB3
      go_wp2_with fail
      refine hcv.mono ?_
      clear hcv
      rintro e w5 ⟨rfl, hb⟩
      have HB5 : Hid (Below V.heap.size V w5) := HB4.out.trans (hb.mono HB4.out.size)
      have c25 : C2 w5 w.heap.size 0 0 := c2V.out.keep HB5.out
      obtain ⟨ta, tb, tc, td⟩ := c25
      have lt5 : w.heap.size < w5.heap.size := Nat.lt_of_lt_of_le hVs HB5.out.size
      have HB6 : Hid (Below w.heap.size w w5) := HBV.out.trans (HB5.out.mono (Nat.le_of_lt hVs))
      clear hb HB4 HB5
      go_wp2
      refine bodyPost_ret (v := .tuple #[.agg #[.int .i64 ((j : Int) + 1), .int .i64 (vI (thF ((0, s) :: fl) (toF ((j : Int) + 1))))], .bool true]) (by simp [results, Try.results31, go_sem, ta, tb]) rfl ?_
      exact ⟨rfl, (HB6.out.setCell (Nat.le_refl _) _).setCell (Nat.le_refl _) _⟩

end Go.Proofs.Ytamppekadobagaa

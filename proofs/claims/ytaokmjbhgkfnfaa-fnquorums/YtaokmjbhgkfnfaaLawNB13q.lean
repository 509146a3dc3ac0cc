/- Chapter 13: QuorumFor of the program. -/
import Derived.Test.YtaokmjbhgkfnfaaA13q
import Derived.Test.YtaokmjbhgkfnfaaLSX13q
import Derived.Test.YtaokmjbhgkfnfaaN13q
namespace Go.Proofs.Ytaokmjbhgkfnfaa
set_option linter.unusedVariables false
set_option maxRecDepth 1000000
set_option linter.unusedSimpArgs false
open Go.RowKit

theorem takeQ13 {P : Program} {ops : Array Oper} {Q : Exit → Act → World → Prop} {md : Region.Mode} {S : World → Prop} {i : Nat} {oi : Oper} {v : Value} {d : Option Tmp} {fuel : Nat} {listed : Array Bool} {a : Act} {w : World} (hi : ops[i]? = some oi) (hd : oi.dst = d)
  (hs : Region.noSelect ops = true) (hf : Region.free md ops listed i = true) (hr : (Region.ready md ops listed).contains i = true)
  (hQ : ∀ c a w, Q (.panic c) (a.put d v) w → Q (.panic c) a w) (hy : YieldsIf P ops S oi v a) (hS : S w)
  (h : wpAnyH P md ops Q S fuel (listed.setIfInBounds i true) (a.put d v) w) : wpAnyH P md ops Q S (fuel + 1) listed a w := by
 subst hd
 exact wpAnyH_take hi hs hf hr hQ hy hS h

theorem implQuo_c (f : Int) (w : World) : Calls Try.prog 30 #[.int .i64 f] w fun e w' => e = .returned (.tuple #[.int .i64 (quoF f).1, .int .i64 (quoF f).2, .bool (inB f 0 2)]) ∧ Below w.heap.size w w' := by
 have q := fun wx => isFaults_c f wx
 cases hz : inB f 0 2
 ·rw [show quoF f = (0, 0) by simp [quoF, hz]]
  rw [hz] at q
  clear hz
  go_enter Try.func30, Try.ntmps30
  go_wp2_with fail
  refine (q _).mono ?_
  clear q
  rintro e w' ⟨rfl, hw⟩
  subst w'
  go_wp2
  refine bodyPost_ret (v := .tuple #[.int .i64 0, .int .i64 0, .bool false]) (by simp [results, Try.results30, go_sem]; try rfl) rfl ?_
  exact ⟨rfl, Below.refl _ _⟩
 ·rw [show quoF f = (3 * f + 1, 2 * f + 1) by simp [quoF, hz]]
  rw [hz] at q
  have hb := inB_iff.1 hz
  have q1 := fun wx => members_c f (.slice none 0 0) wx hb.1 hb.2
  have q2 := fun wx => quorum_c f (.slice none 0 0) wx hb.1 hb.2
  have HB : Hid (Below w.heap.size w (w.alloc (.cells #[.int .i64 f, .slice none 0 0] 89))) := balloc _ _
  have HC : Hid (X2 (w.alloc (.cells #[.int .i64 f, .slice none 0 0] 89)) w.heap.size (.int .i64 f) (.slice none 0 0)) := x2_new _ _ _ _ _ rfl
  generalize 3 * f + 1 = m at q1 ⊢
  generalize 2 * f + 1 = k at q2 ⊢
  clear hz hb
  go_enter Try.func30, Try.ntmps30
  go_wp2_with fail
  refine (q _).mono ?_
  clear q
  rintro e w' ⟨rfl, hw⟩
  subst w'
  go_wp2_with fail
  refine wp_region_held_drew (S := (fun X => X.cell? ⟨w.heap.size, 0, none⟩ = some (.int .i64 f) ∧ X.cell? ⟨w.heap.size, 1, none⟩ = some (.slice none 0 0))) (by kernel_rfl) ?_ (fun hHeld => ?_)
  ·exact (HC.out.later (Below.refl _ _).drew).1
  obtain ⟨D0, hD0⟩ : ∃ D, (w.alloc (.cells #[.int .i64 f, .slice none 0 0] 89)).drew = D := ⟨_, rfl⟩
  have hX0 := HC.out.later (Below.refl _ _).drew
  have hb0 := HB.out.drew
  rw [hD0] at hX0 hb0
  rw [hD0] at hHeld ⊢
  have HX0 : Hid (X2 D0 w.heap.size (.int .i64 f) (.slice none 0 0)) := hX0
  have HB0 : Hid (Below w.heap.size w D0) := hb0
  clear hX0 hb0 hD0 HB HC
  refine takeQ13 (i := 0) (oi := _) (v := ?_) (d := some 11) rfl (by kernel_rfl) (by kernel_rfl) (by kernel_rfl) (by kernel_rfl) (fun _ _ _ h => h) (Or.inl ⟨by rfl, ?_⟩) (by assumption) ?_
  rotate_left
  ·(intro w hSw; (try dsimp only at hSw); go_simp <;> with_reducible rfl)
  try simp only [Act.put, zsA, zsB, zsC]
  refine takeQ13 (i := 2) (oi := _) (v := ?_) (d := some 13) rfl (by kernel_rfl) (by kernel_rfl) (by kernel_rfl) (by kernel_rfl) (fun _ _ _ h => h) (Or.inl ⟨by rfl, ?_⟩) (by assumption) ?_
  rotate_left
  ·(intro w hSw; (try dsimp only at hSw); go_simp <;> with_reducible rfl)
  try simp only [Act.put, zsA, zsB, zsC]
  refine wpAnyH_ready (rs := [1]) (by kernel_rfl) (by simp) ?_
  refine AllReadyH.cons (o := _) rfl (fun K hK => ?_) AllReadyH.nil
  go_simp
  refine (q1 _).mono ?_
  rintro e D1 ⟨rfl, hb⟩
  have HX1 : Hid (X2 D1 w.heap.size (.int .i64 f) (.slice none 0 0)) := HX0.out.later hb
  have HB1 : Hid (Below w.heap.size w D1) := HB0.out.trans (hb.mono HB0.out.size)
  clear hb
  refine hK.out _ _ ?_ (fun hHeld => ?_)
  ·exact HX1.out.1
  clear hK K
  try simp only [Act.put, zsA, zsB, zsC]
  refine wpAnyH_ready (rs := [3]) (by kernel_rfl) (by simp) ?_
  refine AllReadyH.cons (o := _) rfl (fun K hK => ?_) AllReadyH.nil
  go_simp
  refine (q2 _).mono ?_
  rintro e D2 ⟨rfl, hb⟩
  have HX2 : Hid (X2 D2 w.heap.size (.int .i64 f) (.slice none 0 0)) := HX1.out.later hb
  have HB2 : Hid (Below w.heap.size w D2) := HB1.out.trans (hb.mono HB1.out.size)
  clear hb
  refine hK.out _ _ ?_ (fun hHeld => ?_)
  ·exact HX2.out.1
  clear hK K
  try simp only [Act.put, zsA, zsB, zsC]
  refine takeQ13 (i := 4) (oi := _) (v := ?_) (d := some 2) rfl (by kernel_rfl) (by kernel_rfl) (by kernel_rfl) (by kernel_rfl) (fun _ _ _ h => h) (Or.inl ⟨by rfl, ?_⟩) (by assumption) ?_
  rotate_left
  ·(intro w hSw; (try dsimp only at hSw); go_simp <;> with_reducible rfl)
  try simp only [Act.put, zsA, zsB, zsC]
  refine takeQ13 (i := 5) (oi := _) (v := ?_) (d := some 3) rfl (by kernel_rfl) (by kernel_rfl) (by kernel_rfl) (by kernel_rfl) (fun _ _ _ h => h) (Or.inl ⟨by rfl, ?_⟩) (by assumption) ?_
  rotate_left
  ·(intro w hSw; (try dsimp only at hSw); go_simp <;> with_reducible rfl)
  try simp only [Act.put, zsA, zsB, zsC]
  refine takeQ13 (i := 6) (oi := _) (v := ?_) (d := some 4) rfl (by kernel_rfl) (by kernel_rfl) (by kernel_rfl) (by kernel_rfl) (fun _ _ _ h => h) (Or.inl ⟨by rfl, ?_⟩) (by assumption) ?_
  rotate_left
  ·(intro w hSw; (try dsimp only at hSw); go_simp <;> with_reducible rfl)
  try simp only [Act.put, zsA, zsB, zsC]
  refine wpAnyH_done (by kernel_rfl) ?_ _
  clear hHeld
  go_wp2
  refine bodyPost_ret (v := .tuple #[.int .i64 m, .int .i64 k, .bool true]) (by simp [results, Try.results30, go_sem]; try rfl) rfl ?_
  exact ⟨rfl, HB2.out⟩

end Go.Proofs.Ytaokmjbhgkfnfaa
namespace Go.Proofs.Ytaokmjbhgkfnfaa
set_option linter.unusedVariables false
set_option maxRecDepth 1000000
set_option linter.unusedSimpArgs false
open Go.RowKit

theorem good_small {b : BdV} (h : goodBd b = true) : SmallBd b := by
 have F := good_few h
 exact ⟨by have := F.s; omega, by have := F.l; omega, by have := F.t; omega, fun l hl => by have := F.z l hl; omega⟩
theorem zero_small : SmallBd zeroBd := ⟨by simp [zeroBd], by simp [zeroBd], by simp [zeroBd], fun l hl => by simp [zeroBd] at hl⟩
theorem stepV_small (b : BdV) (k m l : Int) : SmallBd (stepV b k m l) := by
 unfold stepV
 split
 ·rename_i h
  cases h2 : stepO b k m l with
  | none => exact zero_small
  | some c => exact good_small (step_good h h2)
 ·exact zero_small

end Go.Proofs.Ytaokmjbhgkfnfaa
namespace Go.Proofs.Ytaokmjbhgkfnfaa
set_option linter.unusedVariables false
set_option maxRecDepth 1000000
set_option linter.unusedSimpArgs false
open Go.RowKit

theorem newV_small (f : Int) (li : List Int) : SmallBd (newV f li) := by
 unfold newV
 split
 ·rename_i h
  have h2 : (li.length : Int) ≤ f ∧ f ≤ 2 := by
   unfold couB at h
   rw [Bool.and_eq_true, Bool.and_eq_true, Bool.and_eq_true, inB_iff] at h
   exact ⟨of_decide_eq_true h.2.1.1, h.1.2⟩
  refine ⟨by simp, ?_, by simp, fun l hl => by simp at hl⟩
  show li.length ≤ _
  omega
 ·exact ⟨by simp [zeroBd], by simp [zeroBd], by simp [zeroBd], fun l hl => by simp [zeroBd] at hl⟩

end Go.Proofs.Ytaokmjbhgkfnfaa

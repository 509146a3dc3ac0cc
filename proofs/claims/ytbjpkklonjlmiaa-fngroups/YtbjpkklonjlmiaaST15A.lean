/- Chapter 15: slices.insertionSortCmpFunc at steps. -/
import Derived.Test.YtbjpkklonjlmiaaP15S
import Derived.Shelf.SlSortCmp.InsertionK
import Derived.Shelf.Lay
import Derived.Ground.SlsfProg
namespace Go.Proofs.Ytbjpkklonjlmiaa
set_option linter.unusedVariables false
set_option maxRecDepth 1000000
set_option linter.unusedSimpArgs false
open Go.RowKit Go.Sort Go.Shelf Go.Lib

shelf_lay_g SlLaysF0.n20 Slsf 20 at Try 78 as Try.insQ

theorem swoQ : SWO (ltOf cmpQ) := by
  have h : ∀ x y : Stp, ltOf cmpQ x y = true ↔ x.2.1 < y.2.1 := fun x y => by
    unfold ltOf
    rw [decide_eq_true_eq, ltQ]
  have h' : ∀ x y : Stp, ltOf cmpQ x y = false ↔ y.2.1 ≤ x.2.1 := fun x y => by
    rw [← Bool.not_eq_true, h]; omega
  exact ⟨fun x => (h' x x).2 (Int.le_refl _), fun x y z a b => (h x z).2 (by have := (h x y).1 a; have := (h y z).1 b; omega), fun x y z a b => (h' x z).2 (by have := (h' x y).1 a; have := (h' y z).1 b; omega)⟩

theorem rowQ {w : World} {g base n cap : Nat} {xs : List Stp} (hx : xs.length = n) (ho : OwnQ w base (.slice (some ⟨g, 0, none⟩) n cap) xs) : RowK enc3 3 w g 0 xs.toArray := by
  have hraw := OwnQ.raw ho hx
  have hflat := flat3 cellsQ (fun p l => rfl) rfl xs.toArray
  refine ⟨fun _ => rfl, fun x v hv => by simp [enc3] at hv; rcases hv with rfl | rfl | rfl <;> rfl, ?_, (World.ownsRow.lt ho g rfl).2⟩
  unfold HoldsK
  rw [hflat]
  simpa using row_holds hraw

theorem ownQ_of {w w' : World} {g base n cap : Nat} {xs : List Stp} {d : Array Stp} (hx : xs.length = n) (ho : OwnQ w base (.slice (some ⟨g, 0, none⟩) n cap) xs) (hs : d.size = n) (S : SWK enc3 3 w g 0 d w') : OwnQ w' base (.slice (some ⟨g, 0, none⟩) n cap) d.toList ∧ w.grownBy w' (some g) := by
  have hraw := OwnQ.raw ho hx
  obtain ⟨q, os, rfl⟩ := S
  have hflat := flat3 cellsQ (fun p l => rfl) rfl d
  constructor
  · unfold sortWorldK putRowK
    rw [hflat]
    refine OwnQ.of (row_put hraw ?_ q os) (by simpa using hs)
    rw [cellsQ_length]
    congr 1
  · exact put_grown w g q _ os

/-- insertionSortCmpFunc from a world of the sort's to one. -/
theorem insQ_c (g cap a b : Nat) (N : Nat) (d0 d : Array Stp) (w0 w : World) (hN : d0.size = N) (hN1 : N ≤ 1000) (R : RowK enc3 3 w0 g 0 d0) (hd : d.size = N) (S : SWK enc3 3 w0 g 0 d w) (hab : a ≤ b) (hb : b ≤ N) :
    Calls Try.prog 78 #[.slice (some ⟨g, 0, none⟩) N cap, .int .i64 a, .int .i64 b, .func (.func 66) #[] #[]] w fun e w' => e = .returned (.tuple #[]) ∧ ∃ d', SWK enc3 3 w0 g 0 d' w' ∧ d'.size = N ∧ d'.toList.Perm d.toList ∧ (∀ x, x < a ∨ b ≤ x → d'[x]! = d[x]!) ∧ Srt d' a b := by
  have hH := S.holds R.hblk R.hH (by omega)
  have h := AnyQ.insertionSortCmpFunc Try.insQ 3 (fun _ => by kernel_rfl) (fun _ => by kernel_rfl) enc3 R.hk R.h1 cmpQ 66 #[] g 0 cap a b d w (enters_of Try.func66 (by kernel_rfl) rfl) (cmpLaysQ g 0 _ w) hH (S.lt R.hblk) hab (by omega) (by omega)
  rw [hd] at h
  change Calls Try.prog 78 #[.slice (some ⟨g, 0, none⟩) N cap, .int .i64 a, .int .i64 b, .func (.func 66) #[] #[]] w _ at h
  refine h.mono ?_
  rintro e w' ⟨rfl, q, os, rfl⟩
  obtain ⟨⟨p1, p2, p3⟩, p4⟩ := insertionSort_holds swoQ d a b hab (by omega)
  refine ⟨rfl, _, S.on R.hblk q _ os p1, by omega, ?_, p2, fun i j h1 h2 h3 => ?_⟩
  · have hall := (permIn_mono d (insertionSort (ltOf cmpQ) d a b) a b 0 d.size (Nat.zero_le _) (by omega) (Nat.le_refl _) ⟨p1, p2, p3⟩).2.2
    have e1 : (insertionSort (ltOf cmpQ) d a b).extract 0 d.size = insertionSort (ltOf cmpQ) d a b := by rw [← p1]; simp
    have e2 : d.extract 0 d.size = d := by simp
    rw [e1, e2] at hall
    exact hall
  · by_cases e : i = j
    · rw [e]; exact Int.le_refl _
    · have := p4 i j h1 (by omega) h3
      unfold ltOf at this
      rw [decide_eq_false_iff_not, ltQ] at this
      exact Int.not_lt.1 this

end Go.Proofs.Ytbjpkklonjlmiaa

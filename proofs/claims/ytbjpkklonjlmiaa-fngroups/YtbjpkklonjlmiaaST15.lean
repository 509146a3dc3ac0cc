/- Chapter 15: slices.SortStableFunc at steps, thirty at most: the same steps, rising by where they lead. -/
import Derived.Test.YtbjpkklonjlmiaaSY15
import Derived.Test.YtbjpkklonjlmiaaST15A
namespace Go.Proofs.Ytbjpkklonjlmiaa
set_option linter.unusedVariables false
set_option maxRecDepth 1000000
set_option linter.unusedSimpArgs false
open Go.RowKit Go.Sort Go.Shelf Go.Lib

set_option maxHeartbeats 4000000 in
theorem stableQ_c (g cap N : Nat) (d0 : Array Stp) (w : World) (hN : d0.size = N) (hN1 : N ≤ 30) (R : RowK enc3 3 w g 0 d0) :
    Calls Try.prog 75 #[.slice (some ⟨g, 0, none⟩) N cap, .int .i64 N, .func (.func 66) #[] #[]] w fun e w' => e = .returned (.tuple #[]) ∧ ∃ d', SWK enc3 3 w g 0 d' w' ∧ d'.size = N ∧ d'.toList.Perm d0.toList ∧ Srt d' 0 N := by
  have HI : Hid (∀ (a b : Nat) (d : Array Stp) (wx : World), d.size = N → SWK enc3 3 w g 0 d wx → a ≤ b → b ≤ N → Calls Try.prog 78 #[.slice (some ⟨g, 0, none⟩) N cap, .int .i64 a, .int .i64 b, .func (.func 66) #[] #[]] wx fun e w' => e = .returned (.tuple #[]) ∧ ∃ d', SWK enc3 3 w g 0 d' w' ∧ d'.size = N ∧ d'.toList.Perm d.toList ∧ (∀ x, x < a ∨ b ≤ x → d'[x]! = d[x]!) ∧ Srt d' a b) := fun a b d wx h1 h2 h3 h4 => insQ_c g cap a b N d0 d w wx hN (by omega) R h1 h2 h3 h4
  have HM : Hid (∀ (a m b : Nat) (d : Array Stp) (wx : World), d.size = N → SWK enc3 3 w g 0 d wx → a < m → m < b → b ≤ N → Srt d a m → Srt d m b → Calls Try.prog 79 #[.slice (some ⟨g, 0, none⟩) N cap, .int .i64 a, .int .i64 m, .int .i64 b, .func (.func 66) #[] #[]] wx fun e w' => e = .returned (.tuple #[]) ∧ ∃ d', SWK enc3 3 w g 0 d' w' ∧ Mrg d d' a b) := fun a m b d wx h1 h2 h3 h4 h5 h6 h7 => symMerge_c 3 rfl enc3 g cap N d0 w hN (by omega) R (cmpLaysQ g 0 _ w) (b - a) a m b d wx (Nat.le_refl _) h1 h3 h4 h5 h6 h7 h2
  have HS : Hid (SWK enc3 3 w g 0 d0 w) := SWK.start R.hH
  have HN : Hid (d0.size = N) := hN
  clear hN R
  by_cases h20 : N < 20
  · have q := HI.out 0 N d0 w HN.out HS.out (Nat.zero_le _) (Nat.le_refl _)
    have h1 : ¬ (20 : Int) ≤ (N : Int) := by omega
    have h2 : ¬ (20 : Int) < (N : Int) := by omega
    go_enter Try.func75, Try.ntmps75
    go_wp2
    refine wp_loop_rounds 1 ?_
    rw [rounds_succ]
    go_wp2_with fail
    refine q.mono ?_
    clear q
    rintro e w1 ⟨rfl, d1, s1, z1, p1, _, t1⟩
    have H1 : Hid (SWK enc3 3 w g 0 d1 w1 ∧ d1.size = N ∧ d1.toList.Perm d0.toList ∧ Srt d1 0 N) := ⟨s1, z1, p1, t1⟩
    clear s1 z1 p1 t1
    go_wp2
    refine wp_loop_rounds 1 ?_
    rw [rounds_succ]
    go_wp2
    go_end0
    exact ⟨rfl, d1, H1.out⟩
  · have q := HI.out 0 20 d0 w HN.out HS.out (Nat.zero_le _) (by omega)
    have h1 : (20 : Int) ≤ (N : Int) := by omega
    have h2 : ¬ (40 : Int) ≤ (N : Int) := by omega
    go_enter Try.func75, Try.ntmps75
    go_wp2
    refine wp_loop_rounds 2 ?_
    rw [rounds_succ]
    go_wp2_with fail
    refine q.mono ?_
    clear q
    rintro e w1 ⟨rfl, d1, s1, z1, p1, _, t1⟩
    have q := HI.out 20 N d1 w1 z1 s1 (by omega) (Nat.le_refl _)
    have H1 : Hid (d1.toList.Perm d0.toList ∧ Srt d1 0 20) := ⟨p1, t1⟩
    clear s1 z1 p1 t1
    go_wp2_with fail
    rw [rounds_succ]
    go_wp2_with fail
    refine q.mono ?_
    clear q
    rintro e w2 ⟨rfl, d2, s2, z2, p2, o2, t2⟩
    have A1 : Hid (Srt d2 0 20) := fun i j x y z => by unfold ky; rw [o2 i (Or.inl (by omega)), o2 j (Or.inl z)]; exact H1.out.2 i j x y z
    have H2 : Hid (d2.toList.Perm d0.toList) := p2.trans H1.out.1
    by_cases h21 : N = 20
    · subst h21
      have H3 : Hid (SWK enc3 3 w g 0 d2 w2 ∧ d2.size = 20) := ⟨s2, z2⟩
      clear s2 z2 p2 o2 t2
      go_wp2
      refine wp_loop_rounds 1 ?_
      rw [rounds_succ]
      go_wp2
      go_end0
      exact ⟨rfl, d2, H3.out.1, H3.out.2, H2.out, A1.out⟩
    · have h3 : (20 : Int) < (N : Int) := by omega
      have h4 : ¬ (40 : Int) < (N : Int) := by omega
      have q := HM.out 0 20 N d2 w2 z2 s2 (by omega) (by omega) (Nat.le_refl _) A1.out t2
      have Z2 : Hid (d2.size = N) := z2
      clear s2 z2 p2 o2 t2
      go_wp2
      refine wp_loop_rounds 2 ?_
      rw [rounds_succ]
      go_wp2_with fail
      refine wp_loop_rounds 1 ?_
      rw [rounds_succ]
      go_wp2_with fail
      refine q.mono ?_
      clear q
      rintro e w3 ⟨rfl, d3, s3, m3⟩
      have H3 : Hid (SWK enc3 3 w g 0 d3 w3 ∧ d3.size = N ∧ d3.toList.Perm d0.toList ∧ Srt d3 0 N) := ⟨s3, by rw [m3.size]; exact Z2.out, m3.perm.trans H2.out, m3.srt⟩
      clear s3 m3
      go_wp2
      rw [rounds_succ]
      go_wp2
      go_end0
      exact ⟨rfl, d3, H3.out⟩

/-- The steps, rising by where they lead. -/
def RisT (ys : List Stp) : Prop := ∀ i j, i ≤ j → j < ys.length → (ys.getD i (0, 0, 0)).2.1 ≤ (ys.getD j (0, 0, 0)).2.1

theorem sortStableQ_c (g n cap base : Nat) (xs : List Stp) (w : World) (hn : n ≤ 30) (hx : xs.length = n) (ho : OwnQ w base (.slice (some ⟨g, 0, none⟩) n cap) xs) :
    Calls Try.prog 65 #[.slice (some ⟨g, 0, none⟩) n cap, .func (.func 66) #[] #[]] w fun e w' => e = .returned (.tuple #[]) ∧ ∃ ys : List Stp, ys.Perm xs ∧ RisT ys ∧ OwnQ w' base (.slice (some ⟨g, 0, none⟩) n cap) ys ∧ w.grownBy w' (some g) := by
  have q := stableQ_c g cap n xs.toArray w (by simpa using hx) hn (rowQ hx ho)
  have HO : Hid (OwnQ w base (.slice (some ⟨g, 0, none⟩) n cap) xs) := ho
  have HX : Hid (xs.length = n) := hx
  clear hx ho
  go_enter Try.func65, Try.ntmps65
  go_wp2_with fail
  refine q.mono ?_
  clear q
  rintro e w' ⟨rfl, d, s1, z1, p1, t1⟩
  have h := ownQ_of HX.out HO.out z1 s1
  have H : Hid (∃ ys : List Stp, ys.Perm xs ∧ RisT ys ∧ OwnQ w' base (.slice (some ⟨g, 0, none⟩) n cap) ys ∧ w.grownBy w' (some g)) := ⟨d.toList, by simpa using p1, fun i j h1 h2 => by
    have hj : j < d.size := by simpa using h2
    have hi : i < d.size := by omega
    have := t1 i j (Nat.zero_le _) h1 (by omega)
    unfold ky at this
    simpa [List.getD, hi, hj] using this, h.1, h.2⟩
  clear s1 z1 p1 t1 h
  go_wp2
  go_end0
  exact ⟨rfl, H.out⟩

end Go.Proofs.Ytbjpkklonjlmiaa

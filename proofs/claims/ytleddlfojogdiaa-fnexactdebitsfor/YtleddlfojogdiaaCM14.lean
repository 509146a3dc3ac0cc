/- Chapter 12: compareClaims in the sort's words; slices.SortFunc at claims. -/
import Derived.Test.YtleddlfojogdiaaGW14
import Derived.Test.YtleddlfojogdiaaQC14
import Derived.Shelf.SlSortCmp.WholeK
import Derived.Shelf.SlSortCmp.NoneTotal
import Derived.Ground.SlsfProg
import Derived.Deep.RegionLaw
import Derived.Lib.AppendZeros
namespace Go.Proofs.Ytleddlfojogdiaa
set_option linter.unusedVariables false
set_option maxRecDepth 1000000
set_option linter.unusedSimpArgs false
open Go.RowKit Go.Sort Go.Shelf Go.Lib

def orI (x y z : Int) : Int := if x ≠ 0 then x else if y ≠ 0 then y else z

/-- The order in which the program sorts claims. -/
def cmpC (a b : Cl) : Int := orI (Lib.compareInt a.1 b.1) (Lib.compareInt a.2.1 b.2.1) (Lib.compareInt a.2.2 b.2.2)

theorem compareInt_cases (x y : Int) : (x < y ∧ Lib.compareInt x y = -1) ∨ (x = y ∧ Lib.compareInt x y = 0) ∨ (y < x ∧ Lib.compareInt x y = 1) := by
  unfold Lib.compareInt
  split
  · exact Or.inl ⟨by assumption, rfl⟩
  · split
    · exact Or.inr (Or.inr ⟨by omega, rfl⟩)
    · exact Or.inr (Or.inl ⟨by omega, rfl⟩)

theorem ltOf_cmpC : ltOf cmpC = ltC := by
  funext a b
  rw [Bool.eq_iff_iff, ltC_iff]
  unfold ltOf cmpC orI
  rw [decide_eq_true_eq]
  rcases compareInt_cases a.1 b.1 with ⟨h1, e1⟩ | ⟨h1, e1⟩ | ⟨h1, e1⟩ <;> rcases compareInt_cases a.2.1 b.2.1 with ⟨h2, e2⟩ | ⟨h2, e2⟩ | ⟨h2, e2⟩ <;> rcases compareInt_cases a.2.2 b.2.2 with ⟨h3, e3⟩ | ⟨h3, e3⟩ | ⟨h3, e3⟩ <;> rw [e1, e2, e3] <;> simp <;> omega

theorem ltC_swo : SWO ltC where
  irrefl x := ltC_irrefl x
  trans x y z h k := ltC_trans h k
  ntrans x y z h k := by
    rw [Bool.eq_false_iff, Ne, ltC_iff] at *
    omega

theorem cmpOr_c (g : Nat) (x y z : Int) (w : World) (h0 : w.cell? ⟨g, 0, none⟩ = some (.int .i64 x)) (h1 : w.cell? ⟨g, 1, none⟩ = some (.int .i64 y)) (h2 : w.cell? ⟨g, 2, none⟩ = some (.int .i64 z)) :
    Calls Try.prog 119 #[.slice (some ⟨g, 0, none⟩) 3 3] w fun e w' => e = .returned (.int .i64 (orI x y z)) ∧ w' = w := by
  by_cases hx : x = 0
  · have kx : (x != 0) = false := by simpa using hx
    by_cases hy : y = 0
    · have ky : (y != 0) = false := by simpa using hy
      by_cases hz : z = 0
      · have kz : (z != 0) = false := by simpa using hz
        have e : orI x y z = 0 := by unfold orI; rw [if_neg (by simpa using hx), if_neg (by simpa using hy)]; exact hz
        rw [e]
        clear hx hy hz e
        go_enter Try.func119, Try.ntmps119
        go_wp2
        refine wp_loop_rounds 4 ?_
        rw [rounds_succ]
        go_wp2
        rw [rounds_succ]
        go_wp2
        rw [rounds_succ]
        go_wp2
        rw [rounds_succ]
        go_wp2
        go_ret
        exact ⟨rfl, rfl⟩
      · have kz : (z != 0) = true := by simpa using hz
        have e : orI x y z = z := by unfold orI; rw [if_neg (by simpa using hx), if_neg (by simpa using hy)]
        rw [e]
        clear hx hy hz e
        go_enter Try.func119, Try.ntmps119
        go_wp2
        refine wp_loop_rounds 4 ?_
        rw [rounds_succ]
        go_wp2
        rw [rounds_succ]
        go_wp2
        rw [rounds_succ]
        go_wp2
        go_ret
        exact ⟨rfl, rfl⟩
    · have ky : (y != 0) = true := by simpa using hy
      have e : orI x y z = y := by unfold orI; rw [if_neg (by simpa using hx), if_pos hy]
      rw [e]
      clear hx hy e
      go_enter Try.func119, Try.ntmps119
      go_wp2
      refine wp_loop_rounds 4 ?_
      rw [rounds_succ]
      go_wp2
      rw [rounds_succ]
      go_wp2
      go_ret
      exact ⟨rfl, rfl⟩
  · have kx : (x != 0) = true := by simpa using hx
    have e : orI x y z = x := by unfold orI; rw [if_pos hx]
    rw [e]
    clear hx e
    go_enter Try.func119, Try.ntmps119
    go_wp2
    refine wp_loop_rounds 4 ?_
    rw [rounds_succ]
    go_wp2
    go_ret
    exact ⟨rfl, rfl⟩

set_option maxHeartbeats 8000000 in
theorem compareClaims_c (a0 a1 a2 b0 b1 b2 : Int) (w : World) :
    Calls Try.prog 93 #[.agg #[.int .i64 a0, .int .i64 a1, .int .i64 a2], .agg #[.int .i64 b0, .int .i64 b1, .int .i64 b2]] w fun e w' => e = .returned (.int .i64 (cmpC (a0, a1, a2) (b0, b1, b2))) ∧ GrW w w' := by
  have HQ0 : Hid (∀ wx, Calls Try.prog 68 #[.int .i64 a0, .int .i64 b0] wx fun e w' => e = .returned (.int .i64 (Lib.compareInt a0 b0)) ∧ w' = wx) := fun wx => cmpInt_c a0 b0 wx
  have HQ1 : Hid (∀ wx, Calls Try.prog 68 #[.int .i64 a1, .int .i64 b1] wx fun e w' => e = .returned (.int .i64 (Lib.compareInt a1 b1)) ∧ w' = wx) := fun wx => cmpInt_c a1 b1 wx
  have HQ2 : Hid (∀ wx, Calls Try.prog 68 #[.int .i64 a2, .int .i64 b2] wx fun e w' => e = .returned (.int .i64 (Lib.compareInt a2 b2)) ∧ w' = wx) := fun wx => cmpInt_c a2 b2 wx
  rw [show cmpC (a0, a1, a2) (b0, b1, b2) = orI (Lib.compareInt a0 b0) (Lib.compareInt a1 b1) (Lib.compareInt a2 b2) from rfl]
  generalize Lib.compareInt a0 b0 = r0 at HQ0 ⊢
  generalize Lib.compareInt a1 b1 = r1 at HQ1 ⊢
  generalize Lib.compareInt a2 b2 = r2 at HQ2 ⊢
  have HQ3 : Hid (∀ g wx, wx.cell? ⟨g, 0, none⟩ = some (.int .i64 r0) → wx.cell? ⟨g, 1, none⟩ = some (.int .i64 r1) → wx.cell? ⟨g, 2, none⟩ = some (.int .i64 r2) → Calls Try.prog 119 #[.slice (some ⟨g, 0, none⟩) 3 3] wx fun e w' => e = .returned (.int .i64 (orI r0 r1 r2)) ∧ w' = wx) := fun g wx h0 h1 h2 => cmpOr_c g r0 r1 r2 wx h0 h1 h2
  generalize orI r0 r1 r2 = rr at HQ3 ⊢
  have hG : GrW w ((w.alloc (.cells #[.int .i64 a0, .int .i64 a1, .int .i64 a2] 76)).alloc (.cells #[.int .i64 b0, .int .i64 b1, .int .i64 b2] 76)) := ((GrW.refl w).alloc _).alloc _
  have hA := (x3_new w (.int .i64 a0) (.int .i64 a1) (.int .i64 a2) 76 w.heap.size rfl).later (balloc _ (.cells #[.int .i64 b0, .int .i64 b1, .int .i64 b2] 76))
  have hB := x3_new (w.alloc (.cells #[.int .i64 a0, .int .i64 a1, .int .i64 a2] 76)) (.int .i64 b0) (.int .i64 b1) (.int .i64 b2) 76 (w.heap.size + 1) (by simp)
  obtain ⟨V, hV⟩ : ∃ V, (w.alloc (.cells #[.int .i64 a0, .int .i64 a1, .int .i64 a2] 76)).alloc (.cells #[.int .i64 b0, .int .i64 b1, .int .i64 b2] 76) = V := ⟨_, rfl⟩
  rw [hV] at hG hA hB
  have HG : Hid (GrW w V) := hG
  obtain ⟨⟨f0, f1, f2⟩, _⟩ := hA
  obtain ⟨⟨f3, f4, f5⟩, _⟩ := hB
  clear hG
  have HGL : Hid (GrW w (V.alloc (.cells #[.int .i64 r0, .int .i64 r1, .int .i64 r2] 3)).drew) := (HG.out.alloc _).drew
  have hLa := x3_new V (.int .i64 r0) (.int .i64 r1) (.int .i64 r2) 3 V.heap.size rfl
  have HLa : Hid (X3 (V.alloc (.cells #[.int .i64 r0, .int .i64 r1, .int .i64 r2] 3)).drew V.heap.size (.int .i64 r0) (.int .i64 r1) (.int .i64 r2)) := hLa.later (Below.refl _ _).drew
  clear hLa
  go_enter Try.func93, Try.ntmps93
  go_wp2_with fail
  have tok1 : True := trivial
  have tok2 : True := trivial
  have HKA : Hid ((V.alloc (.cells #[.int .i64 r0, .int .i64 r1, .int .i64 r2] 3)).drew.cell? ⟨w.heap.size, 0, none⟩ = some (.int .i64 a0) ∧ (V.alloc (.cells #[.int .i64 r0, .int .i64 r1, .int .i64 r2] 3)).drew.cell? ⟨w.heap.size, 1, none⟩ = some (.int .i64 a1) ∧ (V.alloc (.cells #[.int .i64 r0, .int .i64 r1, .int .i64 r2] 3)).drew.cell? ⟨w.heap.size, 2, none⟩ = some (.int .i64 a2) ∧ (V.alloc (.cells #[.int .i64 r0, .int .i64 r1, .int .i64 r2] 3)).drew.cell? ⟨w.heap.size + 1, 0, none⟩ = some (.int .i64 b0) ∧ (V.alloc (.cells #[.int .i64 r0, .int .i64 r1, .int .i64 r2] 3)).drew.cell? ⟨w.heap.size + 1, 1, none⟩ = some (.int .i64 b1) ∧ (V.alloc (.cells #[.int .i64 r0, .int .i64 r1, .int .i64 r2] 3)).drew.cell? ⟨w.heap.size + 1, 2, none⟩ = some (.int .i64 b2)) := ⟨cell_keep (S := 0) (balloc V _).drew f0, cell_keep (S := 0) (balloc V _).drew f1, cell_keep (S := 0) (balloc V _).drew f2, cell_keep (S := 0) (balloc V _).drew f3, cell_keep (S := 0) (balloc V _).drew f4, cell_keep (S := 0) (balloc V _).drew f5⟩
  go_region_held3 (fun w' => w'.cell? ⟨w.heap.size, 0, none⟩ = some (.int .i64 a0) ∧ w'.cell? ⟨w.heap.size, 1, none⟩ = some (.int .i64 a1) ∧ w'.cell? ⟨w.heap.size, 2, none⟩ = some (.int .i64 a2) ∧ w'.cell? ⟨w.heap.size + 1, 0, none⟩ = some (.int .i64 b0) ∧ w'.cell? ⟨w.heap.size + 1, 1, none⟩ = some (.int .i64 b1) ∧ w'.cell? ⟨w.heap.size + 1, 2, none⟩ = some (.int .i64 b2)) (first | exact HKA.out | go_keep) (first
    | (go_at_call 68; clear tok1; refine (HQ0.out _).mono ?_; rintro e w' ⟨rfl, hw⟩; subst w')
    | (go_at_call 68; clear tok2; refine (HQ1.out _).mono ?_; rintro e w' ⟨rfl, hw⟩; subst w')
    | (go_at_call 68; refine (HQ2.out _).mono ?_; rintro e w' ⟨rfl, hw⟩; subst w')
    | (go_at_call 119; refine (HQ3.out _ _ HLa.out.1.1 HLa.out.1.2.1 HLa.out.1.2.2).mono ?_; rintro e w' ⟨rfl, hw⟩; subst w'))
  all_goals (
    go_wp2
    go_ret
    exact ⟨rfl, HGL.out⟩)

def Try.sortC_ren : Go.Shelf.Ren := ⟨fun | 6 => 92 | 15 => 118 | 14 => 117 | 28 => 136 | 29 => 137 | 20 => 128 | 21 => 129 | 22 => 130 | 23 => 131 | 24 => 132 | 25 => 133 | 26 => 134 | 27 => 135 | 46 => 142 | 47 => 143 | 48 => 144 | 49 => 145 | 50 => 146 | 57 => 150 | n => n, fun | 22 => 60 | 24 => 76 | 25 => 125 | 3 => 3 | 39 => 144 | 0 => 0 | 53 => 163 | 55 => 87 | 4 => 4 | 46 => 157 | 45 => 156 | 50 => 35 | 5 => 5 | 9 => 9 | 66 => 166 | 70 => 170 | 76 => 174 | 77 => 175 | n => n, fun | n => n⟩
theorem Try.sortC : Go.Proofs.SlLaysF0.n6 Try.prog Try.sortC_ren := {
  mixed := by kernel_rfl
  f6 := ⟨Try.f92.name, by decide, Try.func92.trans (congrArg some (by kernel_rfl))⟩
  f14 := ⟨Try.f117.name, by decide, Try.func117.trans (congrArg some (by kernel_rfl))⟩
  f15 := Try.func118.trans (congrArg some (by kernel_rfl))
  f20 := ⟨Try.f128.name, by decide, Try.func128.trans (congrArg some (by kernel_rfl))⟩
  f21 := ⟨Try.f129.name, by decide, Try.func129.trans (congrArg some (by kernel_rfl))⟩
  f22 := ⟨Try.f130.name, by decide, Try.func130.trans (congrArg some (by kernel_rfl))⟩
  f23 := ⟨Try.f131.name, by decide, Try.func131.trans (congrArg some (by kernel_rfl))⟩
  f24 := ⟨Try.f132.name, by decide, Try.func132.trans (congrArg some (by kernel_rfl))⟩
  f25 := ⟨Try.f133.name, by decide, Try.func133.trans (congrArg some (by kernel_rfl))⟩
  f26 := ⟨Try.f134.name, by decide, Try.func134.trans (congrArg some (by kernel_rfl))⟩
  f27 := ⟨Try.f135.name, by decide, Try.func135.trans (congrArg some (by kernel_rfl))⟩
  f28 := Try.func136.trans (congrArg some (by kernel_rfl))
  f29 := Try.func137.trans (congrArg some (by kernel_rfl))
  f46 := ⟨Try.f142.name, by decide, Try.func142.trans (congrArg some (by kernel_rfl))⟩
  f47 := Try.func143.trans (congrArg some (by kernel_rfl))
  f48 := Try.func144.trans (congrArg some (by kernel_rfl))
  f49 := ⟨Try.f145.name, by decide, Try.func145.trans (congrArg some (by kernel_rfl))⟩
  f50 := ⟨Try.f146.name, by decide, Try.func146.trans (congrArg some (by kernel_rfl))⟩
  f57 := ⟨Try.f150.name, by decide, Try.func150.trans (congrArg some (by kernel_rfl))⟩
  t0 := Try.underlying0
  a0 := Try.isAgg0
  z0 := Try.sizeOf0
  v0 := Try.zeroValue0
  t3 := Try.underlying3
  a3 := Try.isAgg3
  z3 := Try.sizeOf3
  v3 := Try.zeroValue3
  t4 := Try.underlying4
  a4 := Try.isAgg4
  z4 := Try.sizeOf4
  v4 := Try.zeroValue4
  t5 := Try.underlying5
  a5 := Try.isAgg5
  z5 := Try.sizeOf5
  v5 := Try.zeroValue5
  t9 := Try.underlying9
  a9 := Try.isAgg9
  z9 := Try.sizeOf9
  v9 := Try.zeroValue9
  t22 := Try.underlying60
  a22 := Try.isAgg60
  z22 := Try.sizeOf60
  v22 := Try.zeroValue60
  t25 := Try.underlying125
  a25 := Try.isAgg125
  z25 := Try.sizeOf125
  v25 := Try.zeroValue125
  t39 := Try.underlying144
  a39 := Try.isAgg144
  z39 := Try.sizeOf144
  v39 := Try.zeroValue144
  t45 := Try.underlying156
  a45 := Try.isAgg156
  z45 := Try.sizeOf156
  v45 := Try.zeroValue156
  t46 := Try.underlying157
  a46 := Try.isAgg157
  z46 := Try.sizeOf157
  v46 := Try.zeroValue157
  t50 := Try.underlying35
  a50 := Try.isAgg35
  z50 := Try.sizeOf35
  v50 := Try.zeroValue35
  t53 := Try.underlying163
  a53 := Try.isAgg163
  z53 := Try.sizeOf163
  v53 := Try.zeroValue163
  t55 := Try.underlying87
  a55 := Try.isAgg87
  z55 := Try.sizeOf87
  v55 := Try.zeroValue87
  t66 := Try.underlying166
  a66 := Try.isAgg166
  z66 := Try.sizeOf166
  v66 := Try.zeroValue166
  t70 := Try.underlying170
  a70 := Try.isAgg170
  z70 := Try.sizeOf170
  v70 := Try.zeroValue170
  t76 := Try.underlying174
  a76 := Try.isAgg174
  z76 := Try.sizeOf174
  v76 := Try.zeroValue174
  t77 := Try.underlying175
  a77 := Try.isAgg175
  z77 := Try.sizeOf175
  v77 := Try.zeroValue175 }

theorem cmpLaysC (blk off size : Nat) (w : World) : CmpLays Try.prog 93 #[] enc3 3 cmpC blk off size w := fun m os dk _ x y => compareClaims_c x.1 x.2.1 x.2.2 y.1 y.2.1 y.2.2 _

theorem sortC_c (g n cap base : Nat) (xs : List Cl) (w : World) (hn : n ≤ 60) (hx : xs.length = n) (ho : OwnC w base (.slice (some ⟨g, 0, none⟩) n cap) xs) :
    Calls Try.prog 92 #[.slice (some ⟨g, 0, none⟩) n cap, .func (.func 93) #[] #[]] w fun e w' => e = .returned (.tuple #[]) ∧ ∃ ys : List Cl, ys.Perm xs ∧ (∀ i j, i < j → j < n → ltC (ys.getD j (0, 0, 0)) (ys.getD i (0, 0, 0)) = false) ∧ OwnC w' base (.slice (some ⟨g, 0, none⟩) n cap) ys ∧ w.grownBy w' (some g) := by
  have hlen : xs.toArray.size = n := by simpa using hx
  have hraw := OwnC.raw ho hx
  have hfl := fun d => flat3 cellsC (fun p l => rfl) rfl d
  have hH : HoldsK enc3 3 w g 0 xs.toArray := by
    unfold HoldsK
    rw [hfl]
    exact row_holds hraw
  have hblk : g < w.heap.size := (World.ownsRow.lt ho g rfl).2
  have h := AnyQ.slices_SortFunc Try.sortC 3 (fun _ => by kernel_rfl) (fun _ => by kernel_rfl) enc3 (fun _ => rfl) (fun x v hv => by simp [enc3] at hv; rcases hv with rfl | rfl | rfl <;> rfl) cmpC (by rw [ltOf_cmpC]; exact ltC_swo) 93 #[] g 0 cap xs.toArray w (enters_of Try.func93 (by kernel_rfl) rfl) (cmpLaysC g 0 _ w) hH hblk (by omega)
  rw [hlen] at h
  change Calls Try.prog 92 #[.slice (some ⟨g, 0, none⟩) n cap, .func (.func 93) #[] #[]] w _ at h
  refine h.mono ?_
  rintro e w' ⟨rfl, d', q, os, hp, hs, rfl⟩
  obtain ⟨hps, _, hpp⟩ := hp
  have hsz : d'.size = n := by rw [hps]; exact hlen
  have hperm : d'.toList.Perm xs := by
    have e1 : d'.extract 0 n = d' := by rw [← hsz]; simp
    have e2 : xs.toArray.extract 0 n = xs.toArray := by rw [← hx]; simp
    rw [e1, e2] at hpp
    simpa using hpp
  refine ⟨rfl, d'.toList, hperm, fun i j hij hj => ?_, ?_, ?_⟩
  · have := hs i j (Nat.zero_le _) hij hj
    rw [ltOf_cmpC] at this
    have e1 : d'[i]! = d'.toList.getD i (0, 0, 0) := by simp [List.getD, show i < d'.size by omega]
    have e2 : d'[j]! = d'.toList.getD j (0, 0, 0) := by simp [List.getD, show j < d'.size by omega]
    rw [e1, e2] at this
    exact this
  · unfold sortWorldK putRowK
    rw [hfl]
    have hl3 : d'.toList.length = n := by simpa using hsz
    exact OwnC.of (row_put hraw (by rw [cellsC_length, hl3]) q os) hl3
  · exact put_grown w g q _ os

theorem sortC_none (cap : Nat) (w : World) : Calls Try.prog 92 #[.slice none 0 cap, .func (.func 93) #[] #[]] w fun e w' => e = .returned (.tuple #[]) ∧ w' = w :=
  AnyF.slices_SortFunc_none Try.sortC none cap _ w

end Go.Proofs.Ytleddlfojogdiaa

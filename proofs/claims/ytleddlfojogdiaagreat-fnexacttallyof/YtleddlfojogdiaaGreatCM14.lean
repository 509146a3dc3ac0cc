/- Chapter 12: compareClaims in the sort's words; slices.SortFunc at claims. -/
import Derived.Test.YtleddlfojogdiaaGreatGW14
import Derived.Test.YtleddlfojogdiaaGreatQC14
import Derived.Shelf.SlSortCmp.WholeK
import Derived.Shelf.SlSortCmp.NoneTotal
import Derived.Ground.SlsfProg
import Derived.Deep.RegionLaw
import Derived.Lib.AppendZeros
namespace Go.Proofs.YtleddlfojogdiaaGreat
set_option linter.unusedVariables false
set_option maxRecDepth 1000000
set_option linter.unusedSimpArgs false
open Go.RowKit Go.Sort Go.Shelf Go.Lib

def orI (x y z : Int) : Int := if x ≠ 0 then x else if y ≠ 0 then y else z

/-- The order in which the program sorts claims. -/
def cmpC (a b : Cl) : Int := orI (Lib.compareInt a.1 b.1) (Lib.compareInt a.2.1 b.2.1) (Lib.compareInt a.2.2 b.2.2)

theorem compareInt_cases (x y : Int) : (x < y ∧ Lib.compareInt x y = -1) ∨ (x = y ∧ Lib.compareInt x y = 0) ∨ (y < x ∧ Lib.compareInt x y = 1) := by
  unfold Lib.compareInt
  split
  · exact Or.inl ⟨by assumption, rfl⟩
  · split
    · exact Or.inr (Or.inr ⟨by omega, rfl⟩)
    · exact Or.inr (Or.inl ⟨by omega, rfl⟩)

theorem ltOf_cmpC : ltOf cmpC = ltC := by
  funext a b
  rw [Bool.eq_iff_iff, ltC_iff]
  unfold ltOf cmpC orI
  rw [decide_eq_true_eq]
  rcases compareInt_cases a.1 b.1 with ⟨h1, e1⟩ | ⟨h1, e1⟩ | ⟨h1, e1⟩ <;> rcases compareInt_cases a.2.1 b.2.1 with ⟨h2, e2⟩ | ⟨h2, e2⟩ | ⟨h2, e2⟩ <;> rcases compareInt_cases a.2.2 b.2.2 with ⟨h3, e3⟩ | ⟨h3, e3⟩ | ⟨h3, e3⟩ <;> rw [e1, e2, e3] <;> simp <;> omega

theorem ltC_swo : SWO ltC where
  irrefl x := ltC_irrefl x
  trans x y z h k := ltC_trans h k
  ntrans x y z h k := by
    rw [Bool.eq_false_iff, Ne, ltC_iff] at *
    omega

theorem cmpOr_c (g : Nat) (x y z : Int) (w : World) (h0 : w.cell? ⟨g, 0, none⟩ = some (.int .i64 x)) (h1 : w.cell? ⟨g, 1, none⟩ = some (.int .i64 y)) (h2 : w.cell? ⟨g, 2, none⟩ = some (.int .i64 z)) :
    Calls Tryz.prog 87 #[.slice (some ⟨g, 0, none⟩) 3 3] w fun e w' => e = .returned (.int .i64 (orI x y z)) ∧ w' = w := by
  by_cases hx : x = 0
  · have kx : (x != 0) = false := by simpa using hx
    by_cases hy : y = 0
    · have ky : (y != 0) = false := by simpa using hy
      by_cases hz : z = 0
      · have kz : (z != 0) = false := by simpa using hz
        have e : orI x y z = 0 := by unfold orI; rw [if_neg (by simpa using hx), if_neg (by simpa using hy)]; exact hz
        rw [e]
        clear hx hy hz e
        go_enter Tryz.func87, Tryz.ntmps87
        go_wp2
        refine wp_loop_rounds 4 ?_
        rw [rounds_succ]
        go_wp2
        rw [rounds_succ]
        go_wp2
        rw [rounds_succ]
        go_wp2
        rw [rounds_succ]
        go_wp2
        go_ret
        exact ⟨rfl, rfl⟩
      · have kz : (z != 0) = true := by simpa using hz
        have e : orI x y z = z := by unfold orI; rw [if_neg (by simpa using hx), if_neg (by simpa using hy)]
        rw [e]
        clear hx hy hz e
        go_enter Tryz.func87, Tryz.ntmps87
        go_wp2
        refine wp_loop_rounds 4 ?_
        rw [rounds_succ]
        go_wp2
        rw [rounds_succ]
        go_wp2
        rw [rounds_succ]
        go_wp2
        go_ret
        exact ⟨rfl, rfl⟩
    · have ky : (y != 0) = true := by simpa using hy
      have e : orI x y z = y := by unfold orI; rw [if_neg (by simpa using hx), if_pos hy]
      rw [e]
      clear hx hy e
      go_enter Tryz.func87, Tryz.ntmps87
      go_wp2
      refine wp_loop_rounds 4 ?_
      rw [rounds_succ]
      go_wp2
      rw [rounds_succ]
      go_wp2
      go_ret
      exact ⟨rfl, rfl⟩
  · have kx : (x != 0) = true := by simpa using hx
    have e : orI x y z = x := by unfold orI; rw [if_pos hx]
    rw [e]
    clear hx e
    go_enter Tryz.func87, Tryz.ntmps87
    go_wp2
    refine wp_loop_rounds 4 ?_
    rw [rounds_succ]
    go_wp2
    go_ret
    exact ⟨rfl, rfl⟩

set_option maxHeartbeats 8000000 in
theorem compareClaims_c (a0 a1 a2 b0 b1 b2 : Int) (w : World) :
    Calls Tryz.prog 74 #[.agg #[.int .i64 a0, .int .i64 a1, .int .i64 a2], .agg #[.int .i64 b0, .int .i64 b1, .int .i64 b2]] w fun e w' => e = .returned (.int .i64 (cmpC (a0, a1, a2) (b0, b1, b2))) ∧ GrW w w' := by
  have HQ0 : Hid (∀ wx, Calls Tryz.prog 88 #[.int .i64 a0, .int .i64 b0] wx fun e w' => e = .returned (.int .i64 (Lib.compareInt a0 b0)) ∧ w' = wx) := fun wx => cmpInt_c a0 b0 wx
  have HQ1 : Hid (∀ wx, Calls Tryz.prog 88 #[.int .i64 a1, .int .i64 b1] wx fun e w' => e = .returned (.int .i64 (Lib.compareInt a1 b1)) ∧ w' = wx) := fun wx => cmpInt_c a1 b1 wx
  have HQ2 : Hid (∀ wx, Calls Tryz.prog 88 #[.int .i64 a2, .int .i64 b2] wx fun e w' => e = .returned (.int .i64 (Lib.compareInt a2 b2)) ∧ w' = wx) := fun wx => cmpInt_c a2 b2 wx
  rw [show cmpC (a0, a1, a2) (b0, b1, b2) = orI (Lib.compareInt a0 b0) (Lib.compareInt a1 b1) (Lib.compareInt a2 b2) from rfl]
  generalize Lib.compareInt a0 b0 = r0 at HQ0 ⊢
  generalize Lib.compareInt a1 b1 = r1 at HQ1 ⊢
  generalize Lib.compareInt a2 b2 = r2 at HQ2 ⊢
  have HQ3 : Hid (∀ g wx, wx.cell? ⟨g, 0, none⟩ = some (.int .i64 r0) → wx.cell? ⟨g, 1, none⟩ = some (.int .i64 r1) → wx.cell? ⟨g, 2, none⟩ = some (.int .i64 r2) → Calls Tryz.prog 87 #[.slice (some ⟨g, 0, none⟩) 3 3] wx fun e w' => e = .returned (.int .i64 (orI r0 r1 r2)) ∧ w' = wx) := fun g wx h0 h1 h2 => cmpOr_c g r0 r1 r2 wx h0 h1 h2
  generalize orI r0 r1 r2 = rr at HQ3 ⊢
  have hG : GrW w ((w.alloc (.cells #[.int .i64 a0, .int .i64 a1, .int .i64 a2] 32)).alloc (.cells #[.int .i64 b0, .int .i64 b1, .int .i64 b2] 32)) := ((GrW.refl w).alloc _).alloc _
  have hA := (x3_new w (.int .i64 a0) (.int .i64 a1) (.int .i64 a2) 32 w.heap.size rfl).later (balloc _ (.cells #[.int .i64 b0, .int .i64 b1, .int .i64 b2] 32))
  have hB := x3_new (w.alloc (.cells #[.int .i64 a0, .int .i64 a1, .int .i64 a2] 32)) (.int .i64 b0) (.int .i64 b1) (.int .i64 b2) 32 (w.heap.size + 1) (by simp)
  obtain ⟨V, hV⟩ : ∃ V, (w.alloc (.cells #[.int .i64 a0, .int .i64 a1, .int .i64 a2] 32)).alloc (.cells #[.int .i64 b0, .int .i64 b1, .int .i64 b2] 32) = V := ⟨_, rfl⟩
  rw [hV] at hG hA hB
  have HG : Hid (GrW w V) := hG
  obtain ⟨⟨f0, f1, f2⟩, _⟩ := hA
  obtain ⟨⟨f3, f4, f5⟩, _⟩ := hB
  clear hG
  have HGL : Hid (GrW w (V.alloc (.cells #[.int .i64 r0, .int .i64 r1, .int .i64 r2] 3)).drew) := (HG.out.alloc _).drew
  have hLa := x3_new V (.int .i64 r0) (.int .i64 r1) (.int .i64 r2) 3 V.heap.size rfl
  have HLa : Hid (X3 (V.alloc (.cells #[.int .i64 r0, .int .i64 r1, .int .i64 r2] 3)).drew V.heap.size (.int .i64 r0) (.int .i64 r1) (.int .i64 r2)) := hLa.later (Below.refl _ _).drew
  clear hLa
  go_enter Tryz.func74, Tryz.ntmps74
  go_wp2_with fail
  have tok1 : True := trivial
  have tok2 : True := trivial
  have HKA : Hid ((V.alloc (.cells #[.int .i64 r0, .int .i64 r1, .int .i64 r2] 3)).drew.cell? ⟨w.heap.size, 0, none⟩ = some (.int .i64 a0) ∧ (V.alloc (.cells #[.int .i64 r0, .int .i64 r1, .int .i64 r2] 3)).drew.cell? ⟨w.heap.size, 1, none⟩ = some (.int .i64 a1) ∧ (V.alloc (.cells #[.int .i64 r0, .int .i64 r1, .int .i64 r2] 3)).drew.cell? ⟨w.heap.size, 2, none⟩ = some (.int .i64 a2) ∧ (V.alloc (.cells #[.int .i64 r0, .int .i64 r1, .int .i64 r2] 3)).drew.cell? ⟨w.heap.size + 1, 0, none⟩ = some (.int .i64 b0) ∧ (V.alloc (.cells #[.int .i64 r0, .int .i64 r1, .int .i64 r2] 3)).drew.cell? ⟨w.heap.size + 1, 1, none⟩ = some (.int .i64 b1) ∧ (V.alloc (.cells #[.int .i64 r0, .int .i64 r1, .int .i64 r2] 3)).drew.cell? ⟨w.heap.size + 1, 2, none⟩ = some (.int .i64 b2)) := ⟨cell_keep (S := 0) (balloc V _).drew f0, cell_keep (S := 0) (balloc V _).drew f1, cell_keep (S := 0) (balloc V _).drew f2, cell_keep (S := 0) (balloc V _).drew f3, cell_keep (S := 0) (balloc V _).drew f4, cell_keep (S := 0) (balloc V _).drew f5⟩
  go_region_held3 (fun w' => w'.cell? ⟨w.heap.size, 0, none⟩ = some (.int .i64 a0) ∧ w'.cell? ⟨w.heap.size, 1, none⟩ = some (.int .i64 a1) ∧ w'.cell? ⟨w.heap.size, 2, none⟩ = some (.int .i64 a2) ∧ w'.cell? ⟨w.heap.size + 1, 0, none⟩ = some (.int .i64 b0) ∧ w'.cell? ⟨w.heap.size + 1, 1, none⟩ = some (.int .i64 b1) ∧ w'.cell? ⟨w.heap.size + 1, 2, none⟩ = some (.int .i64 b2)) (first | exact HKA.out | go_keep) (first
    | (go_at_call 88; clear tok1; refine (HQ0.out _).mono ?_; rintro e w' ⟨rfl, hw⟩; subst w')
    | (go_at_call 88; clear tok2; refine (HQ1.out _).mono ?_; rintro e w' ⟨rfl, hw⟩; subst w')
    | (go_at_call 88; refine (HQ2.out _).mono ?_; rintro e w' ⟨rfl, hw⟩; subst w')
    | (go_at_call 87; refine (HQ3.out _ _ HLa.out.1.1 HLa.out.1.2.1 HLa.out.1.2.2).mono ?_; rintro e w' ⟨rfl, hw⟩; subst w'))
  all_goals (
    go_wp2
    go_ret
    exact ⟨rfl, HGL.out⟩)

def Tryz.sortC_ren : Go.Shelf.Ren := ⟨fun | 6 => 73 | 15 => 86 | 14 => 85 | 28 => 101 | 29 => 102 | 20 => 93 | 21 => 94 | 22 => 95 | 23 => 96 | 24 => 97 | 25 => 98 | 26 => 99 | 27 => 100 | 46 => 107 | 47 => 108 | 48 => 109 | 49 => 110 | 50 => 111 | 57 => 114 | n => n, fun | 22 => 23 | 24 => 32 | 25 => 106 | 3 => 3 | 39 => 113 | 0 => 0 | 53 => 135 | 55 => 61 | 4 => 4 | 46 => 128 | 45 => 127 | 50 => 132 | 5 => 5 | 9 => 9 | 66 => 138 | 70 => 142 | 76 => 146 | 77 => 147 | n => n, fun | n => n⟩
theorem Tryz.sortC : Go.Proofs.SlLaysF0.n6 Tryz.prog Tryz.sortC_ren := {
  mixed := by kernel_rfl
  f6 := ⟨Tryz.f73.name, by decide, Tryz.func73.trans (congrArg some (by kernel_rfl))⟩
  f14 := ⟨Tryz.f85.name, by decide, Tryz.func85.trans (congrArg some (by kernel_rfl))⟩
  f15 := Tryz.func86.trans (congrArg some (by kernel_rfl))
  f20 := ⟨Tryz.f93.name, by decide, Tryz.func93.trans (congrArg some (by kernel_rfl))⟩
  f21 := ⟨Tryz.f94.name, by decide, Tryz.func94.trans (congrArg some (by kernel_rfl))⟩
  f22 := ⟨Tryz.f95.name, by decide, Tryz.func95.trans (congrArg some (by kernel_rfl))⟩
  f23 := ⟨Tryz.f96.name, by decide, Tryz.func96.trans (congrArg some (by kernel_rfl))⟩
  f24 := ⟨Tryz.f97.name, by decide, Tryz.func97.trans (congrArg some (by kernel_rfl))⟩
  f25 := ⟨Tryz.f98.name, by decide, Tryz.func98.trans (congrArg some (by kernel_rfl))⟩
  f26 := ⟨Tryz.f99.name, by decide, Tryz.func99.trans (congrArg some (by kernel_rfl))⟩
  f27 := ⟨Tryz.f100.name, by decide, Tryz.func100.trans (congrArg some (by kernel_rfl))⟩
  f28 := Tryz.func101.trans (congrArg some (by kernel_rfl))
  f29 := Tryz.func102.trans (congrArg some (by kernel_rfl))
  f46 := ⟨Tryz.f107.name, by decide, Tryz.func107.trans (congrArg some (by kernel_rfl))⟩
  f47 := Tryz.func108.trans (congrArg some (by kernel_rfl))
  f48 := Tryz.func109.trans (congrArg some (by kernel_rfl))
  f49 := ⟨Tryz.f110.name, by decide, Tryz.func110.trans (congrArg some (by kernel_rfl))⟩
  f50 := ⟨Tryz.f111.name, by decide, Tryz.func111.trans (congrArg some (by kernel_rfl))⟩
  f57 := ⟨Tryz.f114.name, by decide, Tryz.func114.trans (congrArg some (by kernel_rfl))⟩
  t0 := Tryz.underlying0
  a0 := Tryz.isAgg0
  z0 := Tryz.sizeOf0
  v0 := Tryz.zeroValue0
  t3 := Tryz.underlying3
  a3 := Tryz.isAgg3
  z3 := Tryz.sizeOf3
  v3 := Tryz.zeroValue3
  t4 := Tryz.underlying4
  a4 := Tryz.isAgg4
  z4 := Tryz.sizeOf4
  v4 := Tryz.zeroValue4
  t5 := Tryz.underlying5
  a5 := Tryz.isAgg5
  z5 := Tryz.sizeOf5
  v5 := Tryz.zeroValue5
  t9 := Tryz.underlying9
  a9 := Tryz.isAgg9
  z9 := Tryz.sizeOf9
  v9 := Tryz.zeroValue9
  t22 := Tryz.underlying23
  a22 := Tryz.isAgg23
  z22 := Tryz.sizeOf23
  v22 := Tryz.zeroValue23
  t25 := Tryz.underlying106
  a25 := Tryz.isAgg106
  z25 := Tryz.sizeOf106
  v25 := Tryz.zeroValue106
  t39 := Tryz.underlying113
  a39 := Tryz.isAgg113
  z39 := Tryz.sizeOf113
  v39 := Tryz.zeroValue113
  t45 := Tryz.underlying127
  a45 := Tryz.isAgg127
  z45 := Tryz.sizeOf127
  v45 := Tryz.zeroValue127
  t46 := Tryz.underlying128
  a46 := Tryz.isAgg128
  z46 := Tryz.sizeOf128
  v46 := Tryz.zeroValue128
  t50 := Tryz.underlying132
  a50 := Tryz.isAgg132
  z50 := Tryz.sizeOf132
  v50 := Tryz.zeroValue132
  t53 := Tryz.underlying135
  a53 := Tryz.isAgg135
  z53 := Tryz.sizeOf135
  v53 := Tryz.zeroValue135
  t55 := Tryz.underlying61
  a55 := Tryz.isAgg61
  z55 := Tryz.sizeOf61
  v55 := Tryz.zeroValue61
  t66 := Tryz.underlying138
  a66 := Tryz.isAgg138
  z66 := Tryz.sizeOf138
  v66 := Tryz.zeroValue138
  t70 := Tryz.underlying142
  a70 := Tryz.isAgg142
  z70 := Tryz.sizeOf142
  v70 := Tryz.zeroValue142
  t76 := Tryz.underlying146
  a76 := Tryz.isAgg146
  z76 := Tryz.sizeOf146
  v76 := Tryz.zeroValue146
  t77 := Tryz.underlying147
  a77 := Tryz.isAgg147
  z77 := Tryz.sizeOf147
  v77 := Tryz.zeroValue147 }

theorem cmpLaysC (blk off size : Nat) (w : World) : CmpLays Tryz.prog 74 #[] enc3 3 cmpC blk off size w := fun m os dk _ x y => compareClaims_c x.1 x.2.1 x.2.2 y.1 y.2.1 y.2.2 _

theorem sortC_c (g n cap base : Nat) (xs : List Cl) (w : World) (hn : n ≤ 60) (hx : xs.length = n) (ho : OwnC w base (.slice (some ⟨g, 0, none⟩) n cap) xs) :
    Calls Tryz.prog 73 #[.slice (some ⟨g, 0, none⟩) n cap, .func (.func 74) #[] #[]] w fun e w' => e = .returned (.tuple #[]) ∧ ∃ ys : List Cl, ys.Perm xs ∧ (∀ i j, i < j → j < n → ltC (ys.getD j (0, 0, 0)) (ys.getD i (0, 0, 0)) = false) ∧ OwnC w' base (.slice (some ⟨g, 0, none⟩) n cap) ys ∧ w.grownBy w' (some g) := by
  have hlen : xs.toArray.size = n := by simpa using hx
  have hraw := OwnC.raw ho hx
  have hfl := fun d => flat3 cellsC (fun p l => rfl) rfl d
  have hH : HoldsK enc3 3 w g 0 xs.toArray := by
    unfold HoldsK
    rw [hfl]
    exact row_holds hraw
  have hblk : g < w.heap.size := (World.ownsRow.lt ho g rfl).2
  have h := AnyQ.slices_SortFunc Tryz.sortC 3 (fun _ => by kernel_rfl) (fun _ => by kernel_rfl) enc3 (fun _ => rfl) (fun x v hv => by simp [enc3] at hv; rcases hv with rfl | rfl | rfl <;> rfl) cmpC (by rw [ltOf_cmpC]; exact ltC_swo) 74 #[] g 0 cap xs.toArray w (enters_of Tryz.func74 (by kernel_rfl) rfl) (cmpLaysC g 0 _ w) hH hblk (by omega)
  rw [hlen] at h
  change Calls Tryz.prog 73 #[.slice (some ⟨g, 0, none⟩) n cap, .func (.func 74) #[] #[]] w _ at h
  refine h.mono ?_
  rintro e w' ⟨rfl, d', q, os, hp, hs, rfl⟩
  obtain ⟨hps, _, hpp⟩ := hp
  have hsz : d'.size = n := by rw [hps]; exact hlen
  have hperm : d'.toList.Perm xs := by
    have e1 : d'.extract 0 n = d' := by rw [← hsz]; simp
    have e2 : xs.toArray.extract 0 n = xs.toArray := by rw [← hx]; simp
    rw [e1, e2] at hpp
    simpa using hpp
  refine ⟨rfl, d'.toList, hperm, fun i j hij hj => ?_, ?_, ?_⟩
  · have := hs i j (Nat.zero_le _) hij hj
    rw [ltOf_cmpC] at this
    have e1 : d'[i]! = d'.toList.getD i (0, 0, 0) := by simp [List.getD, show i < d'.size by omega]
    have e2 : d'[j]! = d'.toList.getD j (0, 0, 0) := by simp [List.getD, show j < d'.size by omega]
    rw [e1, e2] at this
    exact this
  · unfold sortWorldK putRowK
    rw [hfl]
    have hl3 : d'.toList.length = n := by simpa using hsz
    exact OwnC.of (row_put hraw (by rw [cellsC_length, hl3]) q os) hl3
  · exact put_grown w g q _ os

theorem sortC_none (cap : Nat) (w : World) : Calls Tryz.prog 73 #[.slice none 0 cap, .func (.func 74) #[] #[]] w fun e w' => e = .returned (.tuple #[]) ∧ w' = w :=
  AnyF.slices_SortFunc_none Tryz.sortC none cap _ w

end Go.Proofs.YtleddlfojogdiaaGreat

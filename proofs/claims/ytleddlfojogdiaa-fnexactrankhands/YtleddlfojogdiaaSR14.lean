/- Chapter 14: slices.SortStableFunc at tallies, few of them; their hands told behind it. -/
import Derived.Test.YtleddlfojogdiaaPS14
import Derived.Test.YtleddlfojogdiaaGW14
import Derived.Shelf.SlSortCmp.InsertionK
import Derived.Ground.SlsfProg
namespace Go.Proofs.Ytleddlfojogdiaa
set_option linter.unusedVariables false
set_option maxRecDepth 1000000
set_option linter.unusedSimpArgs false
open Go.RowKit Go.Sort Go.Shelf Go.Lib

def Try.insU_ren : Go.Shelf.Ren := ⟨fun | 20 => 126 | n => n, fun | 24 => 38 | 22 => 23 | 3 => 3 | 25 => 99 | 4 => 4 | 0 => 0 | n => n, fun | n => n⟩
theorem Try.insU : Go.Proofs.SlLaysF0.n20 Try.prog Try.insU_ren := {
  mixed := by kernel_rfl
  f20 := ⟨Try.f126.name, by decide, Try.func126.trans (congrArg some (by kernel_rfl))⟩
  t0 := Try.underlying0
  a0 := Try.isAgg0
  z0 := Try.sizeOf0
  v0 := Try.zeroValue0
  t3 := Try.underlying3
  a3 := Try.isAgg3
  z3 := Try.sizeOf3
  v3 := Try.zeroValue3
  t4 := Try.underlying4
  a4 := Try.isAgg4
  z4 := Try.sizeOf4
  v4 := Try.zeroValue4
  t22 := Try.underlying23
  a22 := Try.isAgg23
  z22 := Try.sizeOf23
  v22 := Try.zeroValue23
  t25 := Try.underlying99
  a25 := Try.isAgg99
  z25 := Try.sizeOf99
  v25 := Try.zeroValue99 }

def encT (x : Tg) : List Value := enc3 (vT x)

theorem cmpLaysT (blk off size : Nat) (w : World) : CmpLays Try.prog 67 #[] encT 3 cmpT blk off size w := fun m os dk _ x y => by
  have hx := vT_bounds x
  have hy := vT_bounds y
  exact rankCmp_c (vT x).1 (vT x).2.1 (vT x).2.2 (vT y).1 (vT y).2.1 (vT y).2.2 _ hx.1.1 hx.1.2 hx.2.1 hx.2.2 hy.1.1 hy.1.2 hy.2.1 hy.2.2

theorem flatT (d : Array Tg) : flatK encT 3 d = (cellsU (d.toList.map vT)).toArray := by
  have h := flat3 cellsU (fun p l => rfl) rfl (d.map vT)
  rw [Array.toList_map] at h
  rw [← h]
  apply ext_get!
  · simp
  · intro t ht
    rw [size_flatK] at ht
    rw [get_flatK _ _ _ _ ht, get_flatK _ _ _ _ (by simpa using ht)]
    have hd : t / 3 < d.size := by omega
    have e1 : (d.map vT)[t / 3]! = vT d[t / 3]! := by simp [hd]
    rw [e1]
    rfl

theorem insSortU_c (g n cap base : Nat) (xs : List Ta) (w : World) (hn : n ≤ 12) (hx : xs.length = n) (ha : ∀ t ∈ xs, taB t = true) (hg : tasAt xs = true) (ho : OwnU w base (.slice (some ⟨g, 0, none⟩) n cap) xs) :
    Calls Try.prog 126 #[.slice (some ⟨g, 0, none⟩) n cap, .int .i64 0, .int .i64 n, .func (.func 67) #[] #[]] w fun e w' => e = .returned (.tuple #[]) ∧ ∃ ys : List Ta, ys.map (fun t => t.1) = rankL xs ∧ ys.length = n ∧ OwnU w' base (.slice (some ⟨g, 0, none⟩) n cap) ys ∧ w.grownBy w' (some g) := by
  have hlen : (xs.map tgOf).toArray.size = n := by simpa using hx
  have hraw := OwnU.raw ho hx
  have hH : HoldsK encT 3 w g 0 (xs.map tgOf).toArray := by
    unfold HoldsK
    rw [flatT]
    have := row_holds hraw
    simpa [map_tgOf ha] using this
  have hblk : g < w.heap.size := (World.ownsRow.lt ho g rfl).2
  have h := AnyQ.insertionSortCmpFunc Try.insU 3 (fun _ => by kernel_rfl) (fun _ => by kernel_rfl) encT (fun _ => rfl) (fun x v hv => by simp [encT, enc3] at hv; rcases hv with rfl | rfl | rfl <;> rfl) cmpT 67 #[] g 0 cap 0 n (xs.map tgOf).toArray w (enters_of Try.func67 (by kernel_rfl) rfl) (cmpLaysT g 0 _ w) hH hblk (Nat.zero_le _) (by omega) (by omega)
  rw [hlen] at h
  change Calls Try.prog 126 #[.slice (some ⟨g, 0, none⟩) n cap, .int .i64 ((0 : Nat) : Int), .int .i64 n, .func (.func 67) #[] #[]] w _ at h
  refine h.mono ?_
  rintro e w' ⟨rfl, q, os, rfl⟩
  have hr := rank_tg xs hg ha
  rw [hx] at hr
  refine ⟨rfl, (insertionSort (ltOf cmpT) (xs.map tgOf).toArray 0 n).toList.map vT, hr.1, by simpa using hr.2, ?_, ?_⟩
  · unfold sortWorldK putRowK
    rw [flatT]
    refine OwnU.of (row_put hraw ?_ q os) (by simpa using hr.2)
    rw [cellsU_length]
    congr 1
    simpa using hr.2
  · exact put_grown w g q _ os

set_option maxHeartbeats 4000000 in
theorem stableU_c (g n cap base : Nat) (xs : List Ta) (w : World) (hn : n ≤ 12) (hx : xs.length = n) (ha : ∀ t ∈ xs, taB t = true) (hg : tasAt xs = true) (ho : OwnU w base (.slice (some ⟨g, 0, none⟩) n cap) xs) :
    Calls Try.prog 107 #[.slice (some ⟨g, 0, none⟩) n cap, .int .i64 n, .func (.func 67) #[] #[]] w fun e w' => e = .returned (.tuple #[]) ∧ ∃ ys : List Ta, ys.map (fun t => t.1) = rankL xs ∧ ys.length = n ∧ OwnU w' base (.slice (some ⟨g, 0, none⟩) n cap) ys ∧ w.grownBy w' (some g) := by
  have q := insSortU_c g n cap base xs w hn hx ha hg ho
  have h1 : ¬ (20 : Int) ≤ (n : Int) := by omega
  have h2 : ¬ (20 : Int) < (n : Int) := by omega
  clear hx ha hg ho
  go_enter Try.func107, Try.ntmps107
  go_wp2
  refine wp_loop_rounds 1 ?_
  rw [rounds_succ]
  go_wp2_with fail
  refine q.mono ?_
  clear q
  rintro e w' ⟨rfl, hq⟩
  have HQ : Hid (∃ ys : List Ta, ys.map (fun t => t.1) = rankL xs ∧ ys.length = n ∧ OwnU w' base (.slice (some ⟨g, 0, none⟩) n cap) ys ∧ w.grownBy w' (some g)) := hq
  clear hq
  go_wp2
  refine wp_loop_rounds 1 ?_
  rw [rounds_succ]
  go_wp2
  go_end0
  exact ⟨rfl, HQ.out⟩

theorem sortStableU_c (g n cap base : Nat) (xs : List Ta) (w : World) (hn : n ≤ 12) (hx : xs.length = n) (ha : ∀ t ∈ xs, taB t = true) (hg : tasAt xs = true) (ho : OwnU w base (.slice (some ⟨g, 0, none⟩) n cap) xs) :
    Calls Try.prog 66 #[.slice (some ⟨g, 0, none⟩) n cap, .func (.func 67) #[] #[]] w fun e w' => e = .returned (.tuple #[]) ∧ ∃ ys : List Ta, ys.map (fun t => t.1) = rankL xs ∧ ys.length = n ∧ OwnU w' base (.slice (some ⟨g, 0, none⟩) n cap) ys ∧ w.grownBy w' (some g) := by
  have q := stableU_c g n cap base xs w hn hx ha hg ho
  clear hx ha hg ho
  go_enter Try.func66, Try.ntmps66
  go_wp2_with fail
  refine q.mono ?_
  clear q
  rintro e w' ⟨rfl, hq⟩
  have HQ : Hid (∃ ys : List Ta, ys.map (fun t => t.1) = rankL xs ∧ ys.length = n ∧ OwnU w' base (.slice (some ⟨g, 0, none⟩) n cap) ys ∧ w.grownBy w' (some g)) := hq
  clear hq
  go_wp2
  go_end0
  exact ⟨rfl, HQ.out⟩

end Go.Proofs.Ytleddlfojogdiaa

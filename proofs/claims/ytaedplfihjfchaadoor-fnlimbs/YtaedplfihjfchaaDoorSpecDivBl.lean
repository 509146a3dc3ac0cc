/- The specification's DivBig. -/
import Derived.Test.YtaedplfihjfchaaDoorSpecDivl
import Derived.Deep.RegionHeld3
namespace Go.Proofs.YtaedplfihjfchaaDoor
set_option linter.unusedVariables false
set_option maxRecDepth 1000000
set_option linter.unusedSimpArgs false
open Go.RowKit

/-- Quotient, rest, and whether there are any. -/
def divF (xs ys : List Int) : List Int × List Int × Bool := if goodB xs && goodB ys then (if ys.length = 0 then ([], [], false) else (bigL (val xs / val ys), bigL (val xs % val ys), true)) else ([], [], false)

theorem takeB {P : Program} {ops : Array Oper} {Q : Exit → Act → World → Prop} {md : Region.Mode} {S : World → Prop} {i : Nat} {oi : Oper} {v : Value} {d : Option Tmp} {fuel : Nat} {listed : Array Bool} {a : Act} {w : World} (hi : ops[i]? = some oi) (hd : oi.dst = d)
    (hs : Region.noSelect ops = true) (hf : Region.free md ops listed i = true) (hr : (Region.ready md ops listed).contains i = true)
    (hQ : ∀ c a w, Q (.panic c) (a.put d v) w → Q (.panic c) a w) (hy : YieldsIf P ops S oi v a) (hS : S w)
    (h : wpAnyH P md ops Q S fuel (listed.setIfInBounds i true) (a.put d v) w) : wpAnyH P md ops Q S (fuel + 1) listed a w := by
  subst hd
  exact wpAnyH_take hi hs hf hr hQ hy hS h

theorem fz4 (w : World) (cs cs' cs'' cs3 : Array Value) (t t' t'' t3 : TypeId) : ((((w.alloc (.cells cs t)).alloc (.cells cs' t')).alloc (.cells cs'' t'')).alloc (.cells cs3 t3)).frozen? ⟨w.heap.size + 1 + 1 + 1, 0, none⟩ = false := by
  have := fz1 (((w.alloc (.cells cs t)).alloc (.cells cs' t')).alloc (.cells cs'' t'')) cs3 t3
  simpa using this

set_option maxHeartbeats 2000000 in
set_option maxRecDepth 1000000 in
theorem specDiv_c (ao bo : Option Addr) (n m c d : Nat) (xs ys : List Int) (w : World) (hx : xs.length = n) (hy : ys.length = m) (hn : n ≤ 17592186044416) (hm : m ≤ 17592186044416) (hr : Rd w ao xs) (hs : Rd w bo ys) (zs us : List Int) (fb : Bool) (p q : Nat) (hF : divF xs ys = (zs, us, fb)) (hp : zs.length = p) (hq : us.length = q) :
    Calls Tryd.prog 8 #[.agg #[.slice ao n c], .agg #[.slice bo m d]] w fun e w' => ∃ a1 c1 a2 c2, e = .returned (.tuple #[.agg #[.slice a1 p c1], .agg #[.slice a2 q c2], .bool fb]) ∧ Own w' w.heap.size (.slice a1 p c1) zs ∧ Own w' w.heap.size (.slice a2 q c2) us ∧ Below w.heap.size w w' := by
  have HX : Hid (xs.length = n) := hx
  have HY : Hid (ys.length = m) := hy
  have HR : Hid (Rd w ao xs) := hr
  have HS : Hid (Rd w bo ys) := hs
  have HP : Hid (zs.length = p) := hp
  have HQ : Hid (us.length = q) := hq
  clear hx hy hr hs hp hq
  cases hg : (goodB xs && goodB ys)
  · rw [divF, hg] at hF
    simp only [Bool.false_eq_true, if_false] at hF
    simp only [Prod.mk.injEq] at hF
    obtain ⟨rfl, rfl, rfl⟩ := hF
    have hp0 := HP.out
    have hq0 := HQ.out
    simp at hp0 hq0
    subst hp0 hq0
    go_enter Tryd.func8, Tryd.ntmps8
    go_wp2_with fail
    have x0 : ((((w.alloc (Obj.cells #[Value.slice ao n c] 25)).alloc (Obj.cells #[Value.slice bo m d] 25)).alloc (Obj.cells #[Value.slice none 0 0] 25)).alloc (Obj.cells #[Value.slice none 0 0] 25)).cell? ⟨w.heap.size, 0, none⟩ = some (.slice ao n c) := calloc (calloc (calloc (by simp)))
    have y0 : ((((w.alloc (Obj.cells #[Value.slice ao n c] 25)).alloc (Obj.cells #[Value.slice bo m d] 25)).alloc (Obj.cells #[Value.slice none 0 0] 25)).alloc (Obj.cells #[Value.slice none 0 0] 25)).cell? ⟨w.heap.size + 1, 0, none⟩ = some (.slice bo m d) := calloc (calloc (by simp))
    have r0 : ((((w.alloc (Obj.cells #[Value.slice ao n c] 25)).alloc (Obj.cells #[Value.slice bo m d] 25)).alloc (Obj.cells #[Value.slice none 0 0] 25)).alloc (Obj.cells #[Value.slice none 0 0] 25)).cell? ⟨w.heap.size + 1 + 1, 0, none⟩ = some (.slice none 0 0) := calloc (by rw [World.cell?_alloc_at _ _ _ _ (by simp)]; rfl)
    have t0 : ((((w.alloc (Obj.cells #[Value.slice ao n c] 25)).alloc (Obj.cells #[Value.slice bo m d] 25)).alloc (Obj.cells #[Value.slice none 0 0] 25)).alloc (Obj.cells #[Value.slice none 0 0] 25)).cell? ⟨w.heap.size + 1 + 1 + 1, 0, none⟩ = some (.slice none 0 0) := by rw [World.cell?_alloc_at _ _ _ _ (by simp)]; rfl
    have f0 : ((((w.alloc (Obj.cells #[Value.slice ao n c] 25)).alloc (Obj.cells #[Value.slice bo m d] 25)).alloc (Obj.cells #[Value.slice none 0 0] 25)).alloc (Obj.cells #[Value.slice none 0 0] 25)).frozen? ⟨w.heap.size + 1 + 1, 0, none⟩ = false := by rw [World.frozen?_alloc_past _ _ _ (by simp)]; exact fz3 _ _ _ _ _ _ _
    have g0 : ((((w.alloc (Obj.cells #[Value.slice ao n c] 25)).alloc (Obj.cells #[Value.slice bo m d] 25)).alloc (Obj.cells #[Value.slice none 0 0] 25)).alloc (Obj.cells #[Value.slice none 0 0] 25)).frozen? ⟨w.heap.size + 1 + 1 + 1, 0, none⟩ = false := fz4 _ _ _ _ _ _ _ _ _
    have HB0 : Hid (Below w.heap.size w ((((w.alloc (Obj.cells #[Value.slice ao n c] 25)).alloc (Obj.cells #[Value.slice bo m d] 25)).alloc (Obj.cells #[Value.slice none 0 0] 25)).alloc (Obj.cells #[Value.slice none 0 0] 25))) := (below_three w _ _ _).alloc (by simp; omega) _
    generalize ((((w.alloc (Obj.cells #[Value.slice ao n c] 25)).alloc (Obj.cells #[Value.slice bo m d] 25)).alloc (Obj.cells #[Value.slice none 0 0] 25)).alloc (Obj.cells #[Value.slice none 0 0] 25)) = w0 at HB0 x0 y0 r0 t0 f0 g0 ⊢
    have l0 : w.heap.size + 1 + 1 + 1 < w0.heap.size := World.block_lt_of_cell? _ _ t0
    refine (l1Both_c ao bo n m c d xs ys _ HX.out HY.out hn hm (HR.out.later HB0.out) (HS.out.later HB0.out)).mono ?_
    rw [hg]
    rintro e w1 ⟨rfl, hb⟩
    have HB1 : Hid (Below w.heap.size w w1) := HB0.out.trans (hb.mono HB0.out.size)
    have x1 : w1.cell? ⟨w.heap.size, 0, none⟩ = some (.slice ao n c) := cell_keep (S := 0) hb x0
    have y1 : w1.cell? ⟨w.heap.size + 1, 0, none⟩ = some (.slice bo m d) := cell_keep (S := 0) hb y0
    have r1 : w1.cell? ⟨w.heap.size + 1 + 1, 0, none⟩ = some (.slice none 0 0) := cell_keep (S := 0) hb r0
    have t1 : w1.cell? ⟨w.heap.size + 1 + 1 + 1, 0, none⟩ = some (.slice none 0 0) := cell_keep (S := 0) hb t0
    have f1 : w1.frozen? ⟨w.heap.size + 1 + 1, 0, none⟩ = false := fcell_keep hb (by omega) f0
    have g1 : w1.frozen? ⟨w.heap.size + 1 + 1 + 1, 0, none⟩ = false := fcell_keep hb (by omega) g0
    have l1 : w.heap.size + 1 + 1 + 1 < w1.heap.size := World.block_lt_of_cell? _ _ t1
    have kk1 : w.heap.size + 3 < w1.heap.size := by omega
    clear hb x0 y0 r0 t0 f0 g0 l0
    clear hg
    have rr : ((w1.setCell ⟨w.heap.size + 1 + 1, 0, none⟩ (.slice none 0 0)).setCell ⟨w.heap.size + 1 + 1 + 1, 0, none⟩ (.slice none 0 0)).cell? ⟨w.heap.size + 1 + 1, 0, none⟩ = some (.slice none 0 0) := keep1 (rsame r1) (by omega)
    have tt : ((w1.setCell ⟨w.heap.size + 1 + 1, 0, none⟩ (.slice none 0 0)).setCell ⟨w.heap.size + 1 + 1 + 1, 0, none⟩ (.slice none 0 0)).cell? ⟨w.heap.size + 1 + 1 + 1, 0, none⟩ = some (.slice none 0 0) := rsame (keep1 t1 (by omega))
    go_wp2
    refine bodyPost_ret (v := .tuple #[.agg #[.slice none 0 0], .agg #[.slice none 0 0], .bool false]) (by simp [results, Tryd.results8, go_sem, rr, tt]) rfl ⟨none, 0, none, 0, rfl, World.ownsRow_nil _ _ _ _, World.ownsRow_nil _ _ _ _, ?_⟩
    exact (HB1.out.setCell (by simp; omega) _).setCell (by simp; omega) _
  have HG : Hid (goodB xs = true ∧ goodB ys = true) := by have h := hg; simp at h; exact h
  rw [divF, hg, if_pos rfl, HY.out] at hF
  have hn6 : n ≤ 6 := by have := (goodB_digs HG.out.1).1; rw [HX.out] at this; exact this
  have hm6 : m ≤ 6 := by have := (goodB_digs HG.out.2).1; rw [HY.out] at this; exact this
  by_cases hm0 : m = 0
  · rw [if_pos hm0] at hF
    have hm0' : ((m : Int) == 0) = true := by rw [beq_iff_eq]; omega
    clear hm0
    simp only [Prod.mk.injEq] at hF
    obtain ⟨rfl, rfl, rfl⟩ := hF
    have hp0 := HP.out
    have hq0 := HQ.out
    simp at hp0 hq0
    subst hp0 hq0
    go_enter Tryd.func8, Tryd.ntmps8
    go_wp2_with fail
    have x0 : ((((w.alloc (Obj.cells #[Value.slice ao n c] 25)).alloc (Obj.cells #[Value.slice bo m d] 25)).alloc (Obj.cells #[Value.slice none 0 0] 25)).alloc (Obj.cells #[Value.slice none 0 0] 25)).cell? ⟨w.heap.size, 0, none⟩ = some (.slice ao n c) := calloc (calloc (calloc (by simp)))
    have y0 : ((((w.alloc (Obj.cells #[Value.slice ao n c] 25)).alloc (Obj.cells #[Value.slice bo m d] 25)).alloc (Obj.cells #[Value.slice none 0 0] 25)).alloc (Obj.cells #[Value.slice none 0 0] 25)).cell? ⟨w.heap.size + 1, 0, none⟩ = some (.slice bo m d) := calloc (calloc (by simp))
    have r0 : ((((w.alloc (Obj.cells #[Value.slice ao n c] 25)).alloc (Obj.cells #[Value.slice bo m d] 25)).alloc (Obj.cells #[Value.slice none 0 0] 25)).alloc (Obj.cells #[Value.slice none 0 0] 25)).cell? ⟨w.heap.size + 1 + 1, 0, none⟩ = some (.slice none 0 0) := calloc (by rw [World.cell?_alloc_at _ _ _ _ (by simp)]; rfl)
    have t0 : ((((w.alloc (Obj.cells #[Value.slice ao n c] 25)).alloc (Obj.cells #[Value.slice bo m d] 25)).alloc (Obj.cells #[Value.slice none 0 0] 25)).alloc (Obj.cells #[Value.slice none 0 0] 25)).cell? ⟨w.heap.size + 1 + 1 + 1, 0, none⟩ = some (.slice none 0 0) := by rw [World.cell?_alloc_at _ _ _ _ (by simp)]; rfl
    have f0 : ((((w.alloc (Obj.cells #[Value.slice ao n c] 25)).alloc (Obj.cells #[Value.slice bo m d] 25)).alloc (Obj.cells #[Value.slice none 0 0] 25)).alloc (Obj.cells #[Value.slice none 0 0] 25)).frozen? ⟨w.heap.size + 1 + 1, 0, none⟩ = false := by rw [World.frozen?_alloc_past _ _ _ (by simp)]; exact fz3 _ _ _ _ _ _ _
    have g0 : ((((w.alloc (Obj.cells #[Value.slice ao n c] 25)).alloc (Obj.cells #[Value.slice bo m d] 25)).alloc (Obj.cells #[Value.slice none 0 0] 25)).alloc (Obj.cells #[Value.slice none 0 0] 25)).frozen? ⟨w.heap.size + 1 + 1 + 1, 0, none⟩ = false := fz4 _ _ _ _ _ _ _ _ _
    have HB0 : Hid (Below w.heap.size w ((((w.alloc (Obj.cells #[Value.slice ao n c] 25)).alloc (Obj.cells #[Value.slice bo m d] 25)).alloc (Obj.cells #[Value.slice none 0 0] 25)).alloc (Obj.cells #[Value.slice none 0 0] 25))) := (below_three w _ _ _).alloc (by simp; omega) _
    generalize ((((w.alloc (Obj.cells #[Value.slice ao n c] 25)).alloc (Obj.cells #[Value.slice bo m d] 25)).alloc (Obj.cells #[Value.slice none 0 0] 25)).alloc (Obj.cells #[Value.slice none 0 0] 25)) = w0 at HB0 x0 y0 r0 t0 f0 g0 ⊢
    have l0 : w.heap.size + 1 + 1 + 1 < w0.heap.size := World.block_lt_of_cell? _ _ t0
    refine (l1Both_c ao bo n m c d xs ys _ HX.out HY.out hn hm (HR.out.later HB0.out) (HS.out.later HB0.out)).mono ?_
    rw [hg]
    rintro e w1 ⟨rfl, hb⟩
    have HB1 : Hid (Below w.heap.size w w1) := HB0.out.trans (hb.mono HB0.out.size)
    have x1 : w1.cell? ⟨w.heap.size, 0, none⟩ = some (.slice ao n c) := cell_keep (S := 0) hb x0
    have y1 : w1.cell? ⟨w.heap.size + 1, 0, none⟩ = some (.slice bo m d) := cell_keep (S := 0) hb y0
    have r1 : w1.cell? ⟨w.heap.size + 1 + 1, 0, none⟩ = some (.slice none 0 0) := cell_keep (S := 0) hb r0
    have t1 : w1.cell? ⟨w.heap.size + 1 + 1 + 1, 0, none⟩ = some (.slice none 0 0) := cell_keep (S := 0) hb t0
    have f1 : w1.frozen? ⟨w.heap.size + 1 + 1, 0, none⟩ = false := fcell_keep hb (by omega) f0
    have g1 : w1.frozen? ⟨w.heap.size + 1 + 1 + 1, 0, none⟩ = false := fcell_keep hb (by omega) g0
    have l1 : w.heap.size + 1 + 1 + 1 < w1.heap.size := World.block_lt_of_cell? _ _ t1
    have kk1 : w.heap.size + 3 < w1.heap.size := by omega
    clear hb x0 y0 r0 t0 f0 g0 l0
    clear hg
    have rr : ((w1.setCell ⟨w.heap.size + 1 + 1, 0, none⟩ (.slice none 0 0)).setCell ⟨w.heap.size + 1 + 1 + 1, 0, none⟩ (.slice none 0 0)).cell? ⟨w.heap.size + 1 + 1, 0, none⟩ = some (.slice none 0 0) := keep1 (rsame r1) (by omega)
    have tt : ((w1.setCell ⟨w.heap.size + 1 + 1, 0, none⟩ (.slice none 0 0)).setCell ⟨w.heap.size + 1 + 1 + 1, 0, none⟩ (.slice none 0 0)).cell? ⟨w.heap.size + 1 + 1 + 1, 0, none⟩ = some (.slice none 0 0) := rsame (keep1 t1 (by omega))
    go_wp2
    refine bodyPost_ret (v := .tuple #[.agg #[.slice none 0 0], .agg #[.slice none 0 0], .bool false]) (by simp [results, Tryd.results8, go_sem, rr, tt]) rfl ⟨none, 0, none, 0, rfl, World.ownsRow_nil _ _ _ _, World.ownsRow_nil _ _ _ _, ?_⟩
    exact (HB1.out.setCell (by simp; omega) _).setCell (by simp; omega) _
  rw [if_neg hm0] at hF
  simp only [Prod.mk.injEq] at hF
  obtain ⟨hz1, hz2, rfl⟩ := hF
  have hm0' : ((m : Int) == 0) = false := by rw [beq_eq_false_iff_ne]; omega
  have dx := (goodB_digs HG.out.1).2.1
  have dy := (goodB_digs HG.out.2).2.1
  have vx0 := val_nonneg dx
  have vx1 := val_lt6 dx (goodB_digs HG.out.1).1
  have vy0 : 0 < val ys := by
    have h := val_lt_len (xs := []) digs_nil dy (goodB_digs HG.out.2).2.2 (by rw [HY.out]; simp; omega)
    simpa [val] using h
  have b1 := bigL_spec (n := val xs / val ys) (Int.ediv_nonneg vx0 (by omega))
  have b2 := bigL_spec (n := val xs % val ys) (Int.emod_nonneg _ (by omega))
  have q1 := Int.ediv_le_self (val ys) vx0
  have q2 : val xs % val ys ≤ val xs := by
    have h1 := Int.emod_add_mul_ediv (val xs) (val ys)
    have h2 := Int.mul_nonneg (show 0 ≤ val ys by omega) (Int.ediv_nonneg vx0 (show 0 ≤ val ys by omega))
    omega
  rw [hz1] at b1
  rw [hz2] at b2
  have HZ1 : Hid (bigL (val xs / val ys) = zs ∧ Digs zs ∧ tellF (val zs) = (zs, true)) := ⟨hz1, b1.1, by rw [b1.2.1, tellF_good (by omega), hz1]⟩
  have HZ2 : Hid (bigL (val xs % val ys) = us ∧ Digs us ∧ tellF (val us) = (us, true)) := ⟨hz2, b2.1, by rw [b2.2.1, tellF_good (by omega), hz2]⟩
  have hp9 : p ≤ 100000000 := by rw [← HP.out, ← hz1]; exact bigL_short9 (Int.ediv_nonneg vx0 (by omega)) (by omega)
  have hq9 : q ≤ 100000000 := by rw [← HQ.out, ← hz2]; exact bigL_short9 (Int.emod_nonneg _ (by omega)) (by omega)
  have HXY : Hid (Digs xs ∧ Digs ys ∧ 0 < val ys ∧ val xs < 79228162514264337593543950336) := ⟨dx, dy, vy0, vx1⟩
  clear dx dy vx0 vx1 vy0 b1 b2 q1 q2 hz1 hz2
  go_enter Tryd.func8, Tryd.ntmps8
  go_wp2_with fail
  have x0 : ((((w.alloc (Obj.cells #[Value.slice ao n c] 25)).alloc (Obj.cells #[Value.slice bo m d] 25)).alloc (Obj.cells #[Value.slice none 0 0] 25)).alloc (Obj.cells #[Value.slice none 0 0] 25)).cell? ⟨w.heap.size, 0, none⟩ = some (.slice ao n c) := calloc (calloc (calloc (by simp)))
  have y0 : ((((w.alloc (Obj.cells #[Value.slice ao n c] 25)).alloc (Obj.cells #[Value.slice bo m d] 25)).alloc (Obj.cells #[Value.slice none 0 0] 25)).alloc (Obj.cells #[Value.slice none 0 0] 25)).cell? ⟨w.heap.size + 1, 0, none⟩ = some (.slice bo m d) := calloc (calloc (by simp))
  have r0 : ((((w.alloc (Obj.cells #[Value.slice ao n c] 25)).alloc (Obj.cells #[Value.slice bo m d] 25)).alloc (Obj.cells #[Value.slice none 0 0] 25)).alloc (Obj.cells #[Value.slice none 0 0] 25)).cell? ⟨w.heap.size + 1 + 1, 0, none⟩ = some (.slice none 0 0) := calloc (by rw [World.cell?_alloc_at _ _ _ _ (by simp)]; rfl)
  have t0 : ((((w.alloc (Obj.cells #[Value.slice ao n c] 25)).alloc (Obj.cells #[Value.slice bo m d] 25)).alloc (Obj.cells #[Value.slice none 0 0] 25)).alloc (Obj.cells #[Value.slice none 0 0] 25)).cell? ⟨w.heap.size + 1 + 1 + 1, 0, none⟩ = some (.slice none 0 0) := by rw [World.cell?_alloc_at _ _ _ _ (by simp)]; rfl
  have f0 : ((((w.alloc (Obj.cells #[Value.slice ao n c] 25)).alloc (Obj.cells #[Value.slice bo m d] 25)).alloc (Obj.cells #[Value.slice none 0 0] 25)).alloc (Obj.cells #[Value.slice none 0 0] 25)).frozen? ⟨w.heap.size + 1 + 1, 0, none⟩ = false := by rw [World.frozen?_alloc_past _ _ _ (by simp)]; exact fz3 _ _ _ _ _ _ _
  have g0 : ((((w.alloc (Obj.cells #[Value.slice ao n c] 25)).alloc (Obj.cells #[Value.slice bo m d] 25)).alloc (Obj.cells #[Value.slice none 0 0] 25)).alloc (Obj.cells #[Value.slice none 0 0] 25)).frozen? ⟨w.heap.size + 1 + 1 + 1, 0, none⟩ = false := fz4 _ _ _ _ _ _ _ _ _
  have HB0 : Hid (Below w.heap.size w ((((w.alloc (Obj.cells #[Value.slice ao n c] 25)).alloc (Obj.cells #[Value.slice bo m d] 25)).alloc (Obj.cells #[Value.slice none 0 0] 25)).alloc (Obj.cells #[Value.slice none 0 0] 25))) := (below_three w _ _ _).alloc (by simp; omega) _
  generalize ((((w.alloc (Obj.cells #[Value.slice ao n c] 25)).alloc (Obj.cells #[Value.slice bo m d] 25)).alloc (Obj.cells #[Value.slice none 0 0] 25)).alloc (Obj.cells #[Value.slice none 0 0] 25)) = w0 at HB0 x0 y0 r0 t0 f0 g0 ⊢
  have l0 : w.heap.size + 1 + 1 + 1 < w0.heap.size := World.block_lt_of_cell? _ _ t0
  refine (l1Both_c ao bo n m c d xs ys _ HX.out HY.out hn hm (HR.out.later HB0.out) (HS.out.later HB0.out)).mono ?_
  rw [hg]
  rintro e w1 ⟨rfl, hb⟩
  have HB1 : Hid (Below w.heap.size w w1) := HB0.out.trans (hb.mono HB0.out.size)
  have x1 : w1.cell? ⟨w.heap.size, 0, none⟩ = some (.slice ao n c) := cell_keep (S := 0) hb x0
  have y1 : w1.cell? ⟨w.heap.size + 1, 0, none⟩ = some (.slice bo m d) := cell_keep (S := 0) hb y0
  have r1 : w1.cell? ⟨w.heap.size + 1 + 1, 0, none⟩ = some (.slice none 0 0) := cell_keep (S := 0) hb r0
  have t1 : w1.cell? ⟨w.heap.size + 1 + 1 + 1, 0, none⟩ = some (.slice none 0 0) := cell_keep (S := 0) hb t0
  have f1 : w1.frozen? ⟨w.heap.size + 1 + 1, 0, none⟩ = false := fcell_keep hb (by omega) f0
  have g1 : w1.frozen? ⟨w.heap.size + 1 + 1 + 1, 0, none⟩ = false := fcell_keep hb (by omega) g0
  have l1 : w.heap.size + 1 + 1 + 1 < w1.heap.size := World.block_lt_of_cell? _ _ t1
  have kk1 : w.heap.size + 3 < w1.heap.size := by omega
  clear hb x0 y0 r0 t0 f0 g0 l0
  clear hg
  go_wp2_with fail
  refine (l1Div_c ao bo n m c d xs ys _ HX.out HY.out (by omega) (by omega) (HR.out.later HB1.out) (HS.out.later HB1.out) HXY.out.1 HXY.out.2.1 (goodB_digs HG.out.2).2.2 HXY.out.2.2.1 (by have := HXY.out.2.2.2; omega) p q (by rw [HZ1.out.1]; exact HP.out) (by rw [HZ2.out.1]; exact HQ.out)).mono ?_
  rw [HZ1.out.1, HZ2.out.1]
  rintro e w2 ⟨a1, c1, a2, c2, rfl, ho1, ho2, hb⟩
  have O1 : Hid (Own w2 w.heap.size (.slice a1 p c1) zs) := ho1.mono HB1.out.size
  have O2 : Hid (Own w2 w.heap.size (.slice a2 q c2) us) := ho2.mono HB1.out.size
  clear ho1 ho2
  have HB2 : Hid (Below w.heap.size w w2) := HB1.out.trans (hb.mono HB1.out.size)
  have r2 : w2.cell? ⟨w.heap.size + 1 + 1, 0, none⟩ = some (.slice none 0 0) := cell_keep (S := 0) hb r1
  have t2 : w2.cell? ⟨w.heap.size + 1 + 1 + 1, 0, none⟩ = some (.slice none 0 0) := cell_keep (S := 0) hb t1
  have f2 : w2.frozen? ⟨w.heap.size + 1 + 1, 0, none⟩ = false := fcell_keep hb (by omega) f1
  have g2 : w2.frozen? ⟨w.heap.size + 1 + 1 + 1, 0, none⟩ = false := fcell_keep hb (by omega) g1
  have l2 : w.heap.size + 1 + 1 + 1 < w2.heap.size := World.block_lt_of_cell? _ _ t2
  have kk2 : w.heap.size + 3 < w2.heap.size := by omega
  clear hb r1 t1 f1 g1 l1
  go_wp2_with fail
  refine (l1Tell_c a1 p c1 zs _ (by omega) O1.out.rdS HZ1.out.2.1 zs true p HZ1.out.2.2 HP.out).mono ?_
  rintro e w3 ⟨a3, c3, rfl, ho, hb⟩
  have O3 : Hid (Own w3 w2.heap.size (.slice a3 p c3) zs) := ho
  have O2' : Hid (Own w3 w.heap.size (.slice a2 q c2) us) := O2.out.later hb
  have z3 : w2.heap.size ≤ w3.heap.size := hb.size
  clear ho O1 O2
  have HB3 : Hid (Below w.heap.size w w3) := HB2.out.trans (hb.mono HB2.out.size)
  have r3 : w3.cell? ⟨w.heap.size + 1 + 1, 0, none⟩ = some (.slice none 0 0) := cell_keep (S := 0) hb r2
  have t3 : w3.cell? ⟨w.heap.size + 1 + 1 + 1, 0, none⟩ = some (.slice none 0 0) := cell_keep (S := 0) hb t2
  have f3 : w3.frozen? ⟨w.heap.size + 1 + 1, 0, none⟩ = false := fcell_keep hb (by omega) f2
  have g3 : w3.frozen? ⟨w.heap.size + 1 + 1 + 1, 0, none⟩ = false := fcell_keep hb (by omega) g2
  have l3 : w.heap.size + 1 + 1 + 1 < w3.heap.size := World.block_lt_of_cell? _ _ t3
  have kk3 : w.heap.size + 3 < w3.heap.size := by omega
  clear hb r2 t2 f2 g2 l2
  go_wp2_with fail
  have hba : Below w3.heap.size w3 (w3.alloc (Obj.cells #[.slice a3 p c3] 25)) := (Below.refl _ _).alloc (Nat.le_refl _) _
  refine (l1Tell_c a2 q c2 us _ (by omega) (O2'.out.later hba).rdS HZ2.out.2.1 us true q HZ2.out.2.2 HQ.out).mono ?_
  rintro e w4 ⟨a4, c4, rfl, ho, hb⟩
  have O4 : Hid (Own w4 (w3.heap.size + 1) (.slice a4 q c4) us) := by have h := ho; simp at h; exact h
  have hbk := hba.trans (hb.mono (by simp))
  have O3' : Hid (Own w4 w2.heap.size (.slice a3 p c3) zs) := O3.out.later hbk
  have u4 : w4.cell? ⟨w3.heap.size, 0, none⟩ = some (.slice a3 p c3) := cell_keep (S := 0) hb (by simp)
  have z4 : w3.heap.size < w4.heap.size := World.block_lt_of_cell? _ _ u4
  clear ho O3 O2' hb hba
  have HB4 : Hid (Below w.heap.size w w4) := HB3.out.trans (hbk.mono HB3.out.size)
  have r4 : w4.cell? ⟨w.heap.size + 1 + 1, 0, none⟩ = some (.slice none 0 0) := cell_keep (S := 0) hbk r3
  have t4 : w4.cell? ⟨w.heap.size + 1 + 1 + 1, 0, none⟩ = some (.slice none 0 0) := cell_keep (S := 0) hbk t3
  have f4 : w4.frozen? ⟨w.heap.size + 1 + 1, 0, none⟩ = false := fcell_keep hbk (by omega) f3
  have g4 : w4.frozen? ⟨w.heap.size + 1 + 1 + 1, 0, none⟩ = false := fcell_keep hbk (by omega) g3
  have l4 : w.heap.size + 1 + 1 + 1 < w4.heap.size := World.block_lt_of_cell? _ _ t4
  have kk4 : w.heap.size + 3 < w4.heap.size := by omega
  clear hbk r3 t3 f3 g3 l3
  go_wp2_with fail
  have hb : Below w4.heap.size w4 (w4.alloc (Obj.cells #[.slice a4 q c4] 25)) := (Below.refl _ _).alloc (Nat.le_refl _) _
  have v5 : (w4.alloc (Obj.cells #[.slice a4 q c4] 25)).cell? ⟨w4.heap.size, 0, none⟩ = some (.slice a4 q c4) := by simp
  generalize (w4.alloc (Obj.cells #[.slice a4 q c4] 25)) = w5 at hb v5 ⊢
  have O5 : Hid (Own w5 (w3.heap.size + 1) (.slice a4 q c4) us) := O4.out.later hb
  have O6 : Hid (Own w5 w2.heap.size (.slice a3 p c3) zs) := O3'.out.later hb
  have u5 : w5.cell? ⟨w3.heap.size, 0, none⟩ = some (.slice a3 p c3) := cell_keep (S := 0) hb u4
  have z5 : w4.heap.size < w5.heap.size := World.block_lt_of_cell? _ _ v5
  clear O4 O3' u4
  have HB5 : Hid (Below w.heap.size w w5) := HB4.out.trans (hb.mono HB4.out.size)
  have r5 : w5.cell? ⟨w.heap.size + 1 + 1, 0, none⟩ = some (.slice none 0 0) := cell_keep (S := 0) hb r4
  have t5 : w5.cell? ⟨w.heap.size + 1 + 1 + 1, 0, none⟩ = some (.slice none 0 0) := cell_keep (S := 0) hb t4
  have f5 : w5.frozen? ⟨w.heap.size + 1 + 1, 0, none⟩ = false := fcell_keep hb (by omega) f4
  have g5 : w5.frozen? ⟨w.heap.size + 1 + 1 + 1, 0, none⟩ = false := fcell_keep hb (by omega) g4
  have l5 : w.heap.size + 1 + 1 + 1 < w5.heap.size := World.block_lt_of_cell? _ _ t5
  have kk5 : w.heap.size + 3 < w5.heap.size := by omega
  clear hb r4 t4 f4 g4 l4
  have u6 : (w5.setCell ⟨w.heap.size + 1 + 1, 0, none⟩ (.slice a3 p c3)).drew.cell? ⟨w3.heap.size, 0, none⟩ = some (.slice a3 p c3) ∧ (w5.setCell ⟨w.heap.size + 1 + 1, 0, none⟩ (.slice a3 p c3)).drew.cell? ⟨w4.heap.size, 0, none⟩ = some (.slice a4 q c4) := ⟨keep1 u5 (by omega), keep1 v5 (by omega)⟩
  have u7 : ((w5.setCell ⟨w.heap.size + 1 + 1, 0, none⟩ (.slice a3 p c3)).setCell ⟨w.heap.size + 1 + 1 + 1, 0, none⟩ (.slice a4 q c4)).drew.cell? ⟨w3.heap.size, 0, none⟩ = some (.slice a3 p c3) ∧ ((w5.setCell ⟨w.heap.size + 1 + 1, 0, none⟩ (.slice a3 p c3)).setCell ⟨w.heap.size + 1 + 1 + 1, 0, none⟩ (.slice a4 q c4)).drew.cell? ⟨w4.heap.size, 0, none⟩ = some (.slice a4 q c4) := ⟨keep1 (keep1 u5 (by omega)) (by omega), keep1 (keep1 v5 (by omega)) (by omega)⟩
  have t6 : (w5.setCell ⟨w.heap.size + 1 + 1, 0, none⟩ (.slice a3 p c3)).cell? ⟨w.heap.size + 1 + 1 + 1, 0, none⟩ = some (.slice none 0 0) := keep1 t5 (by omega)
  have g6 : (w5.setCell ⟨w.heap.size + 1 + 1, 0, none⟩ (.slice a3 p c3)).frozen? ⟨w.heap.size + 1 + 1 + 1, 0, none⟩ = false := by rw [World.frozen?_setCell]; exact g5
  refine wp_region_held_drew (S := (fun w' => w'.cell? ⟨w3.heap.size, 0, none⟩ = some (.slice a3 p c3) ∧ w'.cell? ⟨w4.heap.size, 0, none⟩ = some (.slice a4 q c4))) (by kernel_rfl) ?_ (fun hHeld => ?_)
  · exact ⟨u5, v5⟩
  refine takeB (i := 0) (oi := _) (v := ?_) (d := some 43) rfl (by kernel_rfl) (by kernel_rfl) (by kernel_rfl) (by kernel_rfl) (fun _ _ _ h => h) (Or.inl ⟨by rfl, ?_⟩) (by assumption) ?_
  rotate_left
  · (intro w hSw; (try dsimp only at hSw); go_simp <;> with_reducible rfl)
  try simp only [Act.put, List.setIfInBounds_toArray, List.set_cons_zero, List.set_cons_succ]
  refine takeB (i := 1) (oi := _) (v := ?_) (d := some 44) rfl (by kernel_rfl) (by kernel_rfl) (by kernel_rfl) (by kernel_rfl) (fun _ _ _ h => h) (Or.inl ⟨by rfl, ?_⟩) (by assumption) ?_
  rotate_left
  · (intro w hSw; (try dsimp only at hSw); go_simp <;> with_reducible rfl)
  try simp only [Act.put, List.setIfInBounds_toArray, List.set_cons_zero, List.set_cons_succ]
  refine wpAnyH_ready (rs := [2]) (by kernel_rfl) (by simp) ?_
  refine AllReadyH.cons (o := _) rfl (fun K hK => ?_) AllReadyH.nil
  go_simp
  refine hK.out _ _ ?_ (fun hHeld => ?_)
  · exact u6
  clear hK K
  try simp only [Act.put, List.setIfInBounds_toArray, List.set_cons_zero, List.set_cons_succ]
  refine wpAnyH_ready (rs := [3]) (by kernel_rfl) (by simp) ?_
  refine AllReadyH.cons (o := _) rfl (fun K hK => ?_) AllReadyH.nil
  go_simp
  refine hK.out _ _ ?_ (fun hHeld => ?_)
  · exact u7
  clear hK K
  try simp only [Act.put, List.setIfInBounds_toArray, List.set_cons_zero, List.set_cons_succ]
  refine takeB (i := 4) (oi := _) (v := ?_) (d := some 6) rfl (by kernel_rfl) (by kernel_rfl) (by kernel_rfl) (by kernel_rfl) (fun _ _ _ h => h) (Or.inl ⟨by rfl, ?_⟩) (by assumption) ?_
  rotate_left
  · (intro w hSw; (try dsimp only at hSw); go_simp <;> with_reducible rfl)
  try simp only [Act.put, List.setIfInBounds_toArray, List.set_cons_zero, List.set_cons_succ]
  refine wpAnyH_done (by kernel_rfl) ?_ _
  have rr : ((w5.setCell ⟨w.heap.size + 1 + 1, 0, none⟩ (.slice a3 p c3)).setCell ⟨w.heap.size + 1 + 1 + 1, 0, none⟩ (.slice a4 q c4)).drew.cell? ⟨w.heap.size + 1 + 1, 0, none⟩ = some (.slice a3 p c3) := keep1 (rsame r5) (by omega)
  have tt : ((w5.setCell ⟨w.heap.size + 1 + 1, 0, none⟩ (.slice a3 p c3)).setCell ⟨w.heap.size + 1 + 1 + 1, 0, none⟩ (.slice a4 q c4)).drew.cell? ⟨w.heap.size + 1 + 1 + 1, 0, none⟩ = some (.slice a4 q c4) := rsame (keep1 t5 (by omega))
  have HB7 : Hid (Below w.heap.size w ((w5.setCell ⟨w.heap.size + 1 + 1, 0, none⟩ (.slice a3 p c3)).setCell ⟨w.heap.size + 1 + 1 + 1, 0, none⟩ (.slice a4 q c4)).drew) := ((HB5.out.setCell (by simp; omega) _).setCell (by simp; omega) _).drew
  have P1 : Hid (Own ((w5.setCell ⟨w.heap.size + 1 + 1, 0, none⟩ (.slice a3 p c3)).setCell ⟨w.heap.size + 1 + 1 + 1, 0, none⟩ (.slice a4 q c4)).drew w.heap.size (.slice a3 p c3) zs) := ((own_set_below (own_set_below O6.out (by omega) _) (by omega) _).later (Below.refl _ _).drew).mono (by omega)
  have P2 : Hid (Own ((w5.setCell ⟨w.heap.size + 1 + 1, 0, none⟩ (.slice a3 p c3)).setCell ⟨w.heap.size + 1 + 1 + 1, 0, none⟩ (.slice a4 q c4)).drew w.heap.size (.slice a4 q c4) us) := ((own_set_below (own_set_below O5.out (by omega) _) (by omega) _).later (Below.refl _ _).drew).mono (by omega)
  generalize ((w5.setCell ⟨w.heap.size + 1 + 1, 0, none⟩ (.slice a3 p c3)).setCell ⟨w.heap.size + 1 + 1 + 1, 0, none⟩ (.slice a4 q c4)).drew = w7 at rr tt HB7 P1 P2 ⊢
  clear u6 u7 t6 g6 hHeld
  go_wp2
  refine bodyPost_ret (v := .tuple #[.agg #[.slice a3 p c3], .agg #[.slice a4 q c4], .bool true]) (by simp [results, Tryd.results8, go_sem, rr, tt]) rfl ⟨a3, c3, a4, c4, rfl, P1.out, P2.out, HB7.out⟩

end Go.Proofs.YtaedplfihjfchaaDoor

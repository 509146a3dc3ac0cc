/- The program's ShiftBig. -/
import Derived.Test.YtaedplfihjfchaaDoorSpecShiftl
import Derived.Test.YtaedplfihjfchaaDoorPowTwol
import Derived.Test.YtaedplfihjfchaaDoorHalvesl
import Derived.Deep.RegionHeld3
import Derived.Deep.DrawnRows
import Derived.Deep.DeepCutAuto
import Derived.Deep.Light
namespace Go.Proofs.YtaedplfihjfchaaDoor
set_option linter.unusedVariables false
set_option maxRecDepth 1000000
set_option linter.unusedSimpArgs false
open Go.RowKit
attribute [local go_sem ↓] Go.wp_at_zero Go.wp_at_succ

theorem takeS {P : Program} {ops : Array Oper} {Q : Exit → Act → World → Prop} {md : Region.Mode} {S : World → Prop} {i : Nat} {oi : Oper} {v : Value} {d : Option Tmp} {fuel : Nat} {listed : Array Bool} {a : Act} {w : World} (hi : ops[i]? = some oi) (hd : oi.dst = d)
    (hs : Region.noSelect ops = true) (hf : Region.free md ops listed i = true) (hr : (Region.ready md ops listed).contains i = true)
    (hQ : ∀ c a w, Q (.panic c) (a.put d v) w → Q (.panic c) a w) (hy : YieldsIf P ops S oi v a) (hS : S w)
    (h : wpAnyH P md ops Q S fuel (listed.setIfInBounds i true) (a.put d v) w) : wpAnyH P md ops Q S (fuel + 1) listed a w := by
  subst hd
  exact wpAnyH_take hi hs hf hr hQ hy hS h

theorem pow_lt96 {k : Nat} (h : k ≤ 95) : (2 : Int) ^ k < 79228162514264337593543950336 := by
  have := (shl_bd (V := 1) (by omega) (by omega) h)
  obtain ⟨d, hd⟩ : ∃ d, 96 = k + (d + 1) := ⟨95 - k, by omega⟩
  have e : (2 : Int) ^ 96 = 79228162514264337593543950336 := by decide
  rw [← e, hd, Int.pow_add]
  have h1 : (0 : Int) < 2 ^ d := Int.pow_pos (by omega)
  have h2 : (0 : Int) < 2 ^ k := Int.pow_pos (by omega)
  have h3 : (2 : Int) ≤ 2 ^ (d + 1) := by rw [Int.pow_succ]; omega
  have h4 := Int.mul_le_mul_of_nonneg_left h3 (Int.le_of_lt h2)
  omega

theorem tell12 {N : Int} {r0 r1 r2 r3 r4 r5 s0 s1 s2 s3 s4 s5 : Int} (dr : Digs [r0, r1, r2, r3, r4, r5, s0, s1, s2, s3, s4, s5]) (hv : val [r0, r1, r2, r3, r4, r5, s0, s1, s2, s3, s4, s5] = N) : tellF N = if [s0, s1, s2, s3, s4, s5] = [0, 0, 0, 0, 0, 0] then (trim [r0, r1, r2, r3, r4, r5], true) else ([], false) := by
  have dR : Digs [r0, r1, r2, r3, r4, r5] := dr.take 6
  have dS : Digs [s0, s1, s2, s3, s4, s5] := dr.drop 6
  rw [val12] at hv
  have e1 := val_lt6 dR (by simp)
  have e2 := val_nonneg dR
  have e3 := val_nonneg dS
  by_cases hz : [s0, s1, s2, s3, s4, s5] = [0, 0, 0, 0, 0, 0]
  · rw [if_pos hz]
    rw [hz] at hv
    have hv0 : val [0, 0, 0, 0, 0, 0] = 0 := by simp [val]
    rw [hv0] at hv
    rw [tellF_good (by omega), trim_bigL dR, show N = val [r0, r1, r2, r3, r4, r5] by omega]
  · rw [if_neg hz]
    have hne : val [s0, s1, s2, s3, s4, s5] ≠ 0 := fun h0 => hz (digs_uniq (by simp) dS (digs_replicate 6) (h0.trans (by simp [val])))
    rw [tellF_bad (by omega)]

theorem high12 {V : Int} {k m : Nat} {r0 r1 r2 r3 r4 r5 s0 s1 s2 s3 s4 s5 : Int} (hkm : k + m = 96) (dr : Digs [r0, r1, r2, r3, r4, r5, s0, s1, s2, s3, s4, s5]) (hv : val [r0, r1, r2, r3, r4, r5, s0, s1, s2, s3, s4, s5] = V * 2 ^ k) : val [s0, s1, s2, s3, s4, s5] = V / 2 ^ m := by
  have e1 := val_lt6 (dr.take 6) (by simp)
  have e2 := val_nonneg (dr.take 6)
  have t6 : List.take 6 [r0, r1, r2, r3, r4, r5, s0, s1, s2, s3, s4, s5] = [r0, r1, r2, r3, r4, r5] := rfl
  rw [t6] at e1 e2
  rw [val12] at hv
  have hp : (2 : Int) ^ k * 2 ^ m = 79228162514264337593543950336 := by rw [← Int.pow_add, hkm]; decide
  have hk : (0 : Int) < 2 ^ k := Int.pow_pos (by omega)
  have h3 : V * 2 ^ k / (2 ^ k * 2 ^ m) = V / 2 ^ m := by rw [Int.mul_comm V, Int.mul_ediv_mul_of_pos _ _ hk]
  rw [← h3, hp, ← hv]
  omega

set_option maxHeartbeats 8000000 in
set_option maxRecDepth 1000000 in
theorem implShift_c (ao : Option Addr) (n c : Nat) (xs : List Int) (b : Int) (w : World) (hx : xs.length = n) (hn : n ≤ 17592186044416) (hr : Rd w ao xs) (hw : -9223372036854775808 ≤ b ∧ b ≤ 9223372036854775807) (zs : List Int) (fb : Bool) (p : Nat) (hF : shiftF xs b = (zs, fb)) (hp : zs.length = p) :
    Calls Tryd.prog 22 #[.agg #[.slice ao n c], .int .i64 b] w fun e w' => ∃ a' c', e = .returned (.tuple #[.agg #[.slice a' p c'], .bool fb]) ∧ Own w' w.heap.size (.slice a' p c') zs ∧ Below w.heap.size w w' := by
  have HX : Hid (xs.length = n) := hx
  have HR : Hid (Rd w ao xs) := hr
  have HP : Hid (zs.length = p) := hp
  clear hx hr hp
  cases hg : goodB xs
  · rw [shiftF, hg] at hF
    simp only [Bool.false_and, Bool.false_eq_true, if_false] at hF
    simp only [Prod.mk.injEq] at hF
    obtain ⟨rfl, rfl⟩ := hF
    have hp0 := HP.out
    simp at hp0
    subst hp0
    go_enter Tryd.func22, Tryd.ntmps22
    go_wp2_with fail
    have x0 : ((w.alloc (Obj.cells #[Value.slice ao n c] 25)).alloc (Obj.cells #[Value.slice none 0 0] 25)).cell? ⟨w.heap.size, 0, none⟩ = some (.slice ao n c) := calloc (by simp)
    have r0 : ((w.alloc (Obj.cells #[Value.slice ao n c] 25)).alloc (Obj.cells #[Value.slice none 0 0] 25)).cell? ⟨w.heap.size + 1, 0, none⟩ = some (.slice none 0 0) := by rw [World.cell?_alloc_at _ _ _ _ (by simp)]; rfl
    have f0 : ((w.alloc (Obj.cells #[Value.slice ao n c] 25)).alloc (Obj.cells #[Value.slice none 0 0] 25)).frozen? ⟨w.heap.size + 1, 0, none⟩ = false := by simp
    have HB0 : Hid (Below w.heap.size w ((w.alloc (Obj.cells #[Value.slice ao n c] 25)).alloc (Obj.cells #[Value.slice none 0 0] 25))) := below_two w _ _
    generalize ((w.alloc (Obj.cells #[Value.slice ao n c] 25)).alloc (Obj.cells #[Value.slice none 0 0] 25)) = w0 at HB0 x0 r0 f0 ⊢
    have l0 : w.heap.size + 1 < w0.heap.size := World.block_lt_of_cell? _ _ r0
    refine (implGood_c ao n c xs _ HX.out hn (HR.out.later HB0.out)).mono ?_
    rw [hg]
    rintro e w1 ⟨rfl, hb⟩
    have HB1 : Hid (Below w.heap.size w w1) := HB0.out.trans (hb.mono HB0.out.size)
    have x1 : w1.cell? ⟨w.heap.size, 0, none⟩ = some (.slice ao n c) := cell_keep (S := 0) hb x0
    have r1 : w1.cell? ⟨w.heap.size + 1, 0, none⟩ = some (.slice none 0 0) := cell_keep (S := 0) hb r0
    have f1 : w1.frozen? ⟨w.heap.size + 1, 0, none⟩ = false := fcell_keep hb l0 f0
    have l1 : w.heap.size + 1 < w1.heap.size := World.block_lt_of_cell? _ _ r1
    clear hb x0 r0 f0 l0 hg
    go_wp2
    refine bodyPost_ret (v := .tuple #[.agg #[.slice none 0 0], .bool false]) (by simp [results, Tryd.results22, go_sem, r1]) rfl ⟨none, 0, rfl, World.ownsRow_nil _ _ _ _, ?_⟩
    exact HB1.out.setCell (by simp) _
  by_cases hlo : b < -96
  · rw [shiftF, decide_eq_false (show ¬ (-96 ≤ b ∧ b ≤ 96) by omega)] at hF
    simp only [Bool.and_false, Bool.false_eq_true, if_false] at hF
    simp only [Prod.mk.injEq] at hF
    obtain ⟨rfl, rfl⟩ := hF
    have hp0 := HP.out
    simp at hp0
    subst hp0
    go_enter Tryd.func22, Tryd.ntmps22
    go_wp2_with fail
    have x0 : ((w.alloc (Obj.cells #[Value.slice ao n c] 25)).alloc (Obj.cells #[Value.slice none 0 0] 25)).cell? ⟨w.heap.size, 0, none⟩ = some (.slice ao n c) := calloc (by simp)
    have r0 : ((w.alloc (Obj.cells #[Value.slice ao n c] 25)).alloc (Obj.cells #[Value.slice none 0 0] 25)).cell? ⟨w.heap.size + 1, 0, none⟩ = some (.slice none 0 0) := by rw [World.cell?_alloc_at _ _ _ _ (by simp)]; rfl
    have f0 : ((w.alloc (Obj.cells #[Value.slice ao n c] 25)).alloc (Obj.cells #[Value.slice none 0 0] 25)).frozen? ⟨w.heap.size + 1, 0, none⟩ = false := by simp
    have HB0 : Hid (Below w.heap.size w ((w.alloc (Obj.cells #[Value.slice ao n c] 25)).alloc (Obj.cells #[Value.slice none 0 0] 25))) := below_two w _ _
    generalize ((w.alloc (Obj.cells #[Value.slice ao n c] 25)).alloc (Obj.cells #[Value.slice none 0 0] 25)) = w0 at HB0 x0 r0 f0 ⊢
    have l0 : w.heap.size + 1 < w0.heap.size := World.block_lt_of_cell? _ _ r0
    refine (implGood_c ao n c xs _ HX.out hn (HR.out.later HB0.out)).mono ?_
    rw [hg]
    rintro e w1 ⟨rfl, hb⟩
    have HB1 : Hid (Below w.heap.size w w1) := HB0.out.trans (hb.mono HB0.out.size)
    have x1 : w1.cell? ⟨w.heap.size, 0, none⟩ = some (.slice ao n c) := cell_keep (S := 0) hb x0
    have r1 : w1.cell? ⟨w.heap.size + 1, 0, none⟩ = some (.slice none 0 0) := cell_keep (S := 0) hb r0
    have f1 : w1.frozen? ⟨w.heap.size + 1, 0, none⟩ = false := fcell_keep hb l0 f0
    have l1 : w.heap.size + 1 < w1.heap.size := World.block_lt_of_cell? _ _ r1
    clear hb x0 r0 f0 l0 hg
    go_wp2
    refine bodyPost_ret (v := .tuple #[.agg #[.slice none 0 0], .bool false]) (by simp [results, Tryd.results22, go_sem, r1]) rfl ⟨none, 0, rfl, World.ownsRow_nil _ _ _ _, ?_⟩
    exact HB1.out.setCell (by simp) _
  by_cases hhi : 96 < b
  · rw [shiftF, decide_eq_false (show ¬ (-96 ≤ b ∧ b ≤ 96) by omega)] at hF
    simp only [Bool.and_false, Bool.false_eq_true, if_false] at hF
    simp only [Prod.mk.injEq] at hF
    obtain ⟨rfl, rfl⟩ := hF
    have hp0 := HP.out
    simp at hp0
    subst hp0
    go_enter Tryd.func22, Tryd.ntmps22
    go_wp2_with fail
    have x0 : ((w.alloc (Obj.cells #[Value.slice ao n c] 25)).alloc (Obj.cells #[Value.slice none 0 0] 25)).cell? ⟨w.heap.size, 0, none⟩ = some (.slice ao n c) := calloc (by simp)
    have r0 : ((w.alloc (Obj.cells #[Value.slice ao n c] 25)).alloc (Obj.cells #[Value.slice none 0 0] 25)).cell? ⟨w.heap.size + 1, 0, none⟩ = some (.slice none 0 0) := by rw [World.cell?_alloc_at _ _ _ _ (by simp)]; rfl
    have f0 : ((w.alloc (Obj.cells #[Value.slice ao n c] 25)).alloc (Obj.cells #[Value.slice none 0 0] 25)).frozen? ⟨w.heap.size + 1, 0, none⟩ = false := by simp
    have HB0 : Hid (Below w.heap.size w ((w.alloc (Obj.cells #[Value.slice ao n c] 25)).alloc (Obj.cells #[Value.slice none 0 0] 25))) := below_two w _ _
    generalize ((w.alloc (Obj.cells #[Value.slice ao n c] 25)).alloc (Obj.cells #[Value.slice none 0 0] 25)) = w0 at HB0 x0 r0 f0 ⊢
    have l0 : w.heap.size + 1 < w0.heap.size := World.block_lt_of_cell? _ _ r0
    refine (implGood_c ao n c xs _ HX.out hn (HR.out.later HB0.out)).mono ?_
    rw [hg]
    rintro e w1 ⟨rfl, hb⟩
    have HB1 : Hid (Below w.heap.size w w1) := HB0.out.trans (hb.mono HB0.out.size)
    have x1 : w1.cell? ⟨w.heap.size, 0, none⟩ = some (.slice ao n c) := cell_keep (S := 0) hb x0
    have r1 : w1.cell? ⟨w.heap.size + 1, 0, none⟩ = some (.slice none 0 0) := cell_keep (S := 0) hb r0
    have f1 : w1.frozen? ⟨w.heap.size + 1, 0, none⟩ = false := fcell_keep hb l0 f0
    have l1 : w.heap.size + 1 < w1.heap.size := World.block_lt_of_cell? _ _ r1
    clear hb x0 r0 f0 l0 hg
    go_wp2
    refine bodyPost_ret (v := .tuple #[.agg #[.slice none 0 0], .bool false]) (by simp [results, Tryd.results22, go_sem, r1]) rfl ⟨none, 0, rfl, World.ownsRow_nil _ _ _ _, ?_⟩
    exact HB1.out.setCell (by simp) _
  rw [shiftF, hg, decide_eq_true (show -96 ≤ b ∧ b ≤ 96 by omega), Bool.and_self, if_pos rfl] at hF
  obtain ⟨lx, dx, tx⟩ := goodB_digs hg
  have v0 := val_nonneg dx
  have v1 := val_lt6 dx lx
  have hn6 : n ≤ 6 := by rw [← HX.out]; exact lx
  obtain ⟨a0, a1, a2, a3, a4, a5, hA⟩ := list6 (pad6_length lx)
  have HA : Hid (pad6 xs = [a0, a1, a2, a3, a4, a5]) := hA
  obtain ⟨V, hV⟩ : ∃ V, val xs = V := ⟨_, rfl⟩
  have HDA : Hid (Digs [a0, a1, a2, a3, a4, a5] ∧ val [a0, a1, a2, a3, a4, a5] = V) := ⟨by rw [← hA]; exact pad6_digs dx, by rw [← hA, pad6_val]; exact hV⟩
  rw [hV] at hF v0 v1
  clear tx hA hV dx lx
  by_cases h96 : b = 96
  · have h96' : (b == 96) = true := by rw [h96]; rfl
    have hsv : shV V b = V * 79228162514264337593543950336 := by rw [h96]; rfl
    have HZ : Hid (zs = [] ∧ fb = decide ([a0, a1, a2, a3, a4, a5] = [0, 0, 0, 0, 0, 0])) := by
      rw [hsv] at hF
      have hvA := HDA.out.2
      by_cases hz : [a0, a1, a2, a3, a4, a5] = [0, 0, 0, 0, 0, 0]
      · rw [hz] at hvA
        have hV0 : V = 0 := by rw [← hvA]; simp [val]
        rw [hV0, Int.zero_mul, tellF_zero] at hF
        simp only [Prod.mk.injEq] at hF
        exact ⟨hF.1.symm, by rw [decide_eq_true hz, hF.2]⟩
      · have hne : V ≠ 0 := fun h0 => hz (digs_uniq (by simp) HDA.out.1 (digs_replicate 6) (by rw [hvA, h0]; simp [val]))
        rw [tellF_bad (by omega)] at hF
        simp only [Prod.mk.injEq] at hF
        exact ⟨hF.1.symm, by rw [decide_eq_false hz, hF.2]⟩
    obtain ⟨rfl, rfl⟩ := HZ.out
    have hp0 := HP.out
    simp at hp0
    subst hp0
    clear hF hsv h96 HZ
    go_enter Tryd.func22, Tryd.ntmps22
    go_wp2_with fail
    have x0 : ((w.alloc (Obj.cells #[Value.slice ao n c] 25)).alloc (Obj.cells #[Value.slice none 0 0] 25)).cell? ⟨w.heap.size, 0, none⟩ = some (.slice ao n c) := calloc (by simp)
    have r0 : ((w.alloc (Obj.cells #[Value.slice ao n c] 25)).alloc (Obj.cells #[Value.slice none 0 0] 25)).cell? ⟨w.heap.size + 1, 0, none⟩ = some (.slice none 0 0) := by rw [World.cell?_alloc_at _ _ _ _ (by simp)]; rfl
    have f0 : ((w.alloc (Obj.cells #[Value.slice ao n c] 25)).alloc (Obj.cells #[Value.slice none 0 0] 25)).frozen? ⟨w.heap.size + 1, 0, none⟩ = false := by simp
    have HB0 : Hid (Below w.heap.size w ((w.alloc (Obj.cells #[Value.slice ao n c] 25)).alloc (Obj.cells #[Value.slice none 0 0] 25))) := below_two w _ _
    generalize ((w.alloc (Obj.cells #[Value.slice ao n c] 25)).alloc (Obj.cells #[Value.slice none 0 0] 25)) = w0 at HB0 x0 r0 f0 ⊢
    have l0 : w.heap.size + 1 < w0.heap.size := World.block_lt_of_cell? _ _ r0
    refine (implGood_c ao n c xs _ HX.out hn (HR.out.later HB0.out)).mono ?_
    rw [hg]
    rintro e w1 ⟨rfl, hb⟩
    have HB1 : Hid (Below w.heap.size w w1) := HB0.out.trans (hb.mono HB0.out.size)
    have x1 : w1.cell? ⟨w.heap.size, 0, none⟩ = some (.slice ao n c) := cell_keep (S := 0) hb x0
    have r1 : w1.cell? ⟨w.heap.size + 1, 0, none⟩ = some (.slice none 0 0) := cell_keep (S := 0) hb r0
    have f1 : w1.frozen? ⟨w.heap.size + 1, 0, none⟩ = false := fcell_keep hb l0 f0
    have l1 : w.heap.size + 1 < w1.heap.size := World.block_lt_of_cell? _ _ r1
    clear hb x0 r0 f0 l0 hg
    go_wp2_with fail
    refine (rowOf_d HA.out HX.out hn6 HR.out _ HB1.out).mono ?_
    rintro e w2 ⟨rfl, HB2, hb⟩
    have r2 : w2.cell? ⟨w.heap.size + 1, 0, none⟩ = some (.slice none 0 0) := cell_keep (S := 0) hb r1
    have f2 : w2.frozen? ⟨w.heap.size + 1, 0, none⟩ = false := fcell_keep hb l1 f1
    have l2 : w.heap.size + 1 < w2.heap.size := World.block_lt_of_cell? _ _ r2
    clear hb x1 r1 f1 l1
    go_wp2_with fail
    have A3 : C6 (w2.alloc (Obj.cells #[.int .i64 a0, .int .i64 a1, .int .i64 a2, .int .i64 a3, .int .i64 a4, .int .i64 a5] 53)) w2.heap.size a0 a1 a2 a3 a4 a5 := c6_new rfl
    have r3 : (w2.alloc (Obj.cells #[.int .i64 a0, .int .i64 a1, .int .i64 a2, .int .i64 a3, .int .i64 a4, .int .i64 a5] 53)).cell? ⟨w.heap.size + 1, 0, none⟩ = some (.slice none 0 0) := calloc r2
    have f3 : (w2.alloc (Obj.cells #[.int .i64 a0, .int .i64 a1, .int .i64 a2, .int .i64 a3, .int .i64 a4, .int .i64 a5] 53)).frozen? ⟨w.heap.size + 1, 0, none⟩ = false := falloc f2 l2
    have HB3 : Hid (Below w.heap.size w (w2.alloc (Obj.cells #[.int .i64 a0, .int .i64 a1, .int .i64 a2, .int .i64 a3, .int .i64 a4, .int .i64 a5] 53))) := HB2.out.alloc (by omega) _
    generalize (w2.alloc (Obj.cells #[.int .i64 a0, .int .i64 a1, .int .i64 a2, .int .i64 a3, .int .i64 a4, .int .i64 a5] 53)) = w3 at A3 r3 f3 HB3 ⊢
    generalize w2.heap.size = ga at A3 l2 ⊢
    have l3 : w.heap.size + 1 < w3.heap.size := World.block_lt_of_cell? _ _ r3
    clear r2 f2
    have heq := fun wx => run_eql_row wx a0 a1 a2 a3 a4 a5 0 0 0 0 0 0
    have s4 : C6 (w3.setCell ⟨w.heap.size + 1, 0, none⟩ (.slice none 0 0)).drew ga a0 a1 a2 a3 a4 a5 := ⟨keep1 A3.1 (by omega), keep1 A3.2.1 (by omega), keep1 A3.2.2.1 (by omega), keep1 A3.2.2.2.1 (by omega), keep1 A3.2.2.2.2.1 (by omega), keep1 A3.2.2.2.2.2 (by omega)⟩
    refine wp_region_held_drew (S := (fun w' => w'.cell? ⟨ga, 0, none⟩ = some (.int .i64 a0) ∧ w'.cell? ⟨ga, 1, none⟩ = some (.int .i64 a1) ∧ w'.cell? ⟨ga, 2, none⟩ = some (.int .i64 a2) ∧ w'.cell? ⟨ga, 3, none⟩ = some (.int .i64 a3) ∧ w'.cell? ⟨ga, 4, none⟩ = some (.int .i64 a4) ∧ w'.cell? ⟨ga, 5, none⟩ = some (.int .i64 a5))) (by kernel_rfl) ?_ (fun hHeld => ?_)
    · exact A3
    refine takeS (i := 0) (oi := _) (v := ?_) (d := some 27) rfl (by kernel_rfl) (by kernel_rfl) (by kernel_rfl) (by kernel_rfl) (fun _ _ _ h => h) (Or.inl ⟨by rfl, ?_⟩) (by assumption) ?_
    rotate_left
    · (intro w hSw; (try dsimp only at hSw); go_simp <;> with_reducible rfl)
    try simp only [Act.put, List.setIfInBounds_toArray, List.set_cons_zero, List.set_cons_succ]
    refine takeS (i := 1) (oi := _) (v := ?_) (d := some 28) rfl (by kernel_rfl) (by kernel_rfl) (by kernel_rfl) (by kernel_rfl) (fun _ _ _ h => h) (Or.inl ⟨by rfl, ?_⟩) (by assumption) ?_
    rotate_left
    · (intro w hSw; (try dsimp only at hSw); go_simp <;> with_reducible rfl)
    try simp only [Act.put, List.setIfInBounds_toArray, List.set_cons_zero, List.set_cons_succ]
    refine takeS (i := 2) (oi := _) (v := ?_) (d := some 29) rfl (by kernel_rfl) (by kernel_rfl) (by kernel_rfl) (by kernel_rfl) (fun _ _ _ h => h) (Or.inl ⟨by rfl, ?_⟩) (by assumption) ?_
    rotate_left
    · (intro w hSw; (try dsimp only at hSw); go_simp <;> with_reducible rfl)
    try simp only [Act.put, List.setIfInBounds_toArray, List.set_cons_zero, List.set_cons_succ]
    refine takeS (i := 3) (oi := _) (v := ?_) (d := some 30) rfl (by kernel_rfl) (by kernel_rfl) (by kernel_rfl) (by kernel_rfl) (fun _ _ _ h => h) (Or.inl ⟨by rfl, ?_⟩) (by assumption) ?_
    rotate_left
    · (intro w hSw; (try dsimp only at hSw); go_simp <;> with_reducible rfl)
    try simp only [Act.put, List.setIfInBounds_toArray, List.set_cons_zero, List.set_cons_succ]
    refine wpAnyH_ready (rs := [4]) (by kernel_rfl) (by simp) ?_
    refine AllReadyH.cons (o := _) rfl (fun K hK => ?_) AllReadyH.nil
    go_simp
    refine hK.out _ _ ?_ (fun hHeld => ?_)
    · exact s4
    clear hK K
    try simp only [Act.put, List.setIfInBounds_toArray, List.set_cons_zero, List.set_cons_succ]
    refine takeS (i := 5) (oi := _) (v := ?_) (d := some 5) rfl (by kernel_rfl) (by kernel_rfl) (by kernel_rfl) (by kernel_rfl) (fun _ _ _ h => h) (Or.inl ⟨by rfl, ?_⟩) (by assumption) ?_
    rotate_left
    · (intro w hSw; (try dsimp only at hSw); go_simp <;> with_reducible rfl)
    try simp only [Act.put, List.setIfInBounds_toArray, List.set_cons_zero, List.set_cons_succ]
    refine wpAnyH_done (by kernel_rfl) ?_ _
    have rr : (w3.setCell ⟨w.heap.size + 1, 0, none⟩ (.slice none 0 0)).drew.cell? ⟨w.heap.size + 1, 0, none⟩ = some (.slice none 0 0) := rsame r3
    have HB4 : Hid (Below w.heap.size w (w3.setCell ⟨w.heap.size + 1, 0, none⟩ (.slice none 0 0)).drew) := (HB3.out.setCell (by simp) _).drew
    generalize (w3.setCell ⟨w.heap.size + 1, 0, none⟩ (.slice none 0 0)).drew = w4 at rr HB4 ⊢
    clear s4 hHeld
    go_wp2
    refine bodyPost_ret (v := .tuple #[.agg #[.slice none 0 0], .bool (decide ([a0, a1, a2, a3, a4, a5] = [0, 0, 0, 0, 0, 0]))]) (by simp [results, Tryd.results22, go_sem, rr]) rfl ⟨none, 0, rfl, World.ownsRow_nil _ _ _ _, HB4.out⟩
  have h96' : (b == 96) = false := by rw [beq_eq_false_iff_ne]; exact h96
  by_cases hneg : b < 0
  · have hneg' : decide (b < 0) = true := decide_eq_true hneg
    obtain ⟨kq, hkq⟩ : ∃ kq, 96 + b = kq := ⟨_, rfl⟩
    have hKw : IntKind.i64.wrap (96 + b) = kq := by rw [IntKind.wrap_i64]; omega
    obtain ⟨K0, K1⟩ : 0 ≤ kq ∧ kq ≤ 95 := by omega
    obtain ⟨p0, p1, p2, p3, p4, p5, dp, vp⟩ := exists6 (N := 2 ^ kq.toNat) (Int.le_of_lt (Int.pow_pos (by omega))) (pow_lt96 (by omega))
    have HPW : Hid (Digs [p0, p1, p2, p3, p4, p5] ∧ val [p0, p1, p2, p3, p4, p5] = 2 ^ kq.toNat) := ⟨dp, vp⟩
    have hbd := shl_bd (k := kq.toNat) v0 v1 (by omega)
    obtain ⟨u0, u1, u2, u3, u4, u5, s0, s1, s2, s3, s4, s5, dr, vr⟩ := exists12 (N := V * 2 ^ kq.toNat) hbd.1 (by omega)
    have HE : Hid (Digs [u0, u1, u2, u3, u4, u5, s0, s1, s2, s3, s4, s5] ∧ val [u0, u1, u2, u3, u4, u5, s0, s1, s2, s3, s4, s5] = val [a0, a1, a2, a3, a4, a5] * val [p0, p1, p2, p3, p4, p5]) := ⟨dr, by rw [vr, HDA.out.2, vp]⟩
    have hhv := high12 (m := (-b).toNat) (by omega) dr vr
    have HZ : Hid (trim [s0, s1, s2, s3, s4, s5] = zs ∧ true = fb) := by
      have hsv : shV V b = V / 2 ^ (-b).toNat := by unfold shV; rw [if_neg (by omega)]
      have hb2 := shr_bd (-b).toNat v0
      rw [hsv, tellF_good (by omega)] at hF
      simp only [Prod.mk.injEq] at hF
      have dS : Digs [s0, s1, s2, s3, s4, s5] := dr.drop 6
      rw [trim_bigL dS, hhv]
      exact hF
    obtain ⟨hz1, rfl⟩ := HZ.out
    have HZ1 : Hid (trim [s0, s1, s2, s3, s4, s5] = zs) := hz1
    clear HZ hz1 hF dp vp dr vr hhv hbd hkq
    go_enter Tryd.func22, Tryd.ntmps22
    go_wp2_with fail
    have x0 : ((w.alloc (Obj.cells #[Value.slice ao n c] 25)).alloc (Obj.cells #[Value.slice none 0 0] 25)).cell? ⟨w.heap.size, 0, none⟩ = some (.slice ao n c) := calloc (by simp)
    have r0 : ((w.alloc (Obj.cells #[Value.slice ao n c] 25)).alloc (Obj.cells #[Value.slice none 0 0] 25)).cell? ⟨w.heap.size + 1, 0, none⟩ = some (.slice none 0 0) := by rw [World.cell?_alloc_at _ _ _ _ (by simp)]; rfl
    have f0 : ((w.alloc (Obj.cells #[Value.slice ao n c] 25)).alloc (Obj.cells #[Value.slice none 0 0] 25)).frozen? ⟨w.heap.size + 1, 0, none⟩ = false := by simp
    have HB0 : Hid (Below w.heap.size w ((w.alloc (Obj.cells #[Value.slice ao n c] 25)).alloc (Obj.cells #[Value.slice none 0 0] 25))) := below_two w _ _
    generalize ((w.alloc (Obj.cells #[Value.slice ao n c] 25)).alloc (Obj.cells #[Value.slice none 0 0] 25)) = w0 at HB0 x0 r0 f0 ⊢
    have l0 : w.heap.size + 1 < w0.heap.size := World.block_lt_of_cell? _ _ r0
    refine (implGood_c ao n c xs _ HX.out hn (HR.out.later HB0.out)).mono ?_
    rw [hg]
    rintro e w1 ⟨rfl, hb⟩
    have HB1 : Hid (Below w.heap.size w w1) := HB0.out.trans (hb.mono HB0.out.size)
    have x1 : w1.cell? ⟨w.heap.size, 0, none⟩ = some (.slice ao n c) := cell_keep (S := 0) hb x0
    have r1 : w1.cell? ⟨w.heap.size + 1, 0, none⟩ = some (.slice none 0 0) := cell_keep (S := 0) hb r0
    have f1 : w1.frozen? ⟨w.heap.size + 1, 0, none⟩ = false := fcell_keep hb l0 f0
    have l1 : w.heap.size + 1 < w1.heap.size := World.block_lt_of_cell? _ _ r1
    clear hb x0 r0 f0 l0 hg
    go_wp2_with fail
    refine (rowOf_d HA.out HX.out hn6 HR.out _ HB1.out).mono ?_
    rintro e w2 ⟨rfl, HB2, hb⟩
    have r2 : w2.cell? ⟨w.heap.size + 1, 0, none⟩ = some (.slice none 0 0) := cell_keep (S := 0) hb r1
    have f2 : w2.frozen? ⟨w.heap.size + 1, 0, none⟩ = false := fcell_keep hb l1 f1
    have l2 : w.heap.size + 1 < w2.heap.size := World.block_lt_of_cell? _ _ r2
    clear hb x1 r1 f1 l1
    go_wp2_with fail
    have A3 : C6 (w2.alloc (Obj.cells #[.int .i64 a0, .int .i64 a1, .int .i64 a2, .int .i64 a3, .int .i64 a4, .int .i64 a5] 53)) w2.heap.size a0 a1 a2 a3 a4 a5 := c6_new rfl
    have r3 : (w2.alloc (Obj.cells #[.int .i64 a0, .int .i64 a1, .int .i64 a2, .int .i64 a3, .int .i64 a4, .int .i64 a5] 53)).cell? ⟨w.heap.size + 1, 0, none⟩ = some (.slice none 0 0) := calloc r2
    have f3 : (w2.alloc (Obj.cells #[.int .i64 a0, .int .i64 a1, .int .i64 a2, .int .i64 a3, .int .i64 a4, .int .i64 a5] 53)).frozen? ⟨w.heap.size + 1, 0, none⟩ = false := falloc f2 l2
    have HB3 : Hid (Below w.heap.size w (w2.alloc (Obj.cells #[.int .i64 a0, .int .i64 a1, .int .i64 a2, .int .i64 a3, .int .i64 a4, .int .i64 a5] 53))) := HB2.out.alloc (by omega) _
    generalize (w2.alloc (Obj.cells #[.int .i64 a0, .int .i64 a1, .int .i64 a2, .int .i64 a3, .int .i64 a4, .int .i64 a5] 53)) = w3 at A3 r3 f3 HB3 ⊢
    generalize w2.heap.size = ga at A3 l2 ⊢
    have l3 : w.heap.size + 1 < w3.heap.size := World.block_lt_of_cell? _ _ r3
    clear r2 f2
    have HC3 : Hid (Below w3.heap.size w3 w3) := Below.refl _ _
    have la3 := World.block_lt_of_cell? _ _ A3.1
    obtain ⟨y0, y1, y2, y3, y4, y5⟩ := A3
    go_cut [7, 8] (fun ub uv wx => ∃ (gx gy : Nat), ub = .pointer (some ⟨gx, 0, none⟩) ∧ uv = .pointer (some ⟨gy, 0, none⟩) ∧ w3.heap.size ≤ gx ∧ w3.heap.size ≤ gy ∧ C6 wx gx u0 u1 u2 u3 u4 u5 ∧ C6 wx gy s0 s1 s2 s3 s4 s5 ∧ Hid (Below w3.heap.size w3 wx))
    case first =>
      have tok1 : True := trivial
      have lga : ga < w3.heap.size := World.block_lt_of_cell? _ _ y0
      refine wp_region_held_drew (S := (fun w' => w'.cell? ⟨ga, 0, none⟩ = some (.int .i64 a0) ∧ w'.cell? ⟨ga, 1, none⟩ = some (.int .i64 a1) ∧ w'.cell? ⟨ga, 2, none⟩ = some (.int .i64 a2) ∧ w'.cell? ⟨ga, 3, none⟩ = some (.int .i64 a3) ∧ w'.cell? ⟨ga, 4, none⟩ = some (.int .i64 a4) ∧ w'.cell? ⟨ga, 5, none⟩ = some (.int .i64 a5))) (by kernel_rfl) ?_ (fun hHeld => ?_)
      · exact ⟨y0, y1, y2, y3, y4, y5⟩
      have HC4 : Hid (Below w3.heap.size w3 w3.drew) := (Below.refl _ _).drew
      have Y4 : Hid (C6 w3.drew ga a0 a1 a2 a3 a4 a5) := hHeld
      generalize w3.drew = w4 at HC4 Y4 hHeld ⊢
      refine takeS (i := 0) (oi := _) (v := ?_) (d := some 34) rfl (by kernel_rfl) (by kernel_rfl) (by kernel_rfl) (by kernel_rfl) (fun _ _ _ h => h) (Or.inl ⟨by rfl, ?_⟩) (by assumption) ?_
      rotate_left
      · (intro w hSw; (try dsimp only at hSw); go_simp <;> with_reducible rfl)
      try simp only [Act.put, List.setIfInBounds_toArray, List.set_cons_zero, List.set_cons_succ]
      refine takeS (i := 1) (oi := _) (v := ?_) (d := some 35) rfl (by kernel_rfl) (by kernel_rfl) (by kernel_rfl) (by kernel_rfl) (fun _ _ _ h => h) (Or.inl ⟨by rfl, ?_⟩) (by assumption) ?_
      rotate_left
      · (intro w hSw; (try dsimp only at hSw); go_simp <;> with_reducible rfl)
      try simp only [Act.put, List.setIfInBounds_toArray, List.set_cons_zero, List.set_cons_succ]
      refine takeS (i := 2) (oi := _) (v := ?_) (d := some 36) rfl (by kernel_rfl) (by kernel_rfl) (by kernel_rfl) (by kernel_rfl) (fun _ _ _ h => h) (Or.inl ⟨by rfl, ?_⟩) (by assumption) ?_
      rotate_left
      · (intro w hSw; (try dsimp only at hSw); go_simp <;> with_reducible rfl)
      try simp only [Act.put, List.setIfInBounds_toArray, List.set_cons_zero, List.set_cons_succ]
      refine wpAnyH_ready (rs := [3, 8, 9]) (by kernel_rfl) (by simp) ?_
      refine AllReadyH.cons (o := _) rfl (fun K hK => ?_) (AllReadyH.cons (o := _) rfl (fun K hK => ?_) (AllReadyH.cons (o := _) rfl (fun K hK => ?_) AllReadyH.nil))
      · skip
        go_simp
        go_at_call 53
        refine (powerOfTwo_d (k := kq) (w := w3) (by omega) (by omega) HPW.out.1 HPW.out.2 _ HC4.out).mono ?_
        rintro e w5 ⟨rfl, hH, hb⟩
        clear hH
        have HC5 : Hid (Below w3.heap.size w3 w5) := HC4.out.trans (hb.mono HC4.out.size)
        have Y5 : Hid (C6 w5 ga a0 a1 a2 a3 a4 a5) := Y4.out.keep hb
        refine hK.out _ _ ?_ (fun hHeld => ?_)
        · exact Y5.out
        clear hK K hb HC4 Y4
        try simp only [Act.put, List.setIfInBounds_toArray, List.set_cons_zero, List.set_cons_succ]
        refine wpAnyH_ready (rs := [4, 8, 9]) (by kernel_rfl) (by simp) ?_
        refine AllReadyH.cons (o := _) rfl (fun K hK => ?_) (AllReadyH.cons (o := _) rfl (fun K hK => ?_) (AllReadyH.cons (o := _) rfl (fun K hK => ?_) AllReadyH.nil))
        · skip
          go_simp
          go_at_call 40
          refine (timesRows_d (w := w3) HDA.out.1 HPW.out.1 HE.out.1 HE.out.2 _ HC5.out).mono ?_
          rintro e w6 ⟨rfl, hH, hb⟩
          clear hH
          have HC6 : Hid (Below w3.heap.size w3 w6) := HC5.out.trans (hb.mono HC5.out.size)
          have Y6 : Hid (C6 w6 ga a0 a1 a2 a3 a4 a5) := Y5.out.keep hb
          refine hK.out _ _ ?_ (fun hHeld => ?_)
          · exact Y6.out
          clear hK K hb HC5 Y5
          try simp only [Act.put, List.setIfInBounds_toArray, List.set_cons_zero, List.set_cons_succ]
          refine takeS (i := 5) (oi := _) (v := ?_) (d := some 33) rfl (by kernel_rfl) (by kernel_rfl) (by kernel_rfl) (by kernel_rfl) (fun _ _ _ h => h) (Or.inl ⟨by rfl, ?_⟩) (by assumption) ?_
          rotate_left
          · (intro w hSw; (try dsimp only at hSw); go_simp <;> with_reducible rfl)
          try simp only [Act.put, List.setIfInBounds_toArray, List.set_cons_zero, List.set_cons_succ]
          refine takeS (i := 6) (oi := _) (v := ?_) (d := some 39) rfl (by kernel_rfl) (by kernel_rfl) (by kernel_rfl) (by kernel_rfl) (fun _ _ _ h => h) (Or.inl ⟨by rfl, ?_⟩) (by assumption) ?_
          rotate_left
          · (intro w hSw; (try dsimp only at hSw); go_simp <;> with_reducible rfl)
          try simp only [Act.put, List.setIfInBounds_toArray, List.set_cons_zero, List.set_cons_succ]
          refine takeS (i := 7) (oi := _) (v := ?_) (d := some 40) rfl (by kernel_rfl) (by kernel_rfl) (by kernel_rfl) (by kernel_rfl) (fun _ _ _ h => h) (Or.inl ⟨by rfl, ?_⟩) (by assumption) ?_
          rotate_left
          · (intro w hSw; (try dsimp only at hSw); go_simp <;> with_reducible rfl)
          try simp only [Act.put, List.setIfInBounds_toArray, List.set_cons_zero, List.set_cons_succ]
          refine wpAnyH_ready (rs := [8, 9]) (by kernel_rfl) (by simp) ?_
          refine AllReadyH.cons (o := _) rfl (fun K hK => ?_) (AllReadyH.cons (o := _) rfl (fun K hK => ?_) AllReadyH.nil)
          · skip
            go_simp
            have hb : Below w6.heap.size w6 (w6.alloc (Obj.cells #[.int .i64 0, .int .i64 0, .int .i64 0, .int .i64 0, .int .i64 0, .int .i64 0] 53)) := (Below.refl _ _).alloc (Nat.le_refl _) _
            have GN : Hid (D6 (w6.alloc (Obj.cells #[.int .i64 0, .int .i64 0, .int .i64 0, .int .i64 0, .int .i64 0, .int .i64 0] 53)) w6.heap.size 0 0 0 0 0 0) := d6_new rfl
            refine hK.out _ _ ?_ (fun hHeld => ?_)
            · exact Y6.out.keep hb
            clear hK K
            try simp only [Act.put, List.setIfInBounds_toArray, List.set_cons_zero, List.set_cons_succ]
            generalize (w6.alloc (Obj.cells #[.int .i64 0, .int .i64 0, .int .i64 0, .int .i64 0, .int .i64 0, .int .i64 0] 53)) = w7 at hb GN hHeld ⊢
            have HC7 : Hid (Below w3.heap.size w3 w7) := HC6.out.trans (hb.mono HC6.out.size)
            have Y7 : Hid (C6 w7 ga a0 a1 a2 a3 a4 a5) := Y6.out.keep hb
            have sz6 : w3.heap.size ≤ w6.heap.size := HC6.out.size
            have GX7 : Hid (D6 w7 w6.heap.size 0 0 0 0 0 0) := GN
            clear hb GN HC6 Y6
            refine wpAnyH_ready (rs := [9]) (by kernel_rfl) (by simp) ?_
            refine AllReadyH.cons (o := _) rfl (fun K hK => ?_) AllReadyH.nil
            · skip
              go_simp
              have hb : Below w7.heap.size w7 (w7.alloc (Obj.cells #[.int .i64 0, .int .i64 0, .int .i64 0, .int .i64 0, .int .i64 0, .int .i64 0] 53)) := (Below.refl _ _).alloc (Nat.le_refl _) _
              have GN : Hid (D6 (w7.alloc (Obj.cells #[.int .i64 0, .int .i64 0, .int .i64 0, .int .i64 0, .int .i64 0, .int .i64 0] 53)) w7.heap.size 0 0 0 0 0 0) := d6_new rfl
              refine hK.out _ _ ?_ (fun hHeld => ?_)
              · exact Y7.out.keep hb
              clear hK K
              try simp only [Act.put, List.setIfInBounds_toArray, List.set_cons_zero, List.set_cons_succ]
              generalize (w7.alloc (Obj.cells #[.int .i64 0, .int .i64 0, .int .i64 0, .int .i64 0, .int .i64 0, .int .i64 0] 53)) = w8 at hb GN hHeld ⊢
              have HC8 : Hid (Below w3.heap.size w3 w8) := HC7.out.trans (hb.mono HC7.out.size)
              have Y8 : Hid (C6 w8 ga a0 a1 a2 a3 a4 a5) := Y7.out.keep hb
              have GX8 : Hid (D6 w8 w6.heap.size 0 0 0 0 0 0) := GX7.out.keep hb
              have sz7 : w3.heap.size ≤ w7.heap.size := HC7.out.size
              have sl7 : w6.heap.size < w7.heap.size := GX7.out.lt
              have GY8 : Hid (D6 w8 w7.heap.size 0 0 0 0 0 0) := GN
              clear hb GN HC7 Y7 GX7
              have lx := GX8.out.lt
              have ly := GY8.out.lt
              have hxy : w6.heap.size ≠ w7.heap.size := by omega
              have hbx : w3.heap.size ≤ w6.heap.size := by omega
              have hby : w3.heap.size ≤ w7.heap.size := by omega
              have hax : ga ≠ w6.heap.size := by omega
              have hay : ga ≠ w7.heap.size := by omega
              have hcel := GX8.out.1
              obtain ⟨e0, e1, e2, e3, e4, e5⟩ := hcel
              have hfr := GX8.out.2
              have q0 := hfr 0
              have q1 := hfr 1
              have q2 := hfr 2
              have q3 := hfr 3
              have q4 := hfr 4
              have q5 := hfr 5
              clear hfr
              have YN : Hid (C6 ((((((w8.setCell ⟨w6.heap.size, 0, none⟩ (.int .i64 u0)).setCell ⟨w6.heap.size, 1, none⟩ (.int .i64 u1)).setCell ⟨w6.heap.size, 2, none⟩ (.int .i64 u2)).setCell ⟨w6.heap.size, 3, none⟩ (.int .i64 u3)).setCell ⟨w6.heap.size, 4, none⟩ (.int .i64 u4)).setCell ⟨w6.heap.size, 5, none⟩ (.int .i64 u5)) ga a0 a1 a2 a3 a4 a5) := c6_set_ne Y8.out hax
              have MN : Hid (D6 ((((((w8.setCell ⟨w6.heap.size, 0, none⟩ (.int .i64 u0)).setCell ⟨w6.heap.size, 1, none⟩ (.int .i64 u1)).setCell ⟨w6.heap.size, 2, none⟩ (.int .i64 u2)).setCell ⟨w6.heap.size, 3, none⟩ (.int .i64 u3)).setCell ⟨w6.heap.size, 4, none⟩ (.int .i64 u4)).setCell ⟨w6.heap.size, 5, none⟩ (.int .i64 u5)) w6.heap.size u0 u1 u2 u3 u4 u5) := D6.set GX8.out u0 u1 u2 u3 u4 u5
              have ON : Hid (D6 ((((((w8.setCell ⟨w6.heap.size, 0, none⟩ (.int .i64 u0)).setCell ⟨w6.heap.size, 1, none⟩ (.int .i64 u1)).setCell ⟨w6.heap.size, 2, none⟩ (.int .i64 u2)).setCell ⟨w6.heap.size, 3, none⟩ (.int .i64 u3)).setCell ⟨w6.heap.size, 4, none⟩ (.int .i64 u4)).setCell ⟨w6.heap.size, 5, none⟩ (.int .i64 u5)) w7.heap.size 0 0 0 0 0 0) := D6.other GY8.out hxy.symm u0 u1 u2 u3 u4 u5
              have HN : Hid (Below w3.heap.size w3 ((((((w8.setCell ⟨w6.heap.size, 0, none⟩ (.int .i64 u0)).setCell ⟨w6.heap.size, 1, none⟩ (.int .i64 u1)).setCell ⟨w6.heap.size, 2, none⟩ (.int .i64 u2)).setCell ⟨w6.heap.size, 3, none⟩ (.int .i64 u3)).setCell ⟨w6.heap.size, 4, none⟩ (.int .i64 u4)).setCell ⟨w6.heap.size, 5, none⟩ (.int .i64 u5))) := below_set6 HC8.out hbx
              refine wpAnyH_ready (rs := [10]) (by kernel_rfl) (by simp) ?_
              refine AllReadyH.cons (o := _) rfl (fun K hK => ?_) AllReadyH.nil
              go_simp
              refine hK.out _ _ ?_ (fun hHeld => ?_)
              · exact YN.out
              clear hK K
              try simp only [Act.put, List.setIfInBounds_toArray, List.set_cons_zero, List.set_cons_succ]
              generalize ((((((w8.setCell ⟨w6.heap.size, 0, none⟩ (.int .i64 u0)).setCell ⟨w6.heap.size, 1, none⟩ (.int .i64 u1)).setCell ⟨w6.heap.size, 2, none⟩ (.int .i64 u2)).setCell ⟨w6.heap.size, 3, none⟩ (.int .i64 u3)).setCell ⟨w6.heap.size, 4, none⟩ (.int .i64 u4)).setCell ⟨w6.heap.size, 5, none⟩ (.int .i64 u5)) = w9 at YN MN ON HN hHeld ⊢
              have Y9 := YN
              have GX9 := MN
              have GY9 := ON
              have HC9 := HN
              clear YN MN ON HN e0 e1 e2 e3 e4 e5 q0 q1 q2 q3 q4 q5 GX8 GY8 Y8 HC8
              have hcel := GY9.out.1
              obtain ⟨e0, e1, e2, e3, e4, e5⟩ := hcel
              have hfr := GY9.out.2
              have q0 := hfr 0
              have q1 := hfr 1
              have q2 := hfr 2
              have q3 := hfr 3
              have q4 := hfr 4
              have q5 := hfr 5
              clear hfr
              have YN : Hid (C6 ((((((w9.setCell ⟨w7.heap.size, 0, none⟩ (.int .i64 s0)).setCell ⟨w7.heap.size, 1, none⟩ (.int .i64 s1)).setCell ⟨w7.heap.size, 2, none⟩ (.int .i64 s2)).setCell ⟨w7.heap.size, 3, none⟩ (.int .i64 s3)).setCell ⟨w7.heap.size, 4, none⟩ (.int .i64 s4)).setCell ⟨w7.heap.size, 5, none⟩ (.int .i64 s5)) ga a0 a1 a2 a3 a4 a5) := c6_set_ne Y9.out hay
              have MN : Hid (D6 ((((((w9.setCell ⟨w7.heap.size, 0, none⟩ (.int .i64 s0)).setCell ⟨w7.heap.size, 1, none⟩ (.int .i64 s1)).setCell ⟨w7.heap.size, 2, none⟩ (.int .i64 s2)).setCell ⟨w7.heap.size, 3, none⟩ (.int .i64 s3)).setCell ⟨w7.heap.size, 4, none⟩ (.int .i64 s4)).setCell ⟨w7.heap.size, 5, none⟩ (.int .i64 s5)) w7.heap.size s0 s1 s2 s3 s4 s5) := D6.set GY9.out s0 s1 s2 s3 s4 s5
              have ON : Hid (D6 ((((((w9.setCell ⟨w7.heap.size, 0, none⟩ (.int .i64 s0)).setCell ⟨w7.heap.size, 1, none⟩ (.int .i64 s1)).setCell ⟨w7.heap.size, 2, none⟩ (.int .i64 s2)).setCell ⟨w7.heap.size, 3, none⟩ (.int .i64 s3)).setCell ⟨w7.heap.size, 4, none⟩ (.int .i64 s4)).setCell ⟨w7.heap.size, 5, none⟩ (.int .i64 s5)) w6.heap.size u0 u1 u2 u3 u4 u5) := D6.other GX9.out hxy s0 s1 s2 s3 s4 s5
              have HN : Hid (Below w3.heap.size w3 ((((((w9.setCell ⟨w7.heap.size, 0, none⟩ (.int .i64 s0)).setCell ⟨w7.heap.size, 1, none⟩ (.int .i64 s1)).setCell ⟨w7.heap.size, 2, none⟩ (.int .i64 s2)).setCell ⟨w7.heap.size, 3, none⟩ (.int .i64 s3)).setCell ⟨w7.heap.size, 4, none⟩ (.int .i64 s4)).setCell ⟨w7.heap.size, 5, none⟩ (.int .i64 s5))) := below_set6 HC9.out hby
              refine wpAnyH_ready (rs := [11]) (by kernel_rfl) (by simp) ?_
              refine AllReadyH.cons (o := _) rfl (fun K hK => ?_) AllReadyH.nil
              go_simp
              refine hK.out _ _ ?_ (fun hHeld => ?_)
              · exact YN.out
              clear hK K
              try simp only [Act.put, List.setIfInBounds_toArray, List.set_cons_zero, List.set_cons_succ]
              generalize ((((((w9.setCell ⟨w7.heap.size, 0, none⟩ (.int .i64 s0)).setCell ⟨w7.heap.size, 1, none⟩ (.int .i64 s1)).setCell ⟨w7.heap.size, 2, none⟩ (.int .i64 s2)).setCell ⟨w7.heap.size, 3, none⟩ (.int .i64 s3)).setCell ⟨w7.heap.size, 4, none⟩ (.int .i64 s4)).setCell ⟨w7.heap.size, 5, none⟩ (.int .i64 s5)) = w10 at YN MN ON HN hHeld ⊢
              have Y10 := YN
              have GY10 := MN
              have GX10 := ON
              have HC10 := HN
              clear YN MN ON HN e0 e1 e2 e3 e4 e5 q0 q1 q2 q3 q4 q5 GX9 GY9 Y9 HC9
              refine wpAnyH_done (by kernel_rfl) ?_ _
              go_wp2_with fail
              go_meet
              exact ⟨w6.heap.size, w7.heap.size, rfl, rfl, hbx, hby, GX10.out.1, GY10.out.1, HC10⟩
          · skip
            go_simp
            have hb : Below w6.heap.size w6 (w6.alloc (Obj.cells #[.int .i64 0, .int .i64 0, .int .i64 0, .int .i64 0, .int .i64 0, .int .i64 0] 53)) := (Below.refl _ _).alloc (Nat.le_refl _) _
            have GN : Hid (D6 (w6.alloc (Obj.cells #[.int .i64 0, .int .i64 0, .int .i64 0, .int .i64 0, .int .i64 0, .int .i64 0] 53)) w6.heap.size 0 0 0 0 0 0) := d6_new rfl
            refine hK.out _ _ ?_ (fun hHeld => ?_)
            · exact Y6.out.keep hb
            clear hK K
            try simp only [Act.put, List.setIfInBounds_toArray, List.set_cons_zero, List.set_cons_succ]
            generalize (w6.alloc (Obj.cells #[.int .i64 0, .int .i64 0, .int .i64 0, .int .i64 0, .int .i64 0, .int .i64 0] 53)) = w7 at hb GN hHeld ⊢
            have HC7 : Hid (Below w3.heap.size w3 w7) := HC6.out.trans (hb.mono HC6.out.size)
            have Y7 : Hid (C6 w7 ga a0 a1 a2 a3 a4 a5) := Y6.out.keep hb
            have sz6 : w3.heap.size ≤ w6.heap.size := HC6.out.size
            have GY7 : Hid (D6 w7 w6.heap.size 0 0 0 0 0 0) := GN
            clear hb GN HC6 Y6
            refine wpAnyH_ready (rs := [8]) (by kernel_rfl) (by simp) ?_
            refine AllReadyH.cons (o := _) rfl (fun K hK => ?_) AllReadyH.nil
            · skip
              go_simp
              have hb : Below w7.heap.size w7 (w7.alloc (Obj.cells #[.int .i64 0, .int .i64 0, .int .i64 0, .int .i64 0, .int .i64 0, .int .i64 0] 53)) := (Below.refl _ _).alloc (Nat.le_refl _) _
              have GN : Hid (D6 (w7.alloc (Obj.cells #[.int .i64 0, .int .i64 0, .int .i64 0, .int .i64 0, .int .i64 0, .int .i64 0] 53)) w7.heap.size 0 0 0 0 0 0) := d6_new rfl
              refine hK.out _ _ ?_ (fun hHeld => ?_)
              · exact Y7.out.keep hb
              clear hK K
              try simp only [Act.put, List.setIfInBounds_toArray, List.set_cons_zero, List.set_cons_succ]
              generalize (w7.alloc (Obj.cells #[.int .i64 0, .int .i64 0, .int .i64 0, .int .i64 0, .int .i64 0, .int .i64 0] 53)) = w8 at hb GN hHeld ⊢
              have HC8 : Hid (Below w3.heap.size w3 w8) := HC7.out.trans (hb.mono HC7.out.size)
              have Y8 : Hid (C6 w8 ga a0 a1 a2 a3 a4 a5) := Y7.out.keep hb
              have GY8 : Hid (D6 w8 w6.heap.size 0 0 0 0 0 0) := GY7.out.keep hb
              have sz7 : w3.heap.size ≤ w7.heap.size := HC7.out.size
              have sl7 : w6.heap.size < w7.heap.size := GY7.out.lt
              have GX8 : Hid (D6 w8 w7.heap.size 0 0 0 0 0 0) := GN
              clear hb GN HC7 Y7 GY7
              have lx := GX8.out.lt
              have ly := GY8.out.lt
              have hxy : w7.heap.size ≠ w6.heap.size := by omega
              have hbx : w3.heap.size ≤ w7.heap.size := by omega
              have hby : w3.heap.size ≤ w6.heap.size := by omega
              have hax : ga ≠ w7.heap.size := by omega
              have hay : ga ≠ w6.heap.size := by omega
              have hcel := GX8.out.1
              obtain ⟨e0, e1, e2, e3, e4, e5⟩ := hcel
              have hfr := GX8.out.2
              have q0 := hfr 0
              have q1 := hfr 1
              have q2 := hfr 2
              have q3 := hfr 3
              have q4 := hfr 4
              have q5 := hfr 5
              clear hfr
              have YN : Hid (C6 ((((((w8.setCell ⟨w7.heap.size, 0, none⟩ (.int .i64 u0)).setCell ⟨w7.heap.size, 1, none⟩ (.int .i64 u1)).setCell ⟨w7.heap.size, 2, none⟩ (.int .i64 u2)).setCell ⟨w7.heap.size, 3, none⟩ (.int .i64 u3)).setCell ⟨w7.heap.size, 4, none⟩ (.int .i64 u4)).setCell ⟨w7.heap.size, 5, none⟩ (.int .i64 u5)) ga a0 a1 a2 a3 a4 a5) := c6_set_ne Y8.out hax
              have MN : Hid (D6 ((((((w8.setCell ⟨w7.heap.size, 0, none⟩ (.int .i64 u0)).setCell ⟨w7.heap.size, 1, none⟩ (.int .i64 u1)).setCell ⟨w7.heap.size, 2, none⟩ (.int .i64 u2)).setCell ⟨w7.heap.size, 3, none⟩ (.int .i64 u3)).setCell ⟨w7.heap.size, 4, none⟩ (.int .i64 u4)).setCell ⟨w7.heap.size, 5, none⟩ (.int .i64 u5)) w7.heap.size u0 u1 u2 u3 u4 u5) := D6.set GX8.out u0 u1 u2 u3 u4 u5
              have ON : Hid (D6 ((((((w8.setCell ⟨w7.heap.size, 0, none⟩ (.int .i64 u0)).setCell ⟨w7.heap.size, 1, none⟩ (.int .i64 u1)).setCell ⟨w7.heap.size, 2, none⟩ (.int .i64 u2)).setCell ⟨w7.heap.size, 3, none⟩ (.int .i64 u3)).setCell ⟨w7.heap.size, 4, none⟩ (.int .i64 u4)).setCell ⟨w7.heap.size, 5, none⟩ (.int .i64 u5)) w6.heap.size 0 0 0 0 0 0) := D6.other GY8.out hxy.symm u0 u1 u2 u3 u4 u5
              have HN : Hid (Below w3.heap.size w3 ((((((w8.setCell ⟨w7.heap.size, 0, none⟩ (.int .i64 u0)).setCell ⟨w7.heap.size, 1, none⟩ (.int .i64 u1)).setCell ⟨w7.heap.size, 2, none⟩ (.int .i64 u2)).setCell ⟨w7.heap.size, 3, none⟩ (.int .i64 u3)).setCell ⟨w7.heap.size, 4, none⟩ (.int .i64 u4)).setCell ⟨w7.heap.size, 5, none⟩ (.int .i64 u5))) := below_set6 HC8.out hbx
              refine wpAnyH_ready (rs := [10]) (by kernel_rfl) (by simp) ?_
              refine AllReadyH.cons (o := _) rfl (fun K hK => ?_) AllReadyH.nil
              go_simp
              refine hK.out _ _ ?_ (fun hHeld => ?_)
              · exact YN.out
              clear hK K
              try simp only [Act.put, List.setIfInBounds_toArray, List.set_cons_zero, List.set_cons_succ]
              generalize ((((((w8.setCell ⟨w7.heap.size, 0, none⟩ (.int .i64 u0)).setCell ⟨w7.heap.size, 1, none⟩ (.int .i64 u1)).setCell ⟨w7.heap.size, 2, none⟩ (.int .i64 u2)).setCell ⟨w7.heap.size, 3, none⟩ (.int .i64 u3)).setCell ⟨w7.heap.size, 4, none⟩ (.int .i64 u4)).setCell ⟨w7.heap.size, 5, none⟩ (.int .i64 u5)) = w9 at YN MN ON HN hHeld ⊢
              have Y9 := YN
              have GX9 := MN
              have GY9 := ON
              have HC9 := HN
              clear YN MN ON HN e0 e1 e2 e3 e4 e5 q0 q1 q2 q3 q4 q5 GX8 GY8 Y8 HC8
              have hcel := GY9.out.1
              obtain ⟨e0, e1, e2, e3, e4, e5⟩ := hcel
              have hfr := GY9.out.2
              have q0 := hfr 0
              have q1 := hfr 1
              have q2 := hfr 2
              have q3 := hfr 3
              have q4 := hfr 4
              have q5 := hfr 5
              clear hfr
              have YN : Hid (C6 ((((((w9.setCell ⟨w6.heap.size, 0, none⟩ (.int .i64 s0)).setCell ⟨w6.heap.size, 1, none⟩ (.int .i64 s1)).setCell ⟨w6.heap.size, 2, none⟩ (.int .i64 s2)).setCell ⟨w6.heap.size, 3, none⟩ (.int .i64 s3)).setCell ⟨w6.heap.size, 4, none⟩ (.int .i64 s4)).setCell ⟨w6.heap.size, 5, none⟩ (.int .i64 s5)) ga a0 a1 a2 a3 a4 a5) := c6_set_ne Y9.out hay
              have MN : Hid (D6 ((((((w9.setCell ⟨w6.heap.size, 0, none⟩ (.int .i64 s0)).setCell ⟨w6.heap.size, 1, none⟩ (.int .i64 s1)).setCell ⟨w6.heap.size, 2, none⟩ (.int .i64 s2)).setCell ⟨w6.heap.size, 3, none⟩ (.int .i64 s3)).setCell ⟨w6.heap.size, 4, none⟩ (.int .i64 s4)).setCell ⟨w6.heap.size, 5, none⟩ (.int .i64 s5)) w6.heap.size s0 s1 s2 s3 s4 s5) := D6.set GY9.out s0 s1 s2 s3 s4 s5
              have ON : Hid (D6 ((((((w9.setCell ⟨w6.heap.size, 0, none⟩ (.int .i64 s0)).setCell ⟨w6.heap.size, 1, none⟩ (.int .i64 s1)).setCell ⟨w6.heap.size, 2, none⟩ (.int .i64 s2)).setCell ⟨w6.heap.size, 3, none⟩ (.int .i64 s3)).setCell ⟨w6.heap.size, 4, none⟩ (.int .i64 s4)).setCell ⟨w6.heap.size, 5, none⟩ (.int .i64 s5)) w7.heap.size u0 u1 u2 u3 u4 u5) := D6.other GX9.out hxy s0 s1 s2 s3 s4 s5
              have HN : Hid (Below w3.heap.size w3 ((((((w9.setCell ⟨w6.heap.size, 0, none⟩ (.int .i64 s0)).setCell ⟨w6.heap.size, 1, none⟩ (.int .i64 s1)).setCell ⟨w6.heap.size, 2, none⟩ (.int .i64 s2)).setCell ⟨w6.heap.size, 3, none⟩ (.int .i64 s3)).setCell ⟨w6.heap.size, 4, none⟩ (.int .i64 s4)).setCell ⟨w6.heap.size, 5, none⟩ (.int .i64 s5))) := below_set6 HC9.out hby
              refine wpAnyH_ready (rs := [11]) (by kernel_rfl) (by simp) ?_
              refine AllReadyH.cons (o := _) rfl (fun K hK => ?_) AllReadyH.nil
              go_simp
              refine hK.out _ _ ?_ (fun hHeld => ?_)
              · exact YN.out
              clear hK K
              try simp only [Act.put, List.setIfInBounds_toArray, List.set_cons_zero, List.set_cons_succ]
              generalize ((((((w9.setCell ⟨w6.heap.size, 0, none⟩ (.int .i64 s0)).setCell ⟨w6.heap.size, 1, none⟩ (.int .i64 s1)).setCell ⟨w6.heap.size, 2, none⟩ (.int .i64 s2)).setCell ⟨w6.heap.size, 3, none⟩ (.int .i64 s3)).setCell ⟨w6.heap.size, 4, none⟩ (.int .i64 s4)).setCell ⟨w6.heap.size, 5, none⟩ (.int .i64 s5)) = w10 at YN MN ON HN hHeld ⊢
              have Y10 := YN
              have GY10 := MN
              have GX10 := ON
              have HC10 := HN
              clear YN MN ON HN e0 e1 e2 e3 e4 e5 q0 q1 q2 q3 q4 q5 GX9 GY9 Y9 HC9
              refine wpAnyH_done (by kernel_rfl) ?_ _
              go_wp2_with fail
              go_meet
              exact ⟨w7.heap.size, w6.heap.size, rfl, rfl, hbx, hby, GX10.out.1, GY10.out.1, HC10⟩
        · skip
          go_simp
          have hb : Below w5.heap.size w5 (w5.alloc (Obj.cells #[.int .i64 0, .int .i64 0, .int .i64 0, .int .i64 0, .int .i64 0, .int .i64 0] 53)) := (Below.refl _ _).alloc (Nat.le_refl _) _
          have GN : Hid (D6 (w5.alloc (Obj.cells #[.int .i64 0, .int .i64 0, .int .i64 0, .int .i64 0, .int .i64 0, .int .i64 0] 53)) w5.heap.size 0 0 0 0 0 0) := d6_new rfl
          refine hK.out _ _ ?_ (fun hHeld => ?_)
          · exact Y5.out.keep hb
          clear hK K
          try simp only [Act.put, List.setIfInBounds_toArray, List.set_cons_zero, List.set_cons_succ]
          generalize (w5.alloc (Obj.cells #[.int .i64 0, .int .i64 0, .int .i64 0, .int .i64 0, .int .i64 0, .int .i64 0] 53)) = w6 at hb GN hHeld ⊢
          have HC6 : Hid (Below w3.heap.size w3 w6) := HC5.out.trans (hb.mono HC5.out.size)
          have Y6 : Hid (C6 w6 ga a0 a1 a2 a3 a4 a5) := Y5.out.keep hb
          have sz5 : w3.heap.size ≤ w5.heap.size := HC5.out.size
          have GX6 : Hid (D6 w6 w5.heap.size 0 0 0 0 0 0) := GN
          clear hb GN HC5 Y5
          refine wpAnyH_ready (rs := [4, 9]) (by kernel_rfl) (by simp) ?_
          refine AllReadyH.cons (o := _) rfl (fun K hK => ?_) (AllReadyH.cons (o := _) rfl (fun K hK => ?_) AllReadyH.nil)
          · skip
            go_simp
            go_at_call 40
            refine (timesRows_d (w := w3) HDA.out.1 HPW.out.1 HE.out.1 HE.out.2 _ HC6.out).mono ?_
            rintro e w7 ⟨rfl, hH, hb⟩
            clear hH
            have HC7 : Hid (Below w3.heap.size w3 w7) := HC6.out.trans (hb.mono HC6.out.size)
            have Y7 : Hid (C6 w7 ga a0 a1 a2 a3 a4 a5) := Y6.out.keep hb
            have GX7 : Hid (D6 w7 w5.heap.size 0 0 0 0 0 0) := GX6.out.keep hb
            refine hK.out _ _ ?_ (fun hHeld => ?_)
            · exact Y7.out
            clear hK K hb HC6 Y6 GX6
            try simp only [Act.put, List.setIfInBounds_toArray, List.set_cons_zero, List.set_cons_succ]
            refine takeS (i := 5) (oi := _) (v := ?_) (d := some 33) rfl (by kernel_rfl) (by kernel_rfl) (by kernel_rfl) (by kernel_rfl) (fun _ _ _ h => h) (Or.inl ⟨by rfl, ?_⟩) (by assumption) ?_
            rotate_left
            · (intro w hSw; (try dsimp only at hSw); go_simp <;> with_reducible rfl)
            try simp only [Act.put, List.setIfInBounds_toArray, List.set_cons_zero, List.set_cons_succ]
            refine takeS (i := 6) (oi := _) (v := ?_) (d := some 39) rfl (by kernel_rfl) (by kernel_rfl) (by kernel_rfl) (by kernel_rfl) (fun _ _ _ h => h) (Or.inl ⟨by rfl, ?_⟩) (by assumption) ?_
            rotate_left
            · (intro w hSw; (try dsimp only at hSw); go_simp <;> with_reducible rfl)
            try simp only [Act.put, List.setIfInBounds_toArray, List.set_cons_zero, List.set_cons_succ]
            refine takeS (i := 7) (oi := _) (v := ?_) (d := some 40) rfl (by kernel_rfl) (by kernel_rfl) (by kernel_rfl) (by kernel_rfl) (fun _ _ _ h => h) (Or.inl ⟨by rfl, ?_⟩) (by assumption) ?_
            rotate_left
            · (intro w hSw; (try dsimp only at hSw); go_simp <;> with_reducible rfl)
            try simp only [Act.put, List.setIfInBounds_toArray, List.set_cons_zero, List.set_cons_succ]
            refine wpAnyH_ready (rs := [9]) (by kernel_rfl) (by simp) ?_
            refine AllReadyH.cons (o := _) rfl (fun K hK => ?_) AllReadyH.nil
            · skip
              go_simp
              have hb : Below w7.heap.size w7 (w7.alloc (Obj.cells #[.int .i64 0, .int .i64 0, .int .i64 0, .int .i64 0, .int .i64 0, .int .i64 0] 53)) := (Below.refl _ _).alloc (Nat.le_refl _) _
              have GN : Hid (D6 (w7.alloc (Obj.cells #[.int .i64 0, .int .i64 0, .int .i64 0, .int .i64 0, .int .i64 0, .int .i64 0] 53)) w7.heap.size 0 0 0 0 0 0) := d6_new rfl
              refine hK.out _ _ ?_ (fun hHeld => ?_)
              · exact Y7.out.keep hb
              clear hK K
              try simp only [Act.put, List.setIfInBounds_toArray, List.set_cons_zero, List.set_cons_succ]
              generalize (w7.alloc (Obj.cells #[.int .i64 0, .int .i64 0, .int .i64 0, .int .i64 0, .int .i64 0, .int .i64 0] 53)) = w8 at hb GN hHeld ⊢
              have HC8 : Hid (Below w3.heap.size w3 w8) := HC7.out.trans (hb.mono HC7.out.size)
              have Y8 : Hid (C6 w8 ga a0 a1 a2 a3 a4 a5) := Y7.out.keep hb
              have GX8 : Hid (D6 w8 w5.heap.size 0 0 0 0 0 0) := GX7.out.keep hb
              have sz7 : w3.heap.size ≤ w7.heap.size := HC7.out.size
              have sl7 : w5.heap.size < w7.heap.size := GX7.out.lt
              have GY8 : Hid (D6 w8 w7.heap.size 0 0 0 0 0 0) := GN
              clear hb GN HC7 Y7 GX7
              have lx := GX8.out.lt
              have ly := GY8.out.lt
              have hxy : w5.heap.size ≠ w7.heap.size := by omega
              have hbx : w3.heap.size ≤ w5.heap.size := by omega
              have hby : w3.heap.size ≤ w7.heap.size := by omega
              have hax : ga ≠ w5.heap.size := by omega
              have hay : ga ≠ w7.heap.size := by omega
              have hcel := GX8.out.1
              obtain ⟨e0, e1, e2, e3, e4, e5⟩ := hcel
              have hfr := GX8.out.2
              have q0 := hfr 0
              have q1 := hfr 1
              have q2 := hfr 2
              have q3 := hfr 3
              have q4 := hfr 4
              have q5 := hfr 5
              clear hfr
              have YN : Hid (C6 ((((((w8.setCell ⟨w5.heap.size, 0, none⟩ (.int .i64 u0)).setCell ⟨w5.heap.size, 1, none⟩ (.int .i64 u1)).setCell ⟨w5.heap.size, 2, none⟩ (.int .i64 u2)).setCell ⟨w5.heap.size, 3, none⟩ (.int .i64 u3)).setCell ⟨w5.heap.size, 4, none⟩ (.int .i64 u4)).setCell ⟨w5.heap.size, 5, none⟩ (.int .i64 u5)) ga a0 a1 a2 a3 a4 a5) := c6_set_ne Y8.out hax
              have MN : Hid (D6 ((((((w8.setCell ⟨w5.heap.size, 0, none⟩ (.int .i64 u0)).setCell ⟨w5.heap.size, 1, none⟩ (.int .i64 u1)).setCell ⟨w5.heap.size, 2, none⟩ (.int .i64 u2)).setCell ⟨w5.heap.size, 3, none⟩ (.int .i64 u3)).setCell ⟨w5.heap.size, 4, none⟩ (.int .i64 u4)).setCell ⟨w5.heap.size, 5, none⟩ (.int .i64 u5)) w5.heap.size u0 u1 u2 u3 u4 u5) := D6.set GX8.out u0 u1 u2 u3 u4 u5
              have ON : Hid (D6 ((((((w8.setCell ⟨w5.heap.size, 0, none⟩ (.int .i64 u0)).setCell ⟨w5.heap.size, 1, none⟩ (.int .i64 u1)).setCell ⟨w5.heap.size, 2, none⟩ (.int .i64 u2)).setCell ⟨w5.heap.size, 3, none⟩ (.int .i64 u3)).setCell ⟨w5.heap.size, 4, none⟩ (.int .i64 u4)).setCell ⟨w5.heap.size, 5, none⟩ (.int .i64 u5)) w7.heap.size 0 0 0 0 0 0) := D6.other GY8.out hxy.symm u0 u1 u2 u3 u4 u5
              have HN : Hid (Below w3.heap.size w3 ((((((w8.setCell ⟨w5.heap.size, 0, none⟩ (.int .i64 u0)).setCell ⟨w5.heap.size, 1, none⟩ (.int .i64 u1)).setCell ⟨w5.heap.size, 2, none⟩ (.int .i64 u2)).setCell ⟨w5.heap.size, 3, none⟩ (.int .i64 u3)).setCell ⟨w5.heap.size, 4, none⟩ (.int .i64 u4)).setCell ⟨w5.heap.size, 5, none⟩ (.int .i64 u5))) := below_set6 HC8.out hbx
              refine wpAnyH_ready (rs := [10]) (by kernel_rfl) (by simp) ?_
              refine AllReadyH.cons (o := _) rfl (fun K hK => ?_) AllReadyH.nil
              go_simp
              refine hK.out _ _ ?_ (fun hHeld => ?_)
              · exact YN.out
              clear hK K
              try simp only [Act.put, List.setIfInBounds_toArray, List.set_cons_zero, List.set_cons_succ]
              generalize ((((((w8.setCell ⟨w5.heap.size, 0, none⟩ (.int .i64 u0)).setCell ⟨w5.heap.size, 1, none⟩ (.int .i64 u1)).setCell ⟨w5.heap.size, 2, none⟩ (.int .i64 u2)).setCell ⟨w5.heap.size, 3, none⟩ (.int .i64 u3)).setCell ⟨w5.heap.size, 4, none⟩ (.int .i64 u4)).setCell ⟨w5.heap.size, 5, none⟩ (.int .i64 u5)) = w9 at YN MN ON HN hHeld ⊢
              have Y9 := YN
              have GX9 := MN
              have GY9 := ON
              have HC9 := HN
              clear YN MN ON HN e0 e1 e2 e3 e4 e5 q0 q1 q2 q3 q4 q5 GX8 GY8 Y8 HC8
              have hcel := GY9.out.1
              obtain ⟨e0, e1, e2, e3, e4, e5⟩ := hcel
              have hfr := GY9.out.2
              have q0 := hfr 0
              have q1 := hfr 1
              have q2 := hfr 2
              have q3 := hfr 3
              have q4 := hfr 4
              have q5 := hfr 5
              clear hfr
              have YN : Hid (C6 ((((((w9.setCell ⟨w7.heap.size, 0, none⟩ (.int .i64 s0)).setCell ⟨w7.heap.size, 1, none⟩ (.int .i64 s1)).setCell ⟨w7.heap.size, 2, none⟩ (.int .i64 s2)).setCell ⟨w7.heap.size, 3, none⟩ (.int .i64 s3)).setCell ⟨w7.heap.size, 4, none⟩ (.int .i64 s4)).setCell ⟨w7.heap.size, 5, none⟩ (.int .i64 s5)) ga a0 a1 a2 a3 a4 a5) := c6_set_ne Y9.out hay
              have MN : Hid (D6 ((((((w9.setCell ⟨w7.heap.size, 0, none⟩ (.int .i64 s0)).setCell ⟨w7.heap.size, 1, none⟩ (.int .i64 s1)).setCell ⟨w7.heap.size, 2, none⟩ (.int .i64 s2)).setCell ⟨w7.heap.size, 3, none⟩ (.int .i64 s3)).setCell ⟨w7.heap.size, 4, none⟩ (.int .i64 s4)).setCell ⟨w7.heap.size, 5, none⟩ (.int .i64 s5)) w7.heap.size s0 s1 s2 s3 s4 s5) := D6.set GY9.out s0 s1 s2 s3 s4 s5
              have ON : Hid (D6 ((((((w9.setCell ⟨w7.heap.size, 0, none⟩ (.int .i64 s0)).setCell ⟨w7.heap.size, 1, none⟩ (.int .i64 s1)).setCell ⟨w7.heap.size, 2, none⟩ (.int .i64 s2)).setCell ⟨w7.heap.size, 3, none⟩ (.int .i64 s3)).setCell ⟨w7.heap.size, 4, none⟩ (.int .i64 s4)).setCell ⟨w7.heap.size, 5, none⟩ (.int .i64 s5)) w5.heap.size u0 u1 u2 u3 u4 u5) := D6.other GX9.out hxy s0 s1 s2 s3 s4 s5
              have HN : Hid (Below w3.heap.size w3 ((((((w9.setCell ⟨w7.heap.size, 0, none⟩ (.int .i64 s0)).setCell ⟨w7.heap.size, 1, none⟩ (.int .i64 s1)).setCell ⟨w7.heap.size, 2, none⟩ (.int .i64 s2)).setCell ⟨w7.heap.size, 3, none⟩ (.int .i64 s3)).setCell ⟨w7.heap.size, 4, none⟩ (.int .i64 s4)).setCell ⟨w7.heap.size, 5, none⟩ (.int .i64 s5))) := below_set6 HC9.out hby
              refine wpAnyH_ready (rs := [11]) (by kernel_rfl) (by simp) ?_
              refine AllReadyH.cons (o := _) rfl (fun K hK => ?_) AllReadyH.nil
              go_simp
              refine hK.out _ _ ?_ (fun hHeld => ?_)
              · exact YN.out
              clear hK K
              try simp only [Act.put, List.setIfInBounds_toArray, List.set_cons_zero, List.set_cons_succ]
              generalize ((((((w9.setCell ⟨w7.heap.size, 0, none⟩ (.int .i64 s0)).setCell ⟨w7.heap.size, 1, none⟩ (.int .i64 s1)).setCell ⟨w7.heap.size, 2, none⟩ (.int .i64 s2)).setCell ⟨w7.heap.size, 3, none⟩ (.int .i64 s3)).setCell ⟨w7.heap.size, 4, none⟩ (.int .i64 s4)).setCell ⟨w7.heap.size, 5, none⟩ (.int .i64 s5)) = w10 at YN MN ON HN hHeld ⊢
              have Y10 := YN
              have GY10 := MN
              have GX10 := ON
              have HC10 := HN
              clear YN MN ON HN e0 e1 e2 e3 e4 e5 q0 q1 q2 q3 q4 q5 GX9 GY9 Y9 HC9
              refine wpAnyH_done (by kernel_rfl) ?_ _
              go_wp2_with fail
              go_meet
              exact ⟨w5.heap.size, w7.heap.size, rfl, rfl, hbx, hby, GX10.out.1, GY10.out.1, HC10⟩
          · skip
            go_simp
            have hb : Below w6.heap.size w6 (w6.alloc (Obj.cells #[.int .i64 0, .int .i64 0, .int .i64 0, .int .i64 0, .int .i64 0, .int .i64 0] 53)) := (Below.refl _ _).alloc (Nat.le_refl _) _
            have GN : Hid (D6 (w6.alloc (Obj.cells #[.int .i64 0, .int .i64 0, .int .i64 0, .int .i64 0, .int .i64 0, .int .i64 0] 53)) w6.heap.size 0 0 0 0 0 0) := d6_new rfl
            refine hK.out _ _ ?_ (fun hHeld => ?_)
            · exact Y6.out.keep hb
            clear hK K
            try simp only [Act.put, List.setIfInBounds_toArray, List.set_cons_zero, List.set_cons_succ]
            generalize (w6.alloc (Obj.cells #[.int .i64 0, .int .i64 0, .int .i64 0, .int .i64 0, .int .i64 0, .int .i64 0] 53)) = w7 at hb GN hHeld ⊢
            have HC7 : Hid (Below w3.heap.size w3 w7) := HC6.out.trans (hb.mono HC6.out.size)
            have Y7 : Hid (C6 w7 ga a0 a1 a2 a3 a4 a5) := Y6.out.keep hb
            have GX7 : Hid (D6 w7 w5.heap.size 0 0 0 0 0 0) := GX6.out.keep hb
            have sz6 : w3.heap.size ≤ w6.heap.size := HC6.out.size
            have sl6 : w5.heap.size < w6.heap.size := GX6.out.lt
            have GY7 : Hid (D6 w7 w6.heap.size 0 0 0 0 0 0) := GN
            clear hb GN HC6 Y6 GX6
            refine wpAnyH_ready (rs := [4]) (by kernel_rfl) (by simp) ?_
            refine AllReadyH.cons (o := _) rfl (fun K hK => ?_) AllReadyH.nil
            · skip
              go_simp
              go_at_call 40
              refine (timesRows_d (w := w3) HDA.out.1 HPW.out.1 HE.out.1 HE.out.2 _ HC7.out).mono ?_
              rintro e w8 ⟨rfl, hH, hb⟩
              clear hH
              have HC8 : Hid (Below w3.heap.size w3 w8) := HC7.out.trans (hb.mono HC7.out.size)
              have Y8 : Hid (C6 w8 ga a0 a1 a2 a3 a4 a5) := Y7.out.keep hb
              have GX8 : Hid (D6 w8 w5.heap.size 0 0 0 0 0 0) := GX7.out.keep hb
              have GY8 : Hid (D6 w8 w6.heap.size 0 0 0 0 0 0) := GY7.out.keep hb
              refine hK.out _ _ ?_ (fun hHeld => ?_)
              · exact Y8.out
              clear hK K hb HC7 Y7 GX7 GY7
              try simp only [Act.put, List.setIfInBounds_toArray, List.set_cons_zero, List.set_cons_succ]
              refine takeS (i := 5) (oi := _) (v := ?_) (d := some 33) rfl (by kernel_rfl) (by kernel_rfl) (by kernel_rfl) (by kernel_rfl) (fun _ _ _ h => h) (Or.inl ⟨by rfl, ?_⟩) (by assumption) ?_
              rotate_left
              · (intro w hSw; (try dsimp only at hSw); go_simp <;> with_reducible rfl)
              try simp only [Act.put, List.setIfInBounds_toArray, List.set_cons_zero, List.set_cons_succ]
              refine takeS (i := 6) (oi := _) (v := ?_) (d := some 39) rfl (by kernel_rfl) (by kernel_rfl) (by kernel_rfl) (by kernel_rfl) (fun _ _ _ h => h) (Or.inl ⟨by rfl, ?_⟩) (by assumption) ?_
              rotate_left
              · (intro w hSw; (try dsimp only at hSw); go_simp <;> with_reducible rfl)
              try simp only [Act.put, List.setIfInBounds_toArray, List.set_cons_zero, List.set_cons_succ]
              refine takeS (i := 7) (oi := _) (v := ?_) (d := some 40) rfl (by kernel_rfl) (by kernel_rfl) (by kernel_rfl) (by kernel_rfl) (fun _ _ _ h => h) (Or.inl ⟨by rfl, ?_⟩) (by assumption) ?_
              rotate_left
              · (intro w hSw; (try dsimp only at hSw); go_simp <;> with_reducible rfl)
              try simp only [Act.put, List.setIfInBounds_toArray, List.set_cons_zero, List.set_cons_succ]
              have lx := GX8.out.lt
              have ly := GY8.out.lt
              have hxy : w5.heap.size ≠ w6.heap.size := by omega
              have hbx : w3.heap.size ≤ w5.heap.size := by omega
              have hby : w3.heap.size ≤ w6.heap.size := by omega
              have hax : ga ≠ w5.heap.size := by omega
              have hay : ga ≠ w6.heap.size := by omega
              have hcel := GX8.out.1
              obtain ⟨e0, e1, e2, e3, e4, e5⟩ := hcel
              have hfr := GX8.out.2
              have q0 := hfr 0
              have q1 := hfr 1
              have q2 := hfr 2
              have q3 := hfr 3
              have q4 := hfr 4
              have q5 := hfr 5
              clear hfr
              have YN : Hid (C6 ((((((w8.setCell ⟨w5.heap.size, 0, none⟩ (.int .i64 u0)).setCell ⟨w5.heap.size, 1, none⟩ (.int .i64 u1)).setCell ⟨w5.heap.size, 2, none⟩ (.int .i64 u2)).setCell ⟨w5.heap.size, 3, none⟩ (.int .i64 u3)).setCell ⟨w5.heap.size, 4, none⟩ (.int .i64 u4)).setCell ⟨w5.heap.size, 5, none⟩ (.int .i64 u5)) ga a0 a1 a2 a3 a4 a5) := c6_set_ne Y8.out hax
              have MN : Hid (D6 ((((((w8.setCell ⟨w5.heap.size, 0, none⟩ (.int .i64 u0)).setCell ⟨w5.heap.size, 1, none⟩ (.int .i64 u1)).setCell ⟨w5.heap.size, 2, none⟩ (.int .i64 u2)).setCell ⟨w5.heap.size, 3, none⟩ (.int .i64 u3)).setCell ⟨w5.heap.size, 4, none⟩ (.int .i64 u4)).setCell ⟨w5.heap.size, 5, none⟩ (.int .i64 u5)) w5.heap.size u0 u1 u2 u3 u4 u5) := D6.set GX8.out u0 u1 u2 u3 u4 u5
              have ON : Hid (D6 ((((((w8.setCell ⟨w5.heap.size, 0, none⟩ (.int .i64 u0)).setCell ⟨w5.heap.size, 1, none⟩ (.int .i64 u1)).setCell ⟨w5.heap.size, 2, none⟩ (.int .i64 u2)).setCell ⟨w5.heap.size, 3, none⟩ (.int .i64 u3)).setCell ⟨w5.heap.size, 4, none⟩ (.int .i64 u4)).setCell ⟨w5.heap.size, 5, none⟩ (.int .i64 u5)) w6.heap.size 0 0 0 0 0 0) := D6.other GY8.out hxy.symm u0 u1 u2 u3 u4 u5
              have HN : Hid (Below w3.heap.size w3 ((((((w8.setCell ⟨w5.heap.size, 0, none⟩ (.int .i64 u0)).setCell ⟨w5.heap.size, 1, none⟩ (.int .i64 u1)).setCell ⟨w5.heap.size, 2, none⟩ (.int .i64 u2)).setCell ⟨w5.heap.size, 3, none⟩ (.int .i64 u3)).setCell ⟨w5.heap.size, 4, none⟩ (.int .i64 u4)).setCell ⟨w5.heap.size, 5, none⟩ (.int .i64 u5))) := below_set6 HC8.out hbx
              refine wpAnyH_ready (rs := [10]) (by kernel_rfl) (by simp) ?_
              refine AllReadyH.cons (o := _) rfl (fun K hK => ?_) AllReadyH.nil
              go_simp
              refine hK.out _ _ ?_ (fun hHeld => ?_)
              · exact YN.out
              clear hK K
              try simp only [Act.put, List.setIfInBounds_toArray, List.set_cons_zero, List.set_cons_succ]
              generalize ((((((w8.setCell ⟨w5.heap.size, 0, none⟩ (.int .i64 u0)).setCell ⟨w5.heap.size, 1, none⟩ (.int .i64 u1)).setCell ⟨w5.heap.size, 2, none⟩ (.int .i64 u2)).setCell ⟨w5.heap.size, 3, none⟩ (.int .i64 u3)).setCell ⟨w5.heap.size, 4, none⟩ (.int .i64 u4)).setCell ⟨w5.heap.size, 5, none⟩ (.int .i64 u5)) = w9 at YN MN ON HN hHeld ⊢
              have Y9 := YN
              have GX9 := MN
              have GY9 := ON
              have HC9 := HN
              clear YN MN ON HN e0 e1 e2 e3 e4 e5 q0 q1 q2 q3 q4 q5 GX8 GY8 Y8 HC8
              have hcel := GY9.out.1
              obtain ⟨e0, e1, e2, e3, e4, e5⟩ := hcel
              have hfr := GY9.out.2
              have q0 := hfr 0
              have q1 := hfr 1
              have q2 := hfr 2
              have q3 := hfr 3
              have q4 := hfr 4
              have q5 := hfr 5
              clear hfr
              have YN : Hid (C6 ((((((w9.setCell ⟨w6.heap.size, 0, none⟩ (.int .i64 s0)).setCell ⟨w6.heap.size, 1, none⟩ (.int .i64 s1)).setCell ⟨w6.heap.size, 2, none⟩ (.int .i64 s2)).setCell ⟨w6.heap.size, 3, none⟩ (.int .i64 s3)).setCell ⟨w6.heap.size, 4, none⟩ (.int .i64 s4)).setCell ⟨w6.heap.size, 5, none⟩ (.int .i64 s5)) ga a0 a1 a2 a3 a4 a5) := c6_set_ne Y9.out hay
              have MN : Hid (D6 ((((((w9.setCell ⟨w6.heap.size, 0, none⟩ (.int .i64 s0)).setCell ⟨w6.heap.size, 1, none⟩ (.int .i64 s1)).setCell ⟨w6.heap.size, 2, none⟩ (.int .i64 s2)).setCell ⟨w6.heap.size, 3, none⟩ (.int .i64 s3)).setCell ⟨w6.heap.size, 4, none⟩ (.int .i64 s4)).setCell ⟨w6.heap.size, 5, none⟩ (.int .i64 s5)) w6.heap.size s0 s1 s2 s3 s4 s5) := D6.set GY9.out s0 s1 s2 s3 s4 s5
              have ON : Hid (D6 ((((((w9.setCell ⟨w6.heap.size, 0, none⟩ (.int .i64 s0)).setCell ⟨w6.heap.size, 1, none⟩ (.int .i64 s1)).setCell ⟨w6.heap.size, 2, none⟩ (.int .i64 s2)).setCell ⟨w6.heap.size, 3, none⟩ (.int .i64 s3)).setCell ⟨w6.heap.size, 4, none⟩ (.int .i64 s4)).setCell ⟨w6.heap.size, 5, none⟩ (.int .i64 s5)) w5.heap.size u0 u1 u2 u3 u4 u5) := D6.other GX9.out hxy s0 s1 s2 s3 s4 s5
              have HN : Hid (Below w3.heap.size w3 ((((((w9.setCell ⟨w6.heap.size, 0, none⟩ (.int .i64 s0)).setCell ⟨w6.heap.size, 1, none⟩ (.int .i64 s1)).setCell ⟨w6.heap.size, 2, none⟩ (.int .i64 s2)).setCell ⟨w6.heap.size, 3, none⟩ (.int .i64 s3)).setCell ⟨w6.heap.size, 4, none⟩ (.int .i64 s4)).setCell ⟨w6.heap.size, 5, none⟩ (.int .i64 s5))) := below_set6 HC9.out hby
              refine wpAnyH_ready (rs := [11]) (by kernel_rfl) (by simp) ?_
              refine AllReadyH.cons (o := _) rfl (fun K hK => ?_) AllReadyH.nil
              go_simp
              refine hK.out _ _ ?_ (fun hHeld => ?_)
              · exact YN.out
              clear hK K
              try simp only [Act.put, List.setIfInBounds_toArray, List.set_cons_zero, List.set_cons_succ]
              generalize ((((((w9.setCell ⟨w6.heap.size, 0, none⟩ (.int .i64 s0)).setCell ⟨w6.heap.size, 1, none⟩ (.int .i64 s1)).setCell ⟨w6.heap.size, 2, none⟩ (.int .i64 s2)).setCell ⟨w6.heap.size, 3, none⟩ (.int .i64 s3)).setCell ⟨w6.heap.size, 4, none⟩ (.int .i64 s4)).setCell ⟨w6.heap.size, 5, none⟩ (.int .i64 s5)) = w10 at YN MN ON HN hHeld ⊢
              have Y10 := YN
              have GY10 := MN
              have GX10 := ON
              have HC10 := HN
              clear YN MN ON HN e0 e1 e2 e3 e4 e5 q0 q1 q2 q3 q4 q5 GX9 GY9 Y9 HC9
              refine wpAnyH_done (by kernel_rfl) ?_ _
              go_wp2_with fail
              go_meet
              exact ⟨w5.heap.size, w6.heap.size, rfl, rfl, hbx, hby, GX10.out.1, GY10.out.1, HC10⟩
        · skip
          go_simp
          have hb : Below w5.heap.size w5 (w5.alloc (Obj.cells #[.int .i64 0, .int .i64 0, .int .i64 0, .int .i64 0, .int .i64 0, .int .i64 0] 53)) := (Below.refl _ _).alloc (Nat.le_refl _) _
          have GN : Hid (D6 (w5.alloc (Obj.cells #[.int .i64 0, .int .i64 0, .int .i64 0, .int .i64 0, .int .i64 0, .int .i64 0] 53)) w5.heap.size 0 0 0 0 0 0) := d6_new rfl
          refine hK.out _ _ ?_ (fun hHeld => ?_)
          · exact Y5.out.keep hb
          clear hK K
          try simp only [Act.put, List.setIfInBounds_toArray, List.set_cons_zero, List.set_cons_succ]
          generalize (w5.alloc (Obj.cells #[.int .i64 0, .int .i64 0, .int .i64 0, .int .i64 0, .int .i64 0, .int .i64 0] 53)) = w6 at hb GN hHeld ⊢
          have HC6 : Hid (Below w3.heap.size w3 w6) := HC5.out.trans (hb.mono HC5.out.size)
          have Y6 : Hid (C6 w6 ga a0 a1 a2 a3 a4 a5) := Y5.out.keep hb
          have sz5 : w3.heap.size ≤ w5.heap.size := HC5.out.size
          have GY6 : Hid (D6 w6 w5.heap.size 0 0 0 0 0 0) := GN
          clear hb GN HC5 Y5
          refine wpAnyH_ready (rs := [4, 8]) (by kernel_rfl) (by simp) ?_
          refine AllReadyH.cons (o := _) rfl (fun K hK => ?_) (AllReadyH.cons (o := _) rfl (fun K hK => ?_) AllReadyH.nil)
          · skip
            go_simp
            go_at_call 40
            refine (timesRows_d (w := w3) HDA.out.1 HPW.out.1 HE.out.1 HE.out.2 _ HC6.out).mono ?_
            rintro e w7 ⟨rfl, hH, hb⟩
            clear hH
            have HC7 : Hid (Below w3.heap.size w3 w7) := HC6.out.trans (hb.mono HC6.out.size)
            have Y7 : Hid (C6 w7 ga a0 a1 a2 a3 a4 a5) := Y6.out.keep hb
            have GY7 : Hid (D6 w7 w5.heap.size 0 0 0 0 0 0) := GY6.out.keep hb
            refine hK.out _ _ ?_ (fun hHeld => ?_)
            · exact Y7.out
            clear hK K hb HC6 Y6 GY6
            try simp only [Act.put, List.setIfInBounds_toArray, List.set_cons_zero, List.set_cons_succ]
            refine takeS (i := 5) (oi := _) (v := ?_) (d := some 33) rfl (by kernel_rfl) (by kernel_rfl) (by kernel_rfl) (by kernel_rfl) (fun _ _ _ h => h) (Or.inl ⟨by rfl, ?_⟩) (by assumption) ?_
            rotate_left
            · (intro w hSw; (try dsimp only at hSw); go_simp <;> with_reducible rfl)
            try simp only [Act.put, List.setIfInBounds_toArray, List.set_cons_zero, List.set_cons_succ]
            refine takeS (i := 6) (oi := _) (v := ?_) (d := some 39) rfl (by kernel_rfl) (by kernel_rfl) (by kernel_rfl) (by kernel_rfl) (fun _ _ _ h => h) (Or.inl ⟨by rfl, ?_⟩) (by assumption) ?_
            rotate_left
            · (intro w hSw; (try dsimp only at hSw); go_simp <;> with_reducible rfl)
            try simp only [Act.put, List.setIfInBounds_toArray, List.set_cons_zero, List.set_cons_succ]
            refine takeS (i := 7) (oi := _) (v := ?_) (d := some 40) rfl (by kernel_rfl) (by kernel_rfl) (by kernel_rfl) (by kernel_rfl) (fun _ _ _ h => h) (Or.inl ⟨by rfl, ?_⟩) (by assumption) ?_
            rotate_left
            · (intro w hSw; (try dsimp only at hSw); go_simp <;> with_reducible rfl)
            try simp only [Act.put, List.setIfInBounds_toArray, List.set_cons_zero, List.set_cons_succ]
            refine wpAnyH_ready (rs := [8]) (by kernel_rfl) (by simp) ?_
            refine AllReadyH.cons (o := _) rfl (fun K hK => ?_) AllReadyH.nil
            · skip
              go_simp
              have hb : Below w7.heap.size w7 (w7.alloc (Obj.cells #[.int .i64 0, .int .i64 0, .int .i64 0, .int .i64 0, .int .i64 0, .int .i64 0] 53)) := (Below.refl _ _).alloc (Nat.le_refl _) _
              have GN : Hid (D6 (w7.alloc (Obj.cells #[.int .i64 0, .int .i64 0, .int .i64 0, .int .i64 0, .int .i64 0, .int .i64 0] 53)) w7.heap.size 0 0 0 0 0 0) := d6_new rfl
              refine hK.out _ _ ?_ (fun hHeld => ?_)
              · exact Y7.out.keep hb
              clear hK K
              try simp only [Act.put, List.setIfInBounds_toArray, List.set_cons_zero, List.set_cons_succ]
              generalize (w7.alloc (Obj.cells #[.int .i64 0, .int .i64 0, .int .i64 0, .int .i64 0, .int .i64 0, .int .i64 0] 53)) = w8 at hb GN hHeld ⊢
              have HC8 : Hid (Below w3.heap.size w3 w8) := HC7.out.trans (hb.mono HC7.out.size)
              have Y8 : Hid (C6 w8 ga a0 a1 a2 a3 a4 a5) := Y7.out.keep hb
              have GY8 : Hid (D6 w8 w5.heap.size 0 0 0 0 0 0) := GY7.out.keep hb
              have sz7 : w3.heap.size ≤ w7.heap.size := HC7.out.size
              have sl7 : w5.heap.size < w7.heap.size := GY7.out.lt
              have GX8 : Hid (D6 w8 w7.heap.size 0 0 0 0 0 0) := GN
              clear hb GN HC7 Y7 GY7
              have lx := GX8.out.lt
              have ly := GY8.out.lt
              have hxy : w7.heap.size ≠ w5.heap.size := by omega
              have hbx : w3.heap.size ≤ w7.heap.size := by omega
              have hby : w3.heap.size ≤ w5.heap.size := by omega
              have hax : ga ≠ w7.heap.size := by omega
              have hay : ga ≠ w5.heap.size := by omega
              have hcel := GX8.out.1
              obtain ⟨e0, e1, e2, e3, e4, e5⟩ := hcel
              have hfr := GX8.out.2
              have q0 := hfr 0
              have q1 := hfr 1
              have q2 := hfr 2
              have q3 := hfr 3
              have q4 := hfr 4
              have q5 := hfr 5
              clear hfr
              have YN : Hid (C6 ((((((w8.setCell ⟨w7.heap.size, 0, none⟩ (.int .i64 u0)).setCell ⟨w7.heap.size, 1, none⟩ (.int .i64 u1)).setCell ⟨w7.heap.size, 2, none⟩ (.int .i64 u2)).setCell ⟨w7.heap.size, 3, none⟩ (.int .i64 u3)).setCell ⟨w7.heap.size, 4, none⟩ (.int .i64 u4)).setCell ⟨w7.heap.size, 5, none⟩ (.int .i64 u5)) ga a0 a1 a2 a3 a4 a5) := c6_set_ne Y8.out hax
              have MN : Hid (D6 ((((((w8.setCell ⟨w7.heap.size, 0, none⟩ (.int .i64 u0)).setCell ⟨w7.heap.size, 1, none⟩ (.int .i64 u1)).setCell ⟨w7.heap.size, 2, none⟩ (.int .i64 u2)).setCell ⟨w7.heap.size, 3, none⟩ (.int .i64 u3)).setCell ⟨w7.heap.size, 4, none⟩ (.int .i64 u4)).setCell ⟨w7.heap.size, 5, none⟩ (.int .i64 u5)) w7.heap.size u0 u1 u2 u3 u4 u5) := D6.set GX8.out u0 u1 u2 u3 u4 u5
              have ON : Hid (D6 ((((((w8.setCell ⟨w7.heap.size, 0, none⟩ (.int .i64 u0)).setCell ⟨w7.heap.size, 1, none⟩ (.int .i64 u1)).setCell ⟨w7.heap.size, 2, none⟩ (.int .i64 u2)).setCell ⟨w7.heap.size, 3, none⟩ (.int .i64 u3)).setCell ⟨w7.heap.size, 4, none⟩ (.int .i64 u4)).setCell ⟨w7.heap.size, 5, none⟩ (.int .i64 u5)) w5.heap.size 0 0 0 0 0 0) := D6.other GY8.out hxy.symm u0 u1 u2 u3 u4 u5
              have HN : Hid (Below w3.heap.size w3 ((((((w8.setCell ⟨w7.heap.size, 0, none⟩ (.int .i64 u0)).setCell ⟨w7.heap.size, 1, none⟩ (.int .i64 u1)).setCell ⟨w7.heap.size, 2, none⟩ (.int .i64 u2)).setCell ⟨w7.heap.size, 3, none⟩ (.int .i64 u3)).setCell ⟨w7.heap.size, 4, none⟩ (.int .i64 u4)).setCell ⟨w7.heap.size, 5, none⟩ (.int .i64 u5))) := below_set6 HC8.out hbx
              refine wpAnyH_ready (rs := [10]) (by kernel_rfl) (by simp) ?_
              refine AllReadyH.cons (o := _) rfl (fun K hK => ?_) AllReadyH.nil
              go_simp
              refine hK.out _ _ ?_ (fun hHeld => ?_)
              · exact YN.out
              clear hK K
              try simp only [Act.put, List.setIfInBounds_toArray, List.set_cons_zero, List.set_cons_succ]
              generalize ((((((w8.setCell ⟨w7.heap.size, 0, none⟩ (.int .i64 u0)).setCell ⟨w7.heap.size, 1, none⟩ (.int .i64 u1)).setCell ⟨w7.heap.size, 2, none⟩ (.int .i64 u2)).setCell ⟨w7.heap.size, 3, none⟩ (.int .i64 u3)).setCell ⟨w7.heap.size, 4, none⟩ (.int .i64 u4)).setCell ⟨w7.heap.size, 5, none⟩ (.int .i64 u5)) = w9 at YN MN ON HN hHeld ⊢
              have Y9 := YN
              have GX9 := MN
              have GY9 := ON
              have HC9 := HN
              clear YN MN ON HN e0 e1 e2 e3 e4 e5 q0 q1 q2 q3 q4 q5 GX8 GY8 Y8 HC8
              have hcel := GY9.out.1
              obtain ⟨e0, e1, e2, e3, e4, e5⟩ := hcel
              have hfr := GY9.out.2
              have q0 := hfr 0
              have q1 := hfr 1
              have q2 := hfr 2
              have q3 := hfr 3
              have q4 := hfr 4
              have q5 := hfr 5
              clear hfr
              have YN : Hid (C6 ((((((w9.setCell ⟨w5.heap.size, 0, none⟩ (.int .i64 s0)).setCell ⟨w5.heap.size, 1, none⟩ (.int .i64 s1)).setCell ⟨w5.heap.size, 2, none⟩ (.int .i64 s2)).setCell ⟨w5.heap.size, 3, none⟩ (.int .i64 s3)).setCell ⟨w5.heap.size, 4, none⟩ (.int .i64 s4)).setCell ⟨w5.heap.size, 5, none⟩ (.int .i64 s5)) ga a0 a1 a2 a3 a4 a5) := c6_set_ne Y9.out hay
              have MN : Hid (D6 ((((((w9.setCell ⟨w5.heap.size, 0, none⟩ (.int .i64 s0)).setCell ⟨w5.heap.size, 1, none⟩ (.int .i64 s1)).setCell ⟨w5.heap.size, 2, none⟩ (.int .i64 s2)).setCell ⟨w5.heap.size, 3, none⟩ (.int .i64 s3)).setCell ⟨w5.heap.size, 4, none⟩ (.int .i64 s4)).setCell ⟨w5.heap.size, 5, none⟩ (.int .i64 s5)) w5.heap.size s0 s1 s2 s3 s4 s5) := D6.set GY9.out s0 s1 s2 s3 s4 s5
              have ON : Hid (D6 ((((((w9.setCell ⟨w5.heap.size, 0, none⟩ (.int .i64 s0)).setCell ⟨w5.heap.size, 1, none⟩ (.int .i64 s1)).setCell ⟨w5.heap.size, 2, none⟩ (.int .i64 s2)).setCell ⟨w5.heap.size, 3, none⟩ (.int .i64 s3)).setCell ⟨w5.heap.size, 4, none⟩ (.int .i64 s4)).setCell ⟨w5.heap.size, 5, none⟩ (.int .i64 s5)) w7.heap.size u0 u1 u2 u3 u4 u5) := D6.other GX9.out hxy s0 s1 s2 s3 s4 s5
              have HN : Hid (Below w3.heap.size w3 ((((((w9.setCell ⟨w5.heap.size, 0, none⟩ (.int .i64 s0)).setCell ⟨w5.heap.size, 1, none⟩ (.int .i64 s1)).setCell ⟨w5.heap.size, 2, none⟩ (.int .i64 s2)).setCell ⟨w5.heap.size, 3, none⟩ (.int .i64 s3)).setCell ⟨w5.heap.size, 4, none⟩ (.int .i64 s4)).setCell ⟨w5.heap.size, 5, none⟩ (.int .i64 s5))) := below_set6 HC9.out hby
              refine wpAnyH_ready (rs := [11]) (by kernel_rfl) (by simp) ?_
              refine AllReadyH.cons (o := _) rfl (fun K hK => ?_) AllReadyH.nil
              go_simp
              refine hK.out _ _ ?_ (fun hHeld => ?_)
              · exact YN.out
              clear hK K
              try simp only [Act.put, List.setIfInBounds_toArray, List.set_cons_zero, List.set_cons_succ]
              generalize ((((((w9.setCell ⟨w5.heap.size, 0, none⟩ (.int .i64 s0)).setCell ⟨w5.heap.size, 1, none⟩ (.int .i64 s1)).setCell ⟨w5.heap.size, 2, none⟩ (.int .i64 s2)).setCell ⟨w5.heap.size, 3, none⟩ (.int .i64 s3)).setCell ⟨w5.heap.size, 4, none⟩ (.int .i64 s4)).setCell ⟨w5.heap.size, 5, none⟩ (.int .i64 s5)) = w10 at YN MN ON HN hHeld ⊢
              have Y10 := YN
              have GY10 := MN
              have GX10 := ON
              have HC10 := HN
              clear YN MN ON HN e0 e1 e2 e3 e4 e5 q0 q1 q2 q3 q4 q5 GX9 GY9 Y9 HC9
              refine wpAnyH_done (by kernel_rfl) ?_ _
              go_wp2_with fail
              go_meet
              exact ⟨w7.heap.size, w5.heap.size, rfl, rfl, hbx, hby, GX10.out.1, GY10.out.1, HC10⟩
          · skip
            go_simp
            have hb : Below w6.heap.size w6 (w6.alloc (Obj.cells #[.int .i64 0, .int .i64 0, .int .i64 0, .int .i64 0, .int .i64 0, .int .i64 0] 53)) := (Below.refl _ _).alloc (Nat.le_refl _) _
            have GN : Hid (D6 (w6.alloc (Obj.cells #[.int .i64 0, .int .i64 0, .int .i64 0, .int .i64 0, .int .i64 0, .int .i64 0] 53)) w6.heap.size 0 0 0 0 0 0) := d6_new rfl
            refine hK.out _ _ ?_ (fun hHeld => ?_)
            · exact Y6.out.keep hb
            clear hK K
            try simp only [Act.put, List.setIfInBounds_toArray, List.set_cons_zero, List.set_cons_succ]
            generalize (w6.alloc (Obj.cells #[.int .i64 0, .int .i64 0, .int .i64 0, .int .i64 0, .int .i64 0, .int .i64 0] 53)) = w7 at hb GN hHeld ⊢
            have HC7 : Hid (Below w3.heap.size w3 w7) := HC6.out.trans (hb.mono HC6.out.size)
            have Y7 : Hid (C6 w7 ga a0 a1 a2 a3 a4 a5) := Y6.out.keep hb
            have GY7 : Hid (D6 w7 w5.heap.size 0 0 0 0 0 0) := GY6.out.keep hb
            have sz6 : w3.heap.size ≤ w6.heap.size := HC6.out.size
            have sl6 : w5.heap.size < w6.heap.size := GY6.out.lt
            have GX7 : Hid (D6 w7 w6.heap.size 0 0 0 0 0 0) := GN
            clear hb GN HC6 Y6 GY6
            refine wpAnyH_ready (rs := [4]) (by kernel_rfl) (by simp) ?_
            refine AllReadyH.cons (o := _) rfl (fun K hK => ?_) AllReadyH.nil
            · skip
              go_simp
              go_at_call 40
              refine (timesRows_d (w := w3) HDA.out.1 HPW.out.1 HE.out.1 HE.out.2 _ HC7.out).mono ?_
              rintro e w8 ⟨rfl, hH, hb⟩
              clear hH
              have HC8 : Hid (Below w3.heap.size w3 w8) := HC7.out.trans (hb.mono HC7.out.size)
              have Y8 : Hid (C6 w8 ga a0 a1 a2 a3 a4 a5) := Y7.out.keep hb
              have GX8 : Hid (D6 w8 w6.heap.size 0 0 0 0 0 0) := GX7.out.keep hb
              have GY8 : Hid (D6 w8 w5.heap.size 0 0 0 0 0 0) := GY7.out.keep hb
              refine hK.out _ _ ?_ (fun hHeld => ?_)
              · exact Y8.out
              clear hK K hb HC7 Y7 GX7 GY7
              try simp only [Act.put, List.setIfInBounds_toArray, List.set_cons_zero, List.set_cons_succ]
              refine takeS (i := 5) (oi := _) (v := ?_) (d := some 33) rfl (by kernel_rfl) (by kernel_rfl) (by kernel_rfl) (by kernel_rfl) (fun _ _ _ h => h) (Or.inl ⟨by rfl, ?_⟩) (by assumption) ?_
              rotate_left
              · (intro w hSw; (try dsimp only at hSw); go_simp <;> with_reducible rfl)
              try simp only [Act.put, List.setIfInBounds_toArray, List.set_cons_zero, List.set_cons_succ]
              refine takeS (i := 6) (oi := _) (v := ?_) (d := some 39) rfl (by kernel_rfl) (by kernel_rfl) (by kernel_rfl) (by kernel_rfl) (fun _ _ _ h => h) (Or.inl ⟨by rfl, ?_⟩) (by assumption) ?_
              rotate_left
              · (intro w hSw; (try dsimp only at hSw); go_simp <;> with_reducible rfl)
              try simp only [Act.put, List.setIfInBounds_toArray, List.set_cons_zero, List.set_cons_succ]
              refine takeS (i := 7) (oi := _) (v := ?_) (d := some 40) rfl (by kernel_rfl) (by kernel_rfl) (by kernel_rfl) (by kernel_rfl) (fun _ _ _ h => h) (Or.inl ⟨by rfl, ?_⟩) (by assumption) ?_
              rotate_left
              · (intro w hSw; (try dsimp only at hSw); go_simp <;> with_reducible rfl)
              try simp only [Act.put, List.setIfInBounds_toArray, List.set_cons_zero, List.set_cons_succ]
              have lx := GX8.out.lt
              have ly := GY8.out.lt
              have hxy : w6.heap.size ≠ w5.heap.size := by omega
              have hbx : w3.heap.size ≤ w6.heap.size := by omega
              have hby : w3.heap.size ≤ w5.heap.size := by omega
              have hax : ga ≠ w6.heap.size := by omega
              have hay : ga ≠ w5.heap.size := by omega
              have hcel := GX8.out.1
              obtain ⟨e0, e1, e2, e3, e4, e5⟩ := hcel
              have hfr := GX8.out.2
              have q0 := hfr 0
              have q1 := hfr 1
              have q2 := hfr 2
              have q3 := hfr 3
              have q4 := hfr 4
              have q5 := hfr 5
              clear hfr
              have YN : Hid (C6 ((((((w8.setCell ⟨w6.heap.size, 0, none⟩ (.int .i64 u0)).setCell ⟨w6.heap.size, 1, none⟩ (.int .i64 u1)).setCell ⟨w6.heap.size, 2, none⟩ (.int .i64 u2)).setCell ⟨w6.heap.size, 3, none⟩ (.int .i64 u3)).setCell ⟨w6.heap.size, 4, none⟩ (.int .i64 u4)).setCell ⟨w6.heap.size, 5, none⟩ (.int .i64 u5)) ga a0 a1 a2 a3 a4 a5) := c6_set_ne Y8.out hax
              have MN : Hid (D6 ((((((w8.setCell ⟨w6.heap.size, 0, none⟩ (.int .i64 u0)).setCell ⟨w6.heap.size, 1, none⟩ (.int .i64 u1)).setCell ⟨w6.heap.size, 2, none⟩ (.int .i64 u2)).setCell ⟨w6.heap.size, 3, none⟩ (.int .i64 u3)).setCell ⟨w6.heap.size, 4, none⟩ (.int .i64 u4)).setCell ⟨w6.heap.size, 5, none⟩ (.int .i64 u5)) w6.heap.size u0 u1 u2 u3 u4 u5) := D6.set GX8.out u0 u1 u2 u3 u4 u5
              have ON : Hid (D6 ((((((w8.setCell ⟨w6.heap.size, 0, none⟩ (.int .i64 u0)).setCell ⟨w6.heap.size, 1, none⟩ (.int .i64 u1)).setCell ⟨w6.heap.size, 2, none⟩ (.int .i64 u2)).setCell ⟨w6.heap.size, 3, none⟩ (.int .i64 u3)).setCell ⟨w6.heap.size, 4, none⟩ (.int .i64 u4)).setCell ⟨w6.heap.size, 5, none⟩ (.int .i64 u5)) w5.heap.size 0 0 0 0 0 0) := D6.other GY8.out hxy.symm u0 u1 u2 u3 u4 u5
              have HN : Hid (Below w3.heap.size w3 ((((((w8.setCell ⟨w6.heap.size, 0, none⟩ (.int .i64 u0)).setCell ⟨w6.heap.size, 1, none⟩ (.int .i64 u1)).setCell ⟨w6.heap.size, 2, none⟩ (.int .i64 u2)).setCell ⟨w6.heap.size, 3, none⟩ (.int .i64 u3)).setCell ⟨w6.heap.size, 4, none⟩ (.int .i64 u4)).setCell ⟨w6.heap.size, 5, none⟩ (.int .i64 u5))) := below_set6 HC8.out hbx
              refine wpAnyH_ready (rs := [10]) (by kernel_rfl) (by simp) ?_
              refine AllReadyH.cons (o := _) rfl (fun K hK => ?_) AllReadyH.nil
              go_simp
              refine hK.out _ _ ?_ (fun hHeld => ?_)
              · exact YN.out
              clear hK K
              try simp only [Act.put, List.setIfInBounds_toArray, List.set_cons_zero, List.set_cons_succ]
              generalize ((((((w8.setCell ⟨w6.heap.size, 0, none⟩ (.int .i64 u0)).setCell ⟨w6.heap.size, 1, none⟩ (.int .i64 u1)).setCell ⟨w6.heap.size, 2, none⟩ (.int .i64 u2)).setCell ⟨w6.heap.size, 3, none⟩ (.int .i64 u3)).setCell ⟨w6.heap.size, 4, none⟩ (.int .i64 u4)).setCell ⟨w6.heap.size, 5, none⟩ (.int .i64 u5)) = w9 at YN MN ON HN hHeld ⊢
              have Y9 := YN
              have GX9 := MN
              have GY9 := ON
              have HC9 := HN
              clear YN MN ON HN e0 e1 e2 e3 e4 e5 q0 q1 q2 q3 q4 q5 GX8 GY8 Y8 HC8
              have hcel := GY9.out.1
              obtain ⟨e0, e1, e2, e3, e4, e5⟩ := hcel
              have hfr := GY9.out.2
              have q0 := hfr 0
              have q1 := hfr 1
              have q2 := hfr 2
              have q3 := hfr 3
              have q4 := hfr 4
              have q5 := hfr 5
              clear hfr
              have YN : Hid (C6 ((((((w9.setCell ⟨w5.heap.size, 0, none⟩ (.int .i64 s0)).setCell ⟨w5.heap.size, 1, none⟩ (.int .i64 s1)).setCell ⟨w5.heap.size, 2, none⟩ (.int .i64 s2)).setCell ⟨w5.heap.size, 3, none⟩ (.int .i64 s3)).setCell ⟨w5.heap.size, 4, none⟩ (.int .i64 s4)).setCell ⟨w5.heap.size, 5, none⟩ (.int .i64 s5)) ga a0 a1 a2 a3 a4 a5) := c6_set_ne Y9.out hay
              have MN : Hid (D6 ((((((w9.setCell ⟨w5.heap.size, 0, none⟩ (.int .i64 s0)).setCell ⟨w5.heap.size, 1, none⟩ (.int .i64 s1)).setCell ⟨w5.heap.size, 2, none⟩ (.int .i64 s2)).setCell ⟨w5.heap.size, 3, none⟩ (.int .i64 s3)).setCell ⟨w5.heap.size, 4, none⟩ (.int .i64 s4)).setCell ⟨w5.heap.size, 5, none⟩ (.int .i64 s5)) w5.heap.size s0 s1 s2 s3 s4 s5) := D6.set GY9.out s0 s1 s2 s3 s4 s5
              have ON : Hid (D6 ((((((w9.setCell ⟨w5.heap.size, 0, none⟩ (.int .i64 s0)).setCell ⟨w5.heap.size, 1, none⟩ (.int .i64 s1)).setCell ⟨w5.heap.size, 2, none⟩ (.int .i64 s2)).setCell ⟨w5.heap.size, 3, none⟩ (.int .i64 s3)).setCell ⟨w5.heap.size, 4, none⟩ (.int .i64 s4)).setCell ⟨w5.heap.size, 5, none⟩ (.int .i64 s5)) w6.heap.size u0 u1 u2 u3 u4 u5) := D6.other GX9.out hxy s0 s1 s2 s3 s4 s5
              have HN : Hid (Below w3.heap.size w3 ((((((w9.setCell ⟨w5.heap.size, 0, none⟩ (.int .i64 s0)).setCell ⟨w5.heap.size, 1, none⟩ (.int .i64 s1)).setCell ⟨w5.heap.size, 2, none⟩ (.int .i64 s2)).setCell ⟨w5.heap.size, 3, none⟩ (.int .i64 s3)).setCell ⟨w5.heap.size, 4, none⟩ (.int .i64 s4)).setCell ⟨w5.heap.size, 5, none⟩ (.int .i64 s5))) := below_set6 HC9.out hby
              refine wpAnyH_ready (rs := [11]) (by kernel_rfl) (by simp) ?_
              refine AllReadyH.cons (o := _) rfl (fun K hK => ?_) AllReadyH.nil
              go_simp
              refine hK.out _ _ ?_ (fun hHeld => ?_)
              · exact YN.out
              clear hK K
              try simp only [Act.put, List.setIfInBounds_toArray, List.set_cons_zero, List.set_cons_succ]
              generalize ((((((w9.setCell ⟨w5.heap.size, 0, none⟩ (.int .i64 s0)).setCell ⟨w5.heap.size, 1, none⟩ (.int .i64 s1)).setCell ⟨w5.heap.size, 2, none⟩ (.int .i64 s2)).setCell ⟨w5.heap.size, 3, none⟩ (.int .i64 s3)).setCell ⟨w5.heap.size, 4, none⟩ (.int .i64 s4)).setCell ⟨w5.heap.size, 5, none⟩ (.int .i64 s5)) = w10 at YN MN ON HN hHeld ⊢
              have Y10 := YN
              have GY10 := MN
              have GX10 := ON
              have HC10 := HN
              clear YN MN ON HN e0 e1 e2 e3 e4 e5 q0 q1 q2 q3 q4 q5 GX9 GY9 Y9 HC9
              refine wpAnyH_done (by kernel_rfl) ?_ _
              go_wp2_with fail
              go_meet
              exact ⟨w6.heap.size, w5.heap.size, rfl, rfl, hbx, hby, GX10.out.1, GY10.out.1, HC10⟩
      · skip
        go_simp
        have hb : Below w4.heap.size w4 (w4.alloc (Obj.cells #[.int .i64 0, .int .i64 0, .int .i64 0, .int .i64 0, .int .i64 0, .int .i64 0] 53)) := (Below.refl _ _).alloc (Nat.le_refl _) _
        have GN : Hid (D6 (w4.alloc (Obj.cells #[.int .i64 0, .int .i64 0, .int .i64 0, .int .i64 0, .int .i64 0, .int .i64 0] 53)) w4.heap.size 0 0 0 0 0 0) := d6_new rfl
        refine hK.out _ _ ?_ (fun hHeld => ?_)
        · exact Y4.out.keep hb
        clear hK K
        try simp only [Act.put, List.setIfInBounds_toArray, List.set_cons_zero, List.set_cons_succ]
        generalize (w4.alloc (Obj.cells #[.int .i64 0, .int .i64 0, .int .i64 0, .int .i64 0, .int .i64 0, .int .i64 0] 53)) = w5 at hb GN hHeld ⊢
        have HC5 : Hid (Below w3.heap.size w3 w5) := HC4.out.trans (hb.mono HC4.out.size)
        have Y5 : Hid (C6 w5 ga a0 a1 a2 a3 a4 a5) := Y4.out.keep hb
        have sz4 : w3.heap.size ≤ w4.heap.size := HC4.out.size
        have GX5 : Hid (D6 w5 w4.heap.size 0 0 0 0 0 0) := GN
        clear hb GN HC4 Y4
        refine wpAnyH_ready (rs := [3, 9]) (by kernel_rfl) (by simp) ?_
        refine AllReadyH.cons (o := _) rfl (fun K hK => ?_) (AllReadyH.cons (o := _) rfl (fun K hK => ?_) AllReadyH.nil)
        · skip
          go_simp
          go_at_call 53
          refine (powerOfTwo_d (k := kq) (w := w3) (by omega) (by omega) HPW.out.1 HPW.out.2 _ HC5.out).mono ?_
          rintro e w6 ⟨rfl, hH, hb⟩
          clear hH
          have HC6 : Hid (Below w3.heap.size w3 w6) := HC5.out.trans (hb.mono HC5.out.size)
          have Y6 : Hid (C6 w6 ga a0 a1 a2 a3 a4 a5) := Y5.out.keep hb
          have GX6 : Hid (D6 w6 w4.heap.size 0 0 0 0 0 0) := GX5.out.keep hb
          refine hK.out _ _ ?_ (fun hHeld => ?_)
          · exact Y6.out
          clear hK K hb HC5 Y5 GX5
          try simp only [Act.put, List.setIfInBounds_toArray, List.set_cons_zero, List.set_cons_succ]
          refine wpAnyH_ready (rs := [4, 9]) (by kernel_rfl) (by simp) ?_
          refine AllReadyH.cons (o := _) rfl (fun K hK => ?_) (AllReadyH.cons (o := _) rfl (fun K hK => ?_) AllReadyH.nil)
          · skip
            go_simp
            go_at_call 40
            refine (timesRows_d (w := w3) HDA.out.1 HPW.out.1 HE.out.1 HE.out.2 _ HC6.out).mono ?_
            rintro e w7 ⟨rfl, hH, hb⟩
            clear hH
            have HC7 : Hid (Below w3.heap.size w3 w7) := HC6.out.trans (hb.mono HC6.out.size)
            have Y7 : Hid (C6 w7 ga a0 a1 a2 a3 a4 a5) := Y6.out.keep hb
            have GX7 : Hid (D6 w7 w4.heap.size 0 0 0 0 0 0) := GX6.out.keep hb
            refine hK.out _ _ ?_ (fun hHeld => ?_)
            · exact Y7.out
            clear hK K hb HC6 Y6 GX6
            try simp only [Act.put, List.setIfInBounds_toArray, List.set_cons_zero, List.set_cons_succ]
            refine takeS (i := 5) (oi := _) (v := ?_) (d := some 33) rfl (by kernel_rfl) (by kernel_rfl) (by kernel_rfl) (by kernel_rfl) (fun _ _ _ h => h) (Or.inl ⟨by rfl, ?_⟩) (by assumption) ?_
            rotate_left
            · (intro w hSw; (try dsimp only at hSw); go_simp <;> with_reducible rfl)
            try simp only [Act.put, List.setIfInBounds_toArray, List.set_cons_zero, List.set_cons_succ]
            refine takeS (i := 6) (oi := _) (v := ?_) (d := some 39) rfl (by kernel_rfl) (by kernel_rfl) (by kernel_rfl) (by kernel_rfl) (fun _ _ _ h => h) (Or.inl ⟨by rfl, ?_⟩) (by assumption) ?_
            rotate_left
            · (intro w hSw; (try dsimp only at hSw); go_simp <;> with_reducible rfl)
            try simp only [Act.put, List.setIfInBounds_toArray, List.set_cons_zero, List.set_cons_succ]
            refine takeS (i := 7) (oi := _) (v := ?_) (d := some 40) rfl (by kernel_rfl) (by kernel_rfl) (by kernel_rfl) (by kernel_rfl) (fun _ _ _ h => h) (Or.inl ⟨by rfl, ?_⟩) (by assumption) ?_
            rotate_left
            · (intro w hSw; (try dsimp only at hSw); go_simp <;> with_reducible rfl)
            try simp only [Act.put, List.setIfInBounds_toArray, List.set_cons_zero, List.set_cons_succ]
            refine wpAnyH_ready (rs := [9]) (by kernel_rfl) (by simp) ?_
            refine AllReadyH.cons (o := _) rfl (fun K hK => ?_) AllReadyH.nil
            · skip
              go_simp
              have hb : Below w7.heap.size w7 (w7.alloc (Obj.cells #[.int .i64 0, .int .i64 0, .int .i64 0, .int .i64 0, .int .i64 0, .int .i64 0] 53)) := (Below.refl _ _).alloc (Nat.le_refl _) _
              have GN : Hid (D6 (w7.alloc (Obj.cells #[.int .i64 0, .int .i64 0, .int .i64 0, .int .i64 0, .int .i64 0, .int .i64 0] 53)) w7.heap.size 0 0 0 0 0 0) := d6_new rfl
              refine hK.out _ _ ?_ (fun hHeld => ?_)
              · exact Y7.out.keep hb
              clear hK K
              try simp only [Act.put, List.setIfInBounds_toArray, List.set_cons_zero, List.set_cons_succ]
              generalize (w7.alloc (Obj.cells #[.int .i64 0, .int .i64 0, .int .i64 0, .int .i64 0, .int .i64 0, .int .i64 0] 53)) = w8 at hb GN hHeld ⊢
              have HC8 : Hid (Below w3.heap.size w3 w8) := HC7.out.trans (hb.mono HC7.out.size)
              have Y8 : Hid (C6 w8 ga a0 a1 a2 a3 a4 a5) := Y7.out.keep hb
              have GX8 : Hid (D6 w8 w4.heap.size 0 0 0 0 0 0) := GX7.out.keep hb
              have sz7 : w3.heap.size ≤ w7.heap.size := HC7.out.size
              have sl7 : w4.heap.size < w7.heap.size := GX7.out.lt
              have GY8 : Hid (D6 w8 w7.heap.size 0 0 0 0 0 0) := GN
              clear hb GN HC7 Y7 GX7
              have lx := GX8.out.lt
              have ly := GY8.out.lt
              have hxy : w4.heap.size ≠ w7.heap.size := by omega
              have hbx : w3.heap.size ≤ w4.heap.size := by omega
              have hby : w3.heap.size ≤ w7.heap.size := by omega
              have hax : ga ≠ w4.heap.size := by omega
              have hay : ga ≠ w7.heap.size := by omega
              have hcel := GX8.out.1
              obtain ⟨e0, e1, e2, e3, e4, e5⟩ := hcel
              have hfr := GX8.out.2
              have q0 := hfr 0
              have q1 := hfr 1
              have q2 := hfr 2
              have q3 := hfr 3
              have q4 := hfr 4
              have q5 := hfr 5
              clear hfr
              have YN : Hid (C6 ((((((w8.setCell ⟨w4.heap.size, 0, none⟩ (.int .i64 u0)).setCell ⟨w4.heap.size, 1, none⟩ (.int .i64 u1)).setCell ⟨w4.heap.size, 2, none⟩ (.int .i64 u2)).setCell ⟨w4.heap.size, 3, none⟩ (.int .i64 u3)).setCell ⟨w4.heap.size, 4, none⟩ (.int .i64 u4)).setCell ⟨w4.heap.size, 5, none⟩ (.int .i64 u5)) ga a0 a1 a2 a3 a4 a5) := c6_set_ne Y8.out hax
              have MN : Hid (D6 ((((((w8.setCell ⟨w4.heap.size, 0, none⟩ (.int .i64 u0)).setCell ⟨w4.heap.size, 1, none⟩ (.int .i64 u1)).setCell ⟨w4.heap.size, 2, none⟩ (.int .i64 u2)).setCell ⟨w4.heap.size, 3, none⟩ (.int .i64 u3)).setCell ⟨w4.heap.size, 4, none⟩ (.int .i64 u4)).setCell ⟨w4.heap.size, 5, none⟩ (.int .i64 u5)) w4.heap.size u0 u1 u2 u3 u4 u5) := D6.set GX8.out u0 u1 u2 u3 u4 u5
              have ON : Hid (D6 ((((((w8.setCell ⟨w4.heap.size, 0, none⟩ (.int .i64 u0)).setCell ⟨w4.heap.size, 1, none⟩ (.int .i64 u1)).setCell ⟨w4.heap.size, 2, none⟩ (.int .i64 u2)).setCell ⟨w4.heap.size, 3, none⟩ (.int .i64 u3)).setCell ⟨w4.heap.size, 4, none⟩ (.int .i64 u4)).setCell ⟨w4.heap.size, 5, none⟩ (.int .i64 u5)) w7.heap.size 0 0 0 0 0 0) := D6.other GY8.out hxy.symm u0 u1 u2 u3 u4 u5
              have HN : Hid (Below w3.heap.size w3 ((((((w8.setCell ⟨w4.heap.size, 0, none⟩ (.int .i64 u0)).setCell ⟨w4.heap.size, 1, none⟩ (.int .i64 u1)).setCell ⟨w4.heap.size, 2, none⟩ (.int .i64 u2)).setCell ⟨w4.heap.size, 3, none⟩ (.int .i64 u3)).setCell ⟨w4.heap.size, 4, none⟩ (.int .i64 u4)).setCell ⟨w4.heap.size, 5, none⟩ (.int .i64 u5))) := below_set6 HC8.out hbx
              refine wpAnyH_ready (rs := [10]) (by kernel_rfl) (by simp) ?_
              refine AllReadyH.cons (o := _) rfl (fun K hK => ?_) AllReadyH.nil
              go_simp
              refine hK.out _ _ ?_ (fun hHeld => ?_)
              · exact YN.out
              clear hK K
              try simp only [Act.put, List.setIfInBounds_toArray, List.set_cons_zero, List.set_cons_succ]
              generalize ((((((w8.setCell ⟨w4.heap.size, 0, none⟩ (.int .i64 u0)).setCell ⟨w4.heap.size, 1, none⟩ (.int .i64 u1)).setCell ⟨w4.heap.size, 2, none⟩ (.int .i64 u2)).setCell ⟨w4.heap.size, 3, none⟩ (.int .i64 u3)).setCell ⟨w4.heap.size, 4, none⟩ (.int .i64 u4)).setCell ⟨w4.heap.size, 5, none⟩ (.int .i64 u5)) = w9 at YN MN ON HN hHeld ⊢
              have Y9 := YN
              have GX9 := MN
              have GY9 := ON
              have HC9 := HN
              clear YN MN ON HN e0 e1 e2 e3 e4 e5 q0 q1 q2 q3 q4 q5 GX8 GY8 Y8 HC8
              have hcel := GY9.out.1
              obtain ⟨e0, e1, e2, e3, e4, e5⟩ := hcel
              have hfr := GY9.out.2
              have q0 := hfr 0
              have q1 := hfr 1
              have q2 := hfr 2
              have q3 := hfr 3
              have q4 := hfr 4
              have q5 := hfr 5
              clear hfr
              have YN : Hid (C6 ((((((w9.setCell ⟨w7.heap.size, 0, none⟩ (.int .i64 s0)).setCell ⟨w7.heap.size, 1, none⟩ (.int .i64 s1)).setCell ⟨w7.heap.size, 2, none⟩ (.int .i64 s2)).setCell ⟨w7.heap.size, 3, none⟩ (.int .i64 s3)).setCell ⟨w7.heap.size, 4, none⟩ (.int .i64 s4)).setCell ⟨w7.heap.size, 5, none⟩ (.int .i64 s5)) ga a0 a1 a2 a3 a4 a5) := c6_set_ne Y9.out hay
              have MN : Hid (D6 ((((((w9.setCell ⟨w7.heap.size, 0, none⟩ (.int .i64 s0)).setCell ⟨w7.heap.size, 1, none⟩ (.int .i64 s1)).setCell ⟨w7.heap.size, 2, none⟩ (.int .i64 s2)).setCell ⟨w7.heap.size, 3, none⟩ (.int .i64 s3)).setCell ⟨w7.heap.size, 4, none⟩ (.int .i64 s4)).setCell ⟨w7.heap.size, 5, none⟩ (.int .i64 s5)) w7.heap.size s0 s1 s2 s3 s4 s5) := D6.set GY9.out s0 s1 s2 s3 s4 s5
              have ON : Hid (D6 ((((((w9.setCell ⟨w7.heap.size, 0, none⟩ (.int .i64 s0)).setCell ⟨w7.heap.size, 1, none⟩ (.int .i64 s1)).setCell ⟨w7.heap.size, 2, none⟩ (.int .i64 s2)).setCell ⟨w7.heap.size, 3, none⟩ (.int .i64 s3)).setCell ⟨w7.heap.size, 4, none⟩ (.int .i64 s4)).setCell ⟨w7.heap.size, 5, none⟩ (.int .i64 s5)) w4.heap.size u0 u1 u2 u3 u4 u5) := D6.other GX9.out hxy s0 s1 s2 s3 s4 s5
              have HN : Hid (Below w3.heap.size w3 ((((((w9.setCell ⟨w7.heap.size, 0, none⟩ (.int .i64 s0)).setCell ⟨w7.heap.size, 1, none⟩ (.int .i64 s1)).setCell ⟨w7.heap.size, 2, none⟩ (.int .i64 s2)).setCell ⟨w7.heap.size, 3, none⟩ (.int .i64 s3)).setCell ⟨w7.heap.size, 4, none⟩ (.int .i64 s4)).setCell ⟨w7.heap.size, 5, none⟩ (.int .i64 s5))) := below_set6 HC9.out hby
              refine wpAnyH_ready (rs := [11]) (by kernel_rfl) (by simp) ?_
              refine AllReadyH.cons (o := _) rfl (fun K hK => ?_) AllReadyH.nil
              go_simp
              refine hK.out _ _ ?_ (fun hHeld => ?_)
              · exact YN.out
              clear hK K
              try simp only [Act.put, List.setIfInBounds_toArray, List.set_cons_zero, List.set_cons_succ]
              generalize ((((((w9.setCell ⟨w7.heap.size, 0, none⟩ (.int .i64 s0)).setCell ⟨w7.heap.size, 1, none⟩ (.int .i64 s1)).setCell ⟨w7.heap.size, 2, none⟩ (.int .i64 s2)).setCell ⟨w7.heap.size, 3, none⟩ (.int .i64 s3)).setCell ⟨w7.heap.size, 4, none⟩ (.int .i64 s4)).setCell ⟨w7.heap.size, 5, none⟩ (.int .i64 s5)) = w10 at YN MN ON HN hHeld ⊢
              have Y10 := YN
              have GY10 := MN
              have GX10 := ON
              have HC10 := HN
              clear YN MN ON HN e0 e1 e2 e3 e4 e5 q0 q1 q2 q3 q4 q5 GX9 GY9 Y9 HC9
              refine wpAnyH_done (by kernel_rfl) ?_ _
              go_wp2_with fail
              go_meet
              exact ⟨w4.heap.size, w7.heap.size, rfl, rfl, hbx, hby, GX10.out.1, GY10.out.1, HC10⟩
          · skip
            go_simp
            have hb : Below w6.heap.size w6 (w6.alloc (Obj.cells #[.int .i64 0, .int .i64 0, .int .i64 0, .int .i64 0, .int .i64 0, .int .i64 0] 53)) := (Below.refl _ _).alloc (Nat.le_refl _) _
            have GN : Hid (D6 (w6.alloc (Obj.cells #[.int .i64 0, .int .i64 0, .int .i64 0, .int .i64 0, .int .i64 0, .int .i64 0] 53)) w6.heap.size 0 0 0 0 0 0) := d6_new rfl
            refine hK.out _ _ ?_ (fun hHeld => ?_)
            · exact Y6.out.keep hb
            clear hK K
            try simp only [Act.put, List.setIfInBounds_toArray, List.set_cons_zero, List.set_cons_succ]
            generalize (w6.alloc (Obj.cells #[.int .i64 0, .int .i64 0, .int .i64 0, .int .i64 0, .int .i64 0, .int .i64 0] 53)) = w7 at hb GN hHeld ⊢
            have HC7 : Hid (Below w3.heap.size w3 w7) := HC6.out.trans (hb.mono HC6.out.size)
            have Y7 : Hid (C6 w7 ga a0 a1 a2 a3 a4 a5) := Y6.out.keep hb
            have GX7 : Hid (D6 w7 w4.heap.size 0 0 0 0 0 0) := GX6.out.keep hb
            have sz6 : w3.heap.size ≤ w6.heap.size := HC6.out.size
            have sl6 : w4.heap.size < w6.heap.size := GX6.out.lt
            have GY7 : Hid (D6 w7 w6.heap.size 0 0 0 0 0 0) := GN
            clear hb GN HC6 Y6 GX6
            refine wpAnyH_ready (rs := [4]) (by kernel_rfl) (by simp) ?_
            refine AllReadyH.cons (o := _) rfl (fun K hK => ?_) AllReadyH.nil
            · skip
              go_simp
              go_at_call 40
              refine (timesRows_d (w := w3) HDA.out.1 HPW.out.1 HE.out.1 HE.out.2 _ HC7.out).mono ?_
              rintro e w8 ⟨rfl, hH, hb⟩
              clear hH
              have HC8 : Hid (Below w3.heap.size w3 w8) := HC7.out.trans (hb.mono HC7.out.size)
              have Y8 : Hid (C6 w8 ga a0 a1 a2 a3 a4 a5) := Y7.out.keep hb
              have GX8 : Hid (D6 w8 w4.heap.size 0 0 0 0 0 0) := GX7.out.keep hb
              have GY8 : Hid (D6 w8 w6.heap.size 0 0 0 0 0 0) := GY7.out.keep hb
              refine hK.out _ _ ?_ (fun hHeld => ?_)
              · exact Y8.out
              clear hK K hb HC7 Y7 GX7 GY7
              try simp only [Act.put, List.setIfInBounds_toArray, List.set_cons_zero, List.set_cons_succ]
              refine takeS (i := 5) (oi := _) (v := ?_) (d := some 33) rfl (by kernel_rfl) (by kernel_rfl) (by kernel_rfl) (by kernel_rfl) (fun _ _ _ h => h) (Or.inl ⟨by rfl, ?_⟩) (by assumption) ?_
              rotate_left
              · (intro w hSw; (try dsimp only at hSw); go_simp <;> with_reducible rfl)
              try simp only [Act.put, List.setIfInBounds_toArray, List.set_cons_zero, List.set_cons_succ]
              refine takeS (i := 6) (oi := _) (v := ?_) (d := some 39) rfl (by kernel_rfl) (by kernel_rfl) (by kernel_rfl) (by kernel_rfl) (fun _ _ _ h => h) (Or.inl ⟨by rfl, ?_⟩) (by assumption) ?_
              rotate_left
              · (intro w hSw; (try dsimp only at hSw); go_simp <;> with_reducible rfl)
              try simp only [Act.put, List.setIfInBounds_toArray, List.set_cons_zero, List.set_cons_succ]
              refine takeS (i := 7) (oi := _) (v := ?_) (d := some 40) rfl (by kernel_rfl) (by kernel_rfl) (by kernel_rfl) (by kernel_rfl) (fun _ _ _ h => h) (Or.inl ⟨by rfl, ?_⟩) (by assumption) ?_
              rotate_left
              · (intro w hSw; (try dsimp only at hSw); go_simp <;> with_reducible rfl)
              try simp only [Act.put, List.setIfInBounds_toArray, List.set_cons_zero, List.set_cons_succ]
              have lx := GX8.out.lt
              have ly := GY8.out.lt
              have hxy : w4.heap.size ≠ w6.heap.size := by omega
              have hbx : w3.heap.size ≤ w4.heap.size := by omega
              have hby : w3.heap.size ≤ w6.heap.size := by omega
              have hax : ga ≠ w4.heap.size := by omega
              have hay : ga ≠ w6.heap.size := by omega
              have hcel := GX8.out.1
              obtain ⟨e0, e1, e2, e3, e4, e5⟩ := hcel
              have hfr := GX8.out.2
              have q0 := hfr 0
              have q1 := hfr 1
              have q2 := hfr 2
              have q3 := hfr 3
              have q4 := hfr 4
              have q5 := hfr 5
              clear hfr
              have YN : Hid (C6 ((((((w8.setCell ⟨w4.heap.size, 0, none⟩ (.int .i64 u0)).setCell ⟨w4.heap.size, 1, none⟩ (.int .i64 u1)).setCell ⟨w4.heap.size, 2, none⟩ (.int .i64 u2)).setCell ⟨w4.heap.size, 3, none⟩ (.int .i64 u3)).setCell ⟨w4.heap.size, 4, none⟩ (.int .i64 u4)).setCell ⟨w4.heap.size, 5, none⟩ (.int .i64 u5)) ga a0 a1 a2 a3 a4 a5) := c6_set_ne Y8.out hax
              have MN : Hid (D6 ((((((w8.setCell ⟨w4.heap.size, 0, none⟩ (.int .i64 u0)).setCell ⟨w4.heap.size, 1, none⟩ (.int .i64 u1)).setCell ⟨w4.heap.size, 2, none⟩ (.int .i64 u2)).setCell ⟨w4.heap.size, 3, none⟩ (.int .i64 u3)).setCell ⟨w4.heap.size, 4, none⟩ (.int .i64 u4)).setCell ⟨w4.heap.size, 5, none⟩ (.int .i64 u5)) w4.heap.size u0 u1 u2 u3 u4 u5) := D6.set GX8.out u0 u1 u2 u3 u4 u5
              have ON : Hid (D6 ((((((w8.setCell ⟨w4.heap.size, 0, none⟩ (.int .i64 u0)).setCell ⟨w4.heap.size, 1, none⟩ (.int .i64 u1)).setCell ⟨w4.heap.size, 2, none⟩ (.int .i64 u2)).setCell ⟨w4.heap.size, 3, none⟩ (.int .i64 u3)).setCell ⟨w4.heap.size, 4, none⟩ (.int .i64 u4)).setCell ⟨w4.heap.size, 5, none⟩ (.int .i64 u5)) w6.heap.size 0 0 0 0 0 0) := D6.other GY8.out hxy.symm u0 u1 u2 u3 u4 u5
              have HN : Hid (Below w3.heap.size w3 ((((((w8.setCell ⟨w4.heap.size, 0, none⟩ (.int .i64 u0)).setCell ⟨w4.heap.size, 1, none⟩ (.int .i64 u1)).setCell ⟨w4.heap.size, 2, none⟩ (.int .i64 u2)).setCell ⟨w4.heap.size, 3, none⟩ (.int .i64 u3)).setCell ⟨w4.heap.size, 4, none⟩ (.int .i64 u4)).setCell ⟨w4.heap.size, 5, none⟩ (.int .i64 u5))) := below_set6 HC8.out hbx
              refine wpAnyH_ready (rs := [10]) (by kernel_rfl) (by simp) ?_
              refine AllReadyH.cons (o := _) rfl (fun K hK => ?_) AllReadyH.nil
              go_simp
              refine hK.out _ _ ?_ (fun hHeld => ?_)
              · exact YN.out
              clear hK K
              try simp only [Act.put, List.setIfInBounds_toArray, List.set_cons_zero, List.set_cons_succ]
              generalize ((((((w8.setCell ⟨w4.heap.size, 0, none⟩ (.int .i64 u0)).setCell ⟨w4.heap.size, 1, none⟩ (.int .i64 u1)).setCell ⟨w4.heap.size, 2, none⟩ (.int .i64 u2)).setCell ⟨w4.heap.size, 3, none⟩ (.int .i64 u3)).setCell ⟨w4.heap.size, 4, none⟩ (.int .i64 u4)).setCell ⟨w4.heap.size, 5, none⟩ (.int .i64 u5)) = w9 at YN MN ON HN hHeld ⊢
              have Y9 := YN
              have GX9 := MN
              have GY9 := ON
              have HC9 := HN
              clear YN MN ON HN e0 e1 e2 e3 e4 e5 q0 q1 q2 q3 q4 q5 GX8 GY8 Y8 HC8
              have hcel := GY9.out.1
              obtain ⟨e0, e1, e2, e3, e4, e5⟩ := hcel
              have hfr := GY9.out.2
              have q0 := hfr 0
              have q1 := hfr 1
              have q2 := hfr 2
              have q3 := hfr 3
              have q4 := hfr 4
              have q5 := hfr 5
              clear hfr
              have YN : Hid (C6 ((((((w9.setCell ⟨w6.heap.size, 0, none⟩ (.int .i64 s0)).setCell ⟨w6.heap.size, 1, none⟩ (.int .i64 s1)).setCell ⟨w6.heap.size, 2, none⟩ (.int .i64 s2)).setCell ⟨w6.heap.size, 3, none⟩ (.int .i64 s3)).setCell ⟨w6.heap.size, 4, none⟩ (.int .i64 s4)).setCell ⟨w6.heap.size, 5, none⟩ (.int .i64 s5)) ga a0 a1 a2 a3 a4 a5) := c6_set_ne Y9.out hay
              have MN : Hid (D6 ((((((w9.setCell ⟨w6.heap.size, 0, none⟩ (.int .i64 s0)).setCell ⟨w6.heap.size, 1, none⟩ (.int .i64 s1)).setCell ⟨w6.heap.size, 2, none⟩ (.int .i64 s2)).setCell ⟨w6.heap.size, 3, none⟩ (.int .i64 s3)).setCell ⟨w6.heap.size, 4, none⟩ (.int .i64 s4)).setCell ⟨w6.heap.size, 5, none⟩ (.int .i64 s5)) w6.heap.size s0 s1 s2 s3 s4 s5) := D6.set GY9.out s0 s1 s2 s3 s4 s5
              have ON : Hid (D6 ((((((w9.setCell ⟨w6.heap.size, 0, none⟩ (.int .i64 s0)).setCell ⟨w6.heap.size, 1, none⟩ (.int .i64 s1)).setCell ⟨w6.heap.size, 2, none⟩ (.int .i64 s2)).setCell ⟨w6.heap.size, 3, none⟩ (.int .i64 s3)).setCell ⟨w6.heap.size, 4, none⟩ (.int .i64 s4)).setCell ⟨w6.heap.size, 5, none⟩ (.int .i64 s5)) w4.heap.size u0 u1 u2 u3 u4 u5) := D6.other GX9.out hxy s0 s1 s2 s3 s4 s5
              have HN : Hid (Below w3.heap.size w3 ((((((w9.setCell ⟨w6.heap.size, 0, none⟩ (.int .i64 s0)).setCell ⟨w6.heap.size, 1, none⟩ (.int .i64 s1)).setCell ⟨w6.heap.size, 2, none⟩ (.int .i64 s2)).setCell ⟨w6.heap.size, 3, none⟩ (.int .i64 s3)).setCell ⟨w6.heap.size, 4, none⟩ (.int .i64 s4)).setCell ⟨w6.heap.size, 5, none⟩ (.int .i64 s5))) := below_set6 HC9.out hby
              refine wpAnyH_ready (rs := [11]) (by kernel_rfl) (by simp) ?_
              refine AllReadyH.cons (o := _) rfl (fun K hK => ?_) AllReadyH.nil
              go_simp
              refine hK.out _ _ ?_ (fun hHeld => ?_)
              · exact YN.out
              clear hK K
              try simp only [Act.put, List.setIfInBounds_toArray, List.set_cons_zero, List.set_cons_succ]
              generalize ((((((w9.setCell ⟨w6.heap.size, 0, none⟩ (.int .i64 s0)).setCell ⟨w6.heap.size, 1, none⟩ (.int .i64 s1)).setCell ⟨w6.heap.size, 2, none⟩ (.int .i64 s2)).setCell ⟨w6.heap.size, 3, none⟩ (.int .i64 s3)).setCell ⟨w6.heap.size, 4, none⟩ (.int .i64 s4)).setCell ⟨w6.heap.size, 5, none⟩ (.int .i64 s5)) = w10 at YN MN ON HN hHeld ⊢
              have Y10 := YN
              have GY10 := MN
              have GX10 := ON
              have HC10 := HN
              clear YN MN ON HN e0 e1 e2 e3 e4 e5 q0 q1 q2 q3 q4 q5 GX9 GY9 Y9 HC9
              refine wpAnyH_done (by kernel_rfl) ?_ _
              go_wp2_with fail
              go_meet
              exact ⟨w4.heap.size, w6.heap.size, rfl, rfl, hbx, hby, GX10.out.1, GY10.out.1, HC10⟩
        · skip
          go_simp
          have hb : Below w5.heap.size w5 (w5.alloc (Obj.cells #[.int .i64 0, .int .i64 0, .int .i64 0, .int .i64 0, .int .i64 0, .int .i64 0] 53)) := (Below.refl _ _).alloc (Nat.le_refl _) _
          have GN : Hid (D6 (w5.alloc (Obj.cells #[.int .i64 0, .int .i64 0, .int .i64 0, .int .i64 0, .int .i64 0, .int .i64 0] 53)) w5.heap.size 0 0 0 0 0 0) := d6_new rfl
          refine hK.out _ _ ?_ (fun hHeld => ?_)
          · exact Y5.out.keep hb
          clear hK K
          try simp only [Act.put, List.setIfInBounds_toArray, List.set_cons_zero, List.set_cons_succ]
          generalize (w5.alloc (Obj.cells #[.int .i64 0, .int .i64 0, .int .i64 0, .int .i64 0, .int .i64 0, .int .i64 0] 53)) = w6 at hb GN hHeld ⊢
          have HC6 : Hid (Below w3.heap.size w3 w6) := HC5.out.trans (hb.mono HC5.out.size)
          have Y6 : Hid (C6 w6 ga a0 a1 a2 a3 a4 a5) := Y5.out.keep hb
          have GX6 : Hid (D6 w6 w4.heap.size 0 0 0 0 0 0) := GX5.out.keep hb
          have sz5 : w3.heap.size ≤ w5.heap.size := HC5.out.size
          have sl5 : w4.heap.size < w5.heap.size := GX5.out.lt
          have GY6 : Hid (D6 w6 w5.heap.size 0 0 0 0 0 0) := GN
          clear hb GN HC5 Y5 GX5
          refine wpAnyH_ready (rs := [3]) (by kernel_rfl) (by simp) ?_
          refine AllReadyH.cons (o := _) rfl (fun K hK => ?_) AllReadyH.nil
          · skip
            go_simp
            go_at_call 53
            refine (powerOfTwo_d (k := kq) (w := w3) (by omega) (by omega) HPW.out.1 HPW.out.2 _ HC6.out).mono ?_
            rintro e w7 ⟨rfl, hH, hb⟩
            clear hH
            have HC7 : Hid (Below w3.heap.size w3 w7) := HC6.out.trans (hb.mono HC6.out.size)
            have Y7 : Hid (C6 w7 ga a0 a1 a2 a3 a4 a5) := Y6.out.keep hb
            have GX7 : Hid (D6 w7 w4.heap.size 0 0 0 0 0 0) := GX6.out.keep hb
            have GY7 : Hid (D6 w7 w5.heap.size 0 0 0 0 0 0) := GY6.out.keep hb
            refine hK.out _ _ ?_ (fun hHeld => ?_)
            · exact Y7.out
            clear hK K hb HC6 Y6 GX6 GY6
            try simp only [Act.put, List.setIfInBounds_toArray, List.set_cons_zero, List.set_cons_succ]
            refine wpAnyH_ready (rs := [4]) (by kernel_rfl) (by simp) ?_
            refine AllReadyH.cons (o := _) rfl (fun K hK => ?_) AllReadyH.nil
            · skip
              go_simp
              go_at_call 40
              refine (timesRows_d (w := w3) HDA.out.1 HPW.out.1 HE.out.1 HE.out.2 _ HC7.out).mono ?_
              rintro e w8 ⟨rfl, hH, hb⟩
              clear hH
              have HC8 : Hid (Below w3.heap.size w3 w8) := HC7.out.trans (hb.mono HC7.out.size)
              have Y8 : Hid (C6 w8 ga a0 a1 a2 a3 a4 a5) := Y7.out.keep hb
              have GX8 : Hid (D6 w8 w4.heap.size 0 0 0 0 0 0) := GX7.out.keep hb
              have GY8 : Hid (D6 w8 w5.heap.size 0 0 0 0 0 0) := GY7.out.keep hb
              refine hK.out _ _ ?_ (fun hHeld => ?_)
              · exact Y8.out
              clear hK K hb HC7 Y7 GX7 GY7
              try simp only [Act.put, List.setIfInBounds_toArray, List.set_cons_zero, List.set_cons_succ]
              refine takeS (i := 5) (oi := _) (v := ?_) (d := some 33) rfl (by kernel_rfl) (by kernel_rfl) (by kernel_rfl) (by kernel_rfl) (fun _ _ _ h => h) (Or.inl ⟨by rfl, ?_⟩) (by assumption) ?_
              rotate_left
              · (intro w hSw; (try dsimp only at hSw); go_simp <;> with_reducible rfl)
              try simp only [Act.put, List.setIfInBounds_toArray, List.set_cons_zero, List.set_cons_succ]
              refine takeS (i := 6) (oi := _) (v := ?_) (d := some 39) rfl (by kernel_rfl) (by kernel_rfl) (by kernel_rfl) (by kernel_rfl) (fun _ _ _ h => h) (Or.inl ⟨by rfl, ?_⟩) (by assumption) ?_
              rotate_left
              · (intro w hSw; (try dsimp only at hSw); go_simp <;> with_reducible rfl)
              try simp only [Act.put, List.setIfInBounds_toArray, List.set_cons_zero, List.set_cons_succ]
              refine takeS (i := 7) (oi := _) (v := ?_) (d := some 40) rfl (by kernel_rfl) (by kernel_rfl) (by kernel_rfl) (by kernel_rfl) (fun _ _ _ h => h) (Or.inl ⟨by rfl, ?_⟩) (by assumption) ?_
              rotate_left
              · (intro w hSw; (try dsimp only at hSw); go_simp <;> with_reducible rfl)
              try simp only [Act.put, List.setIfInBounds_toArray, List.set_cons_zero, List.set_cons_succ]
              have lx := GX8.out.lt
              have ly := GY8.out.lt
              have hxy : w4.heap.size ≠ w5.heap.size := by omega
              have hbx : w3.heap.size ≤ w4.heap.size := by omega
              have hby : w3.heap.size ≤ w5.heap.size := by omega
              have hax : ga ≠ w4.heap.size := by omega
              have hay : ga ≠ w5.heap.size := by omega
              have hcel := GX8.out.1
              obtain ⟨e0, e1, e2, e3, e4, e5⟩ := hcel
              have hfr := GX8.out.2
              have q0 := hfr 0
              have q1 := hfr 1
              have q2 := hfr 2
              have q3 := hfr 3
              have q4 := hfr 4
              have q5 := hfr 5
              clear hfr
              have YN : Hid (C6 ((((((w8.setCell ⟨w4.heap.size, 0, none⟩ (.int .i64 u0)).setCell ⟨w4.heap.size, 1, none⟩ (.int .i64 u1)).setCell ⟨w4.heap.size, 2, none⟩ (.int .i64 u2)).setCell ⟨w4.heap.size, 3, none⟩ (.int .i64 u3)).setCell ⟨w4.heap.size, 4, none⟩ (.int .i64 u4)).setCell ⟨w4.heap.size, 5, none⟩ (.int .i64 u5)) ga a0 a1 a2 a3 a4 a5) := c6_set_ne Y8.out hax
              have MN : Hid (D6 ((((((w8.setCell ⟨w4.heap.size, 0, none⟩ (.int .i64 u0)).setCell ⟨w4.heap.size, 1, none⟩ (.int .i64 u1)).setCell ⟨w4.heap.size, 2, none⟩ (.int .i64 u2)).setCell ⟨w4.heap.size, 3, none⟩ (.int .i64 u3)).setCell ⟨w4.heap.size, 4, none⟩ (.int .i64 u4)).setCell ⟨w4.heap.size, 5, none⟩ (.int .i64 u5)) w4.heap.size u0 u1 u2 u3 u4 u5) := D6.set GX8.out u0 u1 u2 u3 u4 u5
              have ON : Hid (D6 ((((((w8.setCell ⟨w4.heap.size, 0, none⟩ (.int .i64 u0)).setCell ⟨w4.heap.size, 1, none⟩ (.int .i64 u1)).setCell ⟨w4.heap.size, 2, none⟩ (.int .i64 u2)).setCell ⟨w4.heap.size, 3, none⟩ (.int .i64 u3)).setCell ⟨w4.heap.size, 4, none⟩ (.int .i64 u4)).setCell ⟨w4.heap.size, 5, none⟩ (.int .i64 u5)) w5.heap.size 0 0 0 0 0 0) := D6.other GY8.out hxy.symm u0 u1 u2 u3 u4 u5
              have HN : Hid (Below w3.heap.size w3 ((((((w8.setCell ⟨w4.heap.size, 0, none⟩ (.int .i64 u0)).setCell ⟨w4.heap.size, 1, none⟩ (.int .i64 u1)).setCell ⟨w4.heap.size, 2, none⟩ (.int .i64 u2)).setCell ⟨w4.heap.size, 3, none⟩ (.int .i64 u3)).setCell ⟨w4.heap.size, 4, none⟩ (.int .i64 u4)).setCell ⟨w4.heap.size, 5, none⟩ (.int .i64 u5))) := below_set6 HC8.out hbx
              refine wpAnyH_ready (rs := [10]) (by kernel_rfl) (by simp) ?_
              refine AllReadyH.cons (o := _) rfl (fun K hK => ?_) AllReadyH.nil
              go_simp
              refine hK.out _ _ ?_ (fun hHeld => ?_)
              · exact YN.out
              clear hK K
              try simp only [Act.put, List.setIfInBounds_toArray, List.set_cons_zero, List.set_cons_succ]
              generalize ((((((w8.setCell ⟨w4.heap.size, 0, none⟩ (.int .i64 u0)).setCell ⟨w4.heap.size, 1, none⟩ (.int .i64 u1)).setCell ⟨w4.heap.size, 2, none⟩ (.int .i64 u2)).setCell ⟨w4.heap.size, 3, none⟩ (.int .i64 u3)).setCell ⟨w4.heap.size, 4, none⟩ (.int .i64 u4)).setCell ⟨w4.heap.size, 5, none⟩ (.int .i64 u5)) = w9 at YN MN ON HN hHeld ⊢
              have Y9 := YN
              have GX9 := MN
              have GY9 := ON
              have HC9 := HN
              clear YN MN ON HN e0 e1 e2 e3 e4 e5 q0 q1 q2 q3 q4 q5 GX8 GY8 Y8 HC8
              have hcel := GY9.out.1
              obtain ⟨e0, e1, e2, e3, e4, e5⟩ := hcel
              have hfr := GY9.out.2
              have q0 := hfr 0
              have q1 := hfr 1
              have q2 := hfr 2
              have q3 := hfr 3
              have q4 := hfr 4
              have q5 := hfr 5
              clear hfr
              have YN : Hid (C6 ((((((w9.setCell ⟨w5.heap.size, 0, none⟩ (.int .i64 s0)).setCell ⟨w5.heap.size, 1, none⟩ (.int .i64 s1)).setCell ⟨w5.heap.size, 2, none⟩ (.int .i64 s2)).setCell ⟨w5.heap.size, 3, none⟩ (.int .i64 s3)).setCell ⟨w5.heap.size, 4, none⟩ (.int .i64 s4)).setCell ⟨w5.heap.size, 5, none⟩ (.int .i64 s5)) ga a0 a1 a2 a3 a4 a5) := c6_set_ne Y9.out hay
              have MN : Hid (D6 ((((((w9.setCell ⟨w5.heap.size, 0, none⟩ (.int .i64 s0)).setCell ⟨w5.heap.size, 1, none⟩ (.int .i64 s1)).setCell ⟨w5.heap.size, 2, none⟩ (.int .i64 s2)).setCell ⟨w5.heap.size, 3, none⟩ (.int .i64 s3)).setCell ⟨w5.heap.size, 4, none⟩ (.int .i64 s4)).setCell ⟨w5.heap.size, 5, none⟩ (.int .i64 s5)) w5.heap.size s0 s1 s2 s3 s4 s5) := D6.set GY9.out s0 s1 s2 s3 s4 s5
              have ON : Hid (D6 ((((((w9.setCell ⟨w5.heap.size, 0, none⟩ (.int .i64 s0)).setCell ⟨w5.heap.size, 1, none⟩ (.int .i64 s1)).setCell ⟨w5.heap.size, 2, none⟩ (.int .i64 s2)).setCell ⟨w5.heap.size, 3, none⟩ (.int .i64 s3)).setCell ⟨w5.heap.size, 4, none⟩ (.int .i64 s4)).setCell ⟨w5.heap.size, 5, none⟩ (.int .i64 s5)) w4.heap.size u0 u1 u2 u3 u4 u5) := D6.other GX9.out hxy s0 s1 s2 s3 s4 s5
              have HN : Hid (Below w3.heap.size w3 ((((((w9.setCell ⟨w5.heap.size, 0, none⟩ (.int .i64 s0)).setCell ⟨w5.heap.size, 1, none⟩ (.int .i64 s1)).setCell ⟨w5.heap.size, 2, none⟩ (.int .i64 s2)).setCell ⟨w5.heap.size, 3, none⟩ (.int .i64 s3)).setCell ⟨w5.heap.size, 4, none⟩ (.int .i64 s4)).setCell ⟨w5.heap.size, 5, none⟩ (.int .i64 s5))) := below_set6 HC9.out hby
              refine wpAnyH_ready (rs := [11]) (by kernel_rfl) (by simp) ?_
              refine AllReadyH.cons (o := _) rfl (fun K hK => ?_) AllReadyH.nil
              go_simp
              refine hK.out _ _ ?_ (fun hHeld => ?_)
              · exact YN.out
              clear hK K
              try simp only [Act.put, List.setIfInBounds_toArray, List.set_cons_zero, List.set_cons_succ]
              generalize ((((((w9.setCell ⟨w5.heap.size, 0, none⟩ (.int .i64 s0)).setCell ⟨w5.heap.size, 1, none⟩ (.int .i64 s1)).setCell ⟨w5.heap.size, 2, none⟩ (.int .i64 s2)).setCell ⟨w5.heap.size, 3, none⟩ (.int .i64 s3)).setCell ⟨w5.heap.size, 4, none⟩ (.int .i64 s4)).setCell ⟨w5.heap.size, 5, none⟩ (.int .i64 s5)) = w10 at YN MN ON HN hHeld ⊢
              have Y10 := YN
              have GY10 := MN
              have GX10 := ON
              have HC10 := HN
              clear YN MN ON HN e0 e1 e2 e3 e4 e5 q0 q1 q2 q3 q4 q5 GX9 GY9 Y9 HC9
              refine wpAnyH_done (by kernel_rfl) ?_ _
              go_wp2_with fail
              go_meet
              exact ⟨w4.heap.size, w5.heap.size, rfl, rfl, hbx, hby, GX10.out.1, GY10.out.1, HC10⟩
      · skip
        go_simp
        have hb : Below w4.heap.size w4 (w4.alloc (Obj.cells #[.int .i64 0, .int .i64 0, .int .i64 0, .int .i64 0, .int .i64 0, .int .i64 0] 53)) := (Below.refl _ _).alloc (Nat.le_refl _) _
        have GN : Hid (D6 (w4.alloc (Obj.cells #[.int .i64 0, .int .i64 0, .int .i64 0, .int .i64 0, .int .i64 0, .int .i64 0] 53)) w4.heap.size 0 0 0 0 0 0) := d6_new rfl
        refine hK.out _ _ ?_ (fun hHeld => ?_)
        · exact Y4.out.keep hb
        clear hK K
        try simp only [Act.put, List.setIfInBounds_toArray, List.set_cons_zero, List.set_cons_succ]
        generalize (w4.alloc (Obj.cells #[.int .i64 0, .int .i64 0, .int .i64 0, .int .i64 0, .int .i64 0, .int .i64 0] 53)) = w5 at hb GN hHeld ⊢
        have HC5 : Hid (Below w3.heap.size w3 w5) := HC4.out.trans (hb.mono HC4.out.size)
        have Y5 : Hid (C6 w5 ga a0 a1 a2 a3 a4 a5) := Y4.out.keep hb
        have sz4 : w3.heap.size ≤ w4.heap.size := HC4.out.size
        have GY5 : Hid (D6 w5 w4.heap.size 0 0 0 0 0 0) := GN
        clear hb GN HC4 Y4
        refine wpAnyH_ready (rs := [3, 8]) (by kernel_rfl) (by simp) ?_
        refine AllReadyH.cons (o := _) rfl (fun K hK => ?_) (AllReadyH.cons (o := _) rfl (fun K hK => ?_) AllReadyH.nil)
        · skip
          go_simp
          go_at_call 53
          refine (powerOfTwo_d (k := kq) (w := w3) (by omega) (by omega) HPW.out.1 HPW.out.2 _ HC5.out).mono ?_
          rintro e w6 ⟨rfl, hH, hb⟩
          clear hH
          have HC6 : Hid (Below w3.heap.size w3 w6) := HC5.out.trans (hb.mono HC5.out.size)
          have Y6 : Hid (C6 w6 ga a0 a1 a2 a3 a4 a5) := Y5.out.keep hb
          have GY6 : Hid (D6 w6 w4.heap.size 0 0 0 0 0 0) := GY5.out.keep hb
          refine hK.out _ _ ?_ (fun hHeld => ?_)
          · exact Y6.out
          clear hK K hb HC5 Y5 GY5
          try simp only [Act.put, List.setIfInBounds_toArray, List.set_cons_zero, List.set_cons_succ]
          refine wpAnyH_ready (rs := [4, 8]) (by kernel_rfl) (by simp) ?_
          refine AllReadyH.cons (o := _) rfl (fun K hK => ?_) (AllReadyH.cons (o := _) rfl (fun K hK => ?_) AllReadyH.nil)
          · skip
            go_simp
            go_at_call 40
            refine (timesRows_d (w := w3) HDA.out.1 HPW.out.1 HE.out.1 HE.out.2 _ HC6.out).mono ?_
            rintro e w7 ⟨rfl, hH, hb⟩
            clear hH
            have HC7 : Hid (Below w3.heap.size w3 w7) := HC6.out.trans (hb.mono HC6.out.size)
            have Y7 : Hid (C6 w7 ga a0 a1 a2 a3 a4 a5) := Y6.out.keep hb
            have GY7 : Hid (D6 w7 w4.heap.size 0 0 0 0 0 0) := GY6.out.keep hb
            refine hK.out _ _ ?_ (fun hHeld => ?_)
            · exact Y7.out
            clear hK K hb HC6 Y6 GY6
            try simp only [Act.put, List.setIfInBounds_toArray, List.set_cons_zero, List.set_cons_succ]
            refine takeS (i := 5) (oi := _) (v := ?_) (d := some 33) rfl (by kernel_rfl) (by kernel_rfl) (by kernel_rfl) (by kernel_rfl) (fun _ _ _ h => h) (Or.inl ⟨by rfl, ?_⟩) (by assumption) ?_
            rotate_left
            · (intro w hSw; (try dsimp only at hSw); go_simp <;> with_reducible rfl)
            try simp only [Act.put, List.setIfInBounds_toArray, List.set_cons_zero, List.set_cons_succ]
            refine takeS (i := 6) (oi := _) (v := ?_) (d := some 39) rfl (by kernel_rfl) (by kernel_rfl) (by kernel_rfl) (by kernel_rfl) (fun _ _ _ h => h) (Or.inl ⟨by rfl, ?_⟩) (by assumption) ?_
            rotate_left
            · (intro w hSw; (try dsimp only at hSw); go_simp <;> with_reducible rfl)
            try simp only [Act.put, List.setIfInBounds_toArray, List.set_cons_zero, List.set_cons_succ]
            refine takeS (i := 7) (oi := _) (v := ?_) (d := some 40) rfl (by kernel_rfl) (by kernel_rfl) (by kernel_rfl) (by kernel_rfl) (fun _ _ _ h => h) (Or.inl ⟨by rfl, ?_⟩) (by assumption) ?_
            rotate_left
            · (intro w hSw; (try dsimp only at hSw); go_simp <;> with_reducible rfl)
            try simp only [Act.put, List.setIfInBounds_toArray, List.set_cons_zero, List.set_cons_succ]
            refine wpAnyH_ready (rs := [8]) (by kernel_rfl) (by simp) ?_
            refine AllReadyH.cons (o := _) rfl (fun K hK => ?_) AllReadyH.nil
            · skip
              go_simp
              have hb : Below w7.heap.size w7 (w7.alloc (Obj.cells #[.int .i64 0, .int .i64 0, .int .i64 0, .int .i64 0, .int .i64 0, .int .i64 0] 53)) := (Below.refl _ _).alloc (Nat.le_refl _) _
              have GN : Hid (D6 (w7.alloc (Obj.cells #[.int .i64 0, .int .i64 0, .int .i64 0, .int .i64 0, .int .i64 0, .int .i64 0] 53)) w7.heap.size 0 0 0 0 0 0) := d6_new rfl
              refine hK.out _ _ ?_ (fun hHeld => ?_)
              · exact Y7.out.keep hb
              clear hK K
              try simp only [Act.put, List.setIfInBounds_toArray, List.set_cons_zero, List.set_cons_succ]
              generalize (w7.alloc (Obj.cells #[.int .i64 0, .int .i64 0, .int .i64 0, .int .i64 0, .int .i64 0, .int .i64 0] 53)) = w8 at hb GN hHeld ⊢
              have HC8 : Hid (Below w3.heap.size w3 w8) := HC7.out.trans (hb.mono HC7.out.size)
              have Y8 : Hid (C6 w8 ga a0 a1 a2 a3 a4 a5) := Y7.out.keep hb
              have GY8 : Hid (D6 w8 w4.heap.size 0 0 0 0 0 0) := GY7.out.keep hb
              have sz7 : w3.heap.size ≤ w7.heap.size := HC7.out.size
              have sl7 : w4.heap.size < w7.heap.size := GY7.out.lt
              have GX8 : Hid (D6 w8 w7.heap.size 0 0 0 0 0 0) := GN
              clear hb GN HC7 Y7 GY7
              have lx := GX8.out.lt
              have ly := GY8.out.lt
              have hxy : w7.heap.size ≠ w4.heap.size := by omega
              have hbx : w3.heap.size ≤ w7.heap.size := by omega
              have hby : w3.heap.size ≤ w4.heap.size := by omega
              have hax : ga ≠ w7.heap.size := by omega
              have hay : ga ≠ w4.heap.size := by omega
              have hcel := GX8.out.1
              obtain ⟨e0, e1, e2, e3, e4, e5⟩ := hcel
              have hfr := GX8.out.2
              have q0 := hfr 0
              have q1 := hfr 1
              have q2 := hfr 2
              have q3 := hfr 3
              have q4 := hfr 4
              have q5 := hfr 5
              clear hfr
              have YN : Hid (C6 ((((((w8.setCell ⟨w7.heap.size, 0, none⟩ (.int .i64 u0)).setCell ⟨w7.heap.size, 1, none⟩ (.int .i64 u1)).setCell ⟨w7.heap.size, 2, none⟩ (.int .i64 u2)).setCell ⟨w7.heap.size, 3, none⟩ (.int .i64 u3)).setCell ⟨w7.heap.size, 4, none⟩ (.int .i64 u4)).setCell ⟨w7.heap.size, 5, none⟩ (.int .i64 u5)) ga a0 a1 a2 a3 a4 a5) := c6_set_ne Y8.out hax
              have MN : Hid (D6 ((((((w8.setCell ⟨w7.heap.size, 0, none⟩ (.int .i64 u0)).setCell ⟨w7.heap.size, 1, none⟩ (.int .i64 u1)).setCell ⟨w7.heap.size, 2, none⟩ (.int .i64 u2)).setCell ⟨w7.heap.size, 3, none⟩ (.int .i64 u3)).setCell ⟨w7.heap.size, 4, none⟩ (.int .i64 u4)).setCell ⟨w7.heap.size, 5, none⟩ (.int .i64 u5)) w7.heap.size u0 u1 u2 u3 u4 u5) := D6.set GX8.out u0 u1 u2 u3 u4 u5
              have ON : Hid (D6 ((((((w8.setCell ⟨w7.heap.size, 0, none⟩ (.int .i64 u0)).setCell ⟨w7.heap.size, 1, none⟩ (.int .i64 u1)).setCell ⟨w7.heap.size, 2, none⟩ (.int .i64 u2)).setCell ⟨w7.heap.size, 3, none⟩ (.int .i64 u3)).setCell ⟨w7.heap.size, 4, none⟩ (.int .i64 u4)).setCell ⟨w7.heap.size, 5, none⟩ (.int .i64 u5)) w4.heap.size 0 0 0 0 0 0) := D6.other GY8.out hxy.symm u0 u1 u2 u3 u4 u5
              have HN : Hid (Below w3.heap.size w3 ((((((w8.setCell ⟨w7.heap.size, 0, none⟩ (.int .i64 u0)).setCell ⟨w7.heap.size, 1, none⟩ (.int .i64 u1)).setCell ⟨w7.heap.size, 2, none⟩ (.int .i64 u2)).setCell ⟨w7.heap.size, 3, none⟩ (.int .i64 u3)).setCell ⟨w7.heap.size, 4, none⟩ (.int .i64 u4)).setCell ⟨w7.heap.size, 5, none⟩ (.int .i64 u5))) := below_set6 HC8.out hbx
              refine wpAnyH_ready (rs := [10]) (by kernel_rfl) (by simp) ?_
              refine AllReadyH.cons (o := _) rfl (fun K hK => ?_) AllReadyH.nil
              go_simp
              refine hK.out _ _ ?_ (fun hHeld => ?_)
              · exact YN.out
              clear hK K
              try simp only [Act.put, List.setIfInBounds_toArray, List.set_cons_zero, List.set_cons_succ]
              generalize ((((((w8.setCell ⟨w7.heap.size, 0, none⟩ (.int .i64 u0)).setCell ⟨w7.heap.size, 1, none⟩ (.int .i64 u1)).setCell ⟨w7.heap.size, 2, none⟩ (.int .i64 u2)).setCell ⟨w7.heap.size, 3, none⟩ (.int .i64 u3)).setCell ⟨w7.heap.size, 4, none⟩ (.int .i64 u4)).setCell ⟨w7.heap.size, 5, none⟩ (.int .i64 u5)) = w9 at YN MN ON HN hHeld ⊢
              have Y9 := YN
              have GX9 := MN
              have GY9 := ON
              have HC9 := HN
              clear YN MN ON HN e0 e1 e2 e3 e4 e5 q0 q1 q2 q3 q4 q5 GX8 GY8 Y8 HC8
              have hcel := GY9.out.1
              obtain ⟨e0, e1, e2, e3, e4, e5⟩ := hcel
              have hfr := GY9.out.2
              have q0 := hfr 0
              have q1 := hfr 1
              have q2 := hfr 2
              have q3 := hfr 3
              have q4 := hfr 4
              have q5 := hfr 5
              clear hfr
              have YN : Hid (C6 ((((((w9.setCell ⟨w4.heap.size, 0, none⟩ (.int .i64 s0)).setCell ⟨w4.heap.size, 1, none⟩ (.int .i64 s1)).setCell ⟨w4.heap.size, 2, none⟩ (.int .i64 s2)).setCell ⟨w4.heap.size, 3, none⟩ (.int .i64 s3)).setCell ⟨w4.heap.size, 4, none⟩ (.int .i64 s4)).setCell ⟨w4.heap.size, 5, none⟩ (.int .i64 s5)) ga a0 a1 a2 a3 a4 a5) := c6_set_ne Y9.out hay
              have MN : Hid (D6 ((((((w9.setCell ⟨w4.heap.size, 0, none⟩ (.int .i64 s0)).setCell ⟨w4.heap.size, 1, none⟩ (.int .i64 s1)).setCell ⟨w4.heap.size, 2, none⟩ (.int .i64 s2)).setCell ⟨w4.heap.size, 3, none⟩ (.int .i64 s3)).setCell ⟨w4.heap.size, 4, none⟩ (.int .i64 s4)).setCell ⟨w4.heap.size, 5, none⟩ (.int .i64 s5)) w4.heap.size s0 s1 s2 s3 s4 s5) := D6.set GY9.out s0 s1 s2 s3 s4 s5
              have ON : Hid (D6 ((((((w9.setCell ⟨w4.heap.size, 0, none⟩ (.int .i64 s0)).setCell ⟨w4.heap.size, 1, none⟩ (.int .i64 s1)).setCell ⟨w4.heap.size, 2, none⟩ (.int .i64 s2)).setCell ⟨w4.heap.size, 3, none⟩ (.int .i64 s3)).setCell ⟨w4.heap.size, 4, none⟩ (.int .i64 s4)).setCell ⟨w4.heap.size, 5, none⟩ (.int .i64 s5)) w7.heap.size u0 u1 u2 u3 u4 u5) := D6.other GX9.out hxy s0 s1 s2 s3 s4 s5
              have HN : Hid (Below w3.heap.size w3 ((((((w9.setCell ⟨w4.heap.size, 0, none⟩ (.int .i64 s0)).setCell ⟨w4.heap.size, 1, none⟩ (.int .i64 s1)).setCell ⟨w4.heap.size, 2, none⟩ (.int .i64 s2)).setCell ⟨w4.heap.size, 3, none⟩ (.int .i64 s3)).setCell ⟨w4.heap.size, 4, none⟩ (.int .i64 s4)).setCell ⟨w4.heap.size, 5, none⟩ (.int .i64 s5))) := below_set6 HC9.out hby
              refine wpAnyH_ready (rs := [11]) (by kernel_rfl) (by simp) ?_
              refine AllReadyH.cons (o := _) rfl (fun K hK => ?_) AllReadyH.nil
              go_simp
              refine hK.out _ _ ?_ (fun hHeld => ?_)
              · exact YN.out
              clear hK K
              try simp only [Act.put, List.setIfInBounds_toArray, List.set_cons_zero, List.set_cons_succ]
              generalize ((((((w9.setCell ⟨w4.heap.size, 0, none⟩ (.int .i64 s0)).setCell ⟨w4.heap.size, 1, none⟩ (.int .i64 s1)).setCell ⟨w4.heap.size, 2, none⟩ (.int .i64 s2)).setCell ⟨w4.heap.size, 3, none⟩ (.int .i64 s3)).setCell ⟨w4.heap.size, 4, none⟩ (.int .i64 s4)).setCell ⟨w4.heap.size, 5, none⟩ (.int .i64 s5)) = w10 at YN MN ON HN hHeld ⊢
              have Y10 := YN
              have GY10 := MN
              have GX10 := ON
              have HC10 := HN
              clear YN MN ON HN e0 e1 e2 e3 e4 e5 q0 q1 q2 q3 q4 q5 GX9 GY9 Y9 HC9
              refine wpAnyH_done (by kernel_rfl) ?_ _
              go_wp2_with fail
              go_meet
              exact ⟨w7.heap.size, w4.heap.size, rfl, rfl, hbx, hby, GX10.out.1, GY10.out.1, HC10⟩
          · skip
            go_simp
            have hb : Below w6.heap.size w6 (w6.alloc (Obj.cells #[.int .i64 0, .int .i64 0, .int .i64 0, .int .i64 0, .int .i64 0, .int .i64 0] 53)) := (Below.refl _ _).alloc (Nat.le_refl _) _
            have GN : Hid (D6 (w6.alloc (Obj.cells #[.int .i64 0, .int .i64 0, .int .i64 0, .int .i64 0, .int .i64 0, .int .i64 0] 53)) w6.heap.size 0 0 0 0 0 0) := d6_new rfl
            refine hK.out _ _ ?_ (fun hHeld => ?_)
            · exact Y6.out.keep hb
            clear hK K
            try simp only [Act.put, List.setIfInBounds_toArray, List.set_cons_zero, List.set_cons_succ]
            generalize (w6.alloc (Obj.cells #[.int .i64 0, .int .i64 0, .int .i64 0, .int .i64 0, .int .i64 0, .int .i64 0] 53)) = w7 at hb GN hHeld ⊢
            have HC7 : Hid (Below w3.heap.size w3 w7) := HC6.out.trans (hb.mono HC6.out.size)
            have Y7 : Hid (C6 w7 ga a0 a1 a2 a3 a4 a5) := Y6.out.keep hb
            have GY7 : Hid (D6 w7 w4.heap.size 0 0 0 0 0 0) := GY6.out.keep hb
            have sz6 : w3.heap.size ≤ w6.heap.size := HC6.out.size
            have sl6 : w4.heap.size < w6.heap.size := GY6.out.lt
            have GX7 : Hid (D6 w7 w6.heap.size 0 0 0 0 0 0) := GN
            clear hb GN HC6 Y6 GY6
            refine wpAnyH_ready (rs := [4]) (by kernel_rfl) (by simp) ?_
            refine AllReadyH.cons (o := _) rfl (fun K hK => ?_) AllReadyH.nil
            · skip
              go_simp
              go_at_call 40
              refine (timesRows_d (w := w3) HDA.out.1 HPW.out.1 HE.out.1 HE.out.2 _ HC7.out).mono ?_
              rintro e w8 ⟨rfl, hH, hb⟩
              clear hH
              have HC8 : Hid (Below w3.heap.size w3 w8) := HC7.out.trans (hb.mono HC7.out.size)
              have Y8 : Hid (C6 w8 ga a0 a1 a2 a3 a4 a5) := Y7.out.keep hb
              have GX8 : Hid (D6 w8 w6.heap.size 0 0 0 0 0 0) := GX7.out.keep hb
              have GY8 : Hid (D6 w8 w4.heap.size 0 0 0 0 0 0) := GY7.out.keep hb
              refine hK.out _ _ ?_ (fun hHeld => ?_)
              · exact Y8.out
              clear hK K hb HC7 Y7 GX7 GY7
              try simp only [Act.put, List.setIfInBounds_toArray, List.set_cons_zero, List.set_cons_succ]
              refine takeS (i := 5) (oi := _) (v := ?_) (d := some 33) rfl (by kernel_rfl) (by kernel_rfl) (by kernel_rfl) (by kernel_rfl) (fun _ _ _ h => h) (Or.inl ⟨by rfl, ?_⟩) (by assumption) ?_
              rotate_left
              · (intro w hSw; (try dsimp only at hSw); go_simp <;> with_reducible rfl)
              try simp only [Act.put, List.setIfInBounds_toArray, List.set_cons_zero, List.set_cons_succ]
              refine takeS (i := 6) (oi := _) (v := ?_) (d := some 39) rfl (by kernel_rfl) (by kernel_rfl) (by kernel_rfl) (by kernel_rfl) (fun _ _ _ h => h) (Or.inl ⟨by rfl, ?_⟩) (by assumption) ?_
              rotate_left
              · (intro w hSw; (try dsimp only at hSw); go_simp <;> with_reducible rfl)
              try simp only [Act.put, List.setIfInBounds_toArray, List.set_cons_zero, List.set_cons_succ]
              refine takeS (i := 7) (oi := _) (v := ?_) (d := some 40) rfl (by kernel_rfl) (by kernel_rfl) (by kernel_rfl) (by kernel_rfl) (fun _ _ _ h => h) (Or.inl ⟨by rfl, ?_⟩) (by assumption) ?_
              rotate_left
              · (intro w hSw; (try dsimp only at hSw); go_simp <;> with_reducible rfl)
              try simp only [Act.put, List.setIfInBounds_toArray, List.set_cons_zero, List.set_cons_succ]
              have lx := GX8.out.lt
              have ly := GY8.out.lt
              have hxy : w6.heap.size ≠ w4.heap.size := by omega
              have hbx : w3.heap.size ≤ w6.heap.size := by omega
              have hby : w3.heap.size ≤ w4.heap.size := by omega
              have hax : ga ≠ w6.heap.size := by omega
              have hay : ga ≠ w4.heap.size := by omega
              have hcel := GX8.out.1
              obtain ⟨e0, e1, e2, e3, e4, e5⟩ := hcel
              have hfr := GX8.out.2
              have q0 := hfr 0
              have q1 := hfr 1
              have q2 := hfr 2
              have q3 := hfr 3
              have q4 := hfr 4
              have q5 := hfr 5
              clear hfr
              have YN : Hid (C6 ((((((w8.setCell ⟨w6.heap.size, 0, none⟩ (.int .i64 u0)).setCell ⟨w6.heap.size, 1, none⟩ (.int .i64 u1)).setCell ⟨w6.heap.size, 2, none⟩ (.int .i64 u2)).setCell ⟨w6.heap.size, 3, none⟩ (.int .i64 u3)).setCell ⟨w6.heap.size, 4, none⟩ (.int .i64 u4)).setCell ⟨w6.heap.size, 5, none⟩ (.int .i64 u5)) ga a0 a1 a2 a3 a4 a5) := c6_set_ne Y8.out hax
              have MN : Hid (D6 ((((((w8.setCell ⟨w6.heap.size, 0, none⟩ (.int .i64 u0)).setCell ⟨w6.heap.size, 1, none⟩ (.int .i64 u1)).setCell ⟨w6.heap.size, 2, none⟩ (.int .i64 u2)).setCell ⟨w6.heap.size, 3, none⟩ (.int .i64 u3)).setCell ⟨w6.heap.size, 4, none⟩ (.int .i64 u4)).setCell ⟨w6.heap.size, 5, none⟩ (.int .i64 u5)) w6.heap.size u0 u1 u2 u3 u4 u5) := D6.set GX8.out u0 u1 u2 u3 u4 u5
              have ON : Hid (D6 ((((((w8.setCell ⟨w6.heap.size, 0, none⟩ (.int .i64 u0)).setCell ⟨w6.heap.size, 1, none⟩ (.int .i64 u1)).setCell ⟨w6.heap.size, 2, none⟩ (.int .i64 u2)).setCell ⟨w6.heap.size, 3, none⟩ (.int .i64 u3)).setCell ⟨w6.heap.size, 4, none⟩ (.int .i64 u4)).setCell ⟨w6.heap.size, 5, none⟩ (.int .i64 u5)) w4.heap.size 0 0 0 0 0 0) := D6.other GY8.out hxy.symm u0 u1 u2 u3 u4 u5
              have HN : Hid (Below w3.heap.size w3 ((((((w8.setCell ⟨w6.heap.size, 0, none⟩ (.int .i64 u0)).setCell ⟨w6.heap.size, 1, none⟩ (.int .i64 u1)).setCell ⟨w6.heap.size, 2, none⟩ (.int .i64 u2)).setCell ⟨w6.heap.size, 3, none⟩ (.int .i64 u3)).setCell ⟨w6.heap.size, 4, none⟩ (.int .i64 u4)).setCell ⟨w6.heap.size, 5, none⟩ (.int .i64 u5))) := below_set6 HC8.out hbx
              refine wpAnyH_ready (rs := [10]) (by kernel_rfl) (by simp) ?_
              refine AllReadyH.cons (o := _) rfl (fun K hK => ?_) AllReadyH.nil
              go_simp
              refine hK.out _ _ ?_ (fun hHeld => ?_)
              · exact YN.out
              clear hK K
              try simp only [Act.put, List.setIfInBounds_toArray, List.set_cons_zero, List.set_cons_succ]
              generalize ((((((w8.setCell ⟨w6.heap.size, 0, none⟩ (.int .i64 u0)).setCell ⟨w6.heap.size, 1, none⟩ (.int .i64 u1)).setCell ⟨w6.heap.size, 2, none⟩ (.int .i64 u2)).setCell ⟨w6.heap.size, 3, none⟩ (.int .i64 u3)).setCell ⟨w6.heap.size, 4, none⟩ (.int .i64 u4)).setCell ⟨w6.heap.size, 5, none⟩ (.int .i64 u5)) = w9 at YN MN ON HN hHeld ⊢
              have Y9 := YN
              have GX9 := MN
              have GY9 := ON
              have HC9 := HN
              clear YN MN ON HN e0 e1 e2 e3 e4 e5 q0 q1 q2 q3 q4 q5 GX8 GY8 Y8 HC8
              have hcel := GY9.out.1
              obtain ⟨e0, e1, e2, e3, e4, e5⟩ := hcel
              have hfr := GY9.out.2
              have q0 := hfr 0
              have q1 := hfr 1
              have q2 := hfr 2
              have q3 := hfr 3
              have q4 := hfr 4
              have q5 := hfr 5
              clear hfr
              have YN : Hid (C6 ((((((w9.setCell ⟨w4.heap.size, 0, none⟩ (.int .i64 s0)).setCell ⟨w4.heap.size, 1, none⟩ (.int .i64 s1)).setCell ⟨w4.heap.size, 2, none⟩ (.int .i64 s2)).setCell ⟨w4.heap.size, 3, none⟩ (.int .i64 s3)).setCell ⟨w4.heap.size, 4, none⟩ (.int .i64 s4)).setCell ⟨w4.heap.size, 5, none⟩ (.int .i64 s5)) ga a0 a1 a2 a3 a4 a5) := c6_set_ne Y9.out hay
              have MN : Hid (D6 ((((((w9.setCell ⟨w4.heap.size, 0, none⟩ (.int .i64 s0)).setCell ⟨w4.heap.size, 1, none⟩ (.int .i64 s1)).setCell ⟨w4.heap.size, 2, none⟩ (.int .i64 s2)).setCell ⟨w4.heap.size, 3, none⟩ (.int .i64 s3)).setCell ⟨w4.heap.size, 4, none⟩ (.int .i64 s4)).setCell ⟨w4.heap.size, 5, none⟩ (.int .i64 s5)) w4.heap.size s0 s1 s2 s3 s4 s5) := D6.set GY9.out s0 s1 s2 s3 s4 s5
              have ON : Hid (D6 ((((((w9.setCell ⟨w4.heap.size, 0, none⟩ (.int .i64 s0)).setCell ⟨w4.heap.size, 1, none⟩ (.int .i64 s1)).setCell ⟨w4.heap.size, 2, none⟩ (.int .i64 s2)).setCell ⟨w4.heap.size, 3, none⟩ (.int .i64 s3)).setCell ⟨w4.heap.size, 4, none⟩ (.int .i64 s4)).setCell ⟨w4.heap.size, 5, none⟩ (.int .i64 s5)) w6.heap.size u0 u1 u2 u3 u4 u5) := D6.other GX9.out hxy s0 s1 s2 s3 s4 s5
              have HN : Hid (Below w3.heap.size w3 ((((((w9.setCell ⟨w4.heap.size, 0, none⟩ (.int .i64 s0)).setCell ⟨w4.heap.size, 1, none⟩ (.int .i64 s1)).setCell ⟨w4.heap.size, 2, none⟩ (.int .i64 s2)).setCell ⟨w4.heap.size, 3, none⟩ (.int .i64 s3)).setCell ⟨w4.heap.size, 4, none⟩ (.int .i64 s4)).setCell ⟨w4.heap.size, 5, none⟩ (.int .i64 s5))) := below_set6 HC9.out hby
              refine wpAnyH_ready (rs := [11]) (by kernel_rfl) (by simp) ?_
              refine AllReadyH.cons (o := _) rfl (fun K hK => ?_) AllReadyH.nil
              go_simp
              refine hK.out _ _ ?_ (fun hHeld => ?_)
              · exact YN.out
              clear hK K
              try simp only [Act.put, List.setIfInBounds_toArray, List.set_cons_zero, List.set_cons_succ]
              generalize ((((((w9.setCell ⟨w4.heap.size, 0, none⟩ (.int .i64 s0)).setCell ⟨w4.heap.size, 1, none⟩ (.int .i64 s1)).setCell ⟨w4.heap.size, 2, none⟩ (.int .i64 s2)).setCell ⟨w4.heap.size, 3, none⟩ (.int .i64 s3)).setCell ⟨w4.heap.size, 4, none⟩ (.int .i64 s4)).setCell ⟨w4.heap.size, 5, none⟩ (.int .i64 s5)) = w10 at YN MN ON HN hHeld ⊢
              have Y10 := YN
              have GY10 := MN
              have GX10 := ON
              have HC10 := HN
              clear YN MN ON HN e0 e1 e2 e3 e4 e5 q0 q1 q2 q3 q4 q5 GX9 GY9 Y9 HC9
              refine wpAnyH_done (by kernel_rfl) ?_ _
              go_wp2_with fail
              go_meet
              exact ⟨w6.heap.size, w4.heap.size, rfl, rfl, hbx, hby, GX10.out.1, GY10.out.1, HC10⟩
        · skip
          go_simp
          have hb : Below w5.heap.size w5 (w5.alloc (Obj.cells #[.int .i64 0, .int .i64 0, .int .i64 0, .int .i64 0, .int .i64 0, .int .i64 0] 53)) := (Below.refl _ _).alloc (Nat.le_refl _) _
          have GN : Hid (D6 (w5.alloc (Obj.cells #[.int .i64 0, .int .i64 0, .int .i64 0, .int .i64 0, .int .i64 0, .int .i64 0] 53)) w5.heap.size 0 0 0 0 0 0) := d6_new rfl
          refine hK.out _ _ ?_ (fun hHeld => ?_)
          · exact Y5.out.keep hb
          clear hK K
          try simp only [Act.put, List.setIfInBounds_toArray, List.set_cons_zero, List.set_cons_succ]
          generalize (w5.alloc (Obj.cells #[.int .i64 0, .int .i64 0, .int .i64 0, .int .i64 0, .int .i64 0, .int .i64 0] 53)) = w6 at hb GN hHeld ⊢
          have HC6 : Hid (Below w3.heap.size w3 w6) := HC5.out.trans (hb.mono HC5.out.size)
          have Y6 : Hid (C6 w6 ga a0 a1 a2 a3 a4 a5) := Y5.out.keep hb
          have GY6 : Hid (D6 w6 w4.heap.size 0 0 0 0 0 0) := GY5.out.keep hb
          have sz5 : w3.heap.size ≤ w5.heap.size := HC5.out.size
          have sl5 : w4.heap.size < w5.heap.size := GY5.out.lt
          have GX6 : Hid (D6 w6 w5.heap.size 0 0 0 0 0 0) := GN
          clear hb GN HC5 Y5 GY5
          refine wpAnyH_ready (rs := [3]) (by kernel_rfl) (by simp) ?_
          refine AllReadyH.cons (o := _) rfl (fun K hK => ?_) AllReadyH.nil
          · skip
            go_simp
            go_at_call 53
            refine (powerOfTwo_d (k := kq) (w := w3) (by omega) (by omega) HPW.out.1 HPW.out.2 _ HC6.out).mono ?_
            rintro e w7 ⟨rfl, hH, hb⟩
            clear hH
            have HC7 : Hid (Below w3.heap.size w3 w7) := HC6.out.trans (hb.mono HC6.out.size)
            have Y7 : Hid (C6 w7 ga a0 a1 a2 a3 a4 a5) := Y6.out.keep hb
            have GX7 : Hid (D6 w7 w5.heap.size 0 0 0 0 0 0) := GX6.out.keep hb
            have GY7 : Hid (D6 w7 w4.heap.size 0 0 0 0 0 0) := GY6.out.keep hb
            refine hK.out _ _ ?_ (fun hHeld => ?_)
            · exact Y7.out
            clear hK K hb HC6 Y6 GX6 GY6
            try simp only [Act.put, List.setIfInBounds_toArray, List.set_cons_zero, List.set_cons_succ]
            refine wpAnyH_ready (rs := [4]) (by kernel_rfl) (by simp) ?_
            refine AllReadyH.cons (o := _) rfl (fun K hK => ?_) AllReadyH.nil
            · skip
              go_simp
              go_at_call 40
              refine (timesRows_d (w := w3) HDA.out.1 HPW.out.1 HE.out.1 HE.out.2 _ HC7.out).mono ?_
              rintro e w8 ⟨rfl, hH, hb⟩
              clear hH
              have HC8 : Hid (Below w3.heap.size w3 w8) := HC7.out.trans (hb.mono HC7.out.size)
              have Y8 : Hid (C6 w8 ga a0 a1 a2 a3 a4 a5) := Y7.out.keep hb
              have GX8 : Hid (D6 w8 w5.heap.size 0 0 0 0 0 0) := GX7.out.keep hb
              have GY8 : Hid (D6 w8 w4.heap.size 0 0 0 0 0 0) := GY7.out.keep hb
              refine hK.out _ _ ?_ (fun hHeld => ?_)
              · exact Y8.out
              clear hK K hb HC7 Y7 GX7 GY7
              try simp only [Act.put, List.setIfInBounds_toArray, List.set_cons_zero, List.set_cons_succ]
              refine takeS (i := 5) (oi := _) (v := ?_) (d := some 33) rfl (by kernel_rfl) (by kernel_rfl) (by kernel_rfl) (by kernel_rfl) (fun _ _ _ h => h) (Or.inl ⟨by rfl, ?_⟩) (by assumption) ?_
              rotate_left
              · (intro w hSw; (try dsimp only at hSw); go_simp <;> with_reducible rfl)
              try simp only [Act.put, List.setIfInBounds_toArray, List.set_cons_zero, List.set_cons_succ]
              refine takeS (i := 6) (oi := _) (v := ?_) (d := some 39) rfl (by kernel_rfl) (by kernel_rfl) (by kernel_rfl) (by kernel_rfl) (fun _ _ _ h => h) (Or.inl ⟨by rfl, ?_⟩) (by assumption) ?_
              rotate_left
              · (intro w hSw; (try dsimp only at hSw); go_simp <;> with_reducible rfl)
              try simp only [Act.put, List.setIfInBounds_toArray, List.set_cons_zero, List.set_cons_succ]
              refine takeS (i := 7) (oi := _) (v := ?_) (d := some 40) rfl (by kernel_rfl) (by kernel_rfl) (by kernel_rfl) (by kernel_rfl) (fun _ _ _ h => h) (Or.inl ⟨by rfl, ?_⟩) (by assumption) ?_
              rotate_left
              · (intro w hSw; (try dsimp only at hSw); go_simp <;> with_reducible rfl)
              try simp only [Act.put, List.setIfInBounds_toArray, List.set_cons_zero, List.set_cons_succ]
              have lx := GX8.out.lt
              have ly := GY8.out.lt
              have hxy : w5.heap.size ≠ w4.heap.size := by omega
              have hbx : w3.heap.size ≤ w5.heap.size := by omega
              have hby : w3.heap.size ≤ w4.heap.size := by omega
              have hax : ga ≠ w5.heap.size := by omega
              have hay : ga ≠ w4.heap.size := by omega
              have hcel := GX8.out.1
              obtain ⟨e0, e1, e2, e3, e4, e5⟩ := hcel
              have hfr := GX8.out.2
              have q0 := hfr 0
              have q1 := hfr 1
              have q2 := hfr 2
              have q3 := hfr 3
              have q4 := hfr 4
              have q5 := hfr 5
              clear hfr
              have YN : Hid (C6 ((((((w8.setCell ⟨w5.heap.size, 0, none⟩ (.int .i64 u0)).setCell ⟨w5.heap.size, 1, none⟩ (.int .i64 u1)).setCell ⟨w5.heap.size, 2, none⟩ (.int .i64 u2)).setCell ⟨w5.heap.size, 3, none⟩ (.int .i64 u3)).setCell ⟨w5.heap.size, 4, none⟩ (.int .i64 u4)).setCell ⟨w5.heap.size, 5, none⟩ (.int .i64 u5)) ga a0 a1 a2 a3 a4 a5) := c6_set_ne Y8.out hax
              have MN : Hid (D6 ((((((w8.setCell ⟨w5.heap.size, 0, none⟩ (.int .i64 u0)).setCell ⟨w5.heap.size, 1, none⟩ (.int .i64 u1)).setCell ⟨w5.heap.size, 2, none⟩ (.int .i64 u2)).setCell ⟨w5.heap.size, 3, none⟩ (.int .i64 u3)).setCell ⟨w5.heap.size, 4, none⟩ (.int .i64 u4)).setCell ⟨w5.heap.size, 5, none⟩ (.int .i64 u5)) w5.heap.size u0 u1 u2 u3 u4 u5) := D6.set GX8.out u0 u1 u2 u3 u4 u5
              have ON : Hid (D6 ((((((w8.setCell ⟨w5.heap.size, 0, none⟩ (.int .i64 u0)).setCell ⟨w5.heap.size, 1, none⟩ (.int .i64 u1)).setCell ⟨w5.heap.size, 2, none⟩ (.int .i64 u2)).setCell ⟨w5.heap.size, 3, none⟩ (.int .i64 u3)).setCell ⟨w5.heap.size, 4, none⟩ (.int .i64 u4)).setCell ⟨w5.heap.size, 5, none⟩ (.int .i64 u5)) w4.heap.size 0 0 0 0 0 0) := D6.other GY8.out hxy.symm u0 u1 u2 u3 u4 u5
              have HN : Hid (Below w3.heap.size w3 ((((((w8.setCell ⟨w5.heap.size, 0, none⟩ (.int .i64 u0)).setCell ⟨w5.heap.size, 1, none⟩ (.int .i64 u1)).setCell ⟨w5.heap.size, 2, none⟩ (.int .i64 u2)).setCell ⟨w5.heap.size, 3, none⟩ (.int .i64 u3)).setCell ⟨w5.heap.size, 4, none⟩ (.int .i64 u4)).setCell ⟨w5.heap.size, 5, none⟩ (.int .i64 u5))) := below_set6 HC8.out hbx
              refine wpAnyH_ready (rs := [10]) (by kernel_rfl) (by simp) ?_
              refine AllReadyH.cons (o := _) rfl (fun K hK => ?_) AllReadyH.nil
              go_simp
              refine hK.out _ _ ?_ (fun hHeld => ?_)
              · exact YN.out
              clear hK K
              try simp only [Act.put, List.setIfInBounds_toArray, List.set_cons_zero, List.set_cons_succ]
              generalize ((((((w8.setCell ⟨w5.heap.size, 0, none⟩ (.int .i64 u0)).setCell ⟨w5.heap.size, 1, none⟩ (.int .i64 u1)).setCell ⟨w5.heap.size, 2, none⟩ (.int .i64 u2)).setCell ⟨w5.heap.size, 3, none⟩ (.int .i64 u3)).setCell ⟨w5.heap.size, 4, none⟩ (.int .i64 u4)).setCell ⟨w5.heap.size, 5, none⟩ (.int .i64 u5)) = w9 at YN MN ON HN hHeld ⊢
              have Y9 := YN
              have GX9 := MN
              have GY9 := ON
              have HC9 := HN
              clear YN MN ON HN e0 e1 e2 e3 e4 e5 q0 q1 q2 q3 q4 q5 GX8 GY8 Y8 HC8
              have hcel := GY9.out.1
              obtain ⟨e0, e1, e2, e3, e4, e5⟩ := hcel
              have hfr := GY9.out.2
              have q0 := hfr 0
              have q1 := hfr 1
              have q2 := hfr 2
              have q3 := hfr 3
              have q4 := hfr 4
              have q5 := hfr 5
              clear hfr
              have YN : Hid (C6 ((((((w9.setCell ⟨w4.heap.size, 0, none⟩ (.int .i64 s0)).setCell ⟨w4.heap.size, 1, none⟩ (.int .i64 s1)).setCell ⟨w4.heap.size, 2, none⟩ (.int .i64 s2)).setCell ⟨w4.heap.size, 3, none⟩ (.int .i64 s3)).setCell ⟨w4.heap.size, 4, none⟩ (.int .i64 s4)).setCell ⟨w4.heap.size, 5, none⟩ (.int .i64 s5)) ga a0 a1 a2 a3 a4 a5) := c6_set_ne Y9.out hay
              have MN : Hid (D6 ((((((w9.setCell ⟨w4.heap.size, 0, none⟩ (.int .i64 s0)).setCell ⟨w4.heap.size, 1, none⟩ (.int .i64 s1)).setCell ⟨w4.heap.size, 2, none⟩ (.int .i64 s2)).setCell ⟨w4.heap.size, 3, none⟩ (.int .i64 s3)).setCell ⟨w4.heap.size, 4, none⟩ (.int .i64 s4)).setCell ⟨w4.heap.size, 5, none⟩ (.int .i64 s5)) w4.heap.size s0 s1 s2 s3 s4 s5) := D6.set GY9.out s0 s1 s2 s3 s4 s5
              have ON : Hid (D6 ((((((w9.setCell ⟨w4.heap.size, 0, none⟩ (.int .i64 s0)).setCell ⟨w4.heap.size, 1, none⟩ (.int .i64 s1)).setCell ⟨w4.heap.size, 2, none⟩ (.int .i64 s2)).setCell ⟨w4.heap.size, 3, none⟩ (.int .i64 s3)).setCell ⟨w4.heap.size, 4, none⟩ (.int .i64 s4)).setCell ⟨w4.heap.size, 5, none⟩ (.int .i64 s5)) w5.heap.size u0 u1 u2 u3 u4 u5) := D6.other GX9.out hxy s0 s1 s2 s3 s4 s5
              have HN : Hid (Below w3.heap.size w3 ((((((w9.setCell ⟨w4.heap.size, 0, none⟩ (.int .i64 s0)).setCell ⟨w4.heap.size, 1, none⟩ (.int .i64 s1)).setCell ⟨w4.heap.size, 2, none⟩ (.int .i64 s2)).setCell ⟨w4.heap.size, 3, none⟩ (.int .i64 s3)).setCell ⟨w4.heap.size, 4, none⟩ (.int .i64 s4)).setCell ⟨w4.heap.size, 5, none⟩ (.int .i64 s5))) := below_set6 HC9.out hby
              refine wpAnyH_ready (rs := [11]) (by kernel_rfl) (by simp) ?_
              refine AllReadyH.cons (o := _) rfl (fun K hK => ?_) AllReadyH.nil
              go_simp
              refine hK.out _ _ ?_ (fun hHeld => ?_)
              · exact YN.out
              clear hK K
              try simp only [Act.put, List.setIfInBounds_toArray, List.set_cons_zero, List.set_cons_succ]
              generalize ((((((w9.setCell ⟨w4.heap.size, 0, none⟩ (.int .i64 s0)).setCell ⟨w4.heap.size, 1, none⟩ (.int .i64 s1)).setCell ⟨w4.heap.size, 2, none⟩ (.int .i64 s2)).setCell ⟨w4.heap.size, 3, none⟩ (.int .i64 s3)).setCell ⟨w4.heap.size, 4, none⟩ (.int .i64 s4)).setCell ⟨w4.heap.size, 5, none⟩ (.int .i64 s5)) = w10 at YN MN ON HN hHeld ⊢
              have Y10 := YN
              have GY10 := MN
              have GX10 := ON
              have HC10 := HN
              clear YN MN ON HN e0 e1 e2 e3 e4 e5 q0 q1 q2 q3 q4 q5 GX9 GY9 Y9 HC9
              refine wpAnyH_done (by kernel_rfl) ?_ _
              go_wp2_with fail
              go_meet
              exact ⟨w5.heap.size, w4.heap.size, rfl, rfl, hbx, hby, GX10.out.1, GY10.out.1, HC10⟩
    case rest => as_aux_lemma =>
      obtain ⟨gx, gy, rfl, rfl, hgx, hgy, hcx, hcy, hb⟩ := hcut
      obtain ⟨w5, rfl⟩ : ∃ w5 : World, w5 = wc := ⟨_, rfl⟩
      have hbk : Below w3.heap.size w3 w5 := hb.out
      have HB5 : Hid (Below w.heap.size w w5) := HB3.out.trans (hbk.mono HB3.out.size)
      have r5 : w5.cell? ⟨w.heap.size + 1, 0, none⟩ = some (.slice none 0 0) := cell_keep (S := 0) hbk r3
      have f5 : w5.frozen? ⟨w.heap.size + 1, 0, none⟩ = false := fcell_keep hbk l3 f3
      have l5 : w.heap.size + 1 < w5.heap.size := World.block_lt_of_cell? _ _ r5
      obtain ⟨p0', p1', p2', p3', p4', p5'⟩ := hcx
      obtain ⟨q0', q1', q2', q3', q4', q5'⟩ := hcy
      clear hb hbk r3 f3 y0 y1 y2 y3 y4 y5 HC3
      go_wp2_with fail
      refine (bigFrom_c s0 s1 s2 s3 s4 s5 _ p (by rw [HZ1.out]; exact HP.out)).mono ?_
      rw [HZ1.out]
      rintro e w8 ⟨a', c', rfl, ho, hb⟩
      have HB8 : Hid (Below w.heap.size w w8) := HB5.out.trans (hb.mono HB5.out.size)
      have t8 : w8.cell? ⟨w.heap.size + 1, 0, none⟩ = some (.slice none 0 0) := cell_keep (S := 0) hb r5
      have f8 : w8.frozen? ⟨w.heap.size + 1, 0, none⟩ = false := fcell_keep hb l5 f5
      have HO8 : Hid (Own w8 w5.heap.size (.slice a' p c') zs) := ho
      clear hb ho r5 f5 p0' p1' p2' p3' p4' p5' q0' q1' q2' q3' q4' q5'
      go_wp2
      refine bodyPost_ret (v := .tuple #[.agg #[.slice a' p c'], .bool true]) (by simp [results, Tryd.results22, go_sem, t8]) rfl ⟨a', c', rfl, (own_set_below HO8.out (by omega) _).mono (by omega), HB8.out.setCell (by simp) _⟩
  · have hneg' : decide (b < 0) = false := decide_eq_false hneg
    obtain ⟨p0, p1, p2, p3, p4, p5, dp, vp⟩ := exists6 (N := 2 ^ b.toNat) (Int.le_of_lt (Int.pow_pos (by omega))) (pow_lt96 (by omega))
    have HPW : Hid (Digs [p0, p1, p2, p3, p4, p5] ∧ val [p0, p1, p2, p3, p4, p5] = 2 ^ b.toNat) := ⟨dp, vp⟩
    have hbd := shl_bd (k := b.toNat) v0 v1 (by omega)
    obtain ⟨u0, u1, u2, u3, u4, u5, s0, s1, s2, s3, s4, s5, dr, vr⟩ := exists12 (N := V * 2 ^ b.toNat) hbd.1 (by omega)
    have HE : Hid (Digs [u0, u1, u2, u3, u4, u5, s0, s1, s2, s3, s4, s5] ∧ val [u0, u1, u2, u3, u4, u5, s0, s1, s2, s3, s4, s5] = val [a0, a1, a2, a3, a4, a5] * val [p0, p1, p2, p3, p4, p5]) := ⟨dr, by rw [vr, HDA.out.2, vp]⟩
    have hsv : shV V b = V * 2 ^ b.toNat := by unfold shV; rw [if_pos (by omega)]
    rw [hsv, tell12 dr vr] at hF
    have HFF : Hid ((if [s0, s1, s2, s3, s4, s5] = [0, 0, 0, 0, 0, 0] then (trim [u0, u1, u2, u3, u4, u5], true) else ([], false)) = (zs, fb)) := hF
    clear hF hsv dp vp dr vr hbd
    go_enter Tryd.func22, Tryd.ntmps22
    go_wp2_with fail
    have x0 : ((w.alloc (Obj.cells #[Value.slice ao n c] 25)).alloc (Obj.cells #[Value.slice none 0 0] 25)).cell? ⟨w.heap.size, 0, none⟩ = some (.slice ao n c) := calloc (by simp)
    have r0 : ((w.alloc (Obj.cells #[Value.slice ao n c] 25)).alloc (Obj.cells #[Value.slice none 0 0] 25)).cell? ⟨w.heap.size + 1, 0, none⟩ = some (.slice none 0 0) := by rw [World.cell?_alloc_at _ _ _ _ (by simp)]; rfl
    have f0 : ((w.alloc (Obj.cells #[Value.slice ao n c] 25)).alloc (Obj.cells #[Value.slice none 0 0] 25)).frozen? ⟨w.heap.size + 1, 0, none⟩ = false := by simp
    have HB0 : Hid (Below w.heap.size w ((w.alloc (Obj.cells #[Value.slice ao n c] 25)).alloc (Obj.cells #[Value.slice none 0 0] 25))) := below_two w _ _
    generalize ((w.alloc (Obj.cells #[Value.slice ao n c] 25)).alloc (Obj.cells #[Value.slice none 0 0] 25)) = w0 at HB0 x0 r0 f0 ⊢
    have l0 : w.heap.size + 1 < w0.heap.size := World.block_lt_of_cell? _ _ r0
    refine (implGood_c ao n c xs _ HX.out hn (HR.out.later HB0.out)).mono ?_
    rw [hg]
    rintro e w1 ⟨rfl, hb⟩
    have HB1 : Hid (Below w.heap.size w w1) := HB0.out.trans (hb.mono HB0.out.size)
    have x1 : w1.cell? ⟨w.heap.size, 0, none⟩ = some (.slice ao n c) := cell_keep (S := 0) hb x0
    have r1 : w1.cell? ⟨w.heap.size + 1, 0, none⟩ = some (.slice none 0 0) := cell_keep (S := 0) hb r0
    have f1 : w1.frozen? ⟨w.heap.size + 1, 0, none⟩ = false := fcell_keep hb l0 f0
    have l1 : w.heap.size + 1 < w1.heap.size := World.block_lt_of_cell? _ _ r1
    clear hb x0 r0 f0 l0 hg
    go_wp2_with fail
    refine (rowOf_d HA.out HX.out hn6 HR.out _ HB1.out).mono ?_
    rintro e w2 ⟨rfl, HB2, hb⟩
    have r2 : w2.cell? ⟨w.heap.size + 1, 0, none⟩ = some (.slice none 0 0) := cell_keep (S := 0) hb r1
    have f2 : w2.frozen? ⟨w.heap.size + 1, 0, none⟩ = false := fcell_keep hb l1 f1
    have l2 : w.heap.size + 1 < w2.heap.size := World.block_lt_of_cell? _ _ r2
    clear hb x1 r1 f1 l1
    go_wp2_with fail
    have A3 : C6 (w2.alloc (Obj.cells #[.int .i64 a0, .int .i64 a1, .int .i64 a2, .int .i64 a3, .int .i64 a4, .int .i64 a5] 53)) w2.heap.size a0 a1 a2 a3 a4 a5 := c6_new rfl
    have r3 : (w2.alloc (Obj.cells #[.int .i64 a0, .int .i64 a1, .int .i64 a2, .int .i64 a3, .int .i64 a4, .int .i64 a5] 53)).cell? ⟨w.heap.size + 1, 0, none⟩ = some (.slice none 0 0) := calloc r2
    have f3 : (w2.alloc (Obj.cells #[.int .i64 a0, .int .i64 a1, .int .i64 a2, .int .i64 a3, .int .i64 a4, .int .i64 a5] 53)).frozen? ⟨w.heap.size + 1, 0, none⟩ = false := falloc f2 l2
    have HB3 : Hid (Below w.heap.size w (w2.alloc (Obj.cells #[.int .i64 a0, .int .i64 a1, .int .i64 a2, .int .i64 a3, .int .i64 a4, .int .i64 a5] 53))) := HB2.out.alloc (by omega) _
    generalize (w2.alloc (Obj.cells #[.int .i64 a0, .int .i64 a1, .int .i64 a2, .int .i64 a3, .int .i64 a4, .int .i64 a5] 53)) = w3 at A3 r3 f3 HB3 ⊢
    generalize w2.heap.size = ga at A3 l2 ⊢
    have l3 : w.heap.size + 1 < w3.heap.size := World.block_lt_of_cell? _ _ r3
    clear r2 f2
    have HC3 : Hid (Below w3.heap.size w3 w3) := Below.refl _ _
    have la3 := World.block_lt_of_cell? _ _ A3.1
    obtain ⟨y0, y1, y2, y3, y4, y5⟩ := A3
    go_cut [9, 10] (fun ub uv wx => ∃ (gx gy : Nat), ub = .pointer (some ⟨gx, 0, none⟩) ∧ uv = .pointer (some ⟨gy, 0, none⟩) ∧ w3.heap.size ≤ gx ∧ w3.heap.size ≤ gy ∧ C6 wx gx u0 u1 u2 u3 u4 u5 ∧ C6 wx gy s0 s1 s2 s3 s4 s5 ∧ Hid (Below w3.heap.size w3 wx))
    case first =>
      have tok1 : True := trivial
      have lga : ga < w3.heap.size := World.block_lt_of_cell? _ _ y0
      refine wp_region_held_drew (S := (fun w' => w'.cell? ⟨ga, 0, none⟩ = some (.int .i64 a0) ∧ w'.cell? ⟨ga, 1, none⟩ = some (.int .i64 a1) ∧ w'.cell? ⟨ga, 2, none⟩ = some (.int .i64 a2) ∧ w'.cell? ⟨ga, 3, none⟩ = some (.int .i64 a3) ∧ w'.cell? ⟨ga, 4, none⟩ = some (.int .i64 a4) ∧ w'.cell? ⟨ga, 5, none⟩ = some (.int .i64 a5))) (by kernel_rfl) ?_ (fun hHeld => ?_)
      · exact ⟨y0, y1, y2, y3, y4, y5⟩
      have HC4 : Hid (Below w3.heap.size w3 w3.drew) := (Below.refl _ _).drew
      have Y4 : Hid (C6 w3.drew ga a0 a1 a2 a3 a4 a5) := hHeld
      generalize w3.drew = w4 at HC4 Y4 hHeld ⊢
      refine takeS (i := 0) (oi := _) (v := ?_) (d := some 44) rfl (by kernel_rfl) (by kernel_rfl) (by kernel_rfl) (by kernel_rfl) (fun _ _ _ h => h) (Or.inl ⟨by rfl, ?_⟩) (by assumption) ?_
      rotate_left
      · (intro w hSw; (try dsimp only at hSw); go_simp <;> with_reducible rfl)
      try simp only [Act.put, List.setIfInBounds_toArray, List.set_cons_zero, List.set_cons_succ]
      refine takeS (i := 1) (oi := _) (v := ?_) (d := some 45) rfl (by kernel_rfl) (by kernel_rfl) (by kernel_rfl) (by kernel_rfl) (fun _ _ _ h => h) (Or.inl ⟨by rfl, ?_⟩) (by assumption) ?_
      rotate_left
      · (intro w hSw; (try dsimp only at hSw); go_simp <;> with_reducible rfl)
      try simp only [Act.put, List.setIfInBounds_toArray, List.set_cons_zero, List.set_cons_succ]
      refine wpAnyH_ready (rs := [2, 7, 8]) (by kernel_rfl) (by simp) ?_
      refine AllReadyH.cons (o := _) rfl (fun K hK => ?_) (AllReadyH.cons (o := _) rfl (fun K hK => ?_) (AllReadyH.cons (o := _) rfl (fun K hK => ?_) AllReadyH.nil))
      · skip
        go_simp
        go_at_call 53
        refine (powerOfTwo_d (k := b) (w := w3) (by omega) (by omega) HPW.out.1 HPW.out.2 _ HC4.out).mono ?_
        rintro e w5 ⟨rfl, hH, hb⟩
        clear hH
        have HC5 : Hid (Below w3.heap.size w3 w5) := HC4.out.trans (hb.mono HC4.out.size)
        have Y5 : Hid (C6 w5 ga a0 a1 a2 a3 a4 a5) := Y4.out.keep hb
        refine hK.out _ _ ?_ (fun hHeld => ?_)
        · exact Y5.out
        clear hK K hb HC4 Y4
        try simp only [Act.put, List.setIfInBounds_toArray, List.set_cons_zero, List.set_cons_succ]
        refine wpAnyH_ready (rs := [3, 7, 8]) (by kernel_rfl) (by simp) ?_
        refine AllReadyH.cons (o := _) rfl (fun K hK => ?_) (AllReadyH.cons (o := _) rfl (fun K hK => ?_) (AllReadyH.cons (o := _) rfl (fun K hK => ?_) AllReadyH.nil))
        · skip
          go_simp
          go_at_call 40
          refine (timesRows_d (w := w3) HDA.out.1 HPW.out.1 HE.out.1 HE.out.2 _ HC5.out).mono ?_
          rintro e w6 ⟨rfl, hH, hb⟩
          clear hH
          have HC6 : Hid (Below w3.heap.size w3 w6) := HC5.out.trans (hb.mono HC5.out.size)
          have Y6 : Hid (C6 w6 ga a0 a1 a2 a3 a4 a5) := Y5.out.keep hb
          refine hK.out _ _ ?_ (fun hHeld => ?_)
          · exact Y6.out
          clear hK K hb HC5 Y5
          try simp only [Act.put, List.setIfInBounds_toArray, List.set_cons_zero, List.set_cons_succ]
          refine takeS (i := 4) (oi := _) (v := ?_) (d := some 43) rfl (by kernel_rfl) (by kernel_rfl) (by kernel_rfl) (by kernel_rfl) (fun _ _ _ h => h) (Or.inl ⟨by rfl, ?_⟩) (by assumption) ?_
          rotate_left
          · (intro w hSw; (try dsimp only at hSw); go_simp <;> with_reducible rfl)
          try simp only [Act.put, List.setIfInBounds_toArray, List.set_cons_zero, List.set_cons_succ]
          refine takeS (i := 5) (oi := _) (v := ?_) (d := some 48) rfl (by kernel_rfl) (by kernel_rfl) (by kernel_rfl) (by kernel_rfl) (fun _ _ _ h => h) (Or.inl ⟨by rfl, ?_⟩) (by assumption) ?_
          rotate_left
          · (intro w hSw; (try dsimp only at hSw); go_simp <;> with_reducible rfl)
          try simp only [Act.put, List.setIfInBounds_toArray, List.set_cons_zero, List.set_cons_succ]
          refine takeS (i := 6) (oi := _) (v := ?_) (d := some 49) rfl (by kernel_rfl) (by kernel_rfl) (by kernel_rfl) (by kernel_rfl) (fun _ _ _ h => h) (Or.inl ⟨by rfl, ?_⟩) (by assumption) ?_
          rotate_left
          · (intro w hSw; (try dsimp only at hSw); go_simp <;> with_reducible rfl)
          try simp only [Act.put, List.setIfInBounds_toArray, List.set_cons_zero, List.set_cons_succ]
          refine wpAnyH_ready (rs := [7, 8]) (by kernel_rfl) (by simp) ?_
          refine AllReadyH.cons (o := _) rfl (fun K hK => ?_) (AllReadyH.cons (o := _) rfl (fun K hK => ?_) AllReadyH.nil)
          · skip
            go_simp
            have hb : Below w6.heap.size w6 (w6.alloc (Obj.cells #[.int .i64 0, .int .i64 0, .int .i64 0, .int .i64 0, .int .i64 0, .int .i64 0] 53)) := (Below.refl _ _).alloc (Nat.le_refl _) _
            have GN : Hid (D6 (w6.alloc (Obj.cells #[.int .i64 0, .int .i64 0, .int .i64 0, .int .i64 0, .int .i64 0, .int .i64 0] 53)) w6.heap.size 0 0 0 0 0 0) := d6_new rfl
            refine hK.out _ _ ?_ (fun hHeld => ?_)
            · exact Y6.out.keep hb
            clear hK K
            try simp only [Act.put, List.setIfInBounds_toArray, List.set_cons_zero, List.set_cons_succ]
            generalize (w6.alloc (Obj.cells #[.int .i64 0, .int .i64 0, .int .i64 0, .int .i64 0, .int .i64 0, .int .i64 0] 53)) = w7 at hb GN hHeld ⊢
            have HC7 : Hid (Below w3.heap.size w3 w7) := HC6.out.trans (hb.mono HC6.out.size)
            have Y7 : Hid (C6 w7 ga a0 a1 a2 a3 a4 a5) := Y6.out.keep hb
            have sz6 : w3.heap.size ≤ w6.heap.size := HC6.out.size
            have GX7 : Hid (D6 w7 w6.heap.size 0 0 0 0 0 0) := GN
            clear hb GN HC6 Y6
            refine wpAnyH_ready (rs := [8]) (by kernel_rfl) (by simp) ?_
            refine AllReadyH.cons (o := _) rfl (fun K hK => ?_) AllReadyH.nil
            · skip
              go_simp
              have hb : Below w7.heap.size w7 (w7.alloc (Obj.cells #[.int .i64 0, .int .i64 0, .int .i64 0, .int .i64 0, .int .i64 0, .int .i64 0] 53)) := (Below.refl _ _).alloc (Nat.le_refl _) _
              have GN : Hid (D6 (w7.alloc (Obj.cells #[.int .i64 0, .int .i64 0, .int .i64 0, .int .i64 0, .int .i64 0, .int .i64 0] 53)) w7.heap.size 0 0 0 0 0 0) := d6_new rfl
              refine hK.out _ _ ?_ (fun hHeld => ?_)
              · exact Y7.out.keep hb
              clear hK K
              try simp only [Act.put, List.setIfInBounds_toArray, List.set_cons_zero, List.set_cons_succ]
              generalize (w7.alloc (Obj.cells #[.int .i64 0, .int .i64 0, .int .i64 0, .int .i64 0, .int .i64 0, .int .i64 0] 53)) = w8 at hb GN hHeld ⊢
              have HC8 : Hid (Below w3.heap.size w3 w8) := HC7.out.trans (hb.mono HC7.out.size)
              have Y8 : Hid (C6 w8 ga a0 a1 a2 a3 a4 a5) := Y7.out.keep hb
              have GX8 : Hid (D6 w8 w6.heap.size 0 0 0 0 0 0) := GX7.out.keep hb
              have sz7 : w3.heap.size ≤ w7.heap.size := HC7.out.size
              have sl7 : w6.heap.size < w7.heap.size := GX7.out.lt
              have GY8 : Hid (D6 w8 w7.heap.size 0 0 0 0 0 0) := GN
              clear hb GN HC7 Y7 GX7
              have lx := GX8.out.lt
              have ly := GY8.out.lt
              have hxy : w6.heap.size ≠ w7.heap.size := by omega
              have hbx : w3.heap.size ≤ w6.heap.size := by omega
              have hby : w3.heap.size ≤ w7.heap.size := by omega
              have hax : ga ≠ w6.heap.size := by omega
              have hay : ga ≠ w7.heap.size := by omega
              have hcel := GX8.out.1
              obtain ⟨e0, e1, e2, e3, e4, e5⟩ := hcel
              have hfr := GX8.out.2
              have q0 := hfr 0
              have q1 := hfr 1
              have q2 := hfr 2
              have q3 := hfr 3
              have q4 := hfr 4
              have q5 := hfr 5
              clear hfr
              have YN : Hid (C6 ((((((w8.setCell ⟨w6.heap.size, 0, none⟩ (.int .i64 u0)).setCell ⟨w6.heap.size, 1, none⟩ (.int .i64 u1)).setCell ⟨w6.heap.size, 2, none⟩ (.int .i64 u2)).setCell ⟨w6.heap.size, 3, none⟩ (.int .i64 u3)).setCell ⟨w6.heap.size, 4, none⟩ (.int .i64 u4)).setCell ⟨w6.heap.size, 5, none⟩ (.int .i64 u5)) ga a0 a1 a2 a3 a4 a5) := c6_set_ne Y8.out hax
              have MN : Hid (D6 ((((((w8.setCell ⟨w6.heap.size, 0, none⟩ (.int .i64 u0)).setCell ⟨w6.heap.size, 1, none⟩ (.int .i64 u1)).setCell ⟨w6.heap.size, 2, none⟩ (.int .i64 u2)).setCell ⟨w6.heap.size, 3, none⟩ (.int .i64 u3)).setCell ⟨w6.heap.size, 4, none⟩ (.int .i64 u4)).setCell ⟨w6.heap.size, 5, none⟩ (.int .i64 u5)) w6.heap.size u0 u1 u2 u3 u4 u5) := D6.set GX8.out u0 u1 u2 u3 u4 u5
              have ON : Hid (D6 ((((((w8.setCell ⟨w6.heap.size, 0, none⟩ (.int .i64 u0)).setCell ⟨w6.heap.size, 1, none⟩ (.int .i64 u1)).setCell ⟨w6.heap.size, 2, none⟩ (.int .i64 u2)).setCell ⟨w6.heap.size, 3, none⟩ (.int .i64 u3)).setCell ⟨w6.heap.size, 4, none⟩ (.int .i64 u4)).setCell ⟨w6.heap.size, 5, none⟩ (.int .i64 u5)) w7.heap.size 0 0 0 0 0 0) := D6.other GY8.out hxy.symm u0 u1 u2 u3 u4 u5
              have HN : Hid (Below w3.heap.size w3 ((((((w8.setCell ⟨w6.heap.size, 0, none⟩ (.int .i64 u0)).setCell ⟨w6.heap.size, 1, none⟩ (.int .i64 u1)).setCell ⟨w6.heap.size, 2, none⟩ (.int .i64 u2)).setCell ⟨w6.heap.size, 3, none⟩ (.int .i64 u3)).setCell ⟨w6.heap.size, 4, none⟩ (.int .i64 u4)).setCell ⟨w6.heap.size, 5, none⟩ (.int .i64 u5))) := below_set6 HC8.out hbx
              refine wpAnyH_ready (rs := [9]) (by kernel_rfl) (by simp) ?_
              refine AllReadyH.cons (o := _) rfl (fun K hK => ?_) AllReadyH.nil
              go_simp
              refine hK.out _ _ ?_ (fun hHeld => ?_)
              · exact YN.out
              clear hK K
              try simp only [Act.put, List.setIfInBounds_toArray, List.set_cons_zero, List.set_cons_succ]
              generalize ((((((w8.setCell ⟨w6.heap.size, 0, none⟩ (.int .i64 u0)).setCell ⟨w6.heap.size, 1, none⟩ (.int .i64 u1)).setCell ⟨w6.heap.size, 2, none⟩ (.int .i64 u2)).setCell ⟨w6.heap.size, 3, none⟩ (.int .i64 u3)).setCell ⟨w6.heap.size, 4, none⟩ (.int .i64 u4)).setCell ⟨w6.heap.size, 5, none⟩ (.int .i64 u5)) = w9 at YN MN ON HN hHeld ⊢
              have Y9 := YN
              have GX9 := MN
              have GY9 := ON
              have HC9 := HN
              clear YN MN ON HN e0 e1 e2 e3 e4 e5 q0 q1 q2 q3 q4 q5 GX8 GY8 Y8 HC8
              have hcel := GY9.out.1
              obtain ⟨e0, e1, e2, e3, e4, e5⟩ := hcel
              have hfr := GY9.out.2
              have q0 := hfr 0
              have q1 := hfr 1
              have q2 := hfr 2
              have q3 := hfr 3
              have q4 := hfr 4
              have q5 := hfr 5
              clear hfr
              have YN : Hid (C6 ((((((w9.setCell ⟨w7.heap.size, 0, none⟩ (.int .i64 s0)).setCell ⟨w7.heap.size, 1, none⟩ (.int .i64 s1)).setCell ⟨w7.heap.size, 2, none⟩ (.int .i64 s2)).setCell ⟨w7.heap.size, 3, none⟩ (.int .i64 s3)).setCell ⟨w7.heap.size, 4, none⟩ (.int .i64 s4)).setCell ⟨w7.heap.size, 5, none⟩ (.int .i64 s5)) ga a0 a1 a2 a3 a4 a5) := c6_set_ne Y9.out hay
              have MN : Hid (D6 ((((((w9.setCell ⟨w7.heap.size, 0, none⟩ (.int .i64 s0)).setCell ⟨w7.heap.size, 1, none⟩ (.int .i64 s1)).setCell ⟨w7.heap.size, 2, none⟩ (.int .i64 s2)).setCell ⟨w7.heap.size, 3, none⟩ (.int .i64 s3)).setCell ⟨w7.heap.size, 4, none⟩ (.int .i64 s4)).setCell ⟨w7.heap.size, 5, none⟩ (.int .i64 s5)) w7.heap.size s0 s1 s2 s3 s4 s5) := D6.set GY9.out s0 s1 s2 s3 s4 s5
              have ON : Hid (D6 ((((((w9.setCell ⟨w7.heap.size, 0, none⟩ (.int .i64 s0)).setCell ⟨w7.heap.size, 1, none⟩ (.int .i64 s1)).setCell ⟨w7.heap.size, 2, none⟩ (.int .i64 s2)).setCell ⟨w7.heap.size, 3, none⟩ (.int .i64 s3)).setCell ⟨w7.heap.size, 4, none⟩ (.int .i64 s4)).setCell ⟨w7.heap.size, 5, none⟩ (.int .i64 s5)) w6.heap.size u0 u1 u2 u3 u4 u5) := D6.other GX9.out hxy s0 s1 s2 s3 s4 s5
              have HN : Hid (Below w3.heap.size w3 ((((((w9.setCell ⟨w7.heap.size, 0, none⟩ (.int .i64 s0)).setCell ⟨w7.heap.size, 1, none⟩ (.int .i64 s1)).setCell ⟨w7.heap.size, 2, none⟩ (.int .i64 s2)).setCell ⟨w7.heap.size, 3, none⟩ (.int .i64 s3)).setCell ⟨w7.heap.size, 4, none⟩ (.int .i64 s4)).setCell ⟨w7.heap.size, 5, none⟩ (.int .i64 s5))) := below_set6 HC9.out hby
              refine wpAnyH_ready (rs := [10]) (by kernel_rfl) (by simp) ?_
              refine AllReadyH.cons (o := _) rfl (fun K hK => ?_) AllReadyH.nil
              go_simp
              refine hK.out _ _ ?_ (fun hHeld => ?_)
              · exact YN.out
              clear hK K
              try simp only [Act.put, List.setIfInBounds_toArray, List.set_cons_zero, List.set_cons_succ]
              generalize ((((((w9.setCell ⟨w7.heap.size, 0, none⟩ (.int .i64 s0)).setCell ⟨w7.heap.size, 1, none⟩ (.int .i64 s1)).setCell ⟨w7.heap.size, 2, none⟩ (.int .i64 s2)).setCell ⟨w7.heap.size, 3, none⟩ (.int .i64 s3)).setCell ⟨w7.heap.size, 4, none⟩ (.int .i64 s4)).setCell ⟨w7.heap.size, 5, none⟩ (.int .i64 s5)) = w10 at YN MN ON HN hHeld ⊢
              have Y10 := YN
              have GY10 := MN
              have GX10 := ON
              have HC10 := HN
              clear YN MN ON HN e0 e1 e2 e3 e4 e5 q0 q1 q2 q3 q4 q5 GX9 GY9 Y9 HC9
              refine wpAnyH_done (by kernel_rfl) ?_ _
              go_wp2_with fail
              go_meet
              exact ⟨w6.heap.size, w7.heap.size, rfl, rfl, hbx, hby, GX10.out.1, GY10.out.1, HC10⟩
          · skip
            go_simp
            have hb : Below w6.heap.size w6 (w6.alloc (Obj.cells #[.int .i64 0, .int .i64 0, .int .i64 0, .int .i64 0, .int .i64 0, .int .i64 0] 53)) := (Below.refl _ _).alloc (Nat.le_refl _) _
            have GN : Hid (D6 (w6.alloc (Obj.cells #[.int .i64 0, .int .i64 0, .int .i64 0, .int .i64 0, .int .i64 0, .int .i64 0] 53)) w6.heap.size 0 0 0 0 0 0) := d6_new rfl
            refine hK.out _ _ ?_ (fun hHeld => ?_)
            · exact Y6.out.keep hb
            clear hK K
            try simp only [Act.put, List.setIfInBounds_toArray, List.set_cons_zero, List.set_cons_succ]
            generalize (w6.alloc (Obj.cells #[.int .i64 0, .int .i64 0, .int .i64 0, .int .i64 0, .int .i64 0, .int .i64 0] 53)) = w7 at hb GN hHeld ⊢
            have HC7 : Hid (Below w3.heap.size w3 w7) := HC6.out.trans (hb.mono HC6.out.size)
            have Y7 : Hid (C6 w7 ga a0 a1 a2 a3 a4 a5) := Y6.out.keep hb
            have sz6 : w3.heap.size ≤ w6.heap.size := HC6.out.size
            have GY7 : Hid (D6 w7 w6.heap.size 0 0 0 0 0 0) := GN
            clear hb GN HC6 Y6
            refine wpAnyH_ready (rs := [7]) (by kernel_rfl) (by simp) ?_
            refine AllReadyH.cons (o := _) rfl (fun K hK => ?_) AllReadyH.nil
            · skip
              go_simp
              have hb : Below w7.heap.size w7 (w7.alloc (Obj.cells #[.int .i64 0, .int .i64 0, .int .i64 0, .int .i64 0, .int .i64 0, .int .i64 0] 53)) := (Below.refl _ _).alloc (Nat.le_refl _) _
              have GN : Hid (D6 (w7.alloc (Obj.cells #[.int .i64 0, .int .i64 0, .int .i64 0, .int .i64 0, .int .i64 0, .int .i64 0] 53)) w7.heap.size 0 0 0 0 0 0) := d6_new rfl
              refine hK.out _ _ ?_ (fun hHeld => ?_)
              · exact Y7.out.keep hb
              clear hK K
              try simp only [Act.put, List.setIfInBounds_toArray, List.set_cons_zero, List.set_cons_succ]
              generalize (w7.alloc (Obj.cells #[.int .i64 0, .int .i64 0, .int .i64 0, .int .i64 0, .int .i64 0, .int .i64 0] 53)) = w8 at hb GN hHeld ⊢
              have HC8 : Hid (Below w3.heap.size w3 w8) := HC7.out.trans (hb.mono HC7.out.size)
              have Y8 : Hid (C6 w8 ga a0 a1 a2 a3 a4 a5) := Y7.out.keep hb
              have GY8 : Hid (D6 w8 w6.heap.size 0 0 0 0 0 0) := GY7.out.keep hb
              have sz7 : w3.heap.size ≤ w7.heap.size := HC7.out.size
              have sl7 : w6.heap.size < w7.heap.size := GY7.out.lt
              have GX8 : Hid (D6 w8 w7.heap.size 0 0 0 0 0 0) := GN
              clear hb GN HC7 Y7 GY7
              have lx := GX8.out.lt
              have ly := GY8.out.lt
              have hxy : w7.heap.size ≠ w6.heap.size := by omega
              have hbx : w3.heap.size ≤ w7.heap.size := by omega
              have hby : w3.heap.size ≤ w6.heap.size := by omega
              have hax : ga ≠ w7.heap.size := by omega
              have hay : ga ≠ w6.heap.size := by omega
              have hcel := GX8.out.1
              obtain ⟨e0, e1, e2, e3, e4, e5⟩ := hcel
              have hfr := GX8.out.2
              have q0 := hfr 0
              have q1 := hfr 1
              have q2 := hfr 2
              have q3 := hfr 3
              have q4 := hfr 4
              have q5 := hfr 5
              clear hfr
              have YN : Hid (C6 ((((((w8.setCell ⟨w7.heap.size, 0, none⟩ (.int .i64 u0)).setCell ⟨w7.heap.size, 1, none⟩ (.int .i64 u1)).setCell ⟨w7.heap.size, 2, none⟩ (.int .i64 u2)).setCell ⟨w7.heap.size, 3, none⟩ (.int .i64 u3)).setCell ⟨w7.heap.size, 4, none⟩ (.int .i64 u4)).setCell ⟨w7.heap.size, 5, none⟩ (.int .i64 u5)) ga a0 a1 a2 a3 a4 a5) := c6_set_ne Y8.out hax
              have MN : Hid (D6 ((((((w8.setCell ⟨w7.heap.size, 0, none⟩ (.int .i64 u0)).setCell ⟨w7.heap.size, 1, none⟩ (.int .i64 u1)).setCell ⟨w7.heap.size, 2, none⟩ (.int .i64 u2)).setCell ⟨w7.heap.size, 3, none⟩ (.int .i64 u3)).setCell ⟨w7.heap.size, 4, none⟩ (.int .i64 u4)).setCell ⟨w7.heap.size, 5, none⟩ (.int .i64 u5)) w7.heap.size u0 u1 u2 u3 u4 u5) := D6.set GX8.out u0 u1 u2 u3 u4 u5
              have ON : Hid (D6 ((((((w8.setCell ⟨w7.heap.size, 0, none⟩ (.int .i64 u0)).setCell ⟨w7.heap.size, 1, none⟩ (.int .i64 u1)).setCell ⟨w7.heap.size, 2, none⟩ (.int .i64 u2)).setCell ⟨w7.heap.size, 3, none⟩ (.int .i64 u3)).setCell ⟨w7.heap.size, 4, none⟩ (.int .i64 u4)).setCell ⟨w7.heap.size, 5, none⟩ (.int .i64 u5)) w6.heap.size 0 0 0 0 0 0) := D6.other GY8.out hxy.symm u0 u1 u2 u3 u4 u5
              have HN : Hid (Below w3.heap.size w3 ((((((w8.setCell ⟨w7.heap.size, 0, none⟩ (.int .i64 u0)).setCell ⟨w7.heap.size, 1, none⟩ (.int .i64 u1)).setCell ⟨w7.heap.size, 2, none⟩ (.int .i64 u2)).setCell ⟨w7.heap.size, 3, none⟩ (.int .i64 u3)).setCell ⟨w7.heap.size, 4, none⟩ (.int .i64 u4)).setCell ⟨w7.heap.size, 5, none⟩ (.int .i64 u5))) := below_set6 HC8.out hbx
              refine wpAnyH_ready (rs := [9]) (by kernel_rfl) (by simp) ?_
              refine AllReadyH.cons (o := _) rfl (fun K hK => ?_) AllReadyH.nil
              go_simp
              refine hK.out _ _ ?_ (fun hHeld => ?_)
              · exact YN.out
              clear hK K
              try simp only [Act.put, List.setIfInBounds_toArray, List.set_cons_zero, List.set_cons_succ]
              generalize ((((((w8.setCell ⟨w7.heap.size, 0, none⟩ (.int .i64 u0)).setCell ⟨w7.heap.size, 1, none⟩ (.int .i64 u1)).setCell ⟨w7.heap.size, 2, none⟩ (.int .i64 u2)).setCell ⟨w7.heap.size, 3, none⟩ (.int .i64 u3)).setCell ⟨w7.heap.size, 4, none⟩ (.int .i64 u4)).setCell ⟨w7.heap.size, 5, none⟩ (.int .i64 u5)) = w9 at YN MN ON HN hHeld ⊢
              have Y9 := YN
              have GX9 := MN
              have GY9 := ON
              have HC9 := HN
              clear YN MN ON HN e0 e1 e2 e3 e4 e5 q0 q1 q2 q3 q4 q5 GX8 GY8 Y8 HC8
              have hcel := GY9.out.1
              obtain ⟨e0, e1, e2, e3, e4, e5⟩ := hcel
              have hfr := GY9.out.2
              have q0 := hfr 0
              have q1 := hfr 1
              have q2 := hfr 2
              have q3 := hfr 3
              have q4 := hfr 4
              have q5 := hfr 5
              clear hfr
              have YN : Hid (C6 ((((((w9.setCell ⟨w6.heap.size, 0, none⟩ (.int .i64 s0)).setCell ⟨w6.heap.size, 1, none⟩ (.int .i64 s1)).setCell ⟨w6.heap.size, 2, none⟩ (.int .i64 s2)).setCell ⟨w6.heap.size, 3, none⟩ (.int .i64 s3)).setCell ⟨w6.heap.size, 4, none⟩ (.int .i64 s4)).setCell ⟨w6.heap.size, 5, none⟩ (.int .i64 s5)) ga a0 a1 a2 a3 a4 a5) := c6_set_ne Y9.out hay
              have MN : Hid (D6 ((((((w9.setCell ⟨w6.heap.size, 0, none⟩ (.int .i64 s0)).setCell ⟨w6.heap.size, 1, none⟩ (.int .i64 s1)).setCell ⟨w6.heap.size, 2, none⟩ (.int .i64 s2)).setCell ⟨w6.heap.size, 3, none⟩ (.int .i64 s3)).setCell ⟨w6.heap.size, 4, none⟩ (.int .i64 s4)).setCell ⟨w6.heap.size, 5, none⟩ (.int .i64 s5)) w6.heap.size s0 s1 s2 s3 s4 s5) := D6.set GY9.out s0 s1 s2 s3 s4 s5
              have ON : Hid (D6 ((((((w9.setCell ⟨w6.heap.size, 0, none⟩ (.int .i64 s0)).setCell ⟨w6.heap.size, 1, none⟩ (.int .i64 s1)).setCell ⟨w6.heap.size, 2, none⟩ (.int .i64 s2)).setCell ⟨w6.heap.size, 3, none⟩ (.int .i64 s3)).setCell ⟨w6.heap.size, 4, none⟩ (.int .i64 s4)).setCell ⟨w6.heap.size, 5, none⟩ (.int .i64 s5)) w7.heap.size u0 u1 u2 u3 u4 u5) := D6.other GX9.out hxy s0 s1 s2 s3 s4 s5
              have HN : Hid (Below w3.heap.size w3 ((((((w9.setCell ⟨w6.heap.size, 0, none⟩ (.int .i64 s0)).setCell ⟨w6.heap.size, 1, none⟩ (.int .i64 s1)).setCell ⟨w6.heap.size, 2, none⟩ (.int .i64 s2)).setCell ⟨w6.heap.size, 3, none⟩ (.int .i64 s3)).setCell ⟨w6.heap.size, 4, none⟩ (.int .i64 s4)).setCell ⟨w6.heap.size, 5, none⟩ (.int .i64 s5))) := below_set6 HC9.out hby
              refine wpAnyH_ready (rs := [10]) (by kernel_rfl) (by simp) ?_
              refine AllReadyH.cons (o := _) rfl (fun K hK => ?_) AllReadyH.nil
              go_simp
              refine hK.out _ _ ?_ (fun hHeld => ?_)
              · exact YN.out
              clear hK K
              try simp only [Act.put, List.setIfInBounds_toArray, List.set_cons_zero, List.set_cons_succ]
              generalize ((((((w9.setCell ⟨w6.heap.size, 0, none⟩ (.int .i64 s0)).setCell ⟨w6.heap.size, 1, none⟩ (.int .i64 s1)).setCell ⟨w6.heap.size, 2, none⟩ (.int .i64 s2)).setCell ⟨w6.heap.size, 3, none⟩ (.int .i64 s3)).setCell ⟨w6.heap.size, 4, none⟩ (.int .i64 s4)).setCell ⟨w6.heap.size, 5, none⟩ (.int .i64 s5)) = w10 at YN MN ON HN hHeld ⊢
              have Y10 := YN
              have GY10 := MN
              have GX10 := ON
              have HC10 := HN
              clear YN MN ON HN e0 e1 e2 e3 e4 e5 q0 q1 q2 q3 q4 q5 GX9 GY9 Y9 HC9
              refine wpAnyH_done (by kernel_rfl) ?_ _
              go_wp2_with fail
              go_meet
              exact ⟨w7.heap.size, w6.heap.size, rfl, rfl, hbx, hby, GX10.out.1, GY10.out.1, HC10⟩
        · skip
          go_simp
          have hb : Below w5.heap.size w5 (w5.alloc (Obj.cells #[.int .i64 0, .int .i64 0, .int .i64 0, .int .i64 0, .int .i64 0, .int .i64 0] 53)) := (Below.refl _ _).alloc (Nat.le_refl _) _
          have GN : Hid (D6 (w5.alloc (Obj.cells #[.int .i64 0, .int .i64 0, .int .i64 0, .int .i64 0, .int .i64 0, .int .i64 0] 53)) w5.heap.size 0 0 0 0 0 0) := d6_new rfl
          refine hK.out _ _ ?_ (fun hHeld => ?_)
          · exact Y5.out.keep hb
          clear hK K
          try simp only [Act.put, List.setIfInBounds_toArray, List.set_cons_zero, List.set_cons_succ]
          generalize (w5.alloc (Obj.cells #[.int .i64 0, .int .i64 0, .int .i64 0, .int .i64 0, .int .i64 0, .int .i64 0] 53)) = w6 at hb GN hHeld ⊢
          have HC6 : Hid (Below w3.heap.size w3 w6) := HC5.out.trans (hb.mono HC5.out.size)
          have Y6 : Hid (C6 w6 ga a0 a1 a2 a3 a4 a5) := Y5.out.keep hb
          have sz5 : w3.heap.size ≤ w5.heap.size := HC5.out.size
          have GX6 : Hid (D6 w6 w5.heap.size 0 0 0 0 0 0) := GN
          clear hb GN HC5 Y5
          refine wpAnyH_ready (rs := [3, 8]) (by kernel_rfl) (by simp) ?_
          refine AllReadyH.cons (o := _) rfl (fun K hK => ?_) (AllReadyH.cons (o := _) rfl (fun K hK => ?_) AllReadyH.nil)
          · skip
            go_simp
            go_at_call 40
            refine (timesRows_d (w := w3) HDA.out.1 HPW.out.1 HE.out.1 HE.out.2 _ HC6.out).mono ?_
            rintro e w7 ⟨rfl, hH, hb⟩
            clear hH
            have HC7 : Hid (Below w3.heap.size w3 w7) := HC6.out.trans (hb.mono HC6.out.size)
            have Y7 : Hid (C6 w7 ga a0 a1 a2 a3 a4 a5) := Y6.out.keep hb
            have GX7 : Hid (D6 w7 w5.heap.size 0 0 0 0 0 0) := GX6.out.keep hb
            refine hK.out _ _ ?_ (fun hHeld => ?_)
            · exact Y7.out
            clear hK K hb HC6 Y6 GX6
            try simp only [Act.put, List.setIfInBounds_toArray, List.set_cons_zero, List.set_cons_succ]
            refine takeS (i := 4) (oi := _) (v := ?_) (d := some 43) rfl (by kernel_rfl) (by kernel_rfl) (by kernel_rfl) (by kernel_rfl) (fun _ _ _ h => h) (Or.inl ⟨by rfl, ?_⟩) (by assumption) ?_
            rotate_left
            · (intro w hSw; (try dsimp only at hSw); go_simp <;> with_reducible rfl)
            try simp only [Act.put, List.setIfInBounds_toArray, List.set_cons_zero, List.set_cons_succ]
            refine takeS (i := 5) (oi := _) (v := ?_) (d := some 48) rfl (by kernel_rfl) (by kernel_rfl) (by kernel_rfl) (by kernel_rfl) (fun _ _ _ h => h) (Or.inl ⟨by rfl, ?_⟩) (by assumption) ?_
            rotate_left
            · (intro w hSw; (try dsimp only at hSw); go_simp <;> with_reducible rfl)
            try simp only [Act.put, List.setIfInBounds_toArray, List.set_cons_zero, List.set_cons_succ]
            refine takeS (i := 6) (oi := _) (v := ?_) (d := some 49) rfl (by kernel_rfl) (by kernel_rfl) (by kernel_rfl) (by kernel_rfl) (fun _ _ _ h => h) (Or.inl ⟨by rfl, ?_⟩) (by assumption) ?_
            rotate_left
            · (intro w hSw; (try dsimp only at hSw); go_simp <;> with_reducible rfl)
            try simp only [Act.put, List.setIfInBounds_toArray, List.set_cons_zero, List.set_cons_succ]
            refine wpAnyH_ready (rs := [8]) (by kernel_rfl) (by simp) ?_
            refine AllReadyH.cons (o := _) rfl (fun K hK => ?_) AllReadyH.nil
            · skip
              go_simp
              have hb : Below w7.heap.size w7 (w7.alloc (Obj.cells #[.int .i64 0, .int .i64 0, .int .i64 0, .int .i64 0, .int .i64 0, .int .i64 0] 53)) := (Below.refl _ _).alloc (Nat.le_refl _) _
              have GN : Hid (D6 (w7.alloc (Obj.cells #[.int .i64 0, .int .i64 0, .int .i64 0, .int .i64 0, .int .i64 0, .int .i64 0] 53)) w7.heap.size 0 0 0 0 0 0) := d6_new rfl
              refine hK.out _ _ ?_ (fun hHeld => ?_)
              · exact Y7.out.keep hb
              clear hK K
              try simp only [Act.put, List.setIfInBounds_toArray, List.set_cons_zero, List.set_cons_succ]
              generalize (w7.alloc (Obj.cells #[.int .i64 0, .int .i64 0, .int .i64 0, .int .i64 0, .int .i64 0, .int .i64 0] 53)) = w8 at hb GN hHeld ⊢
              have HC8 : Hid (Below w3.heap.size w3 w8) := HC7.out.trans (hb.mono HC7.out.size)
              have Y8 : Hid (C6 w8 ga a0 a1 a2 a3 a4 a5) := Y7.out.keep hb
              have GX8 : Hid (D6 w8 w5.heap.size 0 0 0 0 0 0) := GX7.out.keep hb
              have sz7 : w3.heap.size ≤ w7.heap.size := HC7.out.size
              have sl7 : w5.heap.size < w7.heap.size := GX7.out.lt
              have GY8 : Hid (D6 w8 w7.heap.size 0 0 0 0 0 0) := GN
              clear hb GN HC7 Y7 GX7
              have lx := GX8.out.lt
              have ly := GY8.out.lt
              have hxy : w5.heap.size ≠ w7.heap.size := by omega
              have hbx : w3.heap.size ≤ w5.heap.size := by omega
              have hby : w3.heap.size ≤ w7.heap.size := by omega
              have hax : ga ≠ w5.heap.size := by omega
              have hay : ga ≠ w7.heap.size := by omega
              have hcel := GX8.out.1
              obtain ⟨e0, e1, e2, e3, e4, e5⟩ := hcel
              have hfr := GX8.out.2
              have q0 := hfr 0
              have q1 := hfr 1
              have q2 := hfr 2
              have q3 := hfr 3
              have q4 := hfr 4
              have q5 := hfr 5
              clear hfr
              have YN : Hid (C6 ((((((w8.setCell ⟨w5.heap.size, 0, none⟩ (.int .i64 u0)).setCell ⟨w5.heap.size, 1, none⟩ (.int .i64 u1)).setCell ⟨w5.heap.size, 2, none⟩ (.int .i64 u2)).setCell ⟨w5.heap.size, 3, none⟩ (.int .i64 u3)).setCell ⟨w5.heap.size, 4, none⟩ (.int .i64 u4)).setCell ⟨w5.heap.size, 5, none⟩ (.int .i64 u5)) ga a0 a1 a2 a3 a4 a5) := c6_set_ne Y8.out hax
              have MN : Hid (D6 ((((((w8.setCell ⟨w5.heap.size, 0, none⟩ (.int .i64 u0)).setCell ⟨w5.heap.size, 1, none⟩ (.int .i64 u1)).setCell ⟨w5.heap.size, 2, none⟩ (.int .i64 u2)).setCell ⟨w5.heap.size, 3, none⟩ (.int .i64 u3)).setCell ⟨w5.heap.size, 4, none⟩ (.int .i64 u4)).setCell ⟨w5.heap.size, 5, none⟩ (.int .i64 u5)) w5.heap.size u0 u1 u2 u3 u4 u5) := D6.set GX8.out u0 u1 u2 u3 u4 u5
              have ON : Hid (D6 ((((((w8.setCell ⟨w5.heap.size, 0, none⟩ (.int .i64 u0)).setCell ⟨w5.heap.size, 1, none⟩ (.int .i64 u1)).setCell ⟨w5.heap.size, 2, none⟩ (.int .i64 u2)).setCell ⟨w5.heap.size, 3, none⟩ (.int .i64 u3)).setCell ⟨w5.heap.size, 4, none⟩ (.int .i64 u4)).setCell ⟨w5.heap.size, 5, none⟩ (.int .i64 u5)) w7.heap.size 0 0 0 0 0 0) := D6.other GY8.out hxy.symm u0 u1 u2 u3 u4 u5
              have HN : Hid (Below w3.heap.size w3 ((((((w8.setCell ⟨w5.heap.size, 0, none⟩ (.int .i64 u0)).setCell ⟨w5.heap.size, 1, none⟩ (.int .i64 u1)).setCell ⟨w5.heap.size, 2, none⟩ (.int .i64 u2)).setCell ⟨w5.heap.size, 3, none⟩ (.int .i64 u3)).setCell ⟨w5.heap.size, 4, none⟩ (.int .i64 u4)).setCell ⟨w5.heap.size, 5, none⟩ (.int .i64 u5))) := below_set6 HC8.out hbx
              refine wpAnyH_ready (rs := [9]) (by kernel_rfl) (by simp) ?_
              refine AllReadyH.cons (o := _) rfl (fun K hK => ?_) AllReadyH.nil
              go_simp
              refine hK.out _ _ ?_ (fun hHeld => ?_)
              · exact YN.out
              clear hK K
              try simp only [Act.put, List.setIfInBounds_toArray, List.set_cons_zero, List.set_cons_succ]
              generalize ((((((w8.setCell ⟨w5.heap.size, 0, none⟩ (.int .i64 u0)).setCell ⟨w5.heap.size, 1, none⟩ (.int .i64 u1)).setCell ⟨w5.heap.size, 2, none⟩ (.int .i64 u2)).setCell ⟨w5.heap.size, 3, none⟩ (.int .i64 u3)).setCell ⟨w5.heap.size, 4, none⟩ (.int .i64 u4)).setCell ⟨w5.heap.size, 5, none⟩ (.int .i64 u5)) = w9 at YN MN ON HN hHeld ⊢
              have Y9 := YN
              have GX9 := MN
              have GY9 := ON
              have HC9 := HN
              clear YN MN ON HN e0 e1 e2 e3 e4 e5 q0 q1 q2 q3 q4 q5 GX8 GY8 Y8 HC8
              have hcel := GY9.out.1
              obtain ⟨e0, e1, e2, e3, e4, e5⟩ := hcel
              have hfr := GY9.out.2
              have q0 := hfr 0
              have q1 := hfr 1
              have q2 := hfr 2
              have q3 := hfr 3
              have q4 := hfr 4
              have q5 := hfr 5
              clear hfr
              have YN : Hid (C6 ((((((w9.setCell ⟨w7.heap.size, 0, none⟩ (.int .i64 s0)).setCell ⟨w7.heap.size, 1, none⟩ (.int .i64 s1)).setCell ⟨w7.heap.size, 2, none⟩ (.int .i64 s2)).setCell ⟨w7.heap.size, 3, none⟩ (.int .i64 s3)).setCell ⟨w7.heap.size, 4, none⟩ (.int .i64 s4)).setCell ⟨w7.heap.size, 5, none⟩ (.int .i64 s5)) ga a0 a1 a2 a3 a4 a5) := c6_set_ne Y9.out hay
              have MN : Hid (D6 ((((((w9.setCell ⟨w7.heap.size, 0, none⟩ (.int .i64 s0)).setCell ⟨w7.heap.size, 1, none⟩ (.int .i64 s1)).setCell ⟨w7.heap.size, 2, none⟩ (.int .i64 s2)).setCell ⟨w7.heap.size, 3, none⟩ (.int .i64 s3)).setCell ⟨w7.heap.size, 4, none⟩ (.int .i64 s4)).setCell ⟨w7.heap.size, 5, none⟩ (.int .i64 s5)) w7.heap.size s0 s1 s2 s3 s4 s5) := D6.set GY9.out s0 s1 s2 s3 s4 s5
              have ON : Hid (D6 ((((((w9.setCell ⟨w7.heap.size, 0, none⟩ (.int .i64 s0)).setCell ⟨w7.heap.size, 1, none⟩ (.int .i64 s1)).setCell ⟨w7.heap.size, 2, none⟩ (.int .i64 s2)).setCell ⟨w7.heap.size, 3, none⟩ (.int .i64 s3)).setCell ⟨w7.heap.size, 4, none⟩ (.int .i64 s4)).setCell ⟨w7.heap.size, 5, none⟩ (.int .i64 s5)) w5.heap.size u0 u1 u2 u3 u4 u5) := D6.other GX9.out hxy s0 s1 s2 s3 s4 s5
              have HN : Hid (Below w3.heap.size w3 ((((((w9.setCell ⟨w7.heap.size, 0, none⟩ (.int .i64 s0)).setCell ⟨w7.heap.size, 1, none⟩ (.int .i64 s1)).setCell ⟨w7.heap.size, 2, none⟩ (.int .i64 s2)).setCell ⟨w7.heap.size, 3, none⟩ (.int .i64 s3)).setCell ⟨w7.heap.size, 4, none⟩ (.int .i64 s4)).setCell ⟨w7.heap.size, 5, none⟩ (.int .i64 s5))) := below_set6 HC9.out hby
              refine wpAnyH_ready (rs := [10]) (by kernel_rfl) (by simp) ?_
              refine AllReadyH.cons (o := _) rfl (fun K hK => ?_) AllReadyH.nil
              go_simp
              refine hK.out _ _ ?_ (fun hHeld => ?_)
              · exact YN.out
              clear hK K
              try simp only [Act.put, List.setIfInBounds_toArray, List.set_cons_zero, List.set_cons_succ]
              generalize ((((((w9.setCell ⟨w7.heap.size, 0, none⟩ (.int .i64 s0)).setCell ⟨w7.heap.size, 1, none⟩ (.int .i64 s1)).setCell ⟨w7.heap.size, 2, none⟩ (.int .i64 s2)).setCell ⟨w7.heap.size, 3, none⟩ (.int .i64 s3)).setCell ⟨w7.heap.size, 4, none⟩ (.int .i64 s4)).setCell ⟨w7.heap.size, 5, none⟩ (.int .i64 s5)) = w10 at YN MN ON HN hHeld ⊢
              have Y10 := YN
              have GY10 := MN
              have GX10 := ON
              have HC10 := HN
              clear YN MN ON HN e0 e1 e2 e3 e4 e5 q0 q1 q2 q3 q4 q5 GX9 GY9 Y9 HC9
              refine wpAnyH_done (by kernel_rfl) ?_ _
              go_wp2_with fail
              go_meet
              exact ⟨w5.heap.size, w7.heap.size, rfl, rfl, hbx, hby, GX10.out.1, GY10.out.1, HC10⟩
          · skip
            go_simp
            have hb : Below w6.heap.size w6 (w6.alloc (Obj.cells #[.int .i64 0, .int .i64 0, .int .i64 0, .int .i64 0, .int .i64 0, .int .i64 0] 53)) := (Below.refl _ _).alloc (Nat.le_refl _) _
            have GN : Hid (D6 (w6.alloc (Obj.cells #[.int .i64 0, .int .i64 0, .int .i64 0, .int .i64 0, .int .i64 0, .int .i64 0] 53)) w6.heap.size 0 0 0 0 0 0) := d6_new rfl
            refine hK.out _ _ ?_ (fun hHeld => ?_)
            · exact Y6.out.keep hb
            clear hK K
            try simp only [Act.put, List.setIfInBounds_toArray, List.set_cons_zero, List.set_cons_succ]
            generalize (w6.alloc (Obj.cells #[.int .i64 0, .int .i64 0, .int .i64 0, .int .i64 0, .int .i64 0, .int .i64 0] 53)) = w7 at hb GN hHeld ⊢
            have HC7 : Hid (Below w3.heap.size w3 w7) := HC6.out.trans (hb.mono HC6.out.size)
            have Y7 : Hid (C6 w7 ga a0 a1 a2 a3 a4 a5) := Y6.out.keep hb
            have GX7 : Hid (D6 w7 w5.heap.size 0 0 0 0 0 0) := GX6.out.keep hb
            have sz6 : w3.heap.size ≤ w6.heap.size := HC6.out.size
            have sl6 : w5.heap.size < w6.heap.size := GX6.out.lt
            have GY7 : Hid (D6 w7 w6.heap.size 0 0 0 0 0 0) := GN
            clear hb GN HC6 Y6 GX6
            refine wpAnyH_ready (rs := [3]) (by kernel_rfl) (by simp) ?_
            refine AllReadyH.cons (o := _) rfl (fun K hK => ?_) AllReadyH.nil
            · skip
              go_simp
              go_at_call 40
              refine (timesRows_d (w := w3) HDA.out.1 HPW.out.1 HE.out.1 HE.out.2 _ HC7.out).mono ?_
              rintro e w8 ⟨rfl, hH, hb⟩
              clear hH
              have HC8 : Hid (Below w3.heap.size w3 w8) := HC7.out.trans (hb.mono HC7.out.size)
              have Y8 : Hid (C6 w8 ga a0 a1 a2 a3 a4 a5) := Y7.out.keep hb
              have GX8 : Hid (D6 w8 w5.heap.size 0 0 0 0 0 0) := GX7.out.keep hb
              have GY8 : Hid (D6 w8 w6.heap.size 0 0 0 0 0 0) := GY7.out.keep hb
              refine hK.out _ _ ?_ (fun hHeld => ?_)
              · exact Y8.out
              clear hK K hb HC7 Y7 GX7 GY7
              try simp only [Act.put, List.setIfInBounds_toArray, List.set_cons_zero, List.set_cons_succ]
              refine takeS (i := 4) (oi := _) (v := ?_) (d := some 43) rfl (by kernel_rfl) (by kernel_rfl) (by kernel_rfl) (by kernel_rfl) (fun _ _ _ h => h) (Or.inl ⟨by rfl, ?_⟩) (by assumption) ?_
              rotate_left
              · (intro w hSw; (try dsimp only at hSw); go_simp <;> with_reducible rfl)
              try simp only [Act.put, List.setIfInBounds_toArray, List.set_cons_zero, List.set_cons_succ]
              refine takeS (i := 5) (oi := _) (v := ?_) (d := some 48) rfl (by kernel_rfl) (by kernel_rfl) (by kernel_rfl) (by kernel_rfl) (fun _ _ _ h => h) (Or.inl ⟨by rfl, ?_⟩) (by assumption) ?_
              rotate_left
              · (intro w hSw; (try dsimp only at hSw); go_simp <;> with_reducible rfl)
              try simp only [Act.put, List.setIfInBounds_toArray, List.set_cons_zero, List.set_cons_succ]
              refine takeS (i := 6) (oi := _) (v := ?_) (d := some 49) rfl (by kernel_rfl) (by kernel_rfl) (by kernel_rfl) (by kernel_rfl) (fun _ _ _ h => h) (Or.inl ⟨by rfl, ?_⟩) (by assumption) ?_
              rotate_left
              · (intro w hSw; (try dsimp only at hSw); go_simp <;> with_reducible rfl)
              try simp only [Act.put, List.setIfInBounds_toArray, List.set_cons_zero, List.set_cons_succ]
              have lx := GX8.out.lt
              have ly := GY8.out.lt
              have hxy : w5.heap.size ≠ w6.heap.size := by omega
              have hbx : w3.heap.size ≤ w5.heap.size := by omega
              have hby : w3.heap.size ≤ w6.heap.size := by omega
              have hax : ga ≠ w5.heap.size := by omega
              have hay : ga ≠ w6.heap.size := by omega
              have hcel := GX8.out.1
              obtain ⟨e0, e1, e2, e3, e4, e5⟩ := hcel
              have hfr := GX8.out.2
              have q0 := hfr 0
              have q1 := hfr 1
              have q2 := hfr 2
              have q3 := hfr 3
              have q4 := hfr 4
              have q5 := hfr 5
              clear hfr
              have YN : Hid (C6 ((((((w8.setCell ⟨w5.heap.size, 0, none⟩ (.int .i64 u0)).setCell ⟨w5.heap.size, 1, none⟩ (.int .i64 u1)).setCell ⟨w5.heap.size, 2, none⟩ (.int .i64 u2)).setCell ⟨w5.heap.size, 3, none⟩ (.int .i64 u3)).setCell ⟨w5.heap.size, 4, none⟩ (.int .i64 u4)).setCell ⟨w5.heap.size, 5, none⟩ (.int .i64 u5)) ga a0 a1 a2 a3 a4 a5) := c6_set_ne Y8.out hax
              have MN : Hid (D6 ((((((w8.setCell ⟨w5.heap.size, 0, none⟩ (.int .i64 u0)).setCell ⟨w5.heap.size, 1, none⟩ (.int .i64 u1)).setCell ⟨w5.heap.size, 2, none⟩ (.int .i64 u2)).setCell ⟨w5.heap.size, 3, none⟩ (.int .i64 u3)).setCell ⟨w5.heap.size, 4, none⟩ (.int .i64 u4)).setCell ⟨w5.heap.size, 5, none⟩ (.int .i64 u5)) w5.heap.size u0 u1 u2 u3 u4 u5) := D6.set GX8.out u0 u1 u2 u3 u4 u5
              have ON : Hid (D6 ((((((w8.setCell ⟨w5.heap.size, 0, none⟩ (.int .i64 u0)).setCell ⟨w5.heap.size, 1, none⟩ (.int .i64 u1)).setCell ⟨w5.heap.size, 2, none⟩ (.int .i64 u2)).setCell ⟨w5.heap.size, 3, none⟩ (.int .i64 u3)).setCell ⟨w5.heap.size, 4, none⟩ (.int .i64 u4)).setCell ⟨w5.heap.size, 5, none⟩ (.int .i64 u5)) w6.heap.size 0 0 0 0 0 0) := D6.other GY8.out hxy.symm u0 u1 u2 u3 u4 u5
              have HN : Hid (Below w3.heap.size w3 ((((((w8.setCell ⟨w5.heap.size, 0, none⟩ (.int .i64 u0)).setCell ⟨w5.heap.size, 1, none⟩ (.int .i64 u1)).setCell ⟨w5.heap.size, 2, none⟩ (.int .i64 u2)).setCell ⟨w5.heap.size, 3, none⟩ (.int .i64 u3)).setCell ⟨w5.heap.size, 4, none⟩ (.int .i64 u4)).setCell ⟨w5.heap.size, 5, none⟩ (.int .i64 u5))) := below_set6 HC8.out hbx
              refine wpAnyH_ready (rs := [9]) (by kernel_rfl) (by simp) ?_
              refine AllReadyH.cons (o := _) rfl (fun K hK => ?_) AllReadyH.nil
              go_simp
              refine hK.out _ _ ?_ (fun hHeld => ?_)
              · exact YN.out
              clear hK K
              try simp only [Act.put, List.setIfInBounds_toArray, List.set_cons_zero, List.set_cons_succ]
              generalize ((((((w8.setCell ⟨w5.heap.size, 0, none⟩ (.int .i64 u0)).setCell ⟨w5.heap.size, 1, none⟩ (.int .i64 u1)).setCell ⟨w5.heap.size, 2, none⟩ (.int .i64 u2)).setCell ⟨w5.heap.size, 3, none⟩ (.int .i64 u3)).setCell ⟨w5.heap.size, 4, none⟩ (.int .i64 u4)).setCell ⟨w5.heap.size, 5, none⟩ (.int .i64 u5)) = w9 at YN MN ON HN hHeld ⊢
              have Y9 := YN
              have GX9 := MN
              have GY9 := ON
              have HC9 := HN
              clear YN MN ON HN e0 e1 e2 e3 e4 e5 q0 q1 q2 q3 q4 q5 GX8 GY8 Y8 HC8
              have hcel := GY9.out.1
              obtain ⟨e0, e1, e2, e3, e4, e5⟩ := hcel
              have hfr := GY9.out.2
              have q0 := hfr 0
              have q1 := hfr 1
              have q2 := hfr 2
              have q3 := hfr 3
              have q4 := hfr 4
              have q5 := hfr 5
              clear hfr
              have YN : Hid (C6 ((((((w9.setCell ⟨w6.heap.size, 0, none⟩ (.int .i64 s0)).setCell ⟨w6.heap.size, 1, none⟩ (.int .i64 s1)).setCell ⟨w6.heap.size, 2, none⟩ (.int .i64 s2)).setCell ⟨w6.heap.size, 3, none⟩ (.int .i64 s3)).setCell ⟨w6.heap.size, 4, none⟩ (.int .i64 s4)).setCell ⟨w6.heap.size, 5, none⟩ (.int .i64 s5)) ga a0 a1 a2 a3 a4 a5) := c6_set_ne Y9.out hay
              have MN : Hid (D6 ((((((w9.setCell ⟨w6.heap.size, 0, none⟩ (.int .i64 s0)).setCell ⟨w6.heap.size, 1, none⟩ (.int .i64 s1)).setCell ⟨w6.heap.size, 2, none⟩ (.int .i64 s2)).setCell ⟨w6.heap.size, 3, none⟩ (.int .i64 s3)).setCell ⟨w6.heap.size, 4, none⟩ (.int .i64 s4)).setCell ⟨w6.heap.size, 5, none⟩ (.int .i64 s5)) w6.heap.size s0 s1 s2 s3 s4 s5) := D6.set GY9.out s0 s1 s2 s3 s4 s5
              have ON : Hid (D6 ((((((w9.setCell ⟨w6.heap.size, 0, none⟩ (.int .i64 s0)).setCell ⟨w6.heap.size, 1, none⟩ (.int .i64 s1)).setCell ⟨w6.heap.size, 2, none⟩ (.int .i64 s2)).setCell ⟨w6.heap.size, 3, none⟩ (.int .i64 s3)).setCell ⟨w6.heap.size, 4, none⟩ (.int .i64 s4)).setCell ⟨w6.heap.size, 5, none⟩ (.int .i64 s5)) w5.heap.size u0 u1 u2 u3 u4 u5) := D6.other GX9.out hxy s0 s1 s2 s3 s4 s5
              have HN : Hid (Below w3.heap.size w3 ((((((w9.setCell ⟨w6.heap.size, 0, none⟩ (.int .i64 s0)).setCell ⟨w6.heap.size, 1, none⟩ (.int .i64 s1)).setCell ⟨w6.heap.size, 2, none⟩ (.int .i64 s2)).setCell ⟨w6.heap.size, 3, none⟩ (.int .i64 s3)).setCell ⟨w6.heap.size, 4, none⟩ (.int .i64 s4)).setCell ⟨w6.heap.size, 5, none⟩ (.int .i64 s5))) := below_set6 HC9.out hby
              refine wpAnyH_ready (rs := [10]) (by kernel_rfl) (by simp) ?_
              refine AllReadyH.cons (o := _) rfl (fun K hK => ?_) AllReadyH.nil
              go_simp
              refine hK.out _ _ ?_ (fun hHeld => ?_)
              · exact YN.out
              clear hK K
              try simp only [Act.put, List.setIfInBounds_toArray, List.set_cons_zero, List.set_cons_succ]
              generalize ((((((w9.setCell ⟨w6.heap.size, 0, none⟩ (.int .i64 s0)).setCell ⟨w6.heap.size, 1, none⟩ (.int .i64 s1)).setCell ⟨w6.heap.size, 2, none⟩ (.int .i64 s2)).setCell ⟨w6.heap.size, 3, none⟩ (.int .i64 s3)).setCell ⟨w6.heap.size, 4, none⟩ (.int .i64 s4)).setCell ⟨w6.heap.size, 5, none⟩ (.int .i64 s5)) = w10 at YN MN ON HN hHeld ⊢
              have Y10 := YN
              have GY10 := MN
              have GX10 := ON
              have HC10 := HN
              clear YN MN ON HN e0 e1 e2 e3 e4 e5 q0 q1 q2 q3 q4 q5 GX9 GY9 Y9 HC9
              refine wpAnyH_done (by kernel_rfl) ?_ _
              go_wp2_with fail
              go_meet
              exact ⟨w5.heap.size, w6.heap.size, rfl, rfl, hbx, hby, GX10.out.1, GY10.out.1, HC10⟩
        · skip
          go_simp
          have hb : Below w5.heap.size w5 (w5.alloc (Obj.cells #[.int .i64 0, .int .i64 0, .int .i64 0, .int .i64 0, .int .i64 0, .int .i64 0] 53)) := (Below.refl _ _).alloc (Nat.le_refl _) _
          have GN : Hid (D6 (w5.alloc (Obj.cells #[.int .i64 0, .int .i64 0, .int .i64 0, .int .i64 0, .int .i64 0, .int .i64 0] 53)) w5.heap.size 0 0 0 0 0 0) := d6_new rfl
          refine hK.out _ _ ?_ (fun hHeld => ?_)
          · exact Y5.out.keep hb
          clear hK K
          try simp only [Act.put, List.setIfInBounds_toArray, List.set_cons_zero, List.set_cons_succ]
          generalize (w5.alloc (Obj.cells #[.int .i64 0, .int .i64 0, .int .i64 0, .int .i64 0, .int .i64 0, .int .i64 0] 53)) = w6 at hb GN hHeld ⊢
          have HC6 : Hid (Below w3.heap.size w3 w6) := HC5.out.trans (hb.mono HC5.out.size)
          have Y6 : Hid (C6 w6 ga a0 a1 a2 a3 a4 a5) := Y5.out.keep hb
          have sz5 : w3.heap.size ≤ w5.heap.size := HC5.out.size
          have GY6 : Hid (D6 w6 w5.heap.size 0 0 0 0 0 0) := GN
          clear hb GN HC5 Y5
          refine wpAnyH_ready (rs := [3, 7]) (by kernel_rfl) (by simp) ?_
          refine AllReadyH.cons (o := _) rfl (fun K hK => ?_) (AllReadyH.cons (o := _) rfl (fun K hK => ?_) AllReadyH.nil)
          · skip
            go_simp
            go_at_call 40
            refine (timesRows_d (w := w3) HDA.out.1 HPW.out.1 HE.out.1 HE.out.2 _ HC6.out).mono ?_
            rintro e w7 ⟨rfl, hH, hb⟩
            clear hH
            have HC7 : Hid (Below w3.heap.size w3 w7) := HC6.out.trans (hb.mono HC6.out.size)
            have Y7 : Hid (C6 w7 ga a0 a1 a2 a3 a4 a5) := Y6.out.keep hb
            have GY7 : Hid (D6 w7 w5.heap.size 0 0 0 0 0 0) := GY6.out.keep hb
            refine hK.out _ _ ?_ (fun hHeld => ?_)
            · exact Y7.out
            clear hK K hb HC6 Y6 GY6
            try simp only [Act.put, List.setIfInBounds_toArray, List.set_cons_zero, List.set_cons_succ]
            refine takeS (i := 4) (oi := _) (v := ?_) (d := some 43) rfl (by kernel_rfl) (by kernel_rfl) (by kernel_rfl) (by kernel_rfl) (fun _ _ _ h => h) (Or.inl ⟨by rfl, ?_⟩) (by assumption) ?_
            rotate_left
            · (intro w hSw; (try dsimp only at hSw); go_simp <;> with_reducible rfl)
            try simp only [Act.put, List.setIfInBounds_toArray, List.set_cons_zero, List.set_cons_succ]
            refine takeS (i := 5) (oi := _) (v := ?_) (d := some 48) rfl (by kernel_rfl) (by kernel_rfl) (by kernel_rfl) (by kernel_rfl) (fun _ _ _ h => h) (Or.inl ⟨by rfl, ?_⟩) (by assumption) ?_
            rotate_left
            · (intro w hSw; (try dsimp only at hSw); go_simp <;> with_reducible rfl)
            try simp only [Act.put, List.setIfInBounds_toArray, List.set_cons_zero, List.set_cons_succ]
            refine takeS (i := 6) (oi := _) (v := ?_) (d := some 49) rfl (by kernel_rfl) (by kernel_rfl) (by kernel_rfl) (by kernel_rfl) (fun _ _ _ h => h) (Or.inl ⟨by rfl, ?_⟩) (by assumption) ?_
            rotate_left
            · (intro w hSw; (try dsimp only at hSw); go_simp <;> with_reducible rfl)
            try simp only [Act.put, List.setIfInBounds_toArray, List.set_cons_zero, List.set_cons_succ]
            refine wpAnyH_ready (rs := [7]) (by kernel_rfl) (by simp) ?_
            refine AllReadyH.cons (o := _) rfl (fun K hK => ?_) AllReadyH.nil
            · skip
              go_simp
              have hb : Below w7.heap.size w7 (w7.alloc (Obj.cells #[.int .i64 0, .int .i64 0, .int .i64 0, .int .i64 0, .int .i64 0, .int .i64 0] 53)) := (Below.refl _ _).alloc (Nat.le_refl _) _
              have GN : Hid (D6 (w7.alloc (Obj.cells #[.int .i64 0, .int .i64 0, .int .i64 0, .int .i64 0, .int .i64 0, .int .i64 0] 53)) w7.heap.size 0 0 0 0 0 0) := d6_new rfl
              refine hK.out _ _ ?_ (fun hHeld => ?_)
              · exact Y7.out.keep hb
              clear hK K
              try simp only [Act.put, List.setIfInBounds_toArray, List.set_cons_zero, List.set_cons_succ]
              generalize (w7.alloc (Obj.cells #[.int .i64 0, .int .i64 0, .int .i64 0, .int .i64 0, .int .i64 0, .int .i64 0] 53)) = w8 at hb GN hHeld ⊢
              have HC8 : Hid (Below w3.heap.size w3 w8) := HC7.out.trans (hb.mono HC7.out.size)
              have Y8 : Hid (C6 w8 ga a0 a1 a2 a3 a4 a5) := Y7.out.keep hb
              have GY8 : Hid (D6 w8 w5.heap.size 0 0 0 0 0 0) := GY7.out.keep hb
              have sz7 : w3.heap.size ≤ w7.heap.size := HC7.out.size
              have sl7 : w5.heap.size < w7.heap.size := GY7.out.lt
              have GX8 : Hid (D6 w8 w7.heap.size 0 0 0 0 0 0) := GN
              clear hb GN HC7 Y7 GY7
              have lx := GX8.out.lt
              have ly := GY8.out.lt
              have hxy : w7.heap.size ≠ w5.heap.size := by omega
              have hbx : w3.heap.size ≤ w7.heap.size := by omega
              have hby : w3.heap.size ≤ w5.heap.size := by omega
              have hax : ga ≠ w7.heap.size := by omega
              have hay : ga ≠ w5.heap.size := by omega
              have hcel := GX8.out.1
              obtain ⟨e0, e1, e2, e3, e4, e5⟩ := hcel
              have hfr := GX8.out.2
              have q0 := hfr 0
              have q1 := hfr 1
              have q2 := hfr 2
              have q3 := hfr 3
              have q4 := hfr 4
              have q5 := hfr 5
              clear hfr
              have YN : Hid (C6 ((((((w8.setCell ⟨w7.heap.size, 0, none⟩ (.int .i64 u0)).setCell ⟨w7.heap.size, 1, none⟩ (.int .i64 u1)).setCell ⟨w7.heap.size, 2, none⟩ (.int .i64 u2)).setCell ⟨w7.heap.size, 3, none⟩ (.int .i64 u3)).setCell ⟨w7.heap.size, 4, none⟩ (.int .i64 u4)).setCell ⟨w7.heap.size, 5, none⟩ (.int .i64 u5)) ga a0 a1 a2 a3 a4 a5) := c6_set_ne Y8.out hax
              have MN : Hid (D6 ((((((w8.setCell ⟨w7.heap.size, 0, none⟩ (.int .i64 u0)).setCell ⟨w7.heap.size, 1, none⟩ (.int .i64 u1)).setCell ⟨w7.heap.size, 2, none⟩ (.int .i64 u2)).setCell ⟨w7.heap.size, 3, none⟩ (.int .i64 u3)).setCell ⟨w7.heap.size, 4, none⟩ (.int .i64 u4)).setCell ⟨w7.heap.size, 5, none⟩ (.int .i64 u5)) w7.heap.size u0 u1 u2 u3 u4 u5) := D6.set GX8.out u0 u1 u2 u3 u4 u5
              have ON : Hid (D6 ((((((w8.setCell ⟨w7.heap.size, 0, none⟩ (.int .i64 u0)).setCell ⟨w7.heap.size, 1, none⟩ (.int .i64 u1)).setCell ⟨w7.heap.size, 2, none⟩ (.int .i64 u2)).setCell ⟨w7.heap.size, 3, none⟩ (.int .i64 u3)).setCell ⟨w7.heap.size, 4, none⟩ (.int .i64 u4)).setCell ⟨w7.heap.size, 5, none⟩ (.int .i64 u5)) w5.heap.size 0 0 0 0 0 0) := D6.other GY8.out hxy.symm u0 u1 u2 u3 u4 u5
              have HN : Hid (Below w3.heap.size w3 ((((((w8.setCell ⟨w7.heap.size, 0, none⟩ (.int .i64 u0)).setCell ⟨w7.heap.size, 1, none⟩ (.int .i64 u1)).setCell ⟨w7.heap.size, 2, none⟩ (.int .i64 u2)).setCell ⟨w7.heap.size, 3, none⟩ (.int .i64 u3)).setCell ⟨w7.heap.size, 4, none⟩ (.int .i64 u4)).setCell ⟨w7.heap.size, 5, none⟩ (.int .i64 u5))) := below_set6 HC8.out hbx
              refine wpAnyH_ready (rs := [9]) (by kernel_rfl) (by simp) ?_
              refine AllReadyH.cons (o := _) rfl (fun K hK => ?_) AllReadyH.nil
              go_simp
              refine hK.out _ _ ?_ (fun hHeld => ?_)
              · exact YN.out
              clear hK K
              try simp only [Act.put, List.setIfInBounds_toArray, List.set_cons_zero, List.set_cons_succ]
              generalize ((((((w8.setCell ⟨w7.heap.size, 0, none⟩ (.int .i64 u0)).setCell ⟨w7.heap.size, 1, none⟩ (.int .i64 u1)).setCell ⟨w7.heap.size, 2, none⟩ (.int .i64 u2)).setCell ⟨w7.heap.size, 3, none⟩ (.int .i64 u3)).setCell ⟨w7.heap.size, 4, none⟩ (.int .i64 u4)).setCell ⟨w7.heap.size, 5, none⟩ (.int .i64 u5)) = w9 at YN MN ON HN hHeld ⊢
              have Y9 := YN
              have GX9 := MN
              have GY9 := ON
              have HC9 := HN
              clear YN MN ON HN e0 e1 e2 e3 e4 e5 q0 q1 q2 q3 q4 q5 GX8 GY8 Y8 HC8
              have hcel := GY9.out.1
              obtain ⟨e0, e1, e2, e3, e4, e5⟩ := hcel
              have hfr := GY9.out.2
              have q0 := hfr 0
              have q1 := hfr 1
              have q2 := hfr 2
              have q3 := hfr 3
              have q4 := hfr 4
              have q5 := hfr 5
              clear hfr
              have YN : Hid (C6 ((((((w9.setCell ⟨w5.heap.size, 0, none⟩ (.int .i64 s0)).setCell ⟨w5.heap.size, 1, none⟩ (.int .i64 s1)).setCell ⟨w5.heap.size, 2, none⟩ (.int .i64 s2)).setCell ⟨w5.heap.size, 3, none⟩ (.int .i64 s3)).setCell ⟨w5.heap.size, 4, none⟩ (.int .i64 s4)).setCell ⟨w5.heap.size, 5, none⟩ (.int .i64 s5)) ga a0 a1 a2 a3 a4 a5) := c6_set_ne Y9.out hay
              have MN : Hid (D6 ((((((w9.setCell ⟨w5.heap.size, 0, none⟩ (.int .i64 s0)).setCell ⟨w5.heap.size, 1, none⟩ (.int .i64 s1)).setCell ⟨w5.heap.size, 2, none⟩ (.int .i64 s2)).setCell ⟨w5.heap.size, 3, none⟩ (.int .i64 s3)).setCell ⟨w5.heap.size, 4, none⟩ (.int .i64 s4)).setCell ⟨w5.heap.size, 5, none⟩ (.int .i64 s5)) w5.heap.size s0 s1 s2 s3 s4 s5) := D6.set GY9.out s0 s1 s2 s3 s4 s5
              have ON : Hid (D6 ((((((w9.setCell ⟨w5.heap.size, 0, none⟩ (.int .i64 s0)).setCell ⟨w5.heap.size, 1, none⟩ (.int .i64 s1)).setCell ⟨w5.heap.size, 2, none⟩ (.int .i64 s2)).setCell ⟨w5.heap.size, 3, none⟩ (.int .i64 s3)).setCell ⟨w5.heap.size, 4, none⟩ (.int .i64 s4)).setCell ⟨w5.heap.size, 5, none⟩ (.int .i64 s5)) w7.heap.size u0 u1 u2 u3 u4 u5) := D6.other GX9.out hxy s0 s1 s2 s3 s4 s5
              have HN : Hid (Below w3.heap.size w3 ((((((w9.setCell ⟨w5.heap.size, 0, none⟩ (.int .i64 s0)).setCell ⟨w5.heap.size, 1, none⟩ (.int .i64 s1)).setCell ⟨w5.heap.size, 2, none⟩ (.int .i64 s2)).setCell ⟨w5.heap.size, 3, none⟩ (.int .i64 s3)).setCell ⟨w5.heap.size, 4, none⟩ (.int .i64 s4)).setCell ⟨w5.heap.size, 5, none⟩ (.int .i64 s5))) := below_set6 HC9.out hby
              refine wpAnyH_ready (rs := [10]) (by kernel_rfl) (by simp) ?_
              refine AllReadyH.cons (o := _) rfl (fun K hK => ?_) AllReadyH.nil
              go_simp
              refine hK.out _ _ ?_ (fun hHeld => ?_)
              · exact YN.out
              clear hK K
              try simp only [Act.put, List.setIfInBounds_toArray, List.set_cons_zero, List.set_cons_succ]
              generalize ((((((w9.setCell ⟨w5.heap.size, 0, none⟩ (.int .i64 s0)).setCell ⟨w5.heap.size, 1, none⟩ (.int .i64 s1)).setCell ⟨w5.heap.size, 2, none⟩ (.int .i64 s2)).setCell ⟨w5.heap.size, 3, none⟩ (.int .i64 s3)).setCell ⟨w5.heap.size, 4, none⟩ (.int .i64 s4)).setCell ⟨w5.heap.size, 5, none⟩ (.int .i64 s5)) = w10 at YN MN ON HN hHeld ⊢
              have Y10 := YN
              have GY10 := MN
              have GX10 := ON
              have HC10 := HN
              clear YN MN ON HN e0 e1 e2 e3 e4 e5 q0 q1 q2 q3 q4 q5 GX9 GY9 Y9 HC9
              refine wpAnyH_done (by kernel_rfl) ?_ _
              go_wp2_with fail
              go_meet
              exact ⟨w7.heap.size, w5.heap.size, rfl, rfl, hbx, hby, GX10.out.1, GY10.out.1, HC10⟩
          · skip
            go_simp
            have hb : Below w6.heap.size w6 (w6.alloc (Obj.cells #[.int .i64 0, .int .i64 0, .int .i64 0, .int .i64 0, .int .i64 0, .int .i64 0] 53)) := (Below.refl _ _).alloc (Nat.le_refl _) _
            have GN : Hid (D6 (w6.alloc (Obj.cells #[.int .i64 0, .int .i64 0, .int .i64 0, .int .i64 0, .int .i64 0, .int .i64 0] 53)) w6.heap.size 0 0 0 0 0 0) := d6_new rfl
            refine hK.out _ _ ?_ (fun hHeld => ?_)
            · exact Y6.out.keep hb
            clear hK K
            try simp only [Act.put, List.setIfInBounds_toArray, List.set_cons_zero, List.set_cons_succ]
            generalize (w6.alloc (Obj.cells #[.int .i64 0, .int .i64 0, .int .i64 0, .int .i64 0, .int .i64 0, .int .i64 0] 53)) = w7 at hb GN hHeld ⊢
            have HC7 : Hid (Below w3.heap.size w3 w7) := HC6.out.trans (hb.mono HC6.out.size)
            have Y7 : Hid (C6 w7 ga a0 a1 a2 a3 a4 a5) := Y6.out.keep hb
            have GY7 : Hid (D6 w7 w5.heap.size 0 0 0 0 0 0) := GY6.out.keep hb
            have sz6 : w3.heap.size ≤ w6.heap.size := HC6.out.size
            have sl6 : w5.heap.size < w6.heap.size := GY6.out.lt
            have GX7 : Hid (D6 w7 w6.heap.size 0 0 0 0 0 0) := GN
            clear hb GN HC6 Y6 GY6
            refine wpAnyH_ready (rs := [3]) (by kernel_rfl) (by simp) ?_
            refine AllReadyH.cons (o := _) rfl (fun K hK => ?_) AllReadyH.nil
            · skip
              go_simp
              go_at_call 40
              refine (timesRows_d (w := w3) HDA.out.1 HPW.out.1 HE.out.1 HE.out.2 _ HC7.out).mono ?_
              rintro e w8 ⟨rfl, hH, hb⟩
              clear hH
              have HC8 : Hid (Below w3.heap.size w3 w8) := HC7.out.trans (hb.mono HC7.out.size)
              have Y8 : Hid (C6 w8 ga a0 a1 a2 a3 a4 a5) := Y7.out.keep hb
              have GX8 : Hid (D6 w8 w6.heap.size 0 0 0 0 0 0) := GX7.out.keep hb
              have GY8 : Hid (D6 w8 w5.heap.size 0 0 0 0 0 0) := GY7.out.keep hb
              refine hK.out _ _ ?_ (fun hHeld => ?_)
              · exact Y8.out
              clear hK K hb HC7 Y7 GX7 GY7
              try simp only [Act.put, List.setIfInBounds_toArray, List.set_cons_zero, List.set_cons_succ]
              refine takeS (i := 4) (oi := _) (v := ?_) (d := some 43) rfl (by kernel_rfl) (by kernel_rfl) (by kernel_rfl) (by kernel_rfl) (fun _ _ _ h => h) (Or.inl ⟨by rfl, ?_⟩) (by assumption) ?_
              rotate_left
              · (intro w hSw; (try dsimp only at hSw); go_simp <;> with_reducible rfl)
              try simp only [Act.put, List.setIfInBounds_toArray, List.set_cons_zero, List.set_cons_succ]
              refine takeS (i := 5) (oi := _) (v := ?_) (d := some 48) rfl (by kernel_rfl) (by kernel_rfl) (by kernel_rfl) (by kernel_rfl) (fun _ _ _ h => h) (Or.inl ⟨by rfl, ?_⟩) (by assumption) ?_
              rotate_left
              · (intro w hSw; (try dsimp only at hSw); go_simp <;> with_reducible rfl)
              try simp only [Act.put, List.setIfInBounds_toArray, List.set_cons_zero, List.set_cons_succ]
              refine takeS (i := 6) (oi := _) (v := ?_) (d := some 49) rfl (by kernel_rfl) (by kernel_rfl) (by kernel_rfl) (by kernel_rfl) (fun _ _ _ h => h) (Or.inl ⟨by rfl, ?_⟩) (by assumption) ?_
              rotate_left
              · (intro w hSw; (try dsimp only at hSw); go_simp <;> with_reducible rfl)
              try simp only [Act.put, List.setIfInBounds_toArray, List.set_cons_zero, List.set_cons_succ]
              have lx := GX8.out.lt
              have ly := GY8.out.lt
              have hxy : w6.heap.size ≠ w5.heap.size := by omega
              have hbx : w3.heap.size ≤ w6.heap.size := by omega
              have hby : w3.heap.size ≤ w5.heap.size := by omega
              have hax : ga ≠ w6.heap.size := by omega
              have hay : ga ≠ w5.heap.size := by omega
              have hcel := GX8.out.1
              obtain ⟨e0, e1, e2, e3, e4, e5⟩ := hcel
              have hfr := GX8.out.2
              have q0 := hfr 0
              have q1 := hfr 1
              have q2 := hfr 2
              have q3 := hfr 3
              have q4 := hfr 4
              have q5 := hfr 5
              clear hfr
              have YN : Hid (C6 ((((((w8.setCell ⟨w6.heap.size, 0, none⟩ (.int .i64 u0)).setCell ⟨w6.heap.size, 1, none⟩ (.int .i64 u1)).setCell ⟨w6.heap.size, 2, none⟩ (.int .i64 u2)).setCell ⟨w6.heap.size, 3, none⟩ (.int .i64 u3)).setCell ⟨w6.heap.size, 4, none⟩ (.int .i64 u4)).setCell ⟨w6.heap.size, 5, none⟩ (.int .i64 u5)) ga a0 a1 a2 a3 a4 a5) := c6_set_ne Y8.out hax
              have MN : Hid (D6 ((((((w8.setCell ⟨w6.heap.size, 0, none⟩ (.int .i64 u0)).setCell ⟨w6.heap.size, 1, none⟩ (.int .i64 u1)).setCell ⟨w6.heap.size, 2, none⟩ (.int .i64 u2)).setCell ⟨w6.heap.size, 3, none⟩ (.int .i64 u3)).setCell ⟨w6.heap.size, 4, none⟩ (.int .i64 u4)).setCell ⟨w6.heap.size, 5, none⟩ (.int .i64 u5)) w6.heap.size u0 u1 u2 u3 u4 u5) := D6.set GX8.out u0 u1 u2 u3 u4 u5
              have ON : Hid (D6 ((((((w8.setCell ⟨w6.heap.size, 0, none⟩ (.int .i64 u0)).setCell ⟨w6.heap.size, 1, none⟩ (.int .i64 u1)).setCell ⟨w6.heap.size, 2, none⟩ (.int .i64 u2)).setCell ⟨w6.heap.size, 3, none⟩ (.int .i64 u3)).setCell ⟨w6.heap.size, 4, none⟩ (.int .i64 u4)).setCell ⟨w6.heap.size, 5, none⟩ (.int .i64 u5)) w5.heap.size 0 0 0 0 0 0) := D6.other GY8.out hxy.symm u0 u1 u2 u3 u4 u5
              have HN : Hid (Below w3.heap.size w3 ((((((w8.setCell ⟨w6.heap.size, 0, none⟩ (.int .i64 u0)).setCell ⟨w6.heap.size, 1, none⟩ (.int .i64 u1)).setCell ⟨w6.heap.size, 2, none⟩ (.int .i64 u2)).setCell ⟨w6.heap.size, 3, none⟩ (.int .i64 u3)).setCell ⟨w6.heap.size, 4, none⟩ (.int .i64 u4)).setCell ⟨w6.heap.size, 5, none⟩ (.int .i64 u5))) := below_set6 HC8.out hbx
              refine wpAnyH_ready (rs := [9]) (by kernel_rfl) (by simp) ?_
              refine AllReadyH.cons (o := _) rfl (fun K hK => ?_) AllReadyH.nil
              go_simp
              refine hK.out _ _ ?_ (fun hHeld => ?_)
              · exact YN.out
              clear hK K
              try simp only [Act.put, List.setIfInBounds_toArray, List.set_cons_zero, List.set_cons_succ]
              generalize ((((((w8.setCell ⟨w6.heap.size, 0, none⟩ (.int .i64 u0)).setCell ⟨w6.heap.size, 1, none⟩ (.int .i64 u1)).setCell ⟨w6.heap.size, 2, none⟩ (.int .i64 u2)).setCell ⟨w6.heap.size, 3, none⟩ (.int .i64 u3)).setCell ⟨w6.heap.size, 4, none⟩ (.int .i64 u4)).setCell ⟨w6.heap.size, 5, none⟩ (.int .i64 u5)) = w9 at YN MN ON HN hHeld ⊢
              have Y9 := YN
              have GX9 := MN
              have GY9 := ON
              have HC9 := HN
              clear YN MN ON HN e0 e1 e2 e3 e4 e5 q0 q1 q2 q3 q4 q5 GX8 GY8 Y8 HC8
              have hcel := GY9.out.1
              obtain ⟨e0, e1, e2, e3, e4, e5⟩ := hcel
              have hfr := GY9.out.2
              have q0 := hfr 0
              have q1 := hfr 1
              have q2 := hfr 2
              have q3 := hfr 3
              have q4 := hfr 4
              have q5 := hfr 5
              clear hfr
              have YN : Hid (C6 ((((((w9.setCell ⟨w5.heap.size, 0, none⟩ (.int .i64 s0)).setCell ⟨w5.heap.size, 1, none⟩ (.int .i64 s1)).setCell ⟨w5.heap.size, 2, none⟩ (.int .i64 s2)).setCell ⟨w5.heap.size, 3, none⟩ (.int .i64 s3)).setCell ⟨w5.heap.size, 4, none⟩ (.int .i64 s4)).setCell ⟨w5.heap.size, 5, none⟩ (.int .i64 s5)) ga a0 a1 a2 a3 a4 a5) := c6_set_ne Y9.out hay
              have MN : Hid (D6 ((((((w9.setCell ⟨w5.heap.size, 0, none⟩ (.int .i64 s0)).setCell ⟨w5.heap.size, 1, none⟩ (.int .i64 s1)).setCell ⟨w5.heap.size, 2, none⟩ (.int .i64 s2)).setCell ⟨w5.heap.size, 3, none⟩ (.int .i64 s3)).setCell ⟨w5.heap.size, 4, none⟩ (.int .i64 s4)).setCell ⟨w5.heap.size, 5, none⟩ (.int .i64 s5)) w5.heap.size s0 s1 s2 s3 s4 s5) := D6.set GY9.out s0 s1 s2 s3 s4 s5
              have ON : Hid (D6 ((((((w9.setCell ⟨w5.heap.size, 0, none⟩ (.int .i64 s0)).setCell ⟨w5.heap.size, 1, none⟩ (.int .i64 s1)).setCell ⟨w5.heap.size, 2, none⟩ (.int .i64 s2)).setCell ⟨w5.heap.size, 3, none⟩ (.int .i64 s3)).setCell ⟨w5.heap.size, 4, none⟩ (.int .i64 s4)).setCell ⟨w5.heap.size, 5, none⟩ (.int .i64 s5)) w6.heap.size u0 u1 u2 u3 u4 u5) := D6.other GX9.out hxy s0 s1 s2 s3 s4 s5
              have HN : Hid (Below w3.heap.size w3 ((((((w9.setCell ⟨w5.heap.size, 0, none⟩ (.int .i64 s0)).setCell ⟨w5.heap.size, 1, none⟩ (.int .i64 s1)).setCell ⟨w5.heap.size, 2, none⟩ (.int .i64 s2)).setCell ⟨w5.heap.size, 3, none⟩ (.int .i64 s3)).setCell ⟨w5.heap.size, 4, none⟩ (.int .i64 s4)).setCell ⟨w5.heap.size, 5, none⟩ (.int .i64 s5))) := below_set6 HC9.out hby
              refine wpAnyH_ready (rs := [10]) (by kernel_rfl) (by simp) ?_
              refine AllReadyH.cons (o := _) rfl (fun K hK => ?_) AllReadyH.nil
              go_simp
              refine hK.out _ _ ?_ (fun hHeld => ?_)
              · exact YN.out
              clear hK K
              try simp only [Act.put, List.setIfInBounds_toArray, List.set_cons_zero, List.set_cons_succ]
              generalize ((((((w9.setCell ⟨w5.heap.size, 0, none⟩ (.int .i64 s0)).setCell ⟨w5.heap.size, 1, none⟩ (.int .i64 s1)).setCell ⟨w5.heap.size, 2, none⟩ (.int .i64 s2)).setCell ⟨w5.heap.size, 3, none⟩ (.int .i64 s3)).setCell ⟨w5.heap.size, 4, none⟩ (.int .i64 s4)).setCell ⟨w5.heap.size, 5, none⟩ (.int .i64 s5)) = w10 at YN MN ON HN hHeld ⊢
              have Y10 := YN
              have GY10 := MN
              have GX10 := ON
              have HC10 := HN
              clear YN MN ON HN e0 e1 e2 e3 e4 e5 q0 q1 q2 q3 q4 q5 GX9 GY9 Y9 HC9
              refine wpAnyH_done (by kernel_rfl) ?_ _
              go_wp2_with fail
              go_meet
              exact ⟨w6.heap.size, w5.heap.size, rfl, rfl, hbx, hby, GX10.out.1, GY10.out.1, HC10⟩
      · skip
        go_simp
        have hb : Below w4.heap.size w4 (w4.alloc (Obj.cells #[.int .i64 0, .int .i64 0, .int .i64 0, .int .i64 0, .int .i64 0, .int .i64 0] 53)) := (Below.refl _ _).alloc (Nat.le_refl _) _
        have GN : Hid (D6 (w4.alloc (Obj.cells #[.int .i64 0, .int .i64 0, .int .i64 0, .int .i64 0, .int .i64 0, .int .i64 0] 53)) w4.heap.size 0 0 0 0 0 0) := d6_new rfl
        refine hK.out _ _ ?_ (fun hHeld => ?_)
        · exact Y4.out.keep hb
        clear hK K
        try simp only [Act.put, List.setIfInBounds_toArray, List.set_cons_zero, List.set_cons_succ]
        generalize (w4.alloc (Obj.cells #[.int .i64 0, .int .i64 0, .int .i64 0, .int .i64 0, .int .i64 0, .int .i64 0] 53)) = w5 at hb GN hHeld ⊢
        have HC5 : Hid (Below w3.heap.size w3 w5) := HC4.out.trans (hb.mono HC4.out.size)
        have Y5 : Hid (C6 w5 ga a0 a1 a2 a3 a4 a5) := Y4.out.keep hb
        have sz4 : w3.heap.size ≤ w4.heap.size := HC4.out.size
        have GX5 : Hid (D6 w5 w4.heap.size 0 0 0 0 0 0) := GN
        clear hb GN HC4 Y4
        refine wpAnyH_ready (rs := [2, 8]) (by kernel_rfl) (by simp) ?_
        refine AllReadyH.cons (o := _) rfl (fun K hK => ?_) (AllReadyH.cons (o := _) rfl (fun K hK => ?_) AllReadyH.nil)
        · skip
          go_simp
          go_at_call 53
          refine (powerOfTwo_d (k := b) (w := w3) (by omega) (by omega) HPW.out.1 HPW.out.2 _ HC5.out).mono ?_
          rintro e w6 ⟨rfl, hH, hb⟩
          clear hH
          have HC6 : Hid (Below w3.heap.size w3 w6) := HC5.out.trans (hb.mono HC5.out.size)
          have Y6 : Hid (C6 w6 ga a0 a1 a2 a3 a4 a5) := Y5.out.keep hb
          have GX6 : Hid (D6 w6 w4.heap.size 0 0 0 0 0 0) := GX5.out.keep hb
          refine hK.out _ _ ?_ (fun hHeld => ?_)
          · exact Y6.out
          clear hK K hb HC5 Y5 GX5
          try simp only [Act.put, List.setIfInBounds_toArray, List.set_cons_zero, List.set_cons_succ]
          refine wpAnyH_ready (rs := [3, 8]) (by kernel_rfl) (by simp) ?_
          refine AllReadyH.cons (o := _) rfl (fun K hK => ?_) (AllReadyH.cons (o := _) rfl (fun K hK => ?_) AllReadyH.nil)
          · skip
            go_simp
            go_at_call 40
            refine (timesRows_d (w := w3) HDA.out.1 HPW.out.1 HE.out.1 HE.out.2 _ HC6.out).mono ?_
            rintro e w7 ⟨rfl, hH, hb⟩
            clear hH
            have HC7 : Hid (Below w3.heap.size w3 w7) := HC6.out.trans (hb.mono HC6.out.size)
            have Y7 : Hid (C6 w7 ga a0 a1 a2 a3 a4 a5) := Y6.out.keep hb
            have GX7 : Hid (D6 w7 w4.heap.size 0 0 0 0 0 0) := GX6.out.keep hb
            refine hK.out _ _ ?_ (fun hHeld => ?_)
            · exact Y7.out
            clear hK K hb HC6 Y6 GX6
            try simp only [Act.put, List.setIfInBounds_toArray, List.set_cons_zero, List.set_cons_succ]
            refine takeS (i := 4) (oi := _) (v := ?_) (d := some 43) rfl (by kernel_rfl) (by kernel_rfl) (by kernel_rfl) (by kernel_rfl) (fun _ _ _ h => h) (Or.inl ⟨by rfl, ?_⟩) (by assumption) ?_
            rotate_left
            · (intro w hSw; (try dsimp only at hSw); go_simp <;> with_reducible rfl)
            try simp only [Act.put, List.setIfInBounds_toArray, List.set_cons_zero, List.set_cons_succ]
            refine takeS (i := 5) (oi := _) (v := ?_) (d := some 48) rfl (by kernel_rfl) (by kernel_rfl) (by kernel_rfl) (by kernel_rfl) (fun _ _ _ h => h) (Or.inl ⟨by rfl, ?_⟩) (by assumption) ?_
            rotate_left
            · (intro w hSw; (try dsimp only at hSw); go_simp <;> with_reducible rfl)
            try simp only [Act.put, List.setIfInBounds_toArray, List.set_cons_zero, List.set_cons_succ]
            refine takeS (i := 6) (oi := _) (v := ?_) (d := some 49) rfl (by kernel_rfl) (by kernel_rfl) (by kernel_rfl) (by kernel_rfl) (fun _ _ _ h => h) (Or.inl ⟨by rfl, ?_⟩) (by assumption) ?_
            rotate_left
            · (intro w hSw; (try dsimp only at hSw); go_simp <;> with_reducible rfl)
            try simp only [Act.put, List.setIfInBounds_toArray, List.set_cons_zero, List.set_cons_succ]
            refine wpAnyH_ready (rs := [8]) (by kernel_rfl) (by simp) ?_
            refine AllReadyH.cons (o := _) rfl (fun K hK => ?_) AllReadyH.nil
            · skip
              go_simp
              have hb : Below w7.heap.size w7 (w7.alloc (Obj.cells #[.int .i64 0, .int .i64 0, .int .i64 0, .int .i64 0, .int .i64 0, .int .i64 0] 53)) := (Below.refl _ _).alloc (Nat.le_refl _) _
              have GN : Hid (D6 (w7.alloc (Obj.cells #[.int .i64 0, .int .i64 0, .int .i64 0, .int .i64 0, .int .i64 0, .int .i64 0] 53)) w7.heap.size 0 0 0 0 0 0) := d6_new rfl
              refine hK.out _ _ ?_ (fun hHeld => ?_)
              · exact Y7.out.keep hb
              clear hK K
              try simp only [Act.put, List.setIfInBounds_toArray, List.set_cons_zero, List.set_cons_succ]
              generalize (w7.alloc (Obj.cells #[.int .i64 0, .int .i64 0, .int .i64 0, .int .i64 0, .int .i64 0, .int .i64 0] 53)) = w8 at hb GN hHeld ⊢
              have HC8 : Hid (Below w3.heap.size w3 w8) := HC7.out.trans (hb.mono HC7.out.size)
              have Y8 : Hid (C6 w8 ga a0 a1 a2 a3 a4 a5) := Y7.out.keep hb
              have GX8 : Hid (D6 w8 w4.heap.size 0 0 0 0 0 0) := GX7.out.keep hb
              have sz7 : w3.heap.size ≤ w7.heap.size := HC7.out.size
              have sl7 : w4.heap.size < w7.heap.size := GX7.out.lt
              have GY8 : Hid (D6 w8 w7.heap.size 0 0 0 0 0 0) := GN
              clear hb GN HC7 Y7 GX7
              have lx := GX8.out.lt
              have ly := GY8.out.lt
              have hxy : w4.heap.size ≠ w7.heap.size := by omega
              have hbx : w3.heap.size ≤ w4.heap.size := by omega
              have hby : w3.heap.size ≤ w7.heap.size := by omega
              have hax : ga ≠ w4.heap.size := by omega
              have hay : ga ≠ w7.heap.size := by omega
              have hcel := GX8.out.1
              obtain ⟨e0, e1, e2, e3, e4, e5⟩ := hcel
              have hfr := GX8.out.2
              have q0 := hfr 0
              have q1 := hfr 1
              have q2 := hfr 2
              have q3 := hfr 3
              have q4 := hfr 4
              have q5 := hfr 5
              clear hfr
              have YN : Hid (C6 ((((((w8.setCell ⟨w4.heap.size, 0, none⟩ (.int .i64 u0)).setCell ⟨w4.heap.size, 1, none⟩ (.int .i64 u1)).setCell ⟨w4.heap.size, 2, none⟩ (.int .i64 u2)).setCell ⟨w4.heap.size, 3, none⟩ (.int .i64 u3)).setCell ⟨w4.heap.size, 4, none⟩ (.int .i64 u4)).setCell ⟨w4.heap.size, 5, none⟩ (.int .i64 u5)) ga a0 a1 a2 a3 a4 a5) := c6_set_ne Y8.out hax
              have MN : Hid (D6 ((((((w8.setCell ⟨w4.heap.size, 0, none⟩ (.int .i64 u0)).setCell ⟨w4.heap.size, 1, none⟩ (.int .i64 u1)).setCell ⟨w4.heap.size, 2, none⟩ (.int .i64 u2)).setCell ⟨w4.heap.size, 3, none⟩ (.int .i64 u3)).setCell ⟨w4.heap.size, 4, none⟩ (.int .i64 u4)).setCell ⟨w4.heap.size, 5, none⟩ (.int .i64 u5)) w4.heap.size u0 u1 u2 u3 u4 u5) := D6.set GX8.out u0 u1 u2 u3 u4 u5
              have ON : Hid (D6 ((((((w8.setCell ⟨w4.heap.size, 0, none⟩ (.int .i64 u0)).setCell ⟨w4.heap.size, 1, none⟩ (.int .i64 u1)).setCell ⟨w4.heap.size, 2, none⟩ (.int .i64 u2)).setCell ⟨w4.heap.size, 3, none⟩ (.int .i64 u3)).setCell ⟨w4.heap.size, 4, none⟩ (.int .i64 u4)).setCell ⟨w4.heap.size, 5, none⟩ (.int .i64 u5)) w7.heap.size 0 0 0 0 0 0) := D6.other GY8.out hxy.symm u0 u1 u2 u3 u4 u5
              have HN : Hid (Below w3.heap.size w3 ((((((w8.setCell ⟨w4.heap.size, 0, none⟩ (.int .i64 u0)).setCell ⟨w4.heap.size, 1, none⟩ (.int .i64 u1)).setCell ⟨w4.heap.size, 2, none⟩ (.int .i64 u2)).setCell ⟨w4.heap.size, 3, none⟩ (.int .i64 u3)).setCell ⟨w4.heap.size, 4, none⟩ (.int .i64 u4)).setCell ⟨w4.heap.size, 5, none⟩ (.int .i64 u5))) := below_set6 HC8.out hbx
              refine wpAnyH_ready (rs := [9]) (by kernel_rfl) (by simp) ?_
              refine AllReadyH.cons (o := _) rfl (fun K hK => ?_) AllReadyH.nil
              go_simp
              refine hK.out _ _ ?_ (fun hHeld => ?_)
              · exact YN.out
              clear hK K
              try simp only [Act.put, List.setIfInBounds_toArray, List.set_cons_zero, List.set_cons_succ]
              generalize ((((((w8.setCell ⟨w4.heap.size, 0, none⟩ (.int .i64 u0)).setCell ⟨w4.heap.size, 1, none⟩ (.int .i64 u1)).setCell ⟨w4.heap.size, 2, none⟩ (.int .i64 u2)).setCell ⟨w4.heap.size, 3, none⟩ (.int .i64 u3)).setCell ⟨w4.heap.size, 4, none⟩ (.int .i64 u4)).setCell ⟨w4.heap.size, 5, none⟩ (.int .i64 u5)) = w9 at YN MN ON HN hHeld ⊢
              have Y9 := YN
              have GX9 := MN
              have GY9 := ON
              have HC9 := HN
              clear YN MN ON HN e0 e1 e2 e3 e4 e5 q0 q1 q2 q3 q4 q5 GX8 GY8 Y8 HC8
              have hcel := GY9.out.1
              obtain ⟨e0, e1, e2, e3, e4, e5⟩ := hcel
              have hfr := GY9.out.2
              have q0 := hfr 0
              have q1 := hfr 1
              have q2 := hfr 2
              have q3 := hfr 3
              have q4 := hfr 4
              have q5 := hfr 5
              clear hfr
              have YN : Hid (C6 ((((((w9.setCell ⟨w7.heap.size, 0, none⟩ (.int .i64 s0)).setCell ⟨w7.heap.size, 1, none⟩ (.int .i64 s1)).setCell ⟨w7.heap.size, 2, none⟩ (.int .i64 s2)).setCell ⟨w7.heap.size, 3, none⟩ (.int .i64 s3)).setCell ⟨w7.heap.size, 4, none⟩ (.int .i64 s4)).setCell ⟨w7.heap.size, 5, none⟩ (.int .i64 s5)) ga a0 a1 a2 a3 a4 a5) := c6_set_ne Y9.out hay
              have MN : Hid (D6 ((((((w9.setCell ⟨w7.heap.size, 0, none⟩ (.int .i64 s0)).setCell ⟨w7.heap.size, 1, none⟩ (.int .i64 s1)).setCell ⟨w7.heap.size, 2, none⟩ (.int .i64 s2)).setCell ⟨w7.heap.size, 3, none⟩ (.int .i64 s3)).setCell ⟨w7.heap.size, 4, none⟩ (.int .i64 s4)).setCell ⟨w7.heap.size, 5, none⟩ (.int .i64 s5)) w7.heap.size s0 s1 s2 s3 s4 s5) := D6.set GY9.out s0 s1 s2 s3 s4 s5
              have ON : Hid (D6 ((((((w9.setCell ⟨w7.heap.size, 0, none⟩ (.int .i64 s0)).setCell ⟨w7.heap.size, 1, none⟩ (.int .i64 s1)).setCell ⟨w7.heap.size, 2, none⟩ (.int .i64 s2)).setCell ⟨w7.heap.size, 3, none⟩ (.int .i64 s3)).setCell ⟨w7.heap.size, 4, none⟩ (.int .i64 s4)).setCell ⟨w7.heap.size, 5, none⟩ (.int .i64 s5)) w4.heap.size u0 u1 u2 u3 u4 u5) := D6.other GX9.out hxy s0 s1 s2 s3 s4 s5
              have HN : Hid (Below w3.heap.size w3 ((((((w9.setCell ⟨w7.heap.size, 0, none⟩ (.int .i64 s0)).setCell ⟨w7.heap.size, 1, none⟩ (.int .i64 s1)).setCell ⟨w7.heap.size, 2, none⟩ (.int .i64 s2)).setCell ⟨w7.heap.size, 3, none⟩ (.int .i64 s3)).setCell ⟨w7.heap.size, 4, none⟩ (.int .i64 s4)).setCell ⟨w7.heap.size, 5, none⟩ (.int .i64 s5))) := below_set6 HC9.out hby
              refine wpAnyH_ready (rs := [10]) (by kernel_rfl) (by simp) ?_
              refine AllReadyH.cons (o := _) rfl (fun K hK => ?_) AllReadyH.nil
              go_simp
              refine hK.out _ _ ?_ (fun hHeld => ?_)
              · exact YN.out
              clear hK K
              try simp only [Act.put, List.setIfInBounds_toArray, List.set_cons_zero, List.set_cons_succ]
              generalize ((((((w9.setCell ⟨w7.heap.size, 0, none⟩ (.int .i64 s0)).setCell ⟨w7.heap.size, 1, none⟩ (.int .i64 s1)).setCell ⟨w7.heap.size, 2, none⟩ (.int .i64 s2)).setCell ⟨w7.heap.size, 3, none⟩ (.int .i64 s3)).setCell ⟨w7.heap.size, 4, none⟩ (.int .i64 s4)).setCell ⟨w7.heap.size, 5, none⟩ (.int .i64 s5)) = w10 at YN MN ON HN hHeld ⊢
              have Y10 := YN
              have GY10 := MN
              have GX10 := ON
              have HC10 := HN
              clear YN MN ON HN e0 e1 e2 e3 e4 e5 q0 q1 q2 q3 q4 q5 GX9 GY9 Y9 HC9
              refine wpAnyH_done (by kernel_rfl) ?_ _
              go_wp2_with fail
              go_meet
              exact ⟨w4.heap.size, w7.heap.size, rfl, rfl, hbx, hby, GX10.out.1, GY10.out.1, HC10⟩
          · skip
            go_simp
            have hb : Below w6.heap.size w6 (w6.alloc (Obj.cells #[.int .i64 0, .int .i64 0, .int .i64 0, .int .i64 0, .int .i64 0, .int .i64 0] 53)) := (Below.refl _ _).alloc (Nat.le_refl _) _
            have GN : Hid (D6 (w6.alloc (Obj.cells #[.int .i64 0, .int .i64 0, .int .i64 0, .int .i64 0, .int .i64 0, .int .i64 0] 53)) w6.heap.size 0 0 0 0 0 0) := d6_new rfl
            refine hK.out _ _ ?_ (fun hHeld => ?_)
            · exact Y6.out.keep hb
            clear hK K
            try simp only [Act.put, List.setIfInBounds_toArray, List.set_cons_zero, List.set_cons_succ]
            generalize (w6.alloc (Obj.cells #[.int .i64 0, .int .i64 0, .int .i64 0, .int .i64 0, .int .i64 0, .int .i64 0] 53)) = w7 at hb GN hHeld ⊢
            have HC7 : Hid (Below w3.heap.size w3 w7) := HC6.out.trans (hb.mono HC6.out.size)
            have Y7 : Hid (C6 w7 ga a0 a1 a2 a3 a4 a5) := Y6.out.keep hb
            have GX7 : Hid (D6 w7 w4.heap.size 0 0 0 0 0 0) := GX6.out.keep hb
            have sz6 : w3.heap.size ≤ w6.heap.size := HC6.out.size
            have sl6 : w4.heap.size < w6.heap.size := GX6.out.lt
            have GY7 : Hid (D6 w7 w6.heap.size 0 0 0 0 0 0) := GN
            clear hb GN HC6 Y6 GX6
            refine wpAnyH_ready (rs := [3]) (by kernel_rfl) (by simp) ?_
            refine AllReadyH.cons (o := _) rfl (fun K hK => ?_) AllReadyH.nil
            · skip
              go_simp
              go_at_call 40
              refine (timesRows_d (w := w3) HDA.out.1 HPW.out.1 HE.out.1 HE.out.2 _ HC7.out).mono ?_
              rintro e w8 ⟨rfl, hH, hb⟩
              clear hH
              have HC8 : Hid (Below w3.heap.size w3 w8) := HC7.out.trans (hb.mono HC7.out.size)
              have Y8 : Hid (C6 w8 ga a0 a1 a2 a3 a4 a5) := Y7.out.keep hb
              have GX8 : Hid (D6 w8 w4.heap.size 0 0 0 0 0 0) := GX7.out.keep hb
              have GY8 : Hid (D6 w8 w6.heap.size 0 0 0 0 0 0) := GY7.out.keep hb
              refine hK.out _ _ ?_ (fun hHeld => ?_)
              · exact Y8.out
              clear hK K hb HC7 Y7 GX7 GY7
              try simp only [Act.put, List.setIfInBounds_toArray, List.set_cons_zero, List.set_cons_succ]
              refine takeS (i := 4) (oi := _) (v := ?_) (d := some 43) rfl (by kernel_rfl) (by kernel_rfl) (by kernel_rfl) (by kernel_rfl) (fun _ _ _ h => h) (Or.inl ⟨by rfl, ?_⟩) (by assumption) ?_
              rotate_left
              · (intro w hSw; (try dsimp only at hSw); go_simp <;> with_reducible rfl)
              try simp only [Act.put, List.setIfInBounds_toArray, List.set_cons_zero, List.set_cons_succ]
              refine takeS (i := 5) (oi := _) (v := ?_) (d := some 48) rfl (by kernel_rfl) (by kernel_rfl) (by kernel_rfl) (by kernel_rfl) (fun _ _ _ h => h) (Or.inl ⟨by rfl, ?_⟩) (by assumption) ?_
              rotate_left
              · (intro w hSw; (try dsimp only at hSw); go_simp <;> with_reducible rfl)
              try simp only [Act.put, List.setIfInBounds_toArray, List.set_cons_zero, List.set_cons_succ]
              refine takeS (i := 6) (oi := _) (v := ?_) (d := some 49) rfl (by kernel_rfl) (by kernel_rfl) (by kernel_rfl) (by kernel_rfl) (fun _ _ _ h => h) (Or.inl ⟨by rfl, ?_⟩) (by assumption) ?_
              rotate_left
              · (intro w hSw; (try dsimp only at hSw); go_simp <;> with_reducible rfl)
              try simp only [Act.put, List.setIfInBounds_toArray, List.set_cons_zero, List.set_cons_succ]
              have lx := GX8.out.lt
              have ly := GY8.out.lt
              have hxy : w4.heap.size ≠ w6.heap.size := by omega
              have hbx : w3.heap.size ≤ w4.heap.size := by omega
              have hby : w3.heap.size ≤ w6.heap.size := by omega
              have hax : ga ≠ w4.heap.size := by omega
              have hay : ga ≠ w6.heap.size := by omega
              have hcel := GX8.out.1
              obtain ⟨e0, e1, e2, e3, e4, e5⟩ := hcel
              have hfr := GX8.out.2
              have q0 := hfr 0
              have q1 := hfr 1
              have q2 := hfr 2
              have q3 := hfr 3
              have q4 := hfr 4
              have q5 := hfr 5
              clear hfr
              have YN : Hid (C6 ((((((w8.setCell ⟨w4.heap.size, 0, none⟩ (.int .i64 u0)).setCell ⟨w4.heap.size, 1, none⟩ (.int .i64 u1)).setCell ⟨w4.heap.size, 2, none⟩ (.int .i64 u2)).setCell ⟨w4.heap.size, 3, none⟩ (.int .i64 u3)).setCell ⟨w4.heap.size, 4, none⟩ (.int .i64 u4)).setCell ⟨w4.heap.size, 5, none⟩ (.int .i64 u5)) ga a0 a1 a2 a3 a4 a5) := c6_set_ne Y8.out hax
              have MN : Hid (D6 ((((((w8.setCell ⟨w4.heap.size, 0, none⟩ (.int .i64 u0)).setCell ⟨w4.heap.size, 1, none⟩ (.int .i64 u1)).setCell ⟨w4.heap.size, 2, none⟩ (.int .i64 u2)).setCell ⟨w4.heap.size, 3, none⟩ (.int .i64 u3)).setCell ⟨w4.heap.size, 4, none⟩ (.int .i64 u4)).setCell ⟨w4.heap.size, 5, none⟩ (.int .i64 u5)) w4.heap.size u0 u1 u2 u3 u4 u5) := D6.set GX8.out u0 u1 u2 u3 u4 u5
              have ON : Hid (D6 ((((((w8.setCell ⟨w4.heap.size, 0, none⟩ (.int .i64 u0)).setCell ⟨w4.heap.size, 1, none⟩ (.int .i64 u1)).setCell ⟨w4.heap.size, 2, none⟩ (.int .i64 u2)).setCell ⟨w4.heap.size, 3, none⟩ (.int .i64 u3)).setCell ⟨w4.heap.size, 4, none⟩ (.int .i64 u4)).setCell ⟨w4.heap.size, 5, none⟩ (.int .i64 u5)) w6.heap.size 0 0 0 0 0 0) := D6.other GY8.out hxy.symm u0 u1 u2 u3 u4 u5
              have HN : Hid (Below w3.heap.size w3 ((((((w8.setCell ⟨w4.heap.size, 0, none⟩ (.int .i64 u0)).setCell ⟨w4.heap.size, 1, none⟩ (.int .i64 u1)).setCell ⟨w4.heap.size, 2, none⟩ (.int .i64 u2)).setCell ⟨w4.heap.size, 3, none⟩ (.int .i64 u3)).setCell ⟨w4.heap.size, 4, none⟩ (.int .i64 u4)).setCell ⟨w4.heap.size, 5, none⟩ (.int .i64 u5))) := below_set6 HC8.out hbx
              refine wpAnyH_ready (rs := [9]) (by kernel_rfl) (by simp) ?_
              refine AllReadyH.cons (o := _) rfl (fun K hK => ?_) AllReadyH.nil
              go_simp
              refine hK.out _ _ ?_ (fun hHeld => ?_)
              · exact YN.out
              clear hK K
              try simp only [Act.put, List.setIfInBounds_toArray, List.set_cons_zero, List.set_cons_succ]
              generalize ((((((w8.setCell ⟨w4.heap.size, 0, none⟩ (.int .i64 u0)).setCell ⟨w4.heap.size, 1, none⟩ (.int .i64 u1)).setCell ⟨w4.heap.size, 2, none⟩ (.int .i64 u2)).setCell ⟨w4.heap.size, 3, none⟩ (.int .i64 u3)).setCell ⟨w4.heap.size, 4, none⟩ (.int .i64 u4)).setCell ⟨w4.heap.size, 5, none⟩ (.int .i64 u5)) = w9 at YN MN ON HN hHeld ⊢
              have Y9 := YN
              have GX9 := MN
              have GY9 := ON
              have HC9 := HN
              clear YN MN ON HN e0 e1 e2 e3 e4 e5 q0 q1 q2 q3 q4 q5 GX8 GY8 Y8 HC8
              have hcel := GY9.out.1
              obtain ⟨e0, e1, e2, e3, e4, e5⟩ := hcel
              have hfr := GY9.out.2
              have q0 := hfr 0
              have q1 := hfr 1
              have q2 := hfr 2
              have q3 := hfr 3
              have q4 := hfr 4
              have q5 := hfr 5
              clear hfr
              have YN : Hid (C6 ((((((w9.setCell ⟨w6.heap.size, 0, none⟩ (.int .i64 s0)).setCell ⟨w6.heap.size, 1, none⟩ (.int .i64 s1)).setCell ⟨w6.heap.size, 2, none⟩ (.int .i64 s2)).setCell ⟨w6.heap.size, 3, none⟩ (.int .i64 s3)).setCell ⟨w6.heap.size, 4, none⟩ (.int .i64 s4)).setCell ⟨w6.heap.size, 5, none⟩ (.int .i64 s5)) ga a0 a1 a2 a3 a4 a5) := c6_set_ne Y9.out hay
              have MN : Hid (D6 ((((((w9.setCell ⟨w6.heap.size, 0, none⟩ (.int .i64 s0)).setCell ⟨w6.heap.size, 1, none⟩ (.int .i64 s1)).setCell ⟨w6.heap.size, 2, none⟩ (.int .i64 s2)).setCell ⟨w6.heap.size, 3, none⟩ (.int .i64 s3)).setCell ⟨w6.heap.size, 4, none⟩ (.int .i64 s4)).setCell ⟨w6.heap.size, 5, none⟩ (.int .i64 s5)) w6.heap.size s0 s1 s2 s3 s4 s5) := D6.set GY9.out s0 s1 s2 s3 s4 s5
              have ON : Hid (D6 ((((((w9.setCell ⟨w6.heap.size, 0, none⟩ (.int .i64 s0)).setCell ⟨w6.heap.size, 1, none⟩ (.int .i64 s1)).setCell ⟨w6.heap.size, 2, none⟩ (.int .i64 s2)).setCell ⟨w6.heap.size, 3, none⟩ (.int .i64 s3)).setCell ⟨w6.heap.size, 4, none⟩ (.int .i64 s4)).setCell ⟨w6.heap.size, 5, none⟩ (.int .i64 s5)) w4.heap.size u0 u1 u2 u3 u4 u5) := D6.other GX9.out hxy s0 s1 s2 s3 s4 s5
              have HN : Hid (Below w3.heap.size w3 ((((((w9.setCell ⟨w6.heap.size, 0, none⟩ (.int .i64 s0)).setCell ⟨w6.heap.size, 1, none⟩ (.int .i64 s1)).setCell ⟨w6.heap.size, 2, none⟩ (.int .i64 s2)).setCell ⟨w6.heap.size, 3, none⟩ (.int .i64 s3)).setCell ⟨w6.heap.size, 4, none⟩ (.int .i64 s4)).setCell ⟨w6.heap.size, 5, none⟩ (.int .i64 s5))) := below_set6 HC9.out hby
              refine wpAnyH_ready (rs := [10]) (by kernel_rfl) (by simp) ?_
              refine AllReadyH.cons (o := _) rfl (fun K hK => ?_) AllReadyH.nil
              go_simp
              refine hK.out _ _ ?_ (fun hHeld => ?_)
              · exact YN.out
              clear hK K
              try simp only [Act.put, List.setIfInBounds_toArray, List.set_cons_zero, List.set_cons_succ]
              generalize ((((((w9.setCell ⟨w6.heap.size, 0, none⟩ (.int .i64 s0)).setCell ⟨w6.heap.size, 1, none⟩ (.int .i64 s1)).setCell ⟨w6.heap.size, 2, none⟩ (.int .i64 s2)).setCell ⟨w6.heap.size, 3, none⟩ (.int .i64 s3)).setCell ⟨w6.heap.size, 4, none⟩ (.int .i64 s4)).setCell ⟨w6.heap.size, 5, none⟩ (.int .i64 s5)) = w10 at YN MN ON HN hHeld ⊢
              have Y10 := YN
              have GY10 := MN
              have GX10 := ON
              have HC10 := HN
              clear YN MN ON HN e0 e1 e2 e3 e4 e5 q0 q1 q2 q3 q4 q5 GX9 GY9 Y9 HC9
              refine wpAnyH_done (by kernel_rfl) ?_ _
              go_wp2_with fail
              go_meet
              exact ⟨w4.heap.size, w6.heap.size, rfl, rfl, hbx, hby, GX10.out.1, GY10.out.1, HC10⟩
        · skip
          go_simp
          have hb : Below w5.heap.size w5 (w5.alloc (Obj.cells #[.int .i64 0, .int .i64 0, .int .i64 0, .int .i64 0, .int .i64 0, .int .i64 0] 53)) := (Below.refl _ _).alloc (Nat.le_refl _) _
          have GN : Hid (D6 (w5.alloc (Obj.cells #[.int .i64 0, .int .i64 0, .int .i64 0, .int .i64 0, .int .i64 0, .int .i64 0] 53)) w5.heap.size 0 0 0 0 0 0) := d6_new rfl
          refine hK.out _ _ ?_ (fun hHeld => ?_)
          · exact Y5.out.keep hb
          clear hK K
          try simp only [Act.put, List.setIfInBounds_toArray, List.set_cons_zero, List.set_cons_succ]
          generalize (w5.alloc (Obj.cells #[.int .i64 0, .int .i64 0, .int .i64 0, .int .i64 0, .int .i64 0, .int .i64 0] 53)) = w6 at hb GN hHeld ⊢
          have HC6 : Hid (Below w3.heap.size w3 w6) := HC5.out.trans (hb.mono HC5.out.size)
          have Y6 : Hid (C6 w6 ga a0 a1 a2 a3 a4 a5) := Y5.out.keep hb
          have GX6 : Hid (D6 w6 w4.heap.size 0 0 0 0 0 0) := GX5.out.keep hb
          have sz5 : w3.heap.size ≤ w5.heap.size := HC5.out.size
          have sl5 : w4.heap.size < w5.heap.size := GX5.out.lt
          have GY6 : Hid (D6 w6 w5.heap.size 0 0 0 0 0 0) := GN
          clear hb GN HC5 Y5 GX5
          refine wpAnyH_ready (rs := [2]) (by kernel_rfl) (by simp) ?_
          refine AllReadyH.cons (o := _) rfl (fun K hK => ?_) AllReadyH.nil
          · skip
            go_simp
            go_at_call 53
            refine (powerOfTwo_d (k := b) (w := w3) (by omega) (by omega) HPW.out.1 HPW.out.2 _ HC6.out).mono ?_
            rintro e w7 ⟨rfl, hH, hb⟩
            clear hH
            have HC7 : Hid (Below w3.heap.size w3 w7) := HC6.out.trans (hb.mono HC6.out.size)
            have Y7 : Hid (C6 w7 ga a0 a1 a2 a3 a4 a5) := Y6.out.keep hb
            have GX7 : Hid (D6 w7 w4.heap.size 0 0 0 0 0 0) := GX6.out.keep hb
            have GY7 : Hid (D6 w7 w5.heap.size 0 0 0 0 0 0) := GY6.out.keep hb
            refine hK.out _ _ ?_ (fun hHeld => ?_)
            · exact Y7.out
            clear hK K hb HC6 Y6 GX6 GY6
            try simp only [Act.put, List.setIfInBounds_toArray, List.set_cons_zero, List.set_cons_succ]
            refine wpAnyH_ready (rs := [3]) (by kernel_rfl) (by simp) ?_
            refine AllReadyH.cons (o := _) rfl (fun K hK => ?_) AllReadyH.nil
            · skip
              go_simp
              go_at_call 40
              refine (timesRows_d (w := w3) HDA.out.1 HPW.out.1 HE.out.1 HE.out.2 _ HC7.out).mono ?_
              rintro e w8 ⟨rfl, hH, hb⟩
              clear hH
              have HC8 : Hid (Below w3.heap.size w3 w8) := HC7.out.trans (hb.mono HC7.out.size)
              have Y8 : Hid (C6 w8 ga a0 a1 a2 a3 a4 a5) := Y7.out.keep hb
              have GX8 : Hid (D6 w8 w4.heap.size 0 0 0 0 0 0) := GX7.out.keep hb
              have GY8 : Hid (D6 w8 w5.heap.size 0 0 0 0 0 0) := GY7.out.keep hb
              refine hK.out _ _ ?_ (fun hHeld => ?_)
              · exact Y8.out
              clear hK K hb HC7 Y7 GX7 GY7
              try simp only [Act.put, List.setIfInBounds_toArray, List.set_cons_zero, List.set_cons_succ]
              refine takeS (i := 4) (oi := _) (v := ?_) (d := some 43) rfl (by kernel_rfl) (by kernel_rfl) (by kernel_rfl) (by kernel_rfl) (fun _ _ _ h => h) (Or.inl ⟨by rfl, ?_⟩) (by assumption) ?_
              rotate_left
              · (intro w hSw; (try dsimp only at hSw); go_simp <;> with_reducible rfl)
              try simp only [Act.put, List.setIfInBounds_toArray, List.set_cons_zero, List.set_cons_succ]
              refine takeS (i := 5) (oi := _) (v := ?_) (d := some 48) rfl (by kernel_rfl) (by kernel_rfl) (by kernel_rfl) (by kernel_rfl) (fun _ _ _ h => h) (Or.inl ⟨by rfl, ?_⟩) (by assumption) ?_
              rotate_left
              · (intro w hSw; (try dsimp only at hSw); go_simp <;> with_reducible rfl)
              try simp only [Act.put, List.setIfInBounds_toArray, List.set_cons_zero, List.set_cons_succ]
              refine takeS (i := 6) (oi := _) (v := ?_) (d := some 49) rfl (by kernel_rfl) (by kernel_rfl) (by kernel_rfl) (by kernel_rfl) (fun _ _ _ h => h) (Or.inl ⟨by rfl, ?_⟩) (by assumption) ?_
              rotate_left
              · (intro w hSw; (try dsimp only at hSw); go_simp <;> with_reducible rfl)
              try simp only [Act.put, List.setIfInBounds_toArray, List.set_cons_zero, List.set_cons_succ]
              have lx := GX8.out.lt
              have ly := GY8.out.lt
              have hxy : w4.heap.size ≠ w5.heap.size := by omega
              have hbx : w3.heap.size ≤ w4.heap.size := by omega
              have hby : w3.heap.size ≤ w5.heap.size := by omega
              have hax : ga ≠ w4.heap.size := by omega
              have hay : ga ≠ w5.heap.size := by omega
              have hcel := GX8.out.1
              obtain ⟨e0, e1, e2, e3, e4, e5⟩ := hcel
              have hfr := GX8.out.2
              have q0 := hfr 0
              have q1 := hfr 1
              have q2 := hfr 2
              have q3 := hfr 3
              have q4 := hfr 4
              have q5 := hfr 5
              clear hfr
              have YN : Hid (C6 ((((((w8.setCell ⟨w4.heap.size, 0, none⟩ (.int .i64 u0)).setCell ⟨w4.heap.size, 1, none⟩ (.int .i64 u1)).setCell ⟨w4.heap.size, 2, none⟩ (.int .i64 u2)).setCell ⟨w4.heap.size, 3, none⟩ (.int .i64 u3)).setCell ⟨w4.heap.size, 4, none⟩ (.int .i64 u4)).setCell ⟨w4.heap.size, 5, none⟩ (.int .i64 u5)) ga a0 a1 a2 a3 a4 a5) := c6_set_ne Y8.out hax
              have MN : Hid (D6 ((((((w8.setCell ⟨w4.heap.size, 0, none⟩ (.int .i64 u0)).setCell ⟨w4.heap.size, 1, none⟩ (.int .i64 u1)).setCell ⟨w4.heap.size, 2, none⟩ (.int .i64 u2)).setCell ⟨w4.heap.size, 3, none⟩ (.int .i64 u3)).setCell ⟨w4.heap.size, 4, none⟩ (.int .i64 u4)).setCell ⟨w4.heap.size, 5, none⟩ (.int .i64 u5)) w4.heap.size u0 u1 u2 u3 u4 u5) := D6.set GX8.out u0 u1 u2 u3 u4 u5
              have ON : Hid (D6 ((((((w8.setCell ⟨w4.heap.size, 0, none⟩ (.int .i64 u0)).setCell ⟨w4.heap.size, 1, none⟩ (.int .i64 u1)).setCell ⟨w4.heap.size, 2, none⟩ (.int .i64 u2)).setCell ⟨w4.heap.size, 3, none⟩ (.int .i64 u3)).setCell ⟨w4.heap.size, 4, none⟩ (.int .i64 u4)).setCell ⟨w4.heap.size, 5, none⟩ (.int .i64 u5)) w5.heap.size 0 0 0 0 0 0) := D6.other GY8.out hxy.symm u0 u1 u2 u3 u4 u5
              have HN : Hid (Below w3.heap.size w3 ((((((w8.setCell ⟨w4.heap.size, 0, none⟩ (.int .i64 u0)).setCell ⟨w4.heap.size, 1, none⟩ (.int .i64 u1)).setCell ⟨w4.heap.size, 2, none⟩ (.int .i64 u2)).setCell ⟨w4.heap.size, 3, none⟩ (.int .i64 u3)).setCell ⟨w4.heap.size, 4, none⟩ (.int .i64 u4)).setCell ⟨w4.heap.size, 5, none⟩ (.int .i64 u5))) := below_set6 HC8.out hbx
              refine wpAnyH_ready (rs := [9]) (by kernel_rfl) (by simp) ?_
              refine AllReadyH.cons (o := _) rfl (fun K hK => ?_) AllReadyH.nil
              go_simp
              refine hK.out _ _ ?_ (fun hHeld => ?_)
              · exact YN.out
              clear hK K
              try simp only [Act.put, List.setIfInBounds_toArray, List.set_cons_zero, List.set_cons_succ]
              generalize ((((((w8.setCell ⟨w4.heap.size, 0, none⟩ (.int .i64 u0)).setCell ⟨w4.heap.size, 1, none⟩ (.int .i64 u1)).setCell ⟨w4.heap.size, 2, none⟩ (.int .i64 u2)).setCell ⟨w4.heap.size, 3, none⟩ (.int .i64 u3)).setCell ⟨w4.heap.size, 4, none⟩ (.int .i64 u4)).setCell ⟨w4.heap.size, 5, none⟩ (.int .i64 u5)) = w9 at YN MN ON HN hHeld ⊢
              have Y9 := YN
              have GX9 := MN
              have GY9 := ON
              have HC9 := HN
              clear YN MN ON HN e0 e1 e2 e3 e4 e5 q0 q1 q2 q3 q4 q5 GX8 GY8 Y8 HC8
              have hcel := GY9.out.1
              obtain ⟨e0, e1, e2, e3, e4, e5⟩ := hcel
              have hfr := GY9.out.2
              have q0 := hfr 0
              have q1 := hfr 1
              have q2 := hfr 2
              have q3 := hfr 3
              have q4 := hfr 4
              have q5 := hfr 5
              clear hfr
              have YN : Hid (C6 ((((((w9.setCell ⟨w5.heap.size, 0, none⟩ (.int .i64 s0)).setCell ⟨w5.heap.size, 1, none⟩ (.int .i64 s1)).setCell ⟨w5.heap.size, 2, none⟩ (.int .i64 s2)).setCell ⟨w5.heap.size, 3, none⟩ (.int .i64 s3)).setCell ⟨w5.heap.size, 4, none⟩ (.int .i64 s4)).setCell ⟨w5.heap.size, 5, none⟩ (.int .i64 s5)) ga a0 a1 a2 a3 a4 a5) := c6_set_ne Y9.out hay
              have MN : Hid (D6 ((((((w9.setCell ⟨w5.heap.size, 0, none⟩ (.int .i64 s0)).setCell ⟨w5.heap.size, 1, none⟩ (.int .i64 s1)).setCell ⟨w5.heap.size, 2, none⟩ (.int .i64 s2)).setCell ⟨w5.heap.size, 3, none⟩ (.int .i64 s3)).setCell ⟨w5.heap.size, 4, none⟩ (.int .i64 s4)).setCell ⟨w5.heap.size, 5, none⟩ (.int .i64 s5)) w5.heap.size s0 s1 s2 s3 s4 s5) := D6.set GY9.out s0 s1 s2 s3 s4 s5
              have ON : Hid (D6 ((((((w9.setCell ⟨w5.heap.size, 0, none⟩ (.int .i64 s0)).setCell ⟨w5.heap.size, 1, none⟩ (.int .i64 s1)).setCell ⟨w5.heap.size, 2, none⟩ (.int .i64 s2)).setCell ⟨w5.heap.size, 3, none⟩ (.int .i64 s3)).setCell ⟨w5.heap.size, 4, none⟩ (.int .i64 s4)).setCell ⟨w5.heap.size, 5, none⟩ (.int .i64 s5)) w4.heap.size u0 u1 u2 u3 u4 u5) := D6.other GX9.out hxy s0 s1 s2 s3 s4 s5
              have HN : Hid (Below w3.heap.size w3 ((((((w9.setCell ⟨w5.heap.size, 0, none⟩ (.int .i64 s0)).setCell ⟨w5.heap.size, 1, none⟩ (.int .i64 s1)).setCell ⟨w5.heap.size, 2, none⟩ (.int .i64 s2)).setCell ⟨w5.heap.size, 3, none⟩ (.int .i64 s3)).setCell ⟨w5.heap.size, 4, none⟩ (.int .i64 s4)).setCell ⟨w5.heap.size, 5, none⟩ (.int .i64 s5))) := below_set6 HC9.out hby
              refine wpAnyH_ready (rs := [10]) (by kernel_rfl) (by simp) ?_
              refine AllReadyH.cons (o := _) rfl (fun K hK => ?_) AllReadyH.nil
              go_simp
              refine hK.out _ _ ?_ (fun hHeld => ?_)
              · exact YN.out
              clear hK K
              try simp only [Act.put, List.setIfInBounds_toArray, List.set_cons_zero, List.set_cons_succ]
              generalize ((((((w9.setCell ⟨w5.heap.size, 0, none⟩ (.int .i64 s0)).setCell ⟨w5.heap.size, 1, none⟩ (.int .i64 s1)).setCell ⟨w5.heap.size, 2, none⟩ (.int .i64 s2)).setCell ⟨w5.heap.size, 3, none⟩ (.int .i64 s3)).setCell ⟨w5.heap.size, 4, none⟩ (.int .i64 s4)).setCell ⟨w5.heap.size, 5, none⟩ (.int .i64 s5)) = w10 at YN MN ON HN hHeld ⊢
              have Y10 := YN
              have GY10 := MN
              have GX10 := ON
              have HC10 := HN
              clear YN MN ON HN e0 e1 e2 e3 e4 e5 q0 q1 q2 q3 q4 q5 GX9 GY9 Y9 HC9
              refine wpAnyH_done (by kernel_rfl) ?_ _
              go_wp2_with fail
              go_meet
              exact ⟨w4.heap.size, w5.heap.size, rfl, rfl, hbx, hby, GX10.out.1, GY10.out.1, HC10⟩
      · skip
        go_simp
        have hb : Below w4.heap.size w4 (w4.alloc (Obj.cells #[.int .i64 0, .int .i64 0, .int .i64 0, .int .i64 0, .int .i64 0, .int .i64 0] 53)) := (Below.refl _ _).alloc (Nat.le_refl _) _
        have GN : Hid (D6 (w4.alloc (Obj.cells #[.int .i64 0, .int .i64 0, .int .i64 0, .int .i64 0, .int .i64 0, .int .i64 0] 53)) w4.heap.size 0 0 0 0 0 0) := d6_new rfl
        refine hK.out _ _ ?_ (fun hHeld => ?_)
        · exact Y4.out.keep hb
        clear hK K
        try simp only [Act.put, List.setIfInBounds_toArray, List.set_cons_zero, List.set_cons_succ]
        generalize (w4.alloc (Obj.cells #[.int .i64 0, .int .i64 0, .int .i64 0, .int .i64 0, .int .i64 0, .int .i64 0] 53)) = w5 at hb GN hHeld ⊢
        have HC5 : Hid (Below w3.heap.size w3 w5) := HC4.out.trans (hb.mono HC4.out.size)
        have Y5 : Hid (C6 w5 ga a0 a1 a2 a3 a4 a5) := Y4.out.keep hb
        have sz4 : w3.heap.size ≤ w4.heap.size := HC4.out.size
        have GY5 : Hid (D6 w5 w4.heap.size 0 0 0 0 0 0) := GN
        clear hb GN HC4 Y4
        refine wpAnyH_ready (rs := [2, 7]) (by kernel_rfl) (by simp) ?_
        refine AllReadyH.cons (o := _) rfl (fun K hK => ?_) (AllReadyH.cons (o := _) rfl (fun K hK => ?_) AllReadyH.nil)
        · skip
          go_simp
          go_at_call 53
          refine (powerOfTwo_d (k := b) (w := w3) (by omega) (by omega) HPW.out.1 HPW.out.2 _ HC5.out).mono ?_
          rintro e w6 ⟨rfl, hH, hb⟩
          clear hH
          have HC6 : Hid (Below w3.heap.size w3 w6) := HC5.out.trans (hb.mono HC5.out.size)
          have Y6 : Hid (C6 w6 ga a0 a1 a2 a3 a4 a5) := Y5.out.keep hb
          have GY6 : Hid (D6 w6 w4.heap.size 0 0 0 0 0 0) := GY5.out.keep hb
          refine hK.out _ _ ?_ (fun hHeld => ?_)
          · exact Y6.out
          clear hK K hb HC5 Y5 GY5
          try simp only [Act.put, List.setIfInBounds_toArray, List.set_cons_zero, List.set_cons_succ]
          refine wpAnyH_ready (rs := [3, 7]) (by kernel_rfl) (by simp) ?_
          refine AllReadyH.cons (o := _) rfl (fun K hK => ?_) (AllReadyH.cons (o := _) rfl (fun K hK => ?_) AllReadyH.nil)
          · skip
            go_simp
            go_at_call 40
            refine (timesRows_d (w := w3) HDA.out.1 HPW.out.1 HE.out.1 HE.out.2 _ HC6.out).mono ?_
            rintro e w7 ⟨rfl, hH, hb⟩
            clear hH
            have HC7 : Hid (Below w3.heap.size w3 w7) := HC6.out.trans (hb.mono HC6.out.size)
            have Y7 : Hid (C6 w7 ga a0 a1 a2 a3 a4 a5) := Y6.out.keep hb
            have GY7 : Hid (D6 w7 w4.heap.size 0 0 0 0 0 0) := GY6.out.keep hb
            refine hK.out _ _ ?_ (fun hHeld => ?_)
            · exact Y7.out
            clear hK K hb HC6 Y6 GY6
            try simp only [Act.put, List.setIfInBounds_toArray, List.set_cons_zero, List.set_cons_succ]
            refine takeS (i := 4) (oi := _) (v := ?_) (d := some 43) rfl (by kernel_rfl) (by kernel_rfl) (by kernel_rfl) (by kernel_rfl) (fun _ _ _ h => h) (Or.inl ⟨by rfl, ?_⟩) (by assumption) ?_
            rotate_left
            · (intro w hSw; (try dsimp only at hSw); go_simp <;> with_reducible rfl)
            try simp only [Act.put, List.setIfInBounds_toArray, List.set_cons_zero, List.set_cons_succ]
            refine takeS (i := 5) (oi := _) (v := ?_) (d := some 48) rfl (by kernel_rfl) (by kernel_rfl) (by kernel_rfl) (by kernel_rfl) (fun _ _ _ h => h) (Or.inl ⟨by rfl, ?_⟩) (by assumption) ?_
            rotate_left
            · (intro w hSw; (try dsimp only at hSw); go_simp <;> with_reducible rfl)
            try simp only [Act.put, List.setIfInBounds_toArray, List.set_cons_zero, List.set_cons_succ]
            refine takeS (i := 6) (oi := _) (v := ?_) (d := some 49) rfl (by kernel_rfl) (by kernel_rfl) (by kernel_rfl) (by kernel_rfl) (fun _ _ _ h => h) (Or.inl ⟨by rfl, ?_⟩) (by assumption) ?_
            rotate_left
            · (intro w hSw; (try dsimp only at hSw); go_simp <;> with_reducible rfl)
            try simp only [Act.put, List.setIfInBounds_toArray, List.set_cons_zero, List.set_cons_succ]
            refine wpAnyH_ready (rs := [7]) (by kernel_rfl) (by simp) ?_
            refine AllReadyH.cons (o := _) rfl (fun K hK => ?_) AllReadyH.nil
            · skip
              go_simp
              have hb : Below w7.heap.size w7 (w7.alloc (Obj.cells #[.int .i64 0, .int .i64 0, .int .i64 0, .int .i64 0, .int .i64 0, .int .i64 0] 53)) := (Below.refl _ _).alloc (Nat.le_refl _) _
              have GN : Hid (D6 (w7.alloc (Obj.cells #[.int .i64 0, .int .i64 0, .int .i64 0, .int .i64 0, .int .i64 0, .int .i64 0] 53)) w7.heap.size 0 0 0 0 0 0) := d6_new rfl
              refine hK.out _ _ ?_ (fun hHeld => ?_)
              · exact Y7.out.keep hb
              clear hK K
              try simp only [Act.put, List.setIfInBounds_toArray, List.set_cons_zero, List.set_cons_succ]
              generalize (w7.alloc (Obj.cells #[.int .i64 0, .int .i64 0, .int .i64 0, .int .i64 0, .int .i64 0, .int .i64 0] 53)) = w8 at hb GN hHeld ⊢
              have HC8 : Hid (Below w3.heap.size w3 w8) := HC7.out.trans (hb.mono HC7.out.size)
              have Y8 : Hid (C6 w8 ga a0 a1 a2 a3 a4 a5) := Y7.out.keep hb
              have GY8 : Hid (D6 w8 w4.heap.size 0 0 0 0 0 0) := GY7.out.keep hb
              have sz7 : w3.heap.size ≤ w7.heap.size := HC7.out.size
              have sl7 : w4.heap.size < w7.heap.size := GY7.out.lt
              have GX8 : Hid (D6 w8 w7.heap.size 0 0 0 0 0 0) := GN
              clear hb GN HC7 Y7 GY7
              have lx := GX8.out.lt
              have ly := GY8.out.lt
              have hxy : w7.heap.size ≠ w4.heap.size := by omega
              have hbx : w3.heap.size ≤ w7.heap.size := by omega
              have hby : w3.heap.size ≤ w4.heap.size := by omega
              have hax : ga ≠ w7.heap.size := by omega
              have hay : ga ≠ w4.heap.size := by omega
              have hcel := GX8.out.1
              obtain ⟨e0, e1, e2, e3, e4, e5⟩ := hcel
              have hfr := GX8.out.2
              have q0 := hfr 0
              have q1 := hfr 1
              have q2 := hfr 2
              have q3 := hfr 3
              have q4 := hfr 4
              have q5 := hfr 5
              clear hfr
              have YN : Hid (C6 ((((((w8.setCell ⟨w7.heap.size, 0, none⟩ (.int .i64 u0)).setCell ⟨w7.heap.size, 1, none⟩ (.int .i64 u1)).setCell ⟨w7.heap.size, 2, none⟩ (.int .i64 u2)).setCell ⟨w7.heap.size, 3, none⟩ (.int .i64 u3)).setCell ⟨w7.heap.size, 4, none⟩ (.int .i64 u4)).setCell ⟨w7.heap.size, 5, none⟩ (.int .i64 u5)) ga a0 a1 a2 a3 a4 a5) := c6_set_ne Y8.out hax
              have MN : Hid (D6 ((((((w8.setCell ⟨w7.heap.size, 0, none⟩ (.int .i64 u0)).setCell ⟨w7.heap.size, 1, none⟩ (.int .i64 u1)).setCell ⟨w7.heap.size, 2, none⟩ (.int .i64 u2)).setCell ⟨w7.heap.size, 3, none⟩ (.int .i64 u3)).setCell ⟨w7.heap.size, 4, none⟩ (.int .i64 u4)).setCell ⟨w7.heap.size, 5, none⟩ (.int .i64 u5)) w7.heap.size u0 u1 u2 u3 u4 u5) := D6.set GX8.out u0 u1 u2 u3 u4 u5
              have ON : Hid (D6 ((((((w8.setCell ⟨w7.heap.size, 0, none⟩ (.int .i64 u0)).setCell ⟨w7.heap.size, 1, none⟩ (.int .i64 u1)).setCell ⟨w7.heap.size, 2, none⟩ (.int .i64 u2)).setCell ⟨w7.heap.size, 3, none⟩ (.int .i64 u3)).setCell ⟨w7.heap.size, 4, none⟩ (.int .i64 u4)).setCell ⟨w7.heap.size, 5, none⟩ (.int .i64 u5)) w4.heap.size 0 0 0 0 0 0) := D6.other GY8.out hxy.symm u0 u1 u2 u3 u4 u5
              have HN : Hid (Below w3.heap.size w3 ((((((w8.setCell ⟨w7.heap.size, 0, none⟩ (.int .i64 u0)).setCell ⟨w7.heap.size, 1, none⟩ (.int .i64 u1)).setCell ⟨w7.heap.size, 2, none⟩ (.int .i64 u2)).setCell ⟨w7.heap.size, 3, none⟩ (.int .i64 u3)).setCell ⟨w7.heap.size, 4, none⟩ (.int .i64 u4)).setCell ⟨w7.heap.size, 5, none⟩ (.int .i64 u5))) := below_set6 HC8.out hbx
              refine wpAnyH_ready (rs := [9]) (by kernel_rfl) (by simp) ?_
              refine AllReadyH.cons (o := _) rfl (fun K hK => ?_) AllReadyH.nil
              go_simp
              refine hK.out _ _ ?_ (fun hHeld => ?_)
              · exact YN.out
              clear hK K
              try simp only [Act.put, List.setIfInBounds_toArray, List.set_cons_zero, List.set_cons_succ]
              generalize ((((((w8.setCell ⟨w7.heap.size, 0, none⟩ (.int .i64 u0)).setCell ⟨w7.heap.size, 1, none⟩ (.int .i64 u1)).setCell ⟨w7.heap.size, 2, none⟩ (.int .i64 u2)).setCell ⟨w7.heap.size, 3, none⟩ (.int .i64 u3)).setCell ⟨w7.heap.size, 4, none⟩ (.int .i64 u4)).setCell ⟨w7.heap.size, 5, none⟩ (.int .i64 u5)) = w9 at YN MN ON HN hHeld ⊢
              have Y9 := YN
              have GX9 := MN
              have GY9 := ON
              have HC9 := HN
              clear YN MN ON HN e0 e1 e2 e3 e4 e5 q0 q1 q2 q3 q4 q5 GX8 GY8 Y8 HC8
              have hcel := GY9.out.1
              obtain ⟨e0, e1, e2, e3, e4, e5⟩ := hcel
              have hfr := GY9.out.2
              have q0 := hfr 0
              have q1 := hfr 1
              have q2 := hfr 2
              have q3 := hfr 3
              have q4 := hfr 4
              have q5 := hfr 5
              clear hfr
              have YN : Hid (C6 ((((((w9.setCell ⟨w4.heap.size, 0, none⟩ (.int .i64 s0)).setCell ⟨w4.heap.size, 1, none⟩ (.int .i64 s1)).setCell ⟨w4.heap.size, 2, none⟩ (.int .i64 s2)).setCell ⟨w4.heap.size, 3, none⟩ (.int .i64 s3)).setCell ⟨w4.heap.size, 4, none⟩ (.int .i64 s4)).setCell ⟨w4.heap.size, 5, none⟩ (.int .i64 s5)) ga a0 a1 a2 a3 a4 a5) := c6_set_ne Y9.out hay
              have MN : Hid (D6 ((((((w9.setCell ⟨w4.heap.size, 0, none⟩ (.int .i64 s0)).setCell ⟨w4.heap.size, 1, none⟩ (.int .i64 s1)).setCell ⟨w4.heap.size, 2, none⟩ (.int .i64 s2)).setCell ⟨w4.heap.size, 3, none⟩ (.int .i64 s3)).setCell ⟨w4.heap.size, 4, none⟩ (.int .i64 s4)).setCell ⟨w4.heap.size, 5, none⟩ (.int .i64 s5)) w4.heap.size s0 s1 s2 s3 s4 s5) := D6.set GY9.out s0 s1 s2 s3 s4 s5
              have ON : Hid (D6 ((((((w9.setCell ⟨w4.heap.size, 0, none⟩ (.int .i64 s0)).setCell ⟨w4.heap.size, 1, none⟩ (.int .i64 s1)).setCell ⟨w4.heap.size, 2, none⟩ (.int .i64 s2)).setCell ⟨w4.heap.size, 3, none⟩ (.int .i64 s3)).setCell ⟨w4.heap.size, 4, none⟩ (.int .i64 s4)).setCell ⟨w4.heap.size, 5, none⟩ (.int .i64 s5)) w7.heap.size u0 u1 u2 u3 u4 u5) := D6.other GX9.out hxy s0 s1 s2 s3 s4 s5
              have HN : Hid (Below w3.heap.size w3 ((((((w9.setCell ⟨w4.heap.size, 0, none⟩ (.int .i64 s0)).setCell ⟨w4.heap.size, 1, none⟩ (.int .i64 s1)).setCell ⟨w4.heap.size, 2, none⟩ (.int .i64 s2)).setCell ⟨w4.heap.size, 3, none⟩ (.int .i64 s3)).setCell ⟨w4.heap.size, 4, none⟩ (.int .i64 s4)).setCell ⟨w4.heap.size, 5, none⟩ (.int .i64 s5))) := below_set6 HC9.out hby
              refine wpAnyH_ready (rs := [10]) (by kernel_rfl) (by simp) ?_
              refine AllReadyH.cons (o := _) rfl (fun K hK => ?_) AllReadyH.nil
              go_simp
              refine hK.out _ _ ?_ (fun hHeld => ?_)
              · exact YN.out
              clear hK K
              try simp only [Act.put, List.setIfInBounds_toArray, List.set_cons_zero, List.set_cons_succ]
              generalize ((((((w9.setCell ⟨w4.heap.size, 0, none⟩ (.int .i64 s0)).setCell ⟨w4.heap.size, 1, none⟩ (.int .i64 s1)).setCell ⟨w4.heap.size, 2, none⟩ (.int .i64 s2)).setCell ⟨w4.heap.size, 3, none⟩ (.int .i64 s3)).setCell ⟨w4.heap.size, 4, none⟩ (.int .i64 s4)).setCell ⟨w4.heap.size, 5, none⟩ (.int .i64 s5)) = w10 at YN MN ON HN hHeld ⊢
              have Y10 := YN
              have GY10 := MN
              have GX10 := ON
              have HC10 := HN
              clear YN MN ON HN e0 e1 e2 e3 e4 e5 q0 q1 q2 q3 q4 q5 GX9 GY9 Y9 HC9
              refine wpAnyH_done (by kernel_rfl) ?_ _
              go_wp2_with fail
              go_meet
              exact ⟨w7.heap.size, w4.heap.size, rfl, rfl, hbx, hby, GX10.out.1, GY10.out.1, HC10⟩
          · skip
            go_simp
            have hb : Below w6.heap.size w6 (w6.alloc (Obj.cells #[.int .i64 0, .int .i64 0, .int .i64 0, .int .i64 0, .int .i64 0, .int .i64 0] 53)) := (Below.refl _ _).alloc (Nat.le_refl _) _
            have GN : Hid (D6 (w6.alloc (Obj.cells #[.int .i64 0, .int .i64 0, .int .i64 0, .int .i64 0, .int .i64 0, .int .i64 0] 53)) w6.heap.size 0 0 0 0 0 0) := d6_new rfl
            refine hK.out _ _ ?_ (fun hHeld => ?_)
            · exact Y6.out.keep hb
            clear hK K
            try simp only [Act.put, List.setIfInBounds_toArray, List.set_cons_zero, List.set_cons_succ]
            generalize (w6.alloc (Obj.cells #[.int .i64 0, .int .i64 0, .int .i64 0, .int .i64 0, .int .i64 0, .int .i64 0] 53)) = w7 at hb GN hHeld ⊢
            have HC7 : Hid (Below w3.heap.size w3 w7) := HC6.out.trans (hb.mono HC6.out.size)
            have Y7 : Hid (C6 w7 ga a0 a1 a2 a3 a4 a5) := Y6.out.keep hb
            have GY7 : Hid (D6 w7 w4.heap.size 0 0 0 0 0 0) := GY6.out.keep hb
            have sz6 : w3.heap.size ≤ w6.heap.size := HC6.out.size
            have sl6 : w4.heap.size < w6.heap.size := GY6.out.lt
            have GX7 : Hid (D6 w7 w6.heap.size 0 0 0 0 0 0) := GN
            clear hb GN HC6 Y6 GY6
            refine wpAnyH_ready (rs := [3]) (by kernel_rfl) (by simp) ?_
            refine AllReadyH.cons (o := _) rfl (fun K hK => ?_) AllReadyH.nil
            · skip
              go_simp
              go_at_call 40
              refine (timesRows_d (w := w3) HDA.out.1 HPW.out.1 HE.out.1 HE.out.2 _ HC7.out).mono ?_
              rintro e w8 ⟨rfl, hH, hb⟩
              clear hH
              have HC8 : Hid (Below w3.heap.size w3 w8) := HC7.out.trans (hb.mono HC7.out.size)
              have Y8 : Hid (C6 w8 ga a0 a1 a2 a3 a4 a5) := Y7.out.keep hb
              have GX8 : Hid (D6 w8 w6.heap.size 0 0 0 0 0 0) := GX7.out.keep hb
              have GY8 : Hid (D6 w8 w4.heap.size 0 0 0 0 0 0) := GY7.out.keep hb
              refine hK.out _ _ ?_ (fun hHeld => ?_)
              · exact Y8.out
              clear hK K hb HC7 Y7 GX7 GY7
              try simp only [Act.put, List.setIfInBounds_toArray, List.set_cons_zero, List.set_cons_succ]
              refine takeS (i := 4) (oi := _) (v := ?_) (d := some 43) rfl (by kernel_rfl) (by kernel_rfl) (by kernel_rfl) (by kernel_rfl) (fun _ _ _ h => h) (Or.inl ⟨by rfl, ?_⟩) (by assumption) ?_
              rotate_left
              · (intro w hSw; (try dsimp only at hSw); go_simp <;> with_reducible rfl)
              try simp only [Act.put, List.setIfInBounds_toArray, List.set_cons_zero, List.set_cons_succ]
              refine takeS (i := 5) (oi := _) (v := ?_) (d := some 48) rfl (by kernel_rfl) (by kernel_rfl) (by kernel_rfl) (by kernel_rfl) (fun _ _ _ h => h) (Or.inl ⟨by rfl, ?_⟩) (by assumption) ?_
              rotate_left
              · (intro w hSw; (try dsimp only at hSw); go_simp <;> with_reducible rfl)
              try simp only [Act.put, List.setIfInBounds_toArray, List.set_cons_zero, List.set_cons_succ]
              refine takeS (i := 6) (oi := _) (v := ?_) (d := some 49) rfl (by kernel_rfl) (by kernel_rfl) (by kernel_rfl) (by kernel_rfl) (fun _ _ _ h => h) (Or.inl ⟨by rfl, ?_⟩) (by assumption) ?_
              rotate_left
              · (intro w hSw; (try dsimp only at hSw); go_simp <;> with_reducible rfl)
              try simp only [Act.put, List.setIfInBounds_toArray, List.set_cons_zero, List.set_cons_succ]
              have lx := GX8.out.lt
              have ly := GY8.out.lt
              have hxy : w6.heap.size ≠ w4.heap.size := by omega
              have hbx : w3.heap.size ≤ w6.heap.size := by omega
              have hby : w3.heap.size ≤ w4.heap.size := by omega
              have hax : ga ≠ w6.heap.size := by omega
              have hay : ga ≠ w4.heap.size := by omega
              have hcel := GX8.out.1
              obtain ⟨e0, e1, e2, e3, e4, e5⟩ := hcel
              have hfr := GX8.out.2
              have q0 := hfr 0
              have q1 := hfr 1
              have q2 := hfr 2
              have q3 := hfr 3
              have q4 := hfr 4
              have q5 := hfr 5
              clear hfr
              have YN : Hid (C6 ((((((w8.setCell ⟨w6.heap.size, 0, none⟩ (.int .i64 u0)).setCell ⟨w6.heap.size, 1, none⟩ (.int .i64 u1)).setCell ⟨w6.heap.size, 2, none⟩ (.int .i64 u2)).setCell ⟨w6.heap.size, 3, none⟩ (.int .i64 u3)).setCell ⟨w6.heap.size, 4, none⟩ (.int .i64 u4)).setCell ⟨w6.heap.size, 5, none⟩ (.int .i64 u5)) ga a0 a1 a2 a3 a4 a5) := c6_set_ne Y8.out hax
              have MN : Hid (D6 ((((((w8.setCell ⟨w6.heap.size, 0, none⟩ (.int .i64 u0)).setCell ⟨w6.heap.size, 1, none⟩ (.int .i64 u1)).setCell ⟨w6.heap.size, 2, none⟩ (.int .i64 u2)).setCell ⟨w6.heap.size, 3, none⟩ (.int .i64 u3)).setCell ⟨w6.heap.size, 4, none⟩ (.int .i64 u4)).setCell ⟨w6.heap.size, 5, none⟩ (.int .i64 u5)) w6.heap.size u0 u1 u2 u3 u4 u5) := D6.set GX8.out u0 u1 u2 u3 u4 u5
              have ON : Hid (D6 ((((((w8.setCell ⟨w6.heap.size, 0, none⟩ (.int .i64 u0)).setCell ⟨w6.heap.size, 1, none⟩ (.int .i64 u1)).setCell ⟨w6.heap.size, 2, none⟩ (.int .i64 u2)).setCell ⟨w6.heap.size, 3, none⟩ (.int .i64 u3)).setCell ⟨w6.heap.size, 4, none⟩ (.int .i64 u4)).setCell ⟨w6.heap.size, 5, none⟩ (.int .i64 u5)) w4.heap.size 0 0 0 0 0 0) := D6.other GY8.out hxy.symm u0 u1 u2 u3 u4 u5
              have HN : Hid (Below w3.heap.size w3 ((((((w8.setCell ⟨w6.heap.size, 0, none⟩ (.int .i64 u0)).setCell ⟨w6.heap.size, 1, none⟩ (.int .i64 u1)).setCell ⟨w6.heap.size, 2, none⟩ (.int .i64 u2)).setCell ⟨w6.heap.size, 3, none⟩ (.int .i64 u3)).setCell ⟨w6.heap.size, 4, none⟩ (.int .i64 u4)).setCell ⟨w6.heap.size, 5, none⟩ (.int .i64 u5))) := below_set6 HC8.out hbx
              refine wpAnyH_ready (rs := [9]) (by kernel_rfl) (by simp) ?_
              refine AllReadyH.cons (o := _) rfl (fun K hK => ?_) AllReadyH.nil
              go_simp
              refine hK.out _ _ ?_ (fun hHeld => ?_)
              · exact YN.out
              clear hK K
              try simp only [Act.put, List.setIfInBounds_toArray, List.set_cons_zero, List.set_cons_succ]
              generalize ((((((w8.setCell ⟨w6.heap.size, 0, none⟩ (.int .i64 u0)).setCell ⟨w6.heap.size, 1, none⟩ (.int .i64 u1)).setCell ⟨w6.heap.size, 2, none⟩ (.int .i64 u2)).setCell ⟨w6.heap.size, 3, none⟩ (.int .i64 u3)).setCell ⟨w6.heap.size, 4, none⟩ (.int .i64 u4)).setCell ⟨w6.heap.size, 5, none⟩ (.int .i64 u5)) = w9 at YN MN ON HN hHeld ⊢
              have Y9 := YN
              have GX9 := MN
              have GY9 := ON
              have HC9 := HN
              clear YN MN ON HN e0 e1 e2 e3 e4 e5 q0 q1 q2 q3 q4 q5 GX8 GY8 Y8 HC8
              have hcel := GY9.out.1
              obtain ⟨e0, e1, e2, e3, e4, e5⟩ := hcel
              have hfr := GY9.out.2
              have q0 := hfr 0
              have q1 := hfr 1
              have q2 := hfr 2
              have q3 := hfr 3
              have q4 := hfr 4
              have q5 := hfr 5
              clear hfr
              have YN : Hid (C6 ((((((w9.setCell ⟨w4.heap.size, 0, none⟩ (.int .i64 s0)).setCell ⟨w4.heap.size, 1, none⟩ (.int .i64 s1)).setCell ⟨w4.heap.size, 2, none⟩ (.int .i64 s2)).setCell ⟨w4.heap.size, 3, none⟩ (.int .i64 s3)).setCell ⟨w4.heap.size, 4, none⟩ (.int .i64 s4)).setCell ⟨w4.heap.size, 5, none⟩ (.int .i64 s5)) ga a0 a1 a2 a3 a4 a5) := c6_set_ne Y9.out hay
              have MN : Hid (D6 ((((((w9.setCell ⟨w4.heap.size, 0, none⟩ (.int .i64 s0)).setCell ⟨w4.heap.size, 1, none⟩ (.int .i64 s1)).setCell ⟨w4.heap.size, 2, none⟩ (.int .i64 s2)).setCell ⟨w4.heap.size, 3, none⟩ (.int .i64 s3)).setCell ⟨w4.heap.size, 4, none⟩ (.int .i64 s4)).setCell ⟨w4.heap.size, 5, none⟩ (.int .i64 s5)) w4.heap.size s0 s1 s2 s3 s4 s5) := D6.set GY9.out s0 s1 s2 s3 s4 s5
              have ON : Hid (D6 ((((((w9.setCell ⟨w4.heap.size, 0, none⟩ (.int .i64 s0)).setCell ⟨w4.heap.size, 1, none⟩ (.int .i64 s1)).setCell ⟨w4.heap.size, 2, none⟩ (.int .i64 s2)).setCell ⟨w4.heap.size, 3, none⟩ (.int .i64 s3)).setCell ⟨w4.heap.size, 4, none⟩ (.int .i64 s4)).setCell ⟨w4.heap.size, 5, none⟩ (.int .i64 s5)) w6.heap.size u0 u1 u2 u3 u4 u5) := D6.other GX9.out hxy s0 s1 s2 s3 s4 s5
              have HN : Hid (Below w3.heap.size w3 ((((((w9.setCell ⟨w4.heap.size, 0, none⟩ (.int .i64 s0)).setCell ⟨w4.heap.size, 1, none⟩ (.int .i64 s1)).setCell ⟨w4.heap.size, 2, none⟩ (.int .i64 s2)).setCell ⟨w4.heap.size, 3, none⟩ (.int .i64 s3)).setCell ⟨w4.heap.size, 4, none⟩ (.int .i64 s4)).setCell ⟨w4.heap.size, 5, none⟩ (.int .i64 s5))) := below_set6 HC9.out hby
              refine wpAnyH_ready (rs := [10]) (by kernel_rfl) (by simp) ?_
              refine AllReadyH.cons (o := _) rfl (fun K hK => ?_) AllReadyH.nil
              go_simp
              refine hK.out _ _ ?_ (fun hHeld => ?_)
              · exact YN.out
              clear hK K
              try simp only [Act.put, List.setIfInBounds_toArray, List.set_cons_zero, List.set_cons_succ]
              generalize ((((((w9.setCell ⟨w4.heap.size, 0, none⟩ (.int .i64 s0)).setCell ⟨w4.heap.size, 1, none⟩ (.int .i64 s1)).setCell ⟨w4.heap.size, 2, none⟩ (.int .i64 s2)).setCell ⟨w4.heap.size, 3, none⟩ (.int .i64 s3)).setCell ⟨w4.heap.size, 4, none⟩ (.int .i64 s4)).setCell ⟨w4.heap.size, 5, none⟩ (.int .i64 s5)) = w10 at YN MN ON HN hHeld ⊢
              have Y10 := YN
              have GY10 := MN
              have GX10 := ON
              have HC10 := HN
              clear YN MN ON HN e0 e1 e2 e3 e4 e5 q0 q1 q2 q3 q4 q5 GX9 GY9 Y9 HC9
              refine wpAnyH_done (by kernel_rfl) ?_ _
              go_wp2_with fail
              go_meet
              exact ⟨w6.heap.size, w4.heap.size, rfl, rfl, hbx, hby, GX10.out.1, GY10.out.1, HC10⟩
        · skip
          go_simp
          have hb : Below w5.heap.size w5 (w5.alloc (Obj.cells #[.int .i64 0, .int .i64 0, .int .i64 0, .int .i64 0, .int .i64 0, .int .i64 0] 53)) := (Below.refl _ _).alloc (Nat.le_refl _) _
          have GN : Hid (D6 (w5.alloc (Obj.cells #[.int .i64 0, .int .i64 0, .int .i64 0, .int .i64 0, .int .i64 0, .int .i64 0] 53)) w5.heap.size 0 0 0 0 0 0) := d6_new rfl
          refine hK.out _ _ ?_ (fun hHeld => ?_)
          · exact Y5.out.keep hb
          clear hK K
          try simp only [Act.put, List.setIfInBounds_toArray, List.set_cons_zero, List.set_cons_succ]
          generalize (w5.alloc (Obj.cells #[.int .i64 0, .int .i64 0, .int .i64 0, .int .i64 0, .int .i64 0, .int .i64 0] 53)) = w6 at hb GN hHeld ⊢
          have HC6 : Hid (Below w3.heap.size w3 w6) := HC5.out.trans (hb.mono HC5.out.size)
          have Y6 : Hid (C6 w6 ga a0 a1 a2 a3 a4 a5) := Y5.out.keep hb
          have GY6 : Hid (D6 w6 w4.heap.size 0 0 0 0 0 0) := GY5.out.keep hb
          have sz5 : w3.heap.size ≤ w5.heap.size := HC5.out.size
          have sl5 : w4.heap.size < w5.heap.size := GY5.out.lt
          have GX6 : Hid (D6 w6 w5.heap.size 0 0 0 0 0 0) := GN
          clear hb GN HC5 Y5 GY5
          refine wpAnyH_ready (rs := [2]) (by kernel_rfl) (by simp) ?_
          refine AllReadyH.cons (o := _) rfl (fun K hK => ?_) AllReadyH.nil
          · skip
            go_simp
            go_at_call 53
            refine (powerOfTwo_d (k := b) (w := w3) (by omega) (by omega) HPW.out.1 HPW.out.2 _ HC6.out).mono ?_
            rintro e w7 ⟨rfl, hH, hb⟩
            clear hH
            have HC7 : Hid (Below w3.heap.size w3 w7) := HC6.out.trans (hb.mono HC6.out.size)
            have Y7 : Hid (C6 w7 ga a0 a1 a2 a3 a4 a5) := Y6.out.keep hb
            have GX7 : Hid (D6 w7 w5.heap.size 0 0 0 0 0 0) := GX6.out.keep hb
            have GY7 : Hid (D6 w7 w4.heap.size 0 0 0 0 0 0) := GY6.out.keep hb
            refine hK.out _ _ ?_ (fun hHeld => ?_)
            · exact Y7.out
            clear hK K hb HC6 Y6 GX6 GY6
            try simp only [Act.put, List.setIfInBounds_toArray, List.set_cons_zero, List.set_cons_succ]
            refine wpAnyH_ready (rs := [3]) (by kernel_rfl) (by simp) ?_
            refine AllReadyH.cons (o := _) rfl (fun K hK => ?_) AllReadyH.nil
            · skip
              go_simp
              go_at_call 40
              refine (timesRows_d (w := w3) HDA.out.1 HPW.out.1 HE.out.1 HE.out.2 _ HC7.out).mono ?_
              rintro e w8 ⟨rfl, hH, hb⟩
              clear hH
              have HC8 : Hid (Below w3.heap.size w3 w8) := HC7.out.trans (hb.mono HC7.out.size)
              have Y8 : Hid (C6 w8 ga a0 a1 a2 a3 a4 a5) := Y7.out.keep hb
              have GX8 : Hid (D6 w8 w5.heap.size 0 0 0 0 0 0) := GX7.out.keep hb
              have GY8 : Hid (D6 w8 w4.heap.size 0 0 0 0 0 0) := GY7.out.keep hb
              refine hK.out _ _ ?_ (fun hHeld => ?_)
              · exact Y8.out
              clear hK K hb HC7 Y7 GX7 GY7
              try simp only [Act.put, List.setIfInBounds_toArray, List.set_cons_zero, List.set_cons_succ]
              refine takeS (i := 4) (oi := _) (v := ?_) (d := some 43) rfl (by kernel_rfl) (by kernel_rfl) (by kernel_rfl) (by kernel_rfl) (fun _ _ _ h => h) (Or.inl ⟨by rfl, ?_⟩) (by assumption) ?_
              rotate_left
              · (intro w hSw; (try dsimp only at hSw); go_simp <;> with_reducible rfl)
              try simp only [Act.put, List.setIfInBounds_toArray, List.set_cons_zero, List.set_cons_succ]
              refine takeS (i := 5) (oi := _) (v := ?_) (d := some 48) rfl (by kernel_rfl) (by kernel_rfl) (by kernel_rfl) (by kernel_rfl) (fun _ _ _ h => h) (Or.inl ⟨by rfl, ?_⟩) (by assumption) ?_
              rotate_left
              · (intro w hSw; (try dsimp only at hSw); go_simp <;> with_reducible rfl)
              try simp only [Act.put, List.setIfInBounds_toArray, List.set_cons_zero, List.set_cons_succ]
              refine takeS (i := 6) (oi := _) (v := ?_) (d := some 49) rfl (by kernel_rfl) (by kernel_rfl) (by kernel_rfl) (by kernel_rfl) (fun _ _ _ h => h) (Or.inl ⟨by rfl, ?_⟩) (by assumption) ?_
              rotate_left
              · (intro w hSw; (try dsimp only at hSw); go_simp <;> with_reducible rfl)
              try simp only [Act.put, List.setIfInBounds_toArray, List.set_cons_zero, List.set_cons_succ]
              have lx := GX8.out.lt
              have ly := GY8.out.lt
              have hxy : w5.heap.size ≠ w4.heap.size := by omega
              have hbx : w3.heap.size ≤ w5.heap.size := by omega
              have hby : w3.heap.size ≤ w4.heap.size := by omega
              have hax : ga ≠ w5.heap.size := by omega
              have hay : ga ≠ w4.heap.size := by omega
              have hcel := GX8.out.1
              obtain ⟨e0, e1, e2, e3, e4, e5⟩ := hcel
              have hfr := GX8.out.2
              have q0 := hfr 0
              have q1 := hfr 1
              have q2 := hfr 2
              have q3 := hfr 3
              have q4 := hfr 4
              have q5 := hfr 5
              clear hfr
              have YN : Hid (C6 ((((((w8.setCell ⟨w5.heap.size, 0, none⟩ (.int .i64 u0)).setCell ⟨w5.heap.size, 1, none⟩ (.int .i64 u1)).setCell ⟨w5.heap.size, 2, none⟩ (.int .i64 u2)).setCell ⟨w5.heap.size, 3, none⟩ (.int .i64 u3)).setCell ⟨w5.heap.size, 4, none⟩ (.int .i64 u4)).setCell ⟨w5.heap.size, 5, none⟩ (.int .i64 u5)) ga a0 a1 a2 a3 a4 a5) := c6_set_ne Y8.out hax
              have MN : Hid (D6 ((((((w8.setCell ⟨w5.heap.size, 0, none⟩ (.int .i64 u0)).setCell ⟨w5.heap.size, 1, none⟩ (.int .i64 u1)).setCell ⟨w5.heap.size, 2, none⟩ (.int .i64 u2)).setCell ⟨w5.heap.size, 3, none⟩ (.int .i64 u3)).setCell ⟨w5.heap.size, 4, none⟩ (.int .i64 u4)).setCell ⟨w5.heap.size, 5, none⟩ (.int .i64 u5)) w5.heap.size u0 u1 u2 u3 u4 u5) := D6.set GX8.out u0 u1 u2 u3 u4 u5
              have ON : Hid (D6 ((((((w8.setCell ⟨w5.heap.size, 0, none⟩ (.int .i64 u0)).setCell ⟨w5.heap.size, 1, none⟩ (.int .i64 u1)).setCell ⟨w5.heap.size, 2, none⟩ (.int .i64 u2)).setCell ⟨w5.heap.size, 3, none⟩ (.int .i64 u3)).setCell ⟨w5.heap.size, 4, none⟩ (.int .i64 u4)).setCell ⟨w5.heap.size, 5, none⟩ (.int .i64 u5)) w4.heap.size 0 0 0 0 0 0) := D6.other GY8.out hxy.symm u0 u1 u2 u3 u4 u5
              have HN : Hid (Below w3.heap.size w3 ((((((w8.setCell ⟨w5.heap.size, 0, none⟩ (.int .i64 u0)).setCell ⟨w5.heap.size, 1, none⟩ (.int .i64 u1)).setCell ⟨w5.heap.size, 2, none⟩ (.int .i64 u2)).setCell ⟨w5.heap.size, 3, none⟩ (.int .i64 u3)).setCell ⟨w5.heap.size, 4, none⟩ (.int .i64 u4)).setCell ⟨w5.heap.size, 5, none⟩ (.int .i64 u5))) := below_set6 HC8.out hbx
              refine wpAnyH_ready (rs := [9]) (by kernel_rfl) (by simp) ?_
              refine AllReadyH.cons (o := _) rfl (fun K hK => ?_) AllReadyH.nil
              go_simp
              refine hK.out _ _ ?_ (fun hHeld => ?_)
              · exact YN.out
              clear hK K
              try simp only [Act.put, List.setIfInBounds_toArray, List.set_cons_zero, List.set_cons_succ]
              generalize ((((((w8.setCell ⟨w5.heap.size, 0, none⟩ (.int .i64 u0)).setCell ⟨w5.heap.size, 1, none⟩ (.int .i64 u1)).setCell ⟨w5.heap.size, 2, none⟩ (.int .i64 u2)).setCell ⟨w5.heap.size, 3, none⟩ (.int .i64 u3)).setCell ⟨w5.heap.size, 4, none⟩ (.int .i64 u4)).setCell ⟨w5.heap.size, 5, none⟩ (.int .i64 u5)) = w9 at YN MN ON HN hHeld ⊢
              have Y9 := YN
              have GX9 := MN
              have GY9 := ON
              have HC9 := HN
              clear YN MN ON HN e0 e1 e2 e3 e4 e5 q0 q1 q2 q3 q4 q5 GX8 GY8 Y8 HC8
              have hcel := GY9.out.1
              obtain ⟨e0, e1, e2, e3, e4, e5⟩ := hcel
              have hfr := GY9.out.2
              have q0 := hfr 0
              have q1 := hfr 1
              have q2 := hfr 2
              have q3 := hfr 3
              have q4 := hfr 4
              have q5 := hfr 5
              clear hfr
              have YN : Hid (C6 ((((((w9.setCell ⟨w4.heap.size, 0, none⟩ (.int .i64 s0)).setCell ⟨w4.heap.size, 1, none⟩ (.int .i64 s1)).setCell ⟨w4.heap.size, 2, none⟩ (.int .i64 s2)).setCell ⟨w4.heap.size, 3, none⟩ (.int .i64 s3)).setCell ⟨w4.heap.size, 4, none⟩ (.int .i64 s4)).setCell ⟨w4.heap.size, 5, none⟩ (.int .i64 s5)) ga a0 a1 a2 a3 a4 a5) := c6_set_ne Y9.out hay
              have MN : Hid (D6 ((((((w9.setCell ⟨w4.heap.size, 0, none⟩ (.int .i64 s0)).setCell ⟨w4.heap.size, 1, none⟩ (.int .i64 s1)).setCell ⟨w4.heap.size, 2, none⟩ (.int .i64 s2)).setCell ⟨w4.heap.size, 3, none⟩ (.int .i64 s3)).setCell ⟨w4.heap.size, 4, none⟩ (.int .i64 s4)).setCell ⟨w4.heap.size, 5, none⟩ (.int .i64 s5)) w4.heap.size s0 s1 s2 s3 s4 s5) := D6.set GY9.out s0 s1 s2 s3 s4 s5
              have ON : Hid (D6 ((((((w9.setCell ⟨w4.heap.size, 0, none⟩ (.int .i64 s0)).setCell ⟨w4.heap.size, 1, none⟩ (.int .i64 s1)).setCell ⟨w4.heap.size, 2, none⟩ (.int .i64 s2)).setCell ⟨w4.heap.size, 3, none⟩ (.int .i64 s3)).setCell ⟨w4.heap.size, 4, none⟩ (.int .i64 s4)).setCell ⟨w4.heap.size, 5, none⟩ (.int .i64 s5)) w5.heap.size u0 u1 u2 u3 u4 u5) := D6.other GX9.out hxy s0 s1 s2 s3 s4 s5
              have HN : Hid (Below w3.heap.size w3 ((((((w9.setCell ⟨w4.heap.size, 0, none⟩ (.int .i64 s0)).setCell ⟨w4.heap.size, 1, none⟩ (.int .i64 s1)).setCell ⟨w4.heap.size, 2, none⟩ (.int .i64 s2)).setCell ⟨w4.heap.size, 3, none⟩ (.int .i64 s3)).setCell ⟨w4.heap.size, 4, none⟩ (.int .i64 s4)).setCell ⟨w4.heap.size, 5, none⟩ (.int .i64 s5))) := below_set6 HC9.out hby
              refine wpAnyH_ready (rs := [10]) (by kernel_rfl) (by simp) ?_
              refine AllReadyH.cons (o := _) rfl (fun K hK => ?_) AllReadyH.nil
              go_simp
              refine hK.out _ _ ?_ (fun hHeld => ?_)
              · exact YN.out
              clear hK K
              try simp only [Act.put, List.setIfInBounds_toArray, List.set_cons_zero, List.set_cons_succ]
              generalize ((((((w9.setCell ⟨w4.heap.size, 0, none⟩ (.int .i64 s0)).setCell ⟨w4.heap.size, 1, none⟩ (.int .i64 s1)).setCell ⟨w4.heap.size, 2, none⟩ (.int .i64 s2)).setCell ⟨w4.heap.size, 3, none⟩ (.int .i64 s3)).setCell ⟨w4.heap.size, 4, none⟩ (.int .i64 s4)).setCell ⟨w4.heap.size, 5, none⟩ (.int .i64 s5)) = w10 at YN MN ON HN hHeld ⊢
              have Y10 := YN
              have GY10 := MN
              have GX10 := ON
              have HC10 := HN
              clear YN MN ON HN e0 e1 e2 e3 e4 e5 q0 q1 q2 q3 q4 q5 GX9 GY9 Y9 HC9
              refine wpAnyH_done (by kernel_rfl) ?_ _
              go_wp2_with fail
              go_meet
              exact ⟨w5.heap.size, w4.heap.size, rfl, rfl, hbx, hby, GX10.out.1, GY10.out.1, HC10⟩
    case rest => as_aux_lemma =>
      obtain ⟨gx, gy, rfl, rfl, hgx, hgy, hcx, hcy, hb⟩ := hcut
      obtain ⟨w5, rfl⟩ : ∃ w5 : World, w5 = wc := ⟨_, rfl⟩
      have hbk : Below w3.heap.size w3 w5 := hb.out
      have HB5 : Hid (Below w.heap.size w w5) := HB3.out.trans (hbk.mono HB3.out.size)
      have r5 : w5.cell? ⟨w.heap.size + 1, 0, none⟩ = some (.slice none 0 0) := cell_keep (S := 0) hbk r3
      have f5 : w5.frozen? ⟨w.heap.size + 1, 0, none⟩ = false := fcell_keep hbk l3 f3
      have l5 : w.heap.size + 1 < w5.heap.size := World.block_lt_of_cell? _ _ r5
      obtain ⟨p0', p1', p2', p3', p4', p5'⟩ := hcx
      obtain ⟨q0', q1', q2', q3', q4', q5'⟩ := hcy
      clear hb hbk r3 f3 y0 y1 y2 y3 y4 y5 HC3
      have hnq := fun wx => run_neq_row wx s0 s1 s2 s3 s4 s5 0 0 0 0 0 0
      have hf := HFF.out
      by_cases hz : [s0, s1, s2, s3, s4, s5] = [0, 0, 0, 0, 0, 0]
      · rw [if_pos hz] at hf
        rw [decide_eq_true hz] at hnq
        simp only [Prod.mk.injEq] at hf
        obtain ⟨hz1, rfl⟩ := hf
        have HZ1 : Hid (trim [u0, u1, u2, u3, u4, u5] = zs) := hz1
        clear hz hz1
        go_wp2_with fail
        refine (bigFrom_c u0 u1 u2 u3 u4 u5 _ p (by rw [HZ1.out]; exact HP.out)).mono ?_
        rw [HZ1.out]
        rintro e w8 ⟨a', c', rfl, ho, hb⟩
        have HB8 : Hid (Below w.heap.size w w8) := HB5.out.trans (hb.mono HB5.out.size)
        have t8 : w8.cell? ⟨w.heap.size + 1, 0, none⟩ = some (.slice none 0 0) := cell_keep (S := 0) hb r5
        have f8 : w8.frozen? ⟨w.heap.size + 1, 0, none⟩ = false := fcell_keep hb l5 f5
        have HO8 : Hid (Own w8 w5.heap.size (.slice a' p c') zs) := ho
        clear hb ho r5 f5 p0' p1' p2' p3' p4' p5' q0' q1' q2' q3' q4' q5'
        go_wp2
        refine bodyPost_ret (v := .tuple #[.agg #[.slice a' p c'], .bool true]) (by simp [results, Tryd.results22, go_sem, t8]) rfl ⟨a', c', rfl, (own_set_below HO8.out (by omega) _).mono (by omega), HB8.out.setCell (by simp) _⟩
      · rw [if_neg hz] at hf
        rw [decide_eq_false hz] at hnq
        simp only [Prod.mk.injEq] at hf
        obtain ⟨rfl, rfl⟩ := hf
        have hp0 := HP.out
        simp at hp0
        subst hp0
        clear hz
        go_wp2
        refine bodyPost_ret (v := .tuple #[.agg #[.slice none 0 0], .bool false]) (by simp [results, Tryd.results22, go_sem, r5]) rfl ⟨none, 0, rfl, World.ownsRow_nil _ _ _ _, HB5.out.setCell (by simp) _⟩

end Go.Proofs.YtaedplfihjfchaaDoor

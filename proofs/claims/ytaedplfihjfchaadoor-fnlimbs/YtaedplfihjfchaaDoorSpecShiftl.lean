/- The specification's ShiftBig. -/
import Derived.Test.YtaedplfihjfchaaDoorSpecDivl
namespace Go.Proofs.YtaedplfihjfchaaDoor
set_option linter.unusedVariables false
set_option maxRecDepth 1000000
set_option linter.unusedSimpArgs false
open Go.RowKit

/-- A number, so many bits up, or down. -/
def shV (V b : Int) : Int := if 0 ≤ b then V * 2 ^ b.toNat else V / 2 ^ (-b).toNat
def shiftF (xs : List Int) (b : Int) : List Int × Bool := if goodB xs && decide (-96 ≤ b ∧ b ≤ 96) then tellF (shV (val xs) b) else ([], false)

theorem shl_bd {V : Int} {k : Nat} (h0 : 0 ≤ V) (h1 : V < 79228162514264337593543950336) (hk : k ≤ 95) : 0 ≤ V * 2 ^ k ∧ V * 2 ^ k < 79228162514264337593543950336 * 39614081257132168796771975168 := by
  have e : (2 : Int) ^ k ≤ 2 ^ 95 := by
    obtain ⟨d, hd⟩ : ∃ d, 95 = k + d := ⟨95 - k, by omega⟩
    rw [hd, Int.pow_add]
    have h1 : (0 : Int) < 2 ^ d := Int.pow_pos (by omega)
    have h2 : (0 : Int) < 2 ^ k := Int.pow_pos (by omega)
    have := Int.mul_le_mul_of_nonneg_left (show (1 : Int) ≤ 2 ^ d by omega) (Int.le_of_lt h2)
    omega
  have e2 : (2 : Int) ^ 95 = 39614081257132168796771975168 := by decide
  rw [e2] at e
  have p : (0 : Int) < 2 ^ k := Int.pow_pos (by omega)
  refine ⟨Int.mul_nonneg h0 (by omega), ?_⟩
  have h2 : V * 2 ^ k ≤ V * 39614081257132168796771975168 := Int.mul_le_mul_of_nonneg_left e h0
  omega

theorem shl_step (V : Int) (k : Nat) : 2 * (V * 2 ^ k) + 0 = V * 2 ^ (k + 1) := by rw [Int.pow_succ, Int.mul_comm (2 ^ k) 2, Int.mul_left_comm, Int.add_zero]
theorem shr_step (V : Int) (k : Nat) : V / 2 ^ k / 2 = V / 2 ^ (k + 1) := by rw [Int.pow_succ, Int.ediv_ediv_of_nonneg (Int.le_of_lt (Int.pow_pos (by omega)))]
theorem shr_bd {V : Int} (k : Nat) (h0 : 0 ≤ V) : 0 ≤ V / 2 ^ k ∧ V / 2 ^ k ≤ V := ⟨Int.ediv_nonneg h0 (Int.le_of_lt (Int.pow_pos (by omega))), Int.ediv_le_self _ h0⟩

theorem own_one2 (w : World) (x : Int) : Own (w.alloc (.cells #[.int .i64 x] 3)) w.heap.size (.slice (some ⟨w.heap.size, 0, none⟩) 1 1) [x] := by
  have := World.ownsRow_lit (base := w.heap.size) (e := 3) (size := 1) w #[.int .i64 x] 1 (Nat.le_refl _) (by unfold maxLen; omega) (by simp)
  simpa [Own, cellsI] using this

theorem bigL_of {xs : List Int} (d : Digs xs) (t : trim xs = xs) : bigL (val xs) = xs := by rw [← trim_bigL d, t]

set_option maxHeartbeats 2000000 in
set_option maxRecDepth 1000000 in
theorem specShift_c (ao : Option Addr) (n c : Nat) (xs : List Int) (b : Int) (w : World) (hx : xs.length = n) (hn : n ≤ 17592186044416) (hr : RdS w (.slice ao n c) xs) (hw : -9223372036854775808 ≤ b ∧ b ≤ 9223372036854775807) (zs : List Int) (fb : Bool) (p : Nat) (hF : shiftF xs b = (zs, fb)) (hp : zs.length = p) :
    Calls Tryd.prog 23 #[.agg #[.slice ao n c], .int .i64 b] w fun e w' => ∃ a' c', e = .returned (.tuple #[.agg #[.slice a' p c'], .bool fb]) ∧ Own w' w.heap.size (.slice a' p c') zs ∧ Below w.heap.size w w' := by
  have HX : Hid (xs.length = n) := hx
  have HR : Hid (RdS w (.slice ao n c) xs) := hr
  have HP : Hid (zs.length = p) := hp
  clear hx hr hp
  cases hg : goodB xs
  · rw [shiftF, hg] at hF
    simp only [Bool.false_and, Bool.false_eq_true, if_false] at hF
    simp only [Prod.mk.injEq] at hF
    obtain ⟨rfl, rfl⟩ := hF
    have hp0 := HP.out
    simp at hp0
    subst hp0
    go_enter Tryd.func23, Tryd.ntmps23
    go_wp2_with fail
    have x0 : ((w.alloc (Obj.cells #[Value.slice ao n c] 25)).alloc (Obj.cells #[Value.slice none 0 0] 25)).cell? ⟨w.heap.size, 0, none⟩ = some (.slice ao n c) := calloc (by simp)
    have r0 : ((w.alloc (Obj.cells #[Value.slice ao n c] 25)).alloc (Obj.cells #[Value.slice none 0 0] 25)).cell? ⟨w.heap.size + 1, 0, none⟩ = some (.slice none 0 0) := by rw [World.cell?_alloc_at _ _ _ _ (by simp)]; rfl
    have f0 : ((w.alloc (Obj.cells #[Value.slice ao n c] 25)).alloc (Obj.cells #[Value.slice none 0 0] 25)).frozen? ⟨w.heap.size + 1, 0, none⟩ = false := by simp
    have HB0 : Hid (Below w.heap.size w ((w.alloc (Obj.cells #[Value.slice ao n c] 25)).alloc (Obj.cells #[Value.slice none 0 0] 25))) := below_two w _ _
    generalize ((w.alloc (Obj.cells #[Value.slice ao n c] 25)).alloc (Obj.cells #[Value.slice none 0 0] 25)) = w0 at HB0 x0 r0 f0 ⊢
    have l0 : w.heap.size + 1 < w0.heap.size := World.block_lt_of_cell? _ _ r0
    refine (specGood_c ao n c xs _ HX.out hn (HR.out.later HB0.out).rd.2).mono ?_
    rw [hg]
    rintro e w1 ⟨rfl, hb⟩
    have HB1 : Hid (Below w.heap.size w w1) := HB0.out.trans (hb.mono HB0.out.size)
    have x1 : w1.cell? ⟨w.heap.size, 0, none⟩ = some (.slice ao n c) := cell_keep (S := 0) hb x0
    have r1 : w1.cell? ⟨w.heap.size + 1, 0, none⟩ = some (.slice none 0 0) := cell_keep (S := 0) hb r0
    have f1 : w1.frozen? ⟨w.heap.size + 1, 0, none⟩ = false := fcell_keep hb l0 f0
    have l1 : w.heap.size + 1 < w1.heap.size := World.block_lt_of_cell? _ _ r1
    clear hb x0 r0 f0 l0 hg
    go_wp2
    refine bodyPost_ret (v := .tuple #[.agg #[.slice none 0 0], .bool false]) (by simp [results, Tryd.results23, go_sem, r1]) rfl ⟨none, 0, rfl, World.ownsRow_nil _ _ _ _, ?_⟩
    exact HB1.out.setCell (by simp) _
  cases hin : decide (-96 ≤ b ∧ b ≤ 96)
  · rw [shiftF, hg, hin] at hF
    simp only [Bool.and_false, Bool.false_eq_true, if_false] at hF
    simp only [Prod.mk.injEq] at hF
    obtain ⟨rfl, rfl⟩ := hF
    have hp0 := HP.out
    simp at hp0
    subst hp0
    go_enter Tryd.func23, Tryd.ntmps23
    go_wp2_with fail
    have x0 : ((w.alloc (Obj.cells #[Value.slice ao n c] 25)).alloc (Obj.cells #[Value.slice none 0 0] 25)).cell? ⟨w.heap.size, 0, none⟩ = some (.slice ao n c) := calloc (by simp)
    have r0 : ((w.alloc (Obj.cells #[Value.slice ao n c] 25)).alloc (Obj.cells #[Value.slice none 0 0] 25)).cell? ⟨w.heap.size + 1, 0, none⟩ = some (.slice none 0 0) := by rw [World.cell?_alloc_at _ _ _ _ (by simp)]; rfl
    have f0 : ((w.alloc (Obj.cells #[Value.slice ao n c] 25)).alloc (Obj.cells #[Value.slice none 0 0] 25)).frozen? ⟨w.heap.size + 1, 0, none⟩ = false := by simp
    have HB0 : Hid (Below w.heap.size w ((w.alloc (Obj.cells #[Value.slice ao n c] 25)).alloc (Obj.cells #[Value.slice none 0 0] 25))) := below_two w _ _
    generalize ((w.alloc (Obj.cells #[Value.slice ao n c] 25)).alloc (Obj.cells #[Value.slice none 0 0] 25)) = w0 at HB0 x0 r0 f0 ⊢
    have l0 : w.heap.size + 1 < w0.heap.size := World.block_lt_of_cell? _ _ r0
    refine (specGood_c ao n c xs _ HX.out hn (HR.out.later HB0.out).rd.2).mono ?_
    rw [hg]
    rintro e w1 ⟨rfl, hb⟩
    have HB1 : Hid (Below w.heap.size w w1) := HB0.out.trans (hb.mono HB0.out.size)
    have x1 : w1.cell? ⟨w.heap.size, 0, none⟩ = some (.slice ao n c) := cell_keep (S := 0) hb x0
    have r1 : w1.cell? ⟨w.heap.size + 1, 0, none⟩ = some (.slice none 0 0) := cell_keep (S := 0) hb r0
    have f1 : w1.frozen? ⟨w.heap.size + 1, 0, none⟩ = false := fcell_keep hb l0 f0
    have l1 : w.heap.size + 1 < w1.heap.size := World.block_lt_of_cell? _ _ r1
    clear hb x0 r0 f0 l0 hg
    go_wp2_with fail
    refine (l1In_c _ (-96) 96 _).mono ?_
    rw [hin]
    rintro e w1' ⟨rfl, rfl⟩
    clear hin
    go_wp2
    refine bodyPost_ret (v := .tuple #[.agg #[.slice none 0 0], .bool false]) (by simp [results, Tryd.results23, go_sem, r1]) rfl ⟨none, 0, rfl, World.ownsRow_nil _ _ _ _, ?_⟩
    exact HB1.out.setCell (by simp) _
  rw [shiftF, hg, hin, Bool.and_self, if_pos rfl] at hF
  have HF : Hid (tellF (shV (val xs) b) = (zs, fb)) := hF
  obtain ⟨b0, b1⟩ := of_decide_eq_true hin
  obtain ⟨lx, dx, tx⟩ := goodB_digs hg
  have v0 := val_nonneg dx
  have v1 := val_lt6 dx lx
  have HD : Hid (bigL (val xs) = xs) := bigL_of dx tx
  obtain ⟨V, hV⟩ : ∃ V, val xs = V := ⟨_, rfl⟩
  rw [hV] at HD HF v0 v1
  have hn6 : n ≤ 6 := by rw [← HX.out]; exact lx
  clear hF dx tx lx hV
  by_cases hb0 : 0 ≤ b
  · obtain ⟨B, rfl⟩ : ∃ B : Nat, b = (B : Int) := ⟨b.toNat, by omega⟩
    have HS : Hid (shV V B = V * 2 ^ B) := by show _ = _; unfold shV; rw [if_pos hb0]; congr 1
    go_enter Tryd.func23, Tryd.ntmps23
    go_wp2_with fail
    have x0 : ((w.alloc (Obj.cells #[Value.slice ao n c] 25)).alloc (Obj.cells #[Value.slice none 0 0] 25)).cell? ⟨w.heap.size, 0, none⟩ = some (.slice ao n c) := calloc (by simp)
    have r0 : ((w.alloc (Obj.cells #[Value.slice ao n c] 25)).alloc (Obj.cells #[Value.slice none 0 0] 25)).cell? ⟨w.heap.size + 1, 0, none⟩ = some (.slice none 0 0) := by rw [World.cell?_alloc_at _ _ _ _ (by simp)]; rfl
    have f0 : ((w.alloc (Obj.cells #[Value.slice ao n c] 25)).alloc (Obj.cells #[Value.slice none 0 0] 25)).frozen? ⟨w.heap.size + 1, 0, none⟩ = false := by simp
    have HB0 : Hid (Below w.heap.size w ((w.alloc (Obj.cells #[Value.slice ao n c] 25)).alloc (Obj.cells #[Value.slice none 0 0] 25))) := below_two w _ _
    generalize ((w.alloc (Obj.cells #[Value.slice ao n c] 25)).alloc (Obj.cells #[Value.slice none 0 0] 25)) = w0 at HB0 x0 r0 f0 ⊢
    have l0 : w.heap.size + 1 < w0.heap.size := World.block_lt_of_cell? _ _ r0
    refine (specGood_c ao n c xs _ HX.out hn (HR.out.later HB0.out).rd.2).mono ?_
    rw [hg]
    rintro e w1 ⟨rfl, hb⟩
    have HB1 : Hid (Below w.heap.size w w1) := HB0.out.trans (hb.mono HB0.out.size)
    have x1 : w1.cell? ⟨w.heap.size, 0, none⟩ = some (.slice ao n c) := cell_keep (S := 0) hb x0
    have r1 : w1.cell? ⟨w.heap.size + 1, 0, none⟩ = some (.slice none 0 0) := cell_keep (S := 0) hb r0
    have f1 : w1.frozen? ⟨w.heap.size + 1, 0, none⟩ = false := fcell_keep hb l0 f0
    have l1 : w.heap.size + 1 < w1.heap.size := World.block_lt_of_cell? _ _ r1
    clear hb x0 r0 f0 l0 hg
    go_wp2_with fail
    refine (l1In_c _ (-96) 96 _).mono ?_
    rw [hin]
    rintro e w1' ⟨rfl, rfl⟩
    clear hin
    go_wp2_with fail
    go_loopg [1, 6] B (fun g s1 s6 wx => ∃ (k : Nat) (a6 : Option Addr) (q6 c6 : Nat), g + k = B ∧ s1 = .int .i64 (g : Int) ∧ s6 = .slice a6 q6 c6 ∧ Hid (RdS wx (.slice a6 q6 c6) (bigL (V * 2 ^ k))) ∧ wx.cell? ⟨w.heap.size + 1, 0, none⟩ = some (.slice none 0 0) ∧ wx.frozen? ⟨w.heap.size + 1, 0, none⟩ = false ∧ Hid (Below w.heap.size w wx))
    case atStart =>
      refine ⟨0, ao, n, c, by omega, rfl, rfl, ?_, r1, f1, HB1⟩
      show RdS _ _ _
      rw [Int.pow_zero, Int.mul_one, HD.out]
      exact HR.out.later HB1.out
    case round =>
      obtain ⟨k, a6, q6, c6, hgk, rfl, rfl, HL, r2, f2, HB2⟩ := hrel
      have l2 : w.heap.size + 1 < wr.heap.size := World.block_lt_of_cell? _ _ r2
      rcases gk with _ | g
      · obtain rfl : k = B := by omega
        have hq := HL.out.rd.1
        have bb := bigL_spec (n := V * 2 ^ k) (Int.mul_nonneg v0 (Int.le_of_lt (Int.pow_pos (by omega))))
        have HT : Hid (Digs (bigL (V * 2 ^ k)) ∧ tellF (val (bigL (V * 2 ^ k))) = (zs, fb)) := ⟨bb.1, by rw [bb.2.1, ← HS.out]; exact HF.out⟩
        have hq9 : q6 ≤ 100000000 := by
          rw [← hq]
          rcases k with _ | k
          · exact bigL_short9 (by omega) (by omega)
          · have := shl_bd (k := k) v0 v1 (by omega)
            rw [← shl_step]
            exact bigL_short9 (by omega) (by omega)
        clear bb hq
        go_wp2
        refine wp_loop_rounds 1 ?_
        rw [rounds_succ]
        go_wp2_with fail
        refine (l1Tell_c a6 q6 c6 (bigL (V * 2 ^ k)) _ (by omega) HL.out HT.out.1 zs fb p HT.out.2 HP.out).mono ?_
        rintro e w3 ⟨a3, c3, rfl, ho, hb⟩
        have HB3 : Hid (Below w.heap.size w w3) := HB2.out.trans (hb.mono HB2.out.size)
        have r3 : w3.cell? ⟨w.heap.size + 1, 0, none⟩ = some (.slice none 0 0) := cell_keep (S := 0) hb r2
        have f3 : w3.frozen? ⟨w.heap.size + 1, 0, none⟩ = false := fcell_keep hb l2 f2
        have HO3 : Hid (Own w3 wr.heap.size (.slice a3 p c3) zs) := ho
        clear hb ho r2 f2
        go_wp2
        refine bodyPost_ret (v := .tuple #[.agg #[.slice a3 p c3], .bool fb]) (by simp [results, Tryd.results23, go_sem, r3]) rfl ⟨a3, c3, rfl, ?_, ?_⟩
        · exact (own_set_below HO3.out (by omega) _).mono (by omega)
        · exact HB3.out.setCell (by simp) _
      · have hbd := shl_bd (k := k) v0 v1 (by omega)
        have bb := bigL_spec hbd.1
        have HDD : Hid (Digs (bigL (V * 2 ^ k)) ∧ val (bigL (V * 2 ^ k)) = V * 2 ^ k) := ⟨bb.1, bb.2.1⟩
        have hq := HL.out.rd.1
        have hq9 : q6 ≤ 100000000 := by rw [← hq]; exact bigL_short9 hbd.1 (by omega)
        obtain ⟨q7, hq7⟩ : ∃ q7, (bigL (V * 2 ^ (k + 1))).length = q7 := ⟨_, rfl⟩
        have HQ7 : Hid ((bigL (V * 2 ^ (k + 1))).length = q7) := hq7
        have HLT : Hid (V * 2 ^ k < 79228162514264337593543950336 * 39614081257132168796771975168) := hbd.2
        have g0 : (0 : Int) < ((g + 1 : Nat) : Int) := by omega
        clear bb hq hbd hq7
        go_wp2_with fail
        refine (l1Twice_c a6 q6 c6 (bigL (V * 2 ^ k)) 0 _ HL.out.rd.1 hq9 HL.out.rd.2 HDD.out.1 (by omega) (by omega) (by rw [HDD.out.2]; exact HLT.out) q7 (by rw [HDD.out.2, shl_step]; exact HQ7.out)).mono ?_
        rw [HDD.out.2, shl_step]
        rintro e w3 ⟨a7, c7, rfl, ho, hb⟩
        have HB3 : Hid (Below w.heap.size w w3) := HB2.out.trans (hb.mono HB2.out.size)
        have r3 : w3.cell? ⟨w.heap.size + 1, 0, none⟩ = some (.slice none 0 0) := cell_keep (S := 0) hb r2
        have f3 : w3.frozen? ⟨w.heap.size + 1, 0, none⟩ = false := fcell_keep hb l2 f2
        have HL3 : Hid (RdS w3 (.slice a7 q7 c7) (bigL (V * 2 ^ (k + 1)))) := ho.rdS
        clear hb ho r2 f2 HL
        go_wp2
        go_roundg g
        case measure => omega
        case rel => exact ⟨k + 1, a7, q7, c7, by omega, by first | rfl | go_num | (congr 1; push_cast; omega), rfl, HL3, r3, f3, HB3⟩
  · obtain ⟨B, rfl⟩ : ∃ B : Nat, b = -(B : Int) := ⟨(-b).toNat, by omega⟩
    have HS : Hid (shV V (-(B : Int)) = V / 2 ^ B) := by show _ = _; unfold shV; rw [if_neg hb0, show (-(-(B : Int))).toNat = B by omega]
    go_enter Tryd.func23, Tryd.ntmps23
    go_wp2_with fail
    have x0 : ((w.alloc (Obj.cells #[Value.slice ao n c] 25)).alloc (Obj.cells #[Value.slice none 0 0] 25)).cell? ⟨w.heap.size, 0, none⟩ = some (.slice ao n c) := calloc (by simp)
    have r0 : ((w.alloc (Obj.cells #[Value.slice ao n c] 25)).alloc (Obj.cells #[Value.slice none 0 0] 25)).cell? ⟨w.heap.size + 1, 0, none⟩ = some (.slice none 0 0) := by rw [World.cell?_alloc_at _ _ _ _ (by simp)]; rfl
    have f0 : ((w.alloc (Obj.cells #[Value.slice ao n c] 25)).alloc (Obj.cells #[Value.slice none 0 0] 25)).frozen? ⟨w.heap.size + 1, 0, none⟩ = false := by simp
    have HB0 : Hid (Below w.heap.size w ((w.alloc (Obj.cells #[Value.slice ao n c] 25)).alloc (Obj.cells #[Value.slice none 0 0] 25))) := below_two w _ _
    generalize ((w.alloc (Obj.cells #[Value.slice ao n c] 25)).alloc (Obj.cells #[Value.slice none 0 0] 25)) = w0 at HB0 x0 r0 f0 ⊢
    have l0 : w.heap.size + 1 < w0.heap.size := World.block_lt_of_cell? _ _ r0
    refine (specGood_c ao n c xs _ HX.out hn (HR.out.later HB0.out).rd.2).mono ?_
    rw [hg]
    rintro e w1 ⟨rfl, hb⟩
    have HB1 : Hid (Below w.heap.size w w1) := HB0.out.trans (hb.mono HB0.out.size)
    have x1 : w1.cell? ⟨w.heap.size, 0, none⟩ = some (.slice ao n c) := cell_keep (S := 0) hb x0
    have r1 : w1.cell? ⟨w.heap.size + 1, 0, none⟩ = some (.slice none 0 0) := cell_keep (S := 0) hb r0
    have f1 : w1.frozen? ⟨w.heap.size + 1, 0, none⟩ = false := fcell_keep hb l0 f0
    have l1 : w.heap.size + 1 < w1.heap.size := World.block_lt_of_cell? _ _ r1
    clear hb x0 r0 f0 l0 hg
    go_wp2_with fail
    refine (l1In_c _ (-96) 96 _).mono ?_
    rw [hin]
    rintro e w1' ⟨rfl, rfl⟩
    clear hin
    go_wp2_with fail
    refine wp_loop_rounds 1 ?_
    rw [rounds_succ]
    go_wp2_with fail
    go_loopg [1, 6] B (fun g s1 s6 wx => ∃ (k : Nat) (a6 : Option Addr) (q6 c6 : Nat) (x : Int), g + k = B ∧ s1 = .int .i64 x ∧ x = -(g : Int) ∧ s6 = .slice a6 q6 c6 ∧ Hid (RdS wx (.slice a6 q6 c6) (bigL (V / 2 ^ k))) ∧ wx.cell? ⟨w.heap.size + 1, 0, none⟩ = some (.slice none 0 0) ∧ wx.frozen? ⟨w.heap.size + 1, 0, none⟩ = false ∧ Hid (Below w.heap.size w wx))
    case atStart =>
      refine ⟨0, ao, n, c, -(B : Int), by omega, rfl, rfl, rfl, ?_, r1, f1, HB1⟩
      show RdS _ _ _
      rw [Int.pow_zero, Int.ediv_one, HD.out]
      exact HR.out.later HB1.out
    case round =>
      obtain ⟨k, a6, q6, c6, x, hgk, rfl, hxg, rfl, HL, r2, f2, HB2⟩ := hrel
      have l2 : w.heap.size + 1 < wr.heap.size := World.block_lt_of_cell? _ _ r2
      have hbd := shr_bd k v0
      have bb := bigL_spec hbd.1
      have hq := HL.out.rd.1
      have hqs : (bigL (V / 2 ^ k)).length ≤ 6 := digits_short _ _ 6 (by have e : (65536 : Int) ^ 6 = 79228162514264337593543950336 := (by decide); rw [e]; omega)
      have hq6 : q6 ≤ 6 := by rw [← hq]; exact hqs
      rcases gk with _ | g
      · obtain rfl : k = B := by omega
        have hxn : ¬ x < 0 := by omega
        clear hxg
        have HT : Hid (Digs (bigL (V / 2 ^ k)) ∧ tellF (val (bigL (V / 2 ^ k))) = (zs, fb)) := ⟨bb.1, by rw [bb.2.1, ← HS.out]; exact HF.out⟩
        clear bb hq hqs hbd
        go_wp2_with fail
        refine (l1Tell_c a6 q6 c6 (bigL (V / 2 ^ k)) _ (by omega) HL.out HT.out.1 zs fb p HT.out.2 HP.out).mono ?_
        rintro e w3 ⟨a3, c3, rfl, ho, hb⟩
        have HB3 : Hid (Below w.heap.size w w3) := HB2.out.trans (hb.mono HB2.out.size)
        have r3 : w3.cell? ⟨w.heap.size + 1, 0, none⟩ = some (.slice none 0 0) := cell_keep (S := 0) hb r2
        have f3 : w3.frozen? ⟨w.heap.size + 1, 0, none⟩ = false := fcell_keep hb l2 f2
        have HO3 : Hid (Own w3 wr.heap.size (.slice a3 p c3) zs) := ho
        clear hb ho r2 f2
        go_wp2
        refine bodyPost_ret (v := .tuple #[.agg #[.slice a3 p c3], .bool fb]) (by simp [results, Tryd.results23, go_sem, r3]) rfl ⟨a3, c3, rfl, ?_, ?_⟩
        · exact (own_set_below HO3.out (by omega) _).mono (by omega)
        · exact HB3.out.setCell (by simp) _
      · have HDD : Hid (Digs (bigL (V / 2 ^ k)) ∧ val (bigL (V / 2 ^ k)) = V / 2 ^ k ∧ 0 ≤ V / 2 ^ k ∧ V / 2 ^ k ≤ V) := ⟨bb.1, bb.2.1, hbd.1, hbd.2⟩
        obtain ⟨q7, hq7⟩ : ∃ q7, (bigL (V / 2 ^ (k + 1))).length = q7 := ⟨_, rfl⟩
        obtain ⟨q8, hq8⟩ : ∃ q8, (bigL (V / 2 ^ k % 2)).length = q8 := ⟨_, rfl⟩
        have HQ7 : Hid ((bigL (V / 2 ^ (k + 1))).length = q7 ∧ (bigL (V / 2 ^ k % 2)).length = q8) := ⟨hq7, hq8⟩
        have hxn : x < 0 := by omega
        have hv2 : val [2] = 2 := by simp [val]
        clear bb hq hqs hbd hq7 hq8
        go_wp2_with fail
        have hba : Below wr.heap.size wr (wr.alloc (Obj.cells #[.int .i64 2] 3)) := (Below.refl _ _).alloc (Nat.le_refl _) _
        refine (l1Div_c a6 (some ⟨wr.heap.size, 0, none⟩) q6 1 c6 1 (bigL (V / 2 ^ k)) [2] _ HL.out.rd.1 rfl (by omega) (by omega) (HL.out.rd.2.later hba) (own_one2 wr 2).rd'.2 HDD.out.1 (digs_cons (by omega) (by omega) digs_nil) (by simp [trim]) (by rw [hv2]; omega) (by have := HDD.out; rw [this.2.1]; omega) q7 q8 (by rw [HDD.out.2.1, hv2, shr_step]; exact HQ7.out.1) (by rw [HDD.out.2.1, hv2]; exact HQ7.out.2)).mono ?_
        rw [HDD.out.2.1, hv2, shr_step]
        rintro e w3 ⟨a7, c7, a8, c8, rfl, ho, ho8, hb⟩
        have hbk := hba.trans (hb.mono (by simp))
        have HB3 : Hid (Below w.heap.size w w3) := HB2.out.trans (hbk.mono HB2.out.size)
        have r3 : w3.cell? ⟨w.heap.size + 1, 0, none⟩ = some (.slice none 0 0) := cell_keep (S := 0) hbk r2
        have f3 : w3.frozen? ⟨w.heap.size + 1, 0, none⟩ = false := fcell_keep hbk l2 f2
        have HL3 : Hid (RdS w3 (.slice a7 q7 c7) (bigL (V / 2 ^ (k + 1)))) := ho.rdS
        clear hb hbk hba ho ho8 r2 f2 HL
        go_wp2
        go_roundg g
        case measure => omega
        case rel => exact ⟨k + 1, a7, q7, c7, x + 1, by omega, by first | rfl | go_num, by omega, rfl, HL3, r3, f3, HB3⟩

end Go.Proofs.YtaedplfihjfchaaDoor

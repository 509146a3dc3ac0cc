/- Chapter 15: tables compared, marked, held, sized. -/
import Derived.Test.YtheagikallnppaaL15
namespace Go.Proofs.Ytheagikallnppaa
set_option linter.unusedVariables false
set_option maxRecDepth 1000000
set_option linter.unusedSimpArgs false
open Go.RowKit

/-- A table within the bounds of the laws. -/
structure SmallTb (b : TbV) : Prop where
  s : b.ps.length ≤ 1048576
  l : b.cs.length ≤ 1048576
  r : ∀ l ∈ b.ps, l.length ≤ 1048576

set_option maxHeartbeats 2000000 in
theorem eqTable_c (f : Int) (sa : Option Addr) (sn sc : Nat) (la : Option Addr) (ln lc : Nat) (sa2 : Option Addr) (sc2 : Nat) (la2 : Option Addr) (lc2 : Nat) (b : TbV) (w : World) (hb : SmallTb b) (hr : RdTb w sa sn sc la ln lc  b) (hr2 : RdTb w sa2 sn sc2 la2 ln lc2 b) :
    Calls Try.prog 41 #[.agg #[.int .i64 f, .slice sa sn sc, .slice la ln lc], .agg #[.int .i64 f, .slice sa2 sn sc2, .slice la2 ln lc2]] w fun x w' => x = .returned (.bool true) ∧ Below w.heap.size w w' := by
  have hsn : sn ≤ 1048576 := by rw [← hr.sl]; exact hb.s
  have hln : ln ≤ 1048576 := by rw [← hr.ll]; exact hb.l
  have HS : Hid (b.ps.length = sn) := hr.sl
  have HL : Hid (b.cs.length = ln) := hr.ll
  have HR : Hid (∀ l ∈ b.ps, l.length ≤ 1048576) := hb.r
  have hff : (f != f) = false := by simp
  have HB_0 : Hid (Below w.heap.size w w) := Below.refl _ _
  have S1_0 : Hid (RdII w sa b.ps) := hr.s.ii
  have L1_0 : Hid (Rd w la b.cs) := hr.l
  have S2_0 : Hid (RdII w sa2 b.ps) := hr2.s.ii
  have L2_0 : Hid (Rd w la2 b.cs) := hr2.l
  clear hr hr2 hb
  have hHB := HB_0.out.alloc HB_0.out.size (.cells #[.int .i64 f, .slice sa sn sc, .slice la ln lc] 26)
  have hS1 := S1_0.out.later (balloc w (.cells #[.int .i64 f, .slice sa sn sc, .slice la ln lc] 26))
  have hL1 := L1_0.out.later (balloc w (.cells #[.int .i64 f, .slice sa sn sc, .slice la ln lc] 26))
  have hS2 := S2_0.out.later (balloc w (.cells #[.int .i64 f, .slice sa sn sc, .slice la ln lc] 26))
  have hL2 := L2_0.out.later (balloc w (.cells #[.int .i64 f, .slice sa sn sc, .slice la ln lc] 26))
  have hA := x3_new w (.int .i64 f) (.slice sa sn sc) (.slice la ln lc) 26 w.heap.size rfl
  have hz : (w.alloc (.cells #[.int .i64 f, .slice sa sn sc, .slice la ln lc] 26)).heap.size = w.heap.size + 1 := by simp
  obtain ⟨w1, hV1⟩ : ∃ V, w.alloc (.cells #[.int .i64 f, .slice sa sn sc, .slice la ln lc] 26) = V := ⟨_, rfl⟩
  rw [hV1] at hHB hS1 hL1 hS2 hL2 hA hz
  have HB_1 : Hid (Below w.heap.size w w1) := hHB
  have S1_1 : Hid (RdII w1 sa b.ps) := hS1
  have L1_1 : Hid (Rd w1 la b.cs) := hL1
  have S2_1 : Hid (RdII w1 sa2 b.ps) := hS2
  have L2_1 : Hid (Rd w1 la2 b.cs) := hL2
  have A_1 : Hid (X3 w1 w.heap.size (.int .i64 f) (.slice sa sn sc) (.slice la ln lc)) := hA
  have z1 : w.heap.size + 1 ≤ w1.heap.size := by omega
  clear HB_0 S1_0 L1_0 S2_0 L2_0 hHB hS1 hL1 hS2 hL2 hA hz
  have hHB := HB_1.out.alloc HB_1.out.size (.cells #[.int .i64 f, .slice sa2 sn sc2, .slice la2 ln lc2] 26)
  have hS1 := S1_1.out.later (balloc w1 (.cells #[.int .i64 f, .slice sa2 sn sc2, .slice la2 ln lc2] 26))
  have hL1 := L1_1.out.later (balloc w1 (.cells #[.int .i64 f, .slice sa2 sn sc2, .slice la2 ln lc2] 26))
  have hS2 := S2_1.out.later (balloc w1 (.cells #[.int .i64 f, .slice sa2 sn sc2, .slice la2 ln lc2] 26))
  have hL2 := L2_1.out.later (balloc w1 (.cells #[.int .i64 f, .slice sa2 sn sc2, .slice la2 ln lc2] 26))
  have hA := A_1.out.later (balloc w1 (.cells #[.int .i64 f, .slice sa2 sn sc2, .slice la2 ln lc2] 26))
  have hC := x3_new w1 (.int .i64 f) (.slice sa2 sn sc2) (.slice la2 ln lc2) 26 w1.heap.size rfl
  have hz : (w1.alloc (.cells #[.int .i64 f, .slice sa2 sn sc2, .slice la2 ln lc2] 26)).heap.size = w1.heap.size + 1 := by simp
  obtain ⟨w2, hV2⟩ : ∃ V, w1.alloc (.cells #[.int .i64 f, .slice sa2 sn sc2, .slice la2 ln lc2] 26) = V := ⟨_, rfl⟩
  rw [hV2] at hHB hS1 hL1 hS2 hL2 hA hC hz
  have HB_2 : Hid (Below w.heap.size w w2) := hHB
  have S1_2 : Hid (RdII w2 sa b.ps) := hS1
  have L1_2 : Hid (Rd w2 la b.cs) := hL1
  have S2_2 : Hid (RdII w2 sa2 b.ps) := hS2
  have L2_2 : Hid (Rd w2 la2 b.cs) := hL2
  have A_2 : Hid (X3 w2 w.heap.size (.int .i64 f) (.slice sa sn sc) (.slice la ln lc)) := hA
  have C_2 : Hid (X3 w2 w1.heap.size (.int .i64 f) (.slice sa2 sn sc2) (.slice la2 ln lc2)) := hC
  have z2 : w1.heap.size + 1 ≤ w2.heap.size := by omega
  clear HB_1 S1_1 L1_1 S2_1 L2_1 A_1 hHB hS1 hL1 hS2 hL2 hA hC hz
  go_enter Try.func41, Try.ntmps41
  obtain ⟨⟨Aq0, Aq1, Aq2⟩, Af⟩ := id (A_2.out)
  clear Af
  obtain ⟨⟨Cq0, Cq1, Cq2⟩, Cf⟩ := id (C_2.out)
  clear Cf
  go_wp2_with fail
  clear hV1 hV2
  refine (eqII_c sa sa2 sn sc sc2 b.ps _ HS.out hsn HR.out S1_2.out S2_2.out).mono ?_
  clear Aq0 Aq1 Aq2
  clear Cq0 Cq1 Cq2
  rintro e w3 ⟨rfl, hb⟩
  have hB : Below w2.heap.size w2 w3 := hb
  have HB_3 : Hid (Below w.heap.size w w3) := HB_2.out.trans (hB.mono HB_2.out.size)
  have S1_3 : Hid (RdII w3 sa b.ps) := S1_2.out.later hB
  have L1_3 : Hid (Rd w3 la b.cs) := L1_2.out.later hB
  have S2_3 : Hid (RdII w3 sa2 b.ps) := S2_2.out.later hB
  have L2_3 : Hid (Rd w3 la2 b.cs) := L2_2.out.later hB
  have A_3 : Hid (X3 w3 w.heap.size (.int .i64 f) (.slice sa sn sc) (.slice la ln lc)) := A_2.out.later hB
  have C_3 : Hid (X3 w3 w1.heap.size (.int .i64 f) (.slice sa2 sn sc2) (.slice la2 ln lc2)) := C_2.out.later hB
  have z3 : w2.heap.size ≤ w3.heap.size := hB.size
  clear hb hB HB_2 S1_2 L1_2 S2_2 L2_2 A_2 C_2 
  obtain ⟨⟨Aq0, Aq1, Aq2⟩, Af⟩ := id (A_3.out)
  clear Af
  obtain ⟨⟨Cq0, Cq1, Cq2⟩, Cf⟩ := id (C_3.out)
  clear Cf
  go_wp2_with fail
  refine (eqIntS_c la la2 ln ln lc lc2 b.cs b.cs _ HL.out HL.out (by omega) (by omega) L1_3.out L2_3.out).mono ?_
  rw [decide_eq_true rfl]
  clear Aq0 Aq1 Aq2
  clear Cq0 Cq1 Cq2
  rintro e w4 ⟨rfl, hb⟩
  have hB : Below w3.heap.size w3 w4 := hb
  have HB_4 : Hid (Below w.heap.size w w4) := HB_3.out.trans (hB.mono HB_3.out.size)
  have S1_4 : Hid (RdII w4 sa b.ps) := S1_3.out.later hB
  have L1_4 : Hid (Rd w4 la b.cs) := L1_3.out.later hB
  have S2_4 : Hid (RdII w4 sa2 b.ps) := S2_3.out.later hB
  have L2_4 : Hid (Rd w4 la2 b.cs) := L2_3.out.later hB
  have A_4 : Hid (X3 w4 w.heap.size (.int .i64 f) (.slice sa sn sc) (.slice la ln lc)) := A_3.out.later hB
  have C_4 : Hid (X3 w4 w1.heap.size (.int .i64 f) (.slice sa2 sn sc2) (.slice la2 ln lc2)) := C_3.out.later hB
  have z4 : w3.heap.size ≤ w4.heap.size := hB.size
  clear hb hB HB_3 S1_3 L1_3 S2_3 L2_3 A_3 C_3 
  go_wp2
  go_ret
  exact ⟨rfl, HB_4.out⟩

/-- How many numbers a table has. -/
def numT (b : TbV) : Nat := cum b.ps b.ps.length + b.cs.length
/-- A table, marked from 1 on. -/
def markTb (b : TbV) : TbV := ⟨b.s, markL b.ps, marks (1 + (cum b.ps b.ps.length : Nat)) b.cs.length⟩
theorem X3.rngP {pp : Nat → Prop} {w w' : World} {r : Nat} {a b c : Value} (h : X3 w r a b c) (hr : RngP pp w w') (hd : ¬ pp r) : X3 w' r a b c := by
  have e0 := hr.block r h.lt hd
  obtain ⟨⟨c0, c1, c2⟩, f⟩ := h
  refine ⟨⟨?_, ?_, ?_⟩, fun j => ?_⟩
  · rw [World.cell?_of_block (w := w) (a := ⟨r, 0, none⟩) e0]; exact c0
  · rw [World.cell?_of_block (w := w) (a := ⟨r, 1, none⟩) e0]; exact c1
  · rw [World.cell?_of_block (w := w) (a := ⟨r, 2, none⟩) e0]; exact c2
  · rw [World.frozen?_of_block (w := w) (a := ⟨r, j, none⟩) e0]; exact f j
theorem marks_len (k : Int) (n : Nat) : (marks k n).length = n := by simp [marks]

set_option maxHeartbeats 2000000 in
theorem markTable_c (f : Int) (sa : Option Addr) (sn sc : Nat) (la : Option Addr) (ln lc : Nat) (lo hi : Nat) (b : TbV) (w : World) (hb : SmallTb b) (hh : hi ≤ w.heap.size) (ho : OwnTb w lo hi (.slice sa sn sc) (.slice la ln lc) b) :
    Calls Try.prog 43 #[.agg #[.int .i64 f, .slice sa sn sc, .slice la ln lc], .int .i64 1] w fun x w' => x = .returned (.int .i64 (1 + (numT b : Nat))) ∧ OwnTb w' lo hi (.slice sa sn sc) (.slice la ln lc) (markTb b) ∧ RngP (fun k => lo ≤ k ∧ k < hi) w w' := by
  have hr := ho.rd
  have hsn : sn ≤ 1048576 := by rw [← hr.sl]; exact hb.s
  have hln : ln ≤ 1048576 := by rw [← hr.ll]; exact hb.l
  have hcum : cum b.ps sn ≤ 1099511627776 := Nat.le_trans (cum_le hb.r sn (by rw [hr.sl]; exact Nat.le_refl _)) (by have : sn * 1048576 ≤ 1048576 * 1048576 := Nat.mul_le_mul_right _ (by omega); omega)
  have HNB : Hid (numT b = cum b.ps sn + ln) := by show _ = _; unfold numT; rw [hr.sl, hr.ll]
  have HMB : Hid (markTb b = ⟨b.s, markL b.ps, marks (1 + (cum b.ps sn : Nat)) ln⟩) := by show _ = _; unfold markTb; rw [hr.sl, hr.ll]
  have hB0 := balloc w (.cells #[.int .i64 f, .slice sa sn sc, .slice la ln lc] 26)
  have hX0 := x3_new w (.int .i64 f) (.slice sa sn sc) (.slice la ln lc) 26 w.heap.size rfl
  obtain ⟨V, hV⟩ : ∃ V, w.alloc (.cells #[.int .i64 f, .slice sa sn sc, .slice la ln lc] 26) = V := ⟨_, rfl⟩
  rw [hV] at hB0 hX0
  obtain ⟨pp, h1, h2, h3⟩ := (ho.later hB0).ex
  have hL0 := (ho.later hB0).li
  have HP2 : Hid (∀ k, pp k → lo ≤ k ∧ k < hi) := h2
  have HP3 : Hid (∀ k, (Value.slice la ln lc).ownBlock = some k → ¬ pp k ∧ k < hi) := h3
  have HX0 : Hid (X3 V w.heap.size (.int .i64 f) (.slice sa sn sc) (.slice la ln lc)) := hX0
  have HL0 : Hid (Own V lo (.slice la ln lc) b.cs) := hL0
  have HR0 : Hid (RngP (fun k => lo ≤ k ∧ k < hi) w V) := ⟨hB0.os, hB0.tape, hB0.output, hB0.size, fun q hq _ => hB0.block q hq⟩
  have q1 := markIP_c sa sn sc lo pp b.ps V hr.sl hsn hb.r h1
  generalize cum b.ps sn = C at hcum HNB HMB q1
  obtain ⟨⟨c0, c1, c2⟩, _⟩ := hX0
  clear ho hr hB0 hL0 h1 h2 h3 hb
  go_enter Try.func43, Try.ntmps43
  go_wp2_with fail
  clear hV c0 c1 c2
  refine q1.mono ?_
  clear q1
  rintro x w1 ⟨rfl, ho, hr⟩
  have HX1 : Hid (X3 w1 w.heap.size (.int .i64 f) (.slice sa sn sc) (.slice la ln lc)) := HX0.out.rngP hr (fun h => by have := HP2.out _ h; omega)
  have HL1 : Hid (Own w1 lo (.slice la ln lc) b.cs) := HL0.out.rngP hr (fun k h => (HP3.out k h).1)
  have HS1 : Hid (OwnIP w1 lo pp (.slice sa sn sc) (markL b.ps)) := ho
  have HR1 : Hid (RngP (fun k => lo ≤ k ∧ k < hi) w w1) := HR0.out.trans (hr.imp HP2.out)
  obtain ⟨⟨c0, c1, c2⟩, _⟩ := HX1.out
  have q2 := markIntS_c la ln lc (1 + (C : Int)) lo b.cs w1 (by omega) (by omega) (by omega) HL1.out
  clear ho hr HX0 HL0 HR0
  go_wp2_with fail
  clear c0 c1 c2
  refine q2.mono ?_
  clear q2
  rintro x w2 ⟨rfl, ho, hg⟩
  have hr2 : RngP (fun k => (Value.slice la ln lc).ownBlock = some k) w1 w2 := RngP.ofGrown hg (fun k h => h)
  have HS2 : Hid (OwnIP w2 lo pp (.slice sa sn sc) (markL b.ps)) := HS1.out.rng hr2 (fun k h h5 => (HP3.out k h5).1 h)
  have HR2 : Hid (RngP (fun k => lo ≤ k ∧ k < hi) w w2) := HR1.out.trans (hr2.imp (fun k h => ⟨own_block_ge HL1.out k h, (HP3.out k h).2⟩))
  have HL2 : Hid (Own w2 lo (.slice la ln lc) (marks (1 + (C : Int)) ln)) := ho
  have HE : Hid (1 + (C : Int) + (ln : Int) = 1 + ((numT b : Nat) : Int)) := by show _ = _; rw [HNB.out]; omega
  clear ho hg hr2 HX1 HL1 HS1 HR1
  go_wp2
  go_ret
  refine ⟨ret_int HE.out, ?_, HR2.out⟩
  rw [HMB.out]
  exact ⟨⟨pp, HS2.out, HP2.out, HP3.out⟩, HL2.out⟩

set_option maxHeartbeats 2000000 in
theorem heldTable_c (f : Int) (sa : Option Addr) (sn sc : Nat) (la : Option Addr) (ln lc : Nat) (lo hi : Nat) (b : TbV) (w : World) (hb : SmallTb b) (hsl : b.ps.length = sn) (hll : b.cs.length = ln) (ho : OwnTb w lo hi (.slice sa sn sc) (.slice la ln lc) (markTb b)) :
    Calls Try.prog 47 #[.agg #[.int .i64 f, .slice sa sn sc, .slice la ln lc], .int .i64 1] w fun x w' => x = .returned (.int .i64 (1 + (numT b : Nat))) ∧ Below w.heap.size w w' := by
  have hsn : sn ≤ 1048576 := by rw [← hsl]; exact hb.s
  have hln : ln ≤ 1048576 := by rw [← hll]; exact hb.l
  have hcum : cum b.ps sn ≤ 1099511627776 := Nat.le_trans (cum_le hb.r sn (by rw [hsl]; exact Nat.le_refl _)) (by have : sn * 1048576 ≤ 1048576 * 1048576 := Nat.mul_le_mul_right _ (by omega); omega)
  have HNB : Hid (numT b = cum b.ps sn + ln) := by show _ = _; unfold numT; rw [hsl, hll]
  have hMB : markTb b = ⟨b.s, markL b.ps, marks (1 + (cum b.ps sn : Nat)) ln⟩ := by unfold markTb; rw [hsl, hll]
  rw [hMB] at ho
  have hB0 := balloc w (.cells #[.int .i64 f, .slice sa sn sc, .slice la ln lc] 26)
  have hX0 := x3_new w (.int .i64 f) (.slice sa sn sc) (.slice la ln lc) 26 w.heap.size rfl
  obtain ⟨V, hV⟩ : ∃ V, w.alloc (.cells #[.int .i64 f, .slice sa sn sc, .slice la ln lc] 26) = V := ⟨_, rfl⟩
  rw [hV] at hB0 hX0
  have HO : Hid (OwnTb V lo hi (.slice sa sn sc) (.slice la ln lc) ⟨b.s, markL b.ps, marks (1 + (cum b.ps sn : Nat)) ln⟩) := ho.later hB0
  obtain ⟨pp, h1, _, _⟩ := HO.out.ex
  have q1 := heldIP_c sa sn sc lo pp b.ps V hsl hsn hb.r h1
  have HL : Hid (∀ wx, Below V.heap.size V wx → Own wx lo (.slice la ln lc) (marks (1 + (cum b.ps sn : Nat)) ln)) := fun wx h => HO.out.li.later h
  have HX0 : Hid (X3 V w.heap.size (.int .i64 f) (.slice sa sn sc) (.slice la ln lc)) := hX0
  have HB0 : Hid (Below w.heap.size w V) := hB0
  clear HO h1
  generalize cum b.ps sn = C at hcum HNB q1 HL
  obtain ⟨⟨c0, c1, c2⟩, _⟩ := hX0
  have hC0 : ¬ (1 : Int) + (C : Int) < 0 := by omega
  have hC1 : ¬ (1 : Int) + (C : Int) + (ln : Int) < 0 := by omega
  clear ho hB0 hb hsl hll hMB
  go_enter Try.func47, Try.ntmps47
  go_wp2_with fail
  clear hV c0 c1 c2
  refine q1.mono ?_
  clear q1
  rintro x w1 ⟨rfl, hb⟩
  have HB1 : Hid (Below V.heap.size V w1) := hb
  obtain ⟨⟨c0, c1, c2⟩, _⟩ := HX0.out.later hb
  have q2 := heldIntS_c la ln lc (1 + (C : Int)) lo w1 (by omega) (by omega) (by omega) (HL.out w1 hb)
  clear hb
  go_wp2_with fail
  clear c0 c1 c2
  refine q2.mono ?_
  clear q2
  rintro x w2 ⟨rfl, hw⟩
  have hb : Below w1.heap.size w1 w2 := by rw [hw]; exact Below.refl _ _
  clear hw
  have HB3 : Hid (Below w.heap.size w w2) := HB0.out.trans ((HB1.out.trans (hb.mono HB1.out.size)).mono HB0.out.size)
  have HE : Hid (1 + (C : Int) + (ln : Int) = 1 + ((numT b : Nat) : Int)) := by show _ = _; rw [HNB.out]; omega
  clear hb HB1
  go_wp2
  go_ret
  exact ⟨ret_int HE.out, HB3.out⟩

set_option maxHeartbeats 2000000 in
theorem szTable_c (f : Int) (sa : Option Addr) (sn sc : Nat) (la : Option Addr) (ln lc : Nat) (ps : List (List Int)) (w : World) (hs : ps.length = sn) (hsn : sn ≤ 9223372036854775807) (hln : ln ≤ 9223372036854775807) (hr : RdII w sa ps) (hsl : ∀ l ∈ ps, l.length ≤ 9223372036854775807) :
    Calls Try.prog 39 #[.agg #[.int .i64 f, .slice sa sn sc, .slice la ln lc], .int .i64 1048576] w fun x w' => ∃ r : Int, x = .returned (.int .i64 r) ∧ (0 ≤ r → sn ≤ 1048576 ∧ ln ≤ 1048576 ∧ ∀ l ∈ ps, l.length ≤ 1048576) ∧ Below w.heap.size w w' := by
  have hB0 := balloc w (.cells #[.int .i64 f, .slice sa sn sc, .slice la ln lc] 50)
  have hX0 := x3_new w (.int .i64 f) (.slice sa sn sc) (.slice la ln lc) 50 w.heap.size rfl
  obtain ⟨V, hV⟩ : ∃ V, w.alloc (.cells #[.int .i64 f, .slice sa sn sc, .slice la ln lc] 50) = V := ⟨_, rfl⟩
  rw [hV] at hB0 hX0
  have q1 := szII_c sa sn sc ps V hs hsn (hr.later hB0) hsl
  have HB0 : Hid (Below w.heap.size w V) := hB0
  obtain ⟨⟨c0, c1, c2⟩, _⟩ := hX0
  clear hB0 hs hr hsl
  go_enter Try.func39, Try.ntmps39
  go_wp2_with fail
  refine q1.mono ?_
  clear q1
  rintro x w' ⟨r, rfl, hw, hr1, hr2⟩
  subst w'
  by_cases hneg : r < 0
  · clear hr2
    go_wp2
    go_ret
    exact ⟨-1, rfl, fun h => by omega, HB0.out⟩
  · obtain ⟨rq, rfl⟩ : ∃ rq : Nat, r = rq := ⟨r.toNat, by omega⟩
    have H2 : Hid (sn ≤ 1048576 ∧ ∀ l ∈ ps, l.length ≤ 1048576) := hr2 (by omega)
    have q2 := szIntL_c la ln lc rq V hln (by omega)
    clear hr2
    go_wp2_with fail
    refine q2.mono ?_
    clear q2
    rintro x w' ⟨r2, rfl, hw, hr3, hr4⟩
    subst w'
    by_cases hneg2 : r2 < 0
    · clear hr4
      go_wp2
      go_ret
      exact ⟨-1, rfl, fun h => by omega, HB0.out⟩
    · have H3 : Hid (ln ≤ 1048576) := hr4 (by omega)
      clear hr4
      go_wp2
      go_ret
      exact ⟨r2, rfl, fun h => ⟨H2.out.1, H3.out, H2.out.2⟩, HB0.out⟩

end Go.Proofs.Ytheagikallnppaa

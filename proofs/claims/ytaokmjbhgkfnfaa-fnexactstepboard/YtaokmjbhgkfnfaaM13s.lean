/- Chapter 13: boards compared, marked, held, sized. -/
import Derived.Test.YtaokmjbhgkfnfaaL13s
namespace Go.Proofs.Ytaokmjbhgkfnfaa
set_option linter.unusedVariables false
set_option maxRecDepth 1000000
set_option linter.unusedSimpArgs false
open Go.RowKit

/-- A board within the bounds of the laws. -/
structure SmallBd (b : BdV) : Prop where
  s : b.sg.length ≤ 1048576
  l : b.li.length ≤ 1048576
  t : b.ls.length ≤ 1048576
  r : ∀ l ∈ b.sg, l.length ≤ 1048576

set_option maxHeartbeats 2000000 in
theorem eqBoard_c (f e : Int) (sa : Option Addr) (sn sc : Nat) (la : Option Addr) (ln lc : Nat) (ta : Option Addr) (tn tc : Nat) (sa2 : Option Addr) (sc2 : Nat) (la2 : Option Addr) (lc2 : Nat) (ta2 : Option Addr) (tc2 : Nat) (b : BdV) (w : World) (hb : SmallBd b) (hr : RdBd w sa sn sc la ln lc ta tn tc b) (hr2 : RdBd w sa2 sn sc2 la2 ln lc2 ta2 tn tc2 b) :
    Calls Try.prog 36 #[.agg #[.int .i64 f, .int .i64 e, .slice sa sn sc, .slice la ln lc, .slice ta tn tc], .agg #[.int .i64 f, .int .i64 e, .slice sa2 sn sc2, .slice la2 ln lc2, .slice ta2 tn tc2]] w fun x w' => x = .returned (.bool true) ∧ Below w.heap.size w w' := by
  have hsn : sn ≤ 1048576 := by rw [← hr.sl]; exact hb.s
  have hln : ln ≤ 1048576 := by rw [← hr.ll]; exact hb.l
  have htn : tn ≤ 1048576 := by rw [← hr.tl]; exact hb.t
  have HS : Hid (b.sg.length = sn) := hr.sl
  have HL : Hid (b.li.length = ln) := hr.ll
  have HT : Hid (b.ls.length = tn) := hr.tl
  have HR : Hid (∀ l ∈ b.sg, l.length ≤ 1048576) := hb.r
  have hff : (f != f) = false := by simp
  have hee : (e != e) = false := by simp
  have HB_0 : Hid (Below w.heap.size w w) := Below.refl _ _
  have S1_0 : Hid (RdII w sa b.sg) := hr.s
  have L1_0 : Hid (Rd w la b.li) := hr.l
  have T1_0 : Hid (Rd w ta b.ls) := hr.t
  have S2_0 : Hid (RdII w sa2 b.sg) := hr2.s
  have L2_0 : Hid (Rd w la2 b.li) := hr2.l
  have T2_0 : Hid (Rd w ta2 b.ls) := hr2.t
  clear hr hr2 hb
  have hHB := HB_0.out.alloc HB_0.out.size (.cells #[.int .i64 f, .int .i64 e, .slice sa sn sc, .slice la ln lc, .slice ta tn tc] 29)
  have hS1 := S1_0.out.later (balloc w (.cells #[.int .i64 f, .int .i64 e, .slice sa sn sc, .slice la ln lc, .slice ta tn tc] 29))
  have hL1 := L1_0.out.later (balloc w (.cells #[.int .i64 f, .int .i64 e, .slice sa sn sc, .slice la ln lc, .slice ta tn tc] 29))
  have hT1 := T1_0.out.later (balloc w (.cells #[.int .i64 f, .int .i64 e, .slice sa sn sc, .slice la ln lc, .slice ta tn tc] 29))
  have hS2 := S2_0.out.later (balloc w (.cells #[.int .i64 f, .int .i64 e, .slice sa sn sc, .slice la ln lc, .slice ta tn tc] 29))
  have hL2 := L2_0.out.later (balloc w (.cells #[.int .i64 f, .int .i64 e, .slice sa sn sc, .slice la ln lc, .slice ta tn tc] 29))
  have hT2 := T2_0.out.later (balloc w (.cells #[.int .i64 f, .int .i64 e, .slice sa sn sc, .slice la ln lc, .slice ta tn tc] 29))
  have hA := x5_new w (.int .i64 f) (.int .i64 e) (.slice sa sn sc) (.slice la ln lc) (.slice ta tn tc) 29 w.heap.size rfl
  have hz : (w.alloc (.cells #[.int .i64 f, .int .i64 e, .slice sa sn sc, .slice la ln lc, .slice ta tn tc] 29)).heap.size = w.heap.size + 1 := by simp
  obtain ⟨w1, hV1⟩ : ∃ V, w.alloc (.cells #[.int .i64 f, .int .i64 e, .slice sa sn sc, .slice la ln lc, .slice ta tn tc] 29) = V := ⟨_, rfl⟩
  rw [hV1] at hHB hS1 hL1 hT1 hS2 hL2 hT2 hA hz
  have HB_1 : Hid (Below w.heap.size w w1) := hHB
  have S1_1 : Hid (RdII w1 sa b.sg) := hS1
  have L1_1 : Hid (Rd w1 la b.li) := hL1
  have T1_1 : Hid (Rd w1 ta b.ls) := hT1
  have S2_1 : Hid (RdII w1 sa2 b.sg) := hS2
  have L2_1 : Hid (Rd w1 la2 b.li) := hL2
  have T2_1 : Hid (Rd w1 ta2 b.ls) := hT2
  have A_1 : Hid (X5 w1 w.heap.size (.int .i64 f) (.int .i64 e) (.slice sa sn sc) (.slice la ln lc) (.slice ta tn tc)) := hA
  have z1 : w.heap.size + 1 ≤ w1.heap.size := by omega
  clear HB_0 S1_0 L1_0 T1_0 S2_0 L2_0 T2_0 hHB hS1 hL1 hT1 hS2 hL2 hT2 hA hz
  have hHB := HB_1.out.alloc HB_1.out.size (.cells #[.int .i64 f, .int .i64 e, .slice sa2 sn sc2, .slice la2 ln lc2, .slice ta2 tn tc2] 29)
  have hS1 := S1_1.out.later (balloc w1 (.cells #[.int .i64 f, .int .i64 e, .slice sa2 sn sc2, .slice la2 ln lc2, .slice ta2 tn tc2] 29))
  have hL1 := L1_1.out.later (balloc w1 (.cells #[.int .i64 f, .int .i64 e, .slice sa2 sn sc2, .slice la2 ln lc2, .slice ta2 tn tc2] 29))
  have hT1 := T1_1.out.later (balloc w1 (.cells #[.int .i64 f, .int .i64 e, .slice sa2 sn sc2, .slice la2 ln lc2, .slice ta2 tn tc2] 29))
  have hS2 := S2_1.out.later (balloc w1 (.cells #[.int .i64 f, .int .i64 e, .slice sa2 sn sc2, .slice la2 ln lc2, .slice ta2 tn tc2] 29))
  have hL2 := L2_1.out.later (balloc w1 (.cells #[.int .i64 f, .int .i64 e, .slice sa2 sn sc2, .slice la2 ln lc2, .slice ta2 tn tc2] 29))
  have hT2 := T2_1.out.later (balloc w1 (.cells #[.int .i64 f, .int .i64 e, .slice sa2 sn sc2, .slice la2 ln lc2, .slice ta2 tn tc2] 29))
  have hA := A_1.out.later (balloc w1 (.cells #[.int .i64 f, .int .i64 e, .slice sa2 sn sc2, .slice la2 ln lc2, .slice ta2 tn tc2] 29))
  have hC := x5_new w1 (.int .i64 f) (.int .i64 e) (.slice sa2 sn sc2) (.slice la2 ln lc2) (.slice ta2 tn tc2) 29 w1.heap.size rfl
  have hz : (w1.alloc (.cells #[.int .i64 f, .int .i64 e, .slice sa2 sn sc2, .slice la2 ln lc2, .slice ta2 tn tc2] 29)).heap.size = w1.heap.size + 1 := by simp
  obtain ⟨w2, hV2⟩ : ∃ V, w1.alloc (.cells #[.int .i64 f, .int .i64 e, .slice sa2 sn sc2, .slice la2 ln lc2, .slice ta2 tn tc2] 29) = V := ⟨_, rfl⟩
  rw [hV2] at hHB hS1 hL1 hT1 hS2 hL2 hT2 hA hC hz
  have HB_2 : Hid (Below w.heap.size w w2) := hHB
  have S1_2 : Hid (RdII w2 sa b.sg) := hS1
  have L1_2 : Hid (Rd w2 la b.li) := hL1
  have T1_2 : Hid (Rd w2 ta b.ls) := hT1
  have S2_2 : Hid (RdII w2 sa2 b.sg) := hS2
  have L2_2 : Hid (Rd w2 la2 b.li) := hL2
  have T2_2 : Hid (Rd w2 ta2 b.ls) := hT2
  have A_2 : Hid (X5 w2 w.heap.size (.int .i64 f) (.int .i64 e) (.slice sa sn sc) (.slice la ln lc) (.slice ta tn tc)) := hA
  have C_2 : Hid (X5 w2 w1.heap.size (.int .i64 f) (.int .i64 e) (.slice sa2 sn sc2) (.slice la2 ln lc2) (.slice ta2 tn tc2)) := hC
  have z2 : w1.heap.size + 1 ≤ w2.heap.size := by omega
  clear HB_1 S1_1 L1_1 T1_1 S2_1 L2_1 T2_1 A_1 hHB hS1 hL1 hT1 hS2 hL2 hT2 hA hC hz
  go_enter Try.func36, Try.ntmps36
  obtain ⟨⟨Aq0, Aq1, Aq2, Aq3, Aq4⟩, Af⟩ := id (A_2.out)
  clear Af
  obtain ⟨⟨Cq0, Cq1, Cq2, Cq3, Cq4⟩, Cf⟩ := id (C_2.out)
  clear Cf
  go_wp2_with fail
  clear hV1 hV2
  refine (eqII_c sa sa2 sn sc sc2 b.sg _ HS.out hsn HR.out S1_2.out S2_2.out).mono ?_
  clear Aq0 Aq1 Aq2 Aq3 Aq4
  clear Cq0 Cq1 Cq2 Cq3 Cq4
  rintro e w3 ⟨rfl, hb⟩
  have hB : Below w2.heap.size w2 w3 := hb
  have HB_3 : Hid (Below w.heap.size w w3) := HB_2.out.trans (hB.mono HB_2.out.size)
  have S1_3 : Hid (RdII w3 sa b.sg) := S1_2.out.later hB
  have L1_3 : Hid (Rd w3 la b.li) := L1_2.out.later hB
  have T1_3 : Hid (Rd w3 ta b.ls) := T1_2.out.later hB
  have S2_3 : Hid (RdII w3 sa2 b.sg) := S2_2.out.later hB
  have L2_3 : Hid (Rd w3 la2 b.li) := L2_2.out.later hB
  have T2_3 : Hid (Rd w3 ta2 b.ls) := T2_2.out.later hB
  have A_3 : Hid (X5 w3 w.heap.size (.int .i64 f) (.int .i64 e) (.slice sa sn sc) (.slice la ln lc) (.slice ta tn tc)) := A_2.out.later hB
  have C_3 : Hid (X5 w3 w1.heap.size (.int .i64 f) (.int .i64 e) (.slice sa2 sn sc2) (.slice la2 ln lc2) (.slice ta2 tn tc2)) := C_2.out.later hB
  have z3 : w2.heap.size ≤ w3.heap.size := hB.size
  clear hb hB HB_2 S1_2 L1_2 T1_2 S2_2 L2_2 T2_2 A_2 C_2 
  obtain ⟨⟨Aq0, Aq1, Aq2, Aq3, Aq4⟩, Af⟩ := id (A_3.out)
  clear Af
  obtain ⟨⟨Cq0, Cq1, Cq2, Cq3, Cq4⟩, Cf⟩ := id (C_3.out)
  clear Cf
  go_wp2_with fail
  refine (eqIntS_c la la2 ln ln lc lc2 b.li b.li _ HL.out HL.out (by omega) (by omega) L1_3.out L2_3.out).mono ?_
  rw [decide_eq_true rfl]
  clear Aq0 Aq1 Aq2 Aq3 Aq4
  clear Cq0 Cq1 Cq2 Cq3 Cq4
  rintro e w4 ⟨rfl, hb⟩
  have hB : Below w3.heap.size w3 w4 := hb
  have HB_4 : Hid (Below w.heap.size w w4) := HB_3.out.trans (hB.mono HB_3.out.size)
  have S1_4 : Hid (RdII w4 sa b.sg) := S1_3.out.later hB
  have L1_4 : Hid (Rd w4 la b.li) := L1_3.out.later hB
  have T1_4 : Hid (Rd w4 ta b.ls) := T1_3.out.later hB
  have S2_4 : Hid (RdII w4 sa2 b.sg) := S2_3.out.later hB
  have L2_4 : Hid (Rd w4 la2 b.li) := L2_3.out.later hB
  have T2_4 : Hid (Rd w4 ta2 b.ls) := T2_3.out.later hB
  have A_4 : Hid (X5 w4 w.heap.size (.int .i64 f) (.int .i64 e) (.slice sa sn sc) (.slice la ln lc) (.slice ta tn tc)) := A_3.out.later hB
  have C_4 : Hid (X5 w4 w1.heap.size (.int .i64 f) (.int .i64 e) (.slice sa2 sn sc2) (.slice la2 ln lc2) (.slice ta2 tn tc2)) := C_3.out.later hB
  have z4 : w3.heap.size ≤ w4.heap.size := hB.size
  clear hb hB HB_3 S1_3 L1_3 T1_3 S2_3 L2_3 T2_3 A_3 C_3 
  obtain ⟨⟨Aq0, Aq1, Aq2, Aq3, Aq4⟩, Af⟩ := id (A_4.out)
  clear Af
  obtain ⟨⟨Cq0, Cq1, Cq2, Cq3, Cq4⟩, Cf⟩ := id (C_4.out)
  clear Cf
  go_wp2_with fail
  refine (eqIntS_c ta ta2 tn tn tc tc2 b.ls b.ls _ HT.out HT.out (by omega) (by omega) T1_4.out T2_4.out).mono ?_
  rw [decide_eq_true rfl]
  clear Aq0 Aq1 Aq2 Aq3 Aq4
  clear Cq0 Cq1 Cq2 Cq3 Cq4
  rintro e w5 ⟨rfl, hb⟩
  have hB : Below w4.heap.size w4 w5 := hb
  have HB_5 : Hid (Below w.heap.size w w5) := HB_4.out.trans (hB.mono HB_4.out.size)
  have S1_5 : Hid (RdII w5 sa b.sg) := S1_4.out.later hB
  have L1_5 : Hid (Rd w5 la b.li) := L1_4.out.later hB
  have T1_5 : Hid (Rd w5 ta b.ls) := T1_4.out.later hB
  have S2_5 : Hid (RdII w5 sa2 b.sg) := S2_4.out.later hB
  have L2_5 : Hid (Rd w5 la2 b.li) := L2_4.out.later hB
  have T2_5 : Hid (Rd w5 ta2 b.ls) := T2_4.out.later hB
  have A_5 : Hid (X5 w5 w.heap.size (.int .i64 f) (.int .i64 e) (.slice sa sn sc) (.slice la ln lc) (.slice ta tn tc)) := A_4.out.later hB
  have C_5 : Hid (X5 w5 w1.heap.size (.int .i64 f) (.int .i64 e) (.slice sa2 sn sc2) (.slice la2 ln lc2) (.slice ta2 tn tc2)) := C_4.out.later hB
  have z5 : w4.heap.size ≤ w5.heap.size := hB.size
  clear hb hB HB_4 S1_4 L1_4 T1_4 S2_4 L2_4 T2_4 A_4 C_4 
  go_wp2
  go_ret
  exact ⟨rfl, HB_5.out⟩

/-- How many numbers a board has. -/
def numB (b : BdV) : Nat := cum b.sg b.sg.length + b.li.length + b.ls.length
/-- A board, marked from 1 on. -/
def markB (b : BdV) : BdV := ⟨b.f, b.e, markL b.sg, marks (1 + (cum b.sg b.sg.length : Nat)) b.li.length, marks (1 + (cum b.sg b.sg.length : Nat) + (b.li.length : Nat)) b.ls.length⟩
theorem X5.rngP {pp : Nat → Prop} {w w' : World} {r : Nat} {a b c d e : Value} (h : X5 w r a b c d e) (hr : RngP pp w w') (hd : ¬ pp r) : X5 w' r a b c d e := by
  have e0 := hr.block r h.lt hd
  obtain ⟨⟨c0, c1, c2, c3, c4⟩, f⟩ := h
  refine ⟨⟨?_, ?_, ?_, ?_, ?_⟩, fun j => ?_⟩
  · rw [World.cell?_of_block (w := w) (a := ⟨r, 0, none⟩) e0]; exact c0
  · rw [World.cell?_of_block (w := w) (a := ⟨r, 1, none⟩) e0]; exact c1
  · rw [World.cell?_of_block (w := w) (a := ⟨r, 2, none⟩) e0]; exact c2
  · rw [World.cell?_of_block (w := w) (a := ⟨r, 3, none⟩) e0]; exact c3
  · rw [World.cell?_of_block (w := w) (a := ⟨r, 4, none⟩) e0]; exact c4
  · rw [World.frozen?_of_block (w := w) (a := ⟨r, j, none⟩) e0]; exact f j
set_option maxHeartbeats 2000000 in
theorem markBoard_c (f e : Int) (sa : Option Addr) (sn sc : Nat) (la : Option Addr) (ln lc : Nat) (ta : Option Addr) (tn tc : Nat) (lo hi : Nat) (b : BdV) (w : World) (hb : SmallBd b) (hh : hi ≤ w.heap.size) (ho : OwnBd w lo hi (.slice sa sn sc) (.slice la ln lc) (.slice ta tn tc) b) :
    Calls Try.prog 39 #[.agg #[.int .i64 f, .int .i64 e, .slice sa sn sc, .slice la ln lc, .slice ta tn tc], .int .i64 1] w fun x w' => x = .returned (.int .i64 (1 + (numB b : Nat))) ∧ OwnBd w' lo hi (.slice sa sn sc) (.slice la ln lc) (.slice ta tn tc) (markB b) ∧ RngP (fun k => lo ≤ k ∧ k < hi) w w' := by
  have hr := ho.rd
  have hsn : sn ≤ 1048576 := by rw [← hr.sl]; exact hb.s
  have hln : ln ≤ 1048576 := by rw [← hr.ll]; exact hb.l
  have htn : tn ≤ 1048576 := by rw [← hr.tl]; exact hb.t
  have hcum : cum b.sg sn ≤ 1099511627776 := Nat.le_trans (cum_le hb.r sn (by rw [hr.sl]; exact Nat.le_refl _)) (by have : sn * 1048576 ≤ 1048576 * 1048576 := Nat.mul_le_mul_right _ (by omega); omega)
  have HNB : Hid (numB b = cum b.sg sn + ln + tn) := by show _ = _; unfold numB; rw [hr.sl, hr.ll, hr.tl]
  have HMB : Hid (markB b = ⟨b.f, b.e, markL b.sg, marks (1 + (cum b.sg sn : Nat)) ln, marks (1 + (cum b.sg sn : Nat) + (ln : Nat)) tn⟩) := by show _ = _; unfold markB; rw [hr.sl, hr.ll, hr.tl]
  have hB0 := balloc w (.cells #[.int .i64 f, .int .i64 e, .slice sa sn sc, .slice la ln lc, .slice ta tn tc] 29)
  have hX0 := x5_new w (.int .i64 f) (.int .i64 e) (.slice sa sn sc) (.slice la ln lc) (.slice ta tn tc) 29 w.heap.size rfl
  obtain ⟨V, hV⟩ : ∃ V, w.alloc (.cells #[.int .i64 f, .int .i64 e, .slice sa sn sc, .slice la ln lc, .slice ta tn tc] 29) = V := ⟨_, rfl⟩
  rw [hV] at hB0 hX0
  obtain ⟨pp, h1, h2, h3, h4⟩ := (ho.later hB0).ex
  have hL0 := (ho.later hB0).li
  have hT0 := (ho.later hB0).ls
  have HSEP : Hid ((Value.slice la ln lc).ownBlock = none ∨ (Value.slice la ln lc).ownBlock ≠ (Value.slice ta tn tc).ownBlock) := ho.sep
  have HP2 : Hid (∀ k, pp k → lo ≤ k ∧ k < hi) := h2
  have HP3 : Hid (∀ k, (Value.slice la ln lc).ownBlock = some k → ¬ pp k ∧ k < hi) := h3
  have HP4 : Hid (∀ k, (Value.slice ta tn tc).ownBlock = some k → ¬ pp k ∧ k < hi) := h4
  have HX0 : Hid (X5 V w.heap.size (.int .i64 f) (.int .i64 e) (.slice sa sn sc) (.slice la ln lc) (.slice ta tn tc)) := hX0
  have HL0 : Hid (Own V lo (.slice la ln lc) b.li) := hL0
  have HT0 : Hid (Own V lo (.slice ta tn tc) b.ls) := hT0
  have HR0 : Hid (RngP (fun k => lo ≤ k ∧ k < hi) w V) := ⟨hB0.os, hB0.tape, hB0.output, hB0.size, fun q hq _ => hB0.block q hq⟩
  have q1 := markIP_c sa sn sc lo pp b.sg V hr.sl hsn hb.r h1
  generalize cum b.sg sn = C at hcum HNB HMB q1
  obtain ⟨⟨c0, c1, c2, c3, c4⟩, _⟩ := hX0
  clear ho hr hB0 hL0 hT0 h1 h2 h3 h4 hb
  go_enter Try.func39, Try.ntmps39
  go_wp2_with fail
  clear hV c0 c1 c2 c3 c4
  refine q1.mono ?_
  clear q1
  rintro x w1 ⟨rfl, ho, hr⟩
  have HX1 : Hid (X5 w1 w.heap.size (.int .i64 f) (.int .i64 e) (.slice sa sn sc) (.slice la ln lc) (.slice ta tn tc)) := HX0.out.rngP hr (fun h => by have := HP2.out _ h; omega)
  have HL1 : Hid (Own w1 lo (.slice la ln lc) b.li) := HL0.out.rngP hr (fun k h => (HP3.out k h).1)
  have HT1 : Hid (Own w1 lo (.slice ta tn tc) b.ls) := HT0.out.rngP hr (fun k h => (HP4.out k h).1)
  have HS1 : Hid (OwnIP w1 lo pp (.slice sa sn sc) (markL b.sg)) := ho
  have HR1 : Hid (RngP (fun k => lo ≤ k ∧ k < hi) w w1) := HR0.out.trans (hr.imp HP2.out)
  obtain ⟨⟨c0, c1, c2, c3, c4⟩, _⟩ := HX1.out
  have q2 := markIntS_c la ln lc (1 + (C : Int)) lo b.li w1 (by omega) (by omega) (by omega) HL1.out
  clear ho hr HX0 HL0 HT0 HR0
  go_wp2_with fail
  clear c0 c1 c2 c3 c4
  refine q2.mono ?_
  clear q2
  rintro x w2 ⟨rfl, ho, hg⟩
  have HX2 : Hid (X5 w2 w.heap.size (.int .i64 f) (.int .i64 e) (.slice sa sn sc) (.slice la ln lc) (.slice ta tn tc)) := HX1.out.grown hg (fun h => by have := (HP3.out _ h.symm).2; omega)
  have hr2 : RngP (fun k => (Value.slice la ln lc).ownBlock = some k) w1 w2 := RngP.ofGrown hg (fun k h => h)
  have HT2 : Hid (Own w2 lo (.slice ta tn tc) b.ls) := HT1.out.kept hg (by rcases HSEP.out with h | h; exact (by cases h2 : (Value.slice ta tn tc).ownBlock with | none => exact Or.inl rfl | some k => rw [h]; exact Or.inr (by simp)); exact Or.inr (fun e => h e.symm))
  have HS2 : Hid (OwnIP w2 lo pp (.slice sa sn sc) (markL b.sg)) := HS1.out.rng hr2 (fun k h h5 => (HP3.out k h5).1 h)
  have HR2 : Hid (RngP (fun k => lo ≤ k ∧ k < hi) w w2) := HR1.out.trans (hr2.imp (fun k h => ⟨own_block_ge HL1.out k h, (HP3.out k h).2⟩))
  have HL2 : Hid (Own w2 lo (.slice la ln lc) (marks (1 + (C : Int)) ln)) := ho
  obtain ⟨⟨c0, c1, c2, c3, c4⟩, _⟩ := HX2.out
  have q3 := markIntS_c ta tn tc (1 + (C : Int) + (ln : Int)) lo b.ls w2 (by omega) (by omega) (by omega) HT2.out
  clear ho hg hr2 HX1 HL1 HT1 HS1 HR1
  go_wp2_with fail
  clear c0 c1 c2 c3 c4
  refine q3.mono ?_
  clear q3
  rintro x w3 ⟨rfl, ho, hg⟩
  have hr3 : RngP (fun k => (Value.slice ta tn tc).ownBlock = some k) w2 w3 := RngP.ofGrown hg (fun k h => h)
  have HS3 : Hid (OwnIP w3 lo pp (.slice sa sn sc) (markL b.sg)) := HS2.out.rng hr3 (fun k h h5 => (HP4.out k h5).1 h)
  have HR3 : Hid (RngP (fun k => lo ≤ k ∧ k < hi) w w3) := HR2.out.trans (hr3.imp (fun k h => ⟨own_block_ge HT2.out k h, (HP4.out k h).2⟩))
  have HL3 : Hid (Own w3 lo (.slice la ln lc) (marks (1 + (C : Int)) ln)) := HL2.out.kept hg HSEP.out
  have HT3 : Hid (Own w3 lo (.slice ta tn tc) (marks (1 + (C : Int) + (ln : Int)) tn)) := ho
  have HE : Hid (1 + (C : Int) + (ln : Int) + (tn : Int) = 1 + ((numB b : Nat) : Int)) := by show _ = _; rw [HNB.out]; omega
  clear ho hg hr3
  go_wp2
  go_ret
  refine ⟨ret_int HE.out, ?_, HR3.out⟩
  rw [HMB.out]
  exact ⟨⟨pp, HS3.out, HP2.out, HP3.out, HP4.out⟩, HL3.out, HT3.out, HSEP.out⟩

set_option maxHeartbeats 2000000 in
theorem heldBoard_c (f e : Int) (sa : Option Addr) (sn sc : Nat) (la : Option Addr) (ln lc : Nat) (ta : Option Addr) (tn tc : Nat) (lo hi : Nat) (b : BdV) (w : World) (hb : SmallBd b) (hsl : b.sg.length = sn) (hll : b.li.length = ln) (htl : b.ls.length = tn) (ho : OwnBd w lo hi (.slice sa sn sc) (.slice la ln lc) (.slice ta tn tc) (markB b)) :
    Calls Try.prog 40 #[.agg #[.int .i64 f, .int .i64 e, .slice sa sn sc, .slice la ln lc, .slice ta tn tc], .int .i64 1] w fun x w' => x = .returned (.int .i64 (1 + (numB b : Nat))) ∧ Below w.heap.size w w' := by
  have hsn : sn ≤ 1048576 := by rw [← hsl]; exact hb.s
  have hln : ln ≤ 1048576 := by rw [← hll]; exact hb.l
  have htn : tn ≤ 1048576 := by rw [← htl]; exact hb.t
  have hcum : cum b.sg sn ≤ 1099511627776 := Nat.le_trans (cum_le hb.r sn (by rw [hsl]; exact Nat.le_refl _)) (by have : sn * 1048576 ≤ 1048576 * 1048576 := Nat.mul_le_mul_right _ (by omega); omega)
  have HNB : Hid (numB b = cum b.sg sn + ln + tn) := by show _ = _; unfold numB; rw [hsl, hll, htl]
  have hMB : markB b = ⟨b.f, b.e, markL b.sg, marks (1 + (cum b.sg sn : Nat)) ln, marks (1 + (cum b.sg sn : Nat) + (ln : Nat)) tn⟩ := by unfold markB; rw [hsl, hll, htl]
  rw [hMB] at ho
  have hB0 := balloc w (.cells #[.int .i64 f, .int .i64 e, .slice sa sn sc, .slice la ln lc, .slice ta tn tc] 29)
  have hX0 := x5_new w (.int .i64 f) (.int .i64 e) (.slice sa sn sc) (.slice la ln lc) (.slice ta tn tc) 29 w.heap.size rfl
  obtain ⟨V, hV⟩ : ∃ V, w.alloc (.cells #[.int .i64 f, .int .i64 e, .slice sa sn sc, .slice la ln lc, .slice ta tn tc] 29) = V := ⟨_, rfl⟩
  rw [hV] at hB0 hX0
  have HO : Hid (OwnBd V lo hi (.slice sa sn sc) (.slice la ln lc) (.slice ta tn tc) ⟨b.f, b.e, markL b.sg, marks (1 + (cum b.sg sn : Nat)) ln, marks (1 + (cum b.sg sn : Nat) + (ln : Nat)) tn⟩) := ho.later hB0
  obtain ⟨pp, h1, _, _, _⟩ := HO.out.ex
  have q1 := heldIP_c sa sn sc lo pp b.sg V hsl hsn hb.r h1
  have HL : Hid (∀ wx, Below V.heap.size V wx → Own wx lo (.slice la ln lc) (marks (1 + (cum b.sg sn : Nat)) ln)) := fun wx h => HO.out.li.later h
  have HT : Hid (∀ wx, Below V.heap.size V wx → Own wx lo (.slice ta tn tc) (marks (1 + (cum b.sg sn : Nat) + (ln : Nat)) tn)) := fun wx h => HO.out.ls.later h
  have HX0 : Hid (X5 V w.heap.size (.int .i64 f) (.int .i64 e) (.slice sa sn sc) (.slice la ln lc) (.slice ta tn tc)) := hX0
  have HB0 : Hid (Below w.heap.size w V) := hB0
  clear HO h1
  generalize cum b.sg sn = C at hcum HNB q1 HL HT
  obtain ⟨⟨c0, c1, c2, c3, c4⟩, _⟩ := hX0
  have hC0 : ¬ (1 : Int) + (C : Int) < 0 := by omega
  have hC1 : ¬ (1 : Int) + (C : Int) + (ln : Int) < 0 := by omega
  have hC2 : ¬ (1 : Int) + (C : Int) + (ln : Int) + (tn : Int) < 0 := by omega
  clear ho hB0 hb hsl hll htl hMB
  go_enter Try.func40, Try.ntmps40
  go_wp2_with fail
  clear hV c0 c1 c2 c3 c4
  refine q1.mono ?_
  clear q1
  rintro x w1 ⟨rfl, hb⟩
  have HB1 : Hid (Below V.heap.size V w1) := hb
  obtain ⟨⟨c0, c1, c2, c3, c4⟩, _⟩ := HX0.out.later hb
  have q2 := heldIntS_c la ln lc (1 + (C : Int)) lo w1 (by omega) (by omega) (by omega) (HL.out w1 hb)
  clear hb
  go_wp2_with fail
  clear c0 c1 c2 c3 c4
  refine q2.mono ?_
  clear q2
  rintro x w2 ⟨rfl, hw⟩
  have hb : Below w1.heap.size w1 w2 := by rw [hw]; exact Below.refl _ _
  clear hw
  have HB2 : Hid (Below V.heap.size V w2) := HB1.out.trans (hb.mono HB1.out.size)
  obtain ⟨⟨c0, c1, c2, c3, c4⟩, _⟩ := HX0.out.later HB2.out
  have q3 := heldIntS_c ta tn tc (1 + (C : Int) + (ln : Int)) lo w2 (by omega) (by omega) (by omega) (HT.out w2 HB2.out)
  clear hb HB1
  go_wp2_with fail
  clear c0 c1 c2 c3 c4
  refine q3.mono ?_
  clear q3
  rintro x w3 ⟨rfl, hw⟩
  have hb : Below w2.heap.size w2 w3 := by rw [hw]; exact Below.refl _ _
  clear hw
  have HB3 : Hid (Below w.heap.size w w3) := HB0.out.trans ((HB2.out.trans (hb.mono HB2.out.size)).mono HB0.out.size)
  have HE : Hid (1 + (C : Int) + (ln : Int) + (tn : Int) = 1 + ((numB b : Nat) : Int)) := by show _ = _; rw [HNB.out]; omega
  clear hb HB2
  go_wp2
  go_ret
  exact ⟨ret_int HE.out, HB3.out⟩

set_option maxHeartbeats 2000000 in
theorem szBoard_c (f e : Int) (sa : Option Addr) (sn sc : Nat) (la : Option Addr) (ln lc : Nat) (ta : Option Addr) (tn tc : Nat) (sg : List (List Int)) (w : World) (hs : sg.length = sn) (hsn : sn ≤ 9223372036854775807) (hln : ln ≤ 9223372036854775807) (htn : tn ≤ 9223372036854775807) (hr : RdII w sa sg) (hsl : ∀ l ∈ sg, l.length ≤ 9223372036854775807) :
    Calls Try.prog 41 #[.agg #[.int .i64 f, .int .i64 e, .slice sa sn sc, .slice la ln lc, .slice ta tn tc], .int .i64 1048576] w fun x w' => ∃ r : Int, x = .returned (.int .i64 r) ∧ (0 ≤ r → sn ≤ 1048576 ∧ ln ≤ 1048576 ∧ tn ≤ 1048576 ∧ ∀ l ∈ sg, l.length ≤ 1048576) ∧ Below w.heap.size w w' := by
  have hB0 := balloc w (.cells #[.int .i64 f, .int .i64 e, .slice sa sn sc, .slice la ln lc, .slice ta tn tc] 62)
  have hX0 := x5_new w (.int .i64 f) (.int .i64 e) (.slice sa sn sc) (.slice la ln lc) (.slice ta tn tc) 62 w.heap.size rfl
  obtain ⟨V, hV⟩ : ∃ V, w.alloc (.cells #[.int .i64 f, .int .i64 e, .slice sa sn sc, .slice la ln lc, .slice ta tn tc] 62) = V := ⟨_, rfl⟩
  rw [hV] at hB0 hX0
  have q1 := szII_c sa sn sc sg V hs hsn (hr.later hB0) hsl
  have HB0 : Hid (Below w.heap.size w V) := hB0
  obtain ⟨⟨c0, c1, c2, c3, c4⟩, _⟩ := hX0
  clear hB0 hs hr hsl
  go_enter Try.func41, Try.ntmps41
  go_wp2_with fail
  refine q1.mono ?_
  clear q1
  rintro x w' ⟨r, rfl, hw, hr1, hr2⟩
  subst w'
  by_cases hneg : r < 0
  · clear hr2
    go_wp2
    go_ret
    exact ⟨-1, rfl, fun h => by omega, HB0.out⟩
  · obtain ⟨rq, rfl⟩ : ∃ rq : Nat, r = rq := ⟨r.toNat, by omega⟩
    have H2 : Hid (sn ≤ 1048576 ∧ ∀ l ∈ sg, l.length ≤ 1048576) := hr2 (by omega)
    have q2 := szIntL_c la ln lc rq V hln (by omega)
    clear hr2
    go_wp2_with fail
    refine q2.mono ?_
    clear q2
    rintro x w' ⟨r2, rfl, hw, hr3, hr4⟩
    subst w'
    by_cases hneg2 : r2 < 0
    · clear hr4
      go_wp2
      go_ret
      exact ⟨-1, rfl, fun h => by omega, HB0.out⟩
    · obtain ⟨rq2, rfl⟩ : ∃ rq : Nat, r2 = rq := ⟨r2.toNat, by omega⟩
      have H3 : Hid (ln ≤ 1048576) := hr4 (by omega)
      have q3 := szIntL_c ta tn tc rq2 V htn (by omega)
      clear hr4
      go_wp2_with fail
      refine q3.mono ?_
      clear q3
      rintro x w' ⟨r3, rfl, hw, hr5, hr6⟩
      subst w'
      by_cases hneg3 : r3 < 0
      · clear hr6
        go_wp2
        go_ret
        exact ⟨-1, rfl, fun h => by omega, HB0.out⟩
      · have H4 : Hid (tn ≤ 1048576) := hr6 (by omega)
        clear hr6
        go_wp2
        go_ret
        exact ⟨r3, rfl, fun h => ⟨H2.out.1, H3.out, H4.out, H2.out.2⟩, HB0.out⟩

end Go.Proofs.Ytaokmjbhgkfnfaa

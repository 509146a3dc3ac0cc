/- The law on TraceOf, walked: it answers true at every argument and turns nothing that was there. -/
import Derived.Test.YteopaocomfepfaaTR10
namespace Go.Proofs.Yteopaocomfepfaa
set_option linter.unusedVariables false
set_option maxRecDepth 1000000
set_option linter.unusedSimpArgs false
open Go.RowKit

set_option maxHeartbeats 16000000 in
theorem lawTrace_c (i0 i1 : Int) (w : World) (hw0 : -9223372036854775808 ≤ i0 ∧ i0 ≤ 9223372036854775807) (hw1 : -9223372036854775808 ≤ i1 ∧ i1 ≤ 9223372036854775807) :
    Calls Try.prog 9 #[.int .i64 i0, .int .i64 i1] w fun e w' => e = .returned (.bool true) ∧ Below w.heap.size w w' := by
  obtain ⟨l, fb, hF⟩ : ∃ l fb, traceF i0 i1 = (l, fb) := ⟨_, _, rfl⟩
  have hp8 : l.length ≤ 80 := by
    unfold traceF at hF
    split at hF
    · simp only [Prod.mk.injEq] at hF; rw [← hF.1, traceL_length]; omega
    · simp only [Prod.mk.injEq] at hF; rw [← hF.1]; simp
  obtain ⟨p, hp⟩ : ∃ p, l.length = p := ⟨_, rfl⟩
  rw [hp] at hp8
  have qs := fun wx => specTrace_c i0 i1 wx l fb hF p hp
  have qi := fun wx => implTrace_c i0 i1 wx l fb hF p hp
  have HL : Hid (l.length = p) := hp
  have hfb : (fb != fb) = false := by simp
  have hmm : (((1 + 3 * p : Nat) : Int) != ((1 + 3 * p : Nat) : Int)) = false := by simp
  have hmn : ¬ ((1 + 3 * p : Nat) : Int) < 0 := by omega
  clear hF hp
  go_enter Try.func9, Try.ntmps9
  have HB_0 : Hid (Below w.heap.size w w) := Below.refl _ _
  go_wp2_with fail
  refine (qs _).mono ?_
  rintro e w1 ⟨a1, c1, rfl, ho, hb⟩
  have hB : Below w.heap.size w w1 := hb
  have HB_1 : Hid (Below w.heap.size w w1) := HB_0.out.trans (hB.mono HB_0.out.size)
  have z1 : w.heap.size ≤ w1.heap.size := hB.size
  have W1_1 : Hid (OwnE w1 w.heap.size (Value.slice a1 p c1) (l)) := ho
  have I_W1 : Hid (∀ k, (Value.slice a1 p c1).ownBlock = some k → w.heap.size ≤ k ∧ k < w1.heap.size) := World.ownsRow.lt W1_1.out
  clear hb hB HB_0 ho
  go_wp2_with fail
  refine (qi _).mono ?_
  rintro e w2 ⟨a2, c2, rfl, ho, hb⟩
  have hB : Below w1.heap.size w1 w2 := hb
  have HB_2 : Hid (Below w.heap.size w w2) := HB_1.out.trans (hB.mono HB_1.out.size)
  have W1_2 : Hid (OwnE w2 w.heap.size (Value.slice a1 p c1) (l)) := W1_1.out.later hB
  have z2 : w1.heap.size ≤ w2.heap.size := hB.size
  have G2_2 : Hid (OwnE w2 w1.heap.size (Value.slice a2 p c2) (l)) := ho
  have I_G2 : Hid (∀ k, (Value.slice a2 p c2).ownBlock = some k → w1.heap.size ≤ k ∧ k < w2.heap.size) := World.ownsRow.lt G2_2.out
  clear hb hB HB_1 W1_1 ho
  go_wp2_with fail
  refine (eqEmitS_c a2 a1 p p c2 c1 l l _ HL.out HL.out (by omega) (by omega) G2_2.out.rd'.2 W1_2.out.rd'.2).mono ?_
  rw [decide_eq_true rfl]
  rintro e w3 ⟨rfl, hb⟩
  have hB : Below w2.heap.size w2 w3 := hb
  have HB_3 : Hid (Below w.heap.size w w3) := HB_2.out.trans (hB.mono HB_2.out.size)
  have W1_3 : Hid (OwnE w3 w.heap.size (Value.slice a1 p c1) (l)) := W1_2.out.later hB
  have G2_3 : Hid (OwnE w3 w1.heap.size (Value.slice a2 p c2) (l)) := G2_2.out.later hB
  have z3 : w2.heap.size ≤ w3.heap.size := hB.size
  clear hb hB HB_2 W1_2 G2_2 
  go_wp2_with fail
  refine (markEmitS_c a2 p c2 1 w1.heap.size l _ (by omega) (by omega) G2_3.out).mono ?_
  rintro e w4 ⟨rfl, ho, hg⟩
  have z4 : w3.heap.size ≤ w4.heap.size := hg.size
  have HB_4 : Hid (Below w.heap.size w w4) := Below.grown HB_3.out hg (by have := HB_3.out.size; omega) (fun k e => by have := I_G2.out k e; have := HB_3.out.size; omega)
  have W1_4 : Hid (OwnE w4 w.heap.size (Value.slice a1 p c1) (l)) := W1_3.out.kept hg (own_sep I_W1.out I_G2.out (by omega))
  have G2_4 : Hid (OwnE w4 w1.heap.size (Value.slice a2 p c2) (marksE 1 p)) := ho
  clear hg ho HB_3 W1_3 G2_3
  go_wp2_with fail
  refine (heldEmitS_c a2 p c2 1 w1.heap.size _ (by omega) (by omega) G2_4.out).mono ?_
  rintro e w5 ⟨rfl, hb⟩
  have hB : Below w4.heap.size w4 w5 := hb
  have HB_5 : Hid (Below w.heap.size w w5) := HB_4.out.trans (hB.mono HB_4.out.size)
  have W1_5 : Hid (OwnE w5 w.heap.size (Value.slice a1 p c1) (l)) := W1_4.out.later hB
  have G2_5 : Hid (OwnE w5 w1.heap.size (Value.slice a2 p c2) (marksE 1 p)) := G2_4.out.later hB
  have z5 : w4.heap.size ≤ w5.heap.size := hB.size
  clear hb hB HB_4 W1_4 G2_4 
  go_wp2_with fail
  refine (qi _).mono ?_
  rintro e w6 ⟨a3, c3, rfl, ho, hb⟩
  have hB : Below w5.heap.size w5 w6 := hb
  have HB_6 : Hid (Below w.heap.size w w6) := HB_5.out.trans (hB.mono HB_5.out.size)
  have W1_6 : Hid (OwnE w6 w.heap.size (Value.slice a1 p c1) (l)) := W1_5.out.later hB
  have G2_6 : Hid (OwnE w6 w1.heap.size (Value.slice a2 p c2) (marksE 1 p)) := G2_5.out.later hB
  have z6 : w5.heap.size ≤ w6.heap.size := hB.size
  have H3_6 : Hid (OwnE w6 w5.heap.size (Value.slice a3 p c3) (l)) := ho
  have I_H3 : Hid (∀ k, (Value.slice a3 p c3).ownBlock = some k → w5.heap.size ≤ k ∧ k < w6.heap.size) := World.ownsRow.lt H3_6.out
  clear hb hB HB_5 W1_5 G2_5 ho
  go_wp2_with fail
  refine (eqEmitS_c a3 a1 p p c3 c1 l l _ HL.out HL.out (by omega) (by omega) H3_6.out.rd'.2 W1_6.out.rd'.2).mono ?_
  rw [decide_eq_true rfl]
  rintro e w7 ⟨rfl, hb⟩
  have hB : Below w6.heap.size w6 w7 := hb
  have HB_7 : Hid (Below w.heap.size w w7) := HB_6.out.trans (hB.mono HB_6.out.size)
  have W1_7 : Hid (OwnE w7 w.heap.size (Value.slice a1 p c1) (l)) := W1_6.out.later hB
  have G2_7 : Hid (OwnE w7 w1.heap.size (Value.slice a2 p c2) (marksE 1 p)) := G2_6.out.later hB
  have H3_7 : Hid (OwnE w7 w5.heap.size (Value.slice a3 p c3) (l)) := H3_6.out.later hB
  have z7 : w6.heap.size ≤ w7.heap.size := hB.size
  clear hb hB HB_6 W1_6 G2_6 H3_6 
  go_wp2_with fail
  refine (heldEmitS_c a2 p c2 1 w1.heap.size _ (by omega) (by omega) G2_7.out).mono ?_
  rintro e w8 ⟨rfl, hb⟩
  have hB : Below w7.heap.size w7 w8 := hb
  have HB_8 : Hid (Below w.heap.size w w8) := HB_7.out.trans (hB.mono HB_7.out.size)
  have W1_8 : Hid (OwnE w8 w.heap.size (Value.slice a1 p c1) (l)) := W1_7.out.later hB
  have G2_8 : Hid (OwnE w8 w1.heap.size (Value.slice a2 p c2) (marksE 1 p)) := G2_7.out.later hB
  have H3_8 : Hid (OwnE w8 w5.heap.size (Value.slice a3 p c3) (l)) := H3_7.out.later hB
  have z8 : w7.heap.size ≤ w8.heap.size := hB.size
  clear hb hB HB_7 W1_7 G2_7 H3_7 
  go_wp2
  go_ret
  exact ⟨rfl, HB_8.out⟩

end Go.Proofs.Yteopaocomfepfaa

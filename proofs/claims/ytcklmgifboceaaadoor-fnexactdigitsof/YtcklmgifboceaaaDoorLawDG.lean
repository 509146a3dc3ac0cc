/- The law on DigitsOf, walked: it answers true at every argument and turns nothing that was there. -/
import Derived.Test.YtcklmgifboceaaaDoorDI4
import Derived.Deep.RegionHeld3
import Derived.Deep.DrawnRows
namespace Go.Proofs.YtcklmgifboceaaaDoor
set_option linter.unusedVariables false
set_option maxRecDepth 1000000
set_option linter.unusedSimpArgs false
open Go.RowKit
attribute [local go_sem ↓] Go.wp_at_zero Go.wp_at_succ

set_option maxHeartbeats 1000000 in
theorem lawDigits_c (ao : Option Addr) (n c : Nat) (xs : List Int) (w : World) (hx : xs.length = n) (hm : n ≤ 9223372036854775807) (hr : Rd w ao xs) :
    Calls Tryd.prog 4 #[.agg #[.slice ao n c]] w fun e w' => e = .returned (.bool true) ∧ Below w.heap.size w w' := by
  have HX : Hid (xs.length = n) := hx
  have HR : Hid (Rd w ao xs) := hr
  have HB : Hid (Below w.heap.size w (w.alloc (Obj.cells #[Value.slice ao n c] 47))) := (Below.refl _ _).alloc (Nat.le_refl _) _
  obtain ⟨S, fb, hF⟩ : ∃ S fb, digitsF xs = (S, fb) := ⟨_, _, rfl⟩
  have HF : Hid (digitsF xs = (S, fb)) := hF
  clear hx hr hF
  by_cases hs : (1048576 : Int) < (n : Int)
  · go_enter Tryd.func4, Tryd.ntmps4
    go_wp2_with fail
    refine (szBig_c ao n c 1048576 _ (by omega) (by omega) (by omega)).mono ?_
    rw [if_pos (by omega)]
    rintro e w1 ⟨rfl, hb⟩
    have HB1 : Hid (Below w.heap.size w w1) := HB.out.trans (hb.mono (by simp))
    clear hb
    go_wp2
    go_ret
    exact ⟨rfl, HB1.out⟩
  · have hn : n ≤ 17592186044416 := by omega
    go_enter Tryd.func4, Tryd.ntmps4
    go_wp2_with fail
    refine (szBig_c ao n c 1048576 _ (by omega) (by omega) (by omega)).mono ?_
    rw [if_neg (by omega)]
    rintro e w1 ⟨rfl, hb⟩
    have HB1 : Hid (Below w.heap.size w w1) := HB.out.trans (hb.mono (by simp))
    have c1 : w1.cell? ⟨w.heap.size, 0, none⟩ = some (.slice ao n c) := by rw [hb.cell (p := ⟨w.heap.size, 0, none⟩) (by simp)]; simp
    have z1 : w.heap.size < w1.heap.size := by have := hb.size; simp at this; omega
    clear hb
    go_wp2_with fail
    refine (toBig_c ao n c xs _ HX.out hn (HR.out.later HB1.out)).mono ?_
    rintro e w2 ⟨a2, d2, rfl, ho2, hb⟩
    have HB2 : Hid (Below w.heap.size w w2) := HB1.out.trans (hb.mono (by omega))
    have c2 : w2.cell? ⟨w.heap.size, 0, none⟩ = some (.slice ao n c) := by rw [hb.cell (p := ⟨w.heap.size, 0, none⟩) (by omega)]; exact c1
    have z2 : w.heap.size < w2.heap.size := by have := hb.size; omega
    have HO2 : Hid (Own w2 w1.heap.size (.slice a2 n d2) xs) := ho2
    clear hb c1 z1 ho2
    go_wp2_with fail
    refine (specDigits_c a2 n d2 xs _ HX.out hn HO2.out.rd'.2 S fb HF.out).mono ?_
    rintro e w3 ⟨rfl, hb⟩
    have HB3 : Hid (Below w.heap.size w w3) := HB2.out.trans (hb.mono (by omega))
    have c3 : w3.cell? ⟨w.heap.size, 0, none⟩ = some (.slice ao n c) := by rw [hb.cell (p := ⟨w.heap.size, 0, none⟩) (by omega)]; exact c2
    have z3 : w.heap.size < w3.heap.size := by have := hb.size; omega
    clear hb c2 z2 HO2
    go_wp2_with fail
    refine (toBig_c ao n c xs _ HX.out hn (HR.out.later HB3.out)).mono ?_
    rintro e w4 ⟨a4, d4, rfl, ho4, hb⟩
    have HB4 : Hid (Below w.heap.size w w4) := HB3.out.trans (hb.mono (by omega))
    have c4 : w4.cell? ⟨w.heap.size, 0, none⟩ = some (.slice ao n c) := by rw [hb.cell (p := ⟨w.heap.size, 0, none⟩) (by omega)]; exact c3
    have z4 : w.heap.size < w4.heap.size := by have := hb.size; omega
    have HO4 : Hid (Own w4 w3.heap.size (.slice a4 n d4) xs) := ho4
    clear hb c3 z3 ho4
    go_wp2_with fail
    have hba : Below w4.heap.size w4 (w4.alloc (Obj.cells #[Value.slice a4 n d4] 25)) := (Below.refl _ _).alloc (Nat.le_refl _) _
    refine (implDigits_c a4 n d4 xs _ HX.out hn (HO4.out.rd'.2.later hba) S fb HF.out).mono ?_
    rintro e w5 ⟨rfl, hb⟩
    have hb45 : Below w4.heap.size w4 w5 := hba.trans (hb.mono (by simp))
    have HB5 : Hid (Below w.heap.size w w5) := HB4.out.trans (hb45.mono (by omega))
    have c5 : w5.cell? ⟨w.heap.size, 0, none⟩ = some (.slice ao n c) := by rw [hb45.cell (p := ⟨w.heap.size, 0, none⟩) (by omega)]; exact c4
    have x5 : w5.cell? ⟨w4.heap.size, 0, none⟩ = some (.slice a4 n d4) := by rw [hb.cell (p := ⟨w4.heap.size, 0, none⟩) (by simp)]; simp
    have z5 : w4.heap.size < w5.heap.size := by have := hb.size; simp at this; omega
    have HO5 : Hid (Own w5 w3.heap.size (.slice a4 n d4) xs) := HO4.out.later hb45
    clear hb hb45 hba c4 HO4
    have hg : (fb != fb) = false := by simp
    have hgs : (S.toList != S.toList) = false := by simp
    go_wp2_with fail
    go_region_held3 (fun w' => w'.cell? ⟨w.heap.size, 0, none⟩ = some (.slice ao n c) ∧ w'.cell? ⟨w4.heap.size, 0, none⟩ = some (.slice a4 n d4)) (first | go_keep) (first
      | (go_at_call 29; refine (toBig_c ao n c xs _ HX.out hn (HR.out.later (by first | exact HB5.out | exact HB5.out.drew))).mono ?_; rintro e w6 ⟨a6, d6, rfl, ho6, hb⟩; have c6 : w6.cell? ⟨w.heap.size, 0, none⟩ = some (.slice ao n c) := (by rw [hb.cell (p := ⟨w.heap.size, 0, none⟩) (by simp; omega)]; exact c5); have x6 : w6.cell? ⟨w4.heap.size, 0, none⟩ = some (.slice a4 n d4) := (by rw [hb.cell (p := ⟨w4.heap.size, 0, none⟩) (by simp; omega)]; exact x5))
      | (go_at_call 30; refine (eqBig_c a4 a6 n n d4 d6 xs xs _ HX.out HX.out hn hn (HO5.out.rd'.2.later ((Below.refl _ _).drew.trans hb)) ho6.rd'.2).mono ?_; rw [decide_eq_true rfl]; rintro e w7 ⟨rfl, hb7⟩; have hs6 := hb.size; have c7 : w7.cell? ⟨w.heap.size, 0, none⟩ = some (.slice ao n c) := (by rw [hb7.cell (p := ⟨w.heap.size, 0, none⟩) (by simp at hs6 ⊢; omega)]; exact c6); have x7 : w7.cell? ⟨w4.heap.size, 0, none⟩ = some (.slice a4 n d4) := (by rw [hb7.cell (p := ⟨w4.heap.size, 0, none⟩) (by simp at hs6 ⊢; omega)]; exact x6); have HB7 : Hid (Below w.heap.size w w7) := (HB5.out.drew.trans (hb.mono (by simp; omega))).trans (hb7.mono (by simp at hs6 ⊢; omega))))
    all_goals go_wp2
    all_goals go_ret
    all_goals exact ⟨rfl, by assumption⟩

end Go.Proofs.YtcklmgifboceaaaDoor

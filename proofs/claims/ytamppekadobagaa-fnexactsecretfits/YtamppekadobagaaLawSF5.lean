/- The law on FnExactSecretFits, walked: it answers true at every argument and turns nothing that was there. -/
import Derived.Test.YtamppekadobagaaSH5
namespace Go.Proofs.Ytamppekadobagaa
set_option linter.unusedVariables false
set_option linter.unusedSimpArgs false
open Go.RowKit

set_option maxHeartbeats 8000000 in
set_option maxRecDepth 1000000 in
theorem lawFits_c (ao : Option Addr) (n c : Nat) (xs : List (Int × Int)) (i1 : Int) (w : World) (hx0 : xs.length = n) (hm0 : n ≤ 9223372036854775807) (hr0 : RdP w ao xs) (hw1 : -9223372036854775808 ≤ i1 ∧ i1 ≤ 9223372036854775807) :
    Calls Try.prog 12 #[.slice ao n c, .int .i64 i1] w fun e w' => e = .returned (.bool true) ∧ Below w.heap.size w w' := by
  have HX0 : Hid (xs.length = n) := hx0
  have HR0 : Hid (RdP w ao xs) := hr0
  obtain ⟨x, y, fb, hF⟩ : ∃ x y fb, fitsF xs i1 = ((x, y), fb) := ⟨_, _, _, rfl⟩
  have HF : Hid (fitsF xs i1 = ((x, y), fb)) := hF
  have hfb : (fb != fb) = false := by simp
  clear hF hx0 hr0
  go_enter Try.func12, Try.ntmps12
  have HB0 : Hid (Below w.heap.size w w) := Below.refl _ _
  go_wp2_with fail
  refine (szPartS_c ao n c 1048576 w hm0 (by omega)).mono ?_
  rintro e w' ⟨rs, rfl, hw, hr1, hr2⟩
  subst w'
  by_cases hr0 : rs < 0
  · go_wp2
    go_ret
    exact ⟨rfl, Below.refl _ _⟩
  obtain ⟨lq0, rfl⟩ : ∃ lq : Nat, rs = (lq : Int) := ⟨rs.toNat, by omega⟩
  have hn : n ≤ 1048576 := (hr2 (by omega)).1
  have hlr0 : ¬ (lq0 : Int) < 0 := by omega
  clear hr1 hr2 hr0
  go_wp2_with fail
  refine (toPartS_c ao n c xs w HX0.out (by omega) HR0.out).mono ?_
  rintro e w1 ⟨a1, d1, rfl, ho, hb⟩
  have HB1 : Hid (Below w.heap.size w w1) := hb
  have S1 : Hid (OwnP w1 w.heap.size (.slice a1 n d1) xs) := ho
  clear ho hb
  go_wp2_with fail
  refine (specFits_c a1 n d1 xs i1 w1 HX0.out (by omega) S1.out.rd'.2 x y fb HF.out).mono ?_
  rintro e w2 ⟨rfl, hb⟩
  obtain ⟨w3, hw3⟩ : ∃ w3, w2.alloc (.cells #[.int .i64 x, .int .i64 y] 46) = w3 := ⟨_, rfl⟩
  have HB3 : Hid (Below w.heap.size w w3) := by rw [← hw3]; exact (HB1.out.trans (hb.mono HB1.out.size)).alloc (by have := HB1.out.size; have := hb.size; omega) _
  have C3 : Hid (w3.cell? ⟨w2.heap.size, 0, none⟩ = some (.int .i64 x) ∧ w3.cell? ⟨w2.heap.size, 1, none⟩ = some (.int .i64 y)) := by rw [← hw3]; exact ⟨by simp, by simp⟩
  clear hb S1
  go_wp2_with fail
  clear hw3
  refine (toPartS_c ao n c xs w3 HX0.out (by omega) (HR0.out.later HB3.out)).mono ?_
  rintro e w4 ⟨a4, d4, rfl, ho, hb⟩
  have HB4 : Hid (Below w.heap.size w w4) := HB3.out.trans (hb.mono HB3.out.size)
  have C4 : Hid (w4.cell? ⟨w2.heap.size, 0, none⟩ = some (.int .i64 x) ∧ w4.cell? ⟨w2.heap.size, 1, none⟩ = some (.int .i64 y)) := ⟨cell_keep (S := 0) hb C3.out.1, cell_keep (S := 0) hb C3.out.2⟩
  have X4 : Hid (OwnP w4 w3.heap.size (.slice a4 n d4) xs) := ho
  clear ho hb C3
  go_wp2_with fail
  refine (implFits_c a4 n d4 xs i1 w4 HX0.out (by omega) X4.out.rd'.2 x y fb HF.out).mono ?_
  rintro e w5 ⟨rfl, hb⟩
  obtain ⟨w6, hw6⟩ : ∃ w6, w5.alloc (.cells #[.int .i64 x, .int .i64 y] 46) = w6 := ⟨_, rfl⟩
  have B56 : Hid (Below w5.heap.size w5 w6) := by rw [← hw6]; exact balloc _ _
  have HB6 : Hid (Below w.heap.size w w6) := by rw [← hw6]; exact (HB4.out.trans (hb.mono HB4.out.size)).alloc (by have := HB4.out.size; have := hb.size; omega) _
  have X6 : Hid (OwnP w6 w3.heap.size (.slice a4 n d4) xs) := (X4.out.later hb).later B56.out
  have e1 : w6.cell? ⟨w2.heap.size, 0, none⟩ = some (.int .i64 x) := cell_keep (S := 0) B56.out (cell_keep (S := 0) hb C4.out.1)
  have e2 : w6.cell? ⟨w2.heap.size, 1, none⟩ = some (.int .i64 y) := cell_keep (S := 0) B56.out (cell_keep (S := 0) hb C4.out.2)
  have e3 : w6.cell? ⟨w5.heap.size, 0, none⟩ = some (.int .i64 x) := by rw [← hw6]; simp
  have e4 : w6.cell? ⟨w5.heap.size, 1, none⟩ = some (.int .i64 y) := by rw [← hw6]; simp
  have qe := eqPart_c x y x y w6
  rw [decide_eq_true rfl] at qe
  clear hb C4 X4 B56
  go_wp2_with fail
  clear hw6
  refine qe.mono ?_
  clear qe
  rintro e w7 ⟨rfl, hb⟩
  have HB7 : Hid (Below w.heap.size w w7) := HB6.out.trans (hb.mono HB6.out.size)
  have X7 : Hid (OwnP w7 w3.heap.size (.slice a4 n d4) xs) := X6.out.later hb
  clear hb X6 e1 e2 e3 e4
  go_wp2_with fail
  refine (toPartS_c ao n c xs w7 HX0.out (by omega) (HR0.out.later HB7.out)).mono ?_
  rintro e w8 ⟨a8, d8, rfl, ho, hb⟩
  have HB8 : Hid (Below w.heap.size w w8) := HB7.out.trans (hb.mono HB7.out.size)
  have X8 : Hid (OwnP w8 w3.heap.size (.slice a4 n d4) xs) := X7.out.later hb
  have qq := eqPartS_c a4 a8 n n d4 d8 xs xs w8 HX0.out HX0.out (by omega) (by omega) X8.out.rd'.2 ho.rd'.2
  rw [decide_eq_true rfl] at qq
  clear ho hb
  go_wp2_with fail
  refine qq.mono ?_
  clear qq
  rintro e w9 ⟨rfl, hb⟩
  have HB9 : Hid (Below w.heap.size w w9) := HB8.out.trans (hb.mono HB8.out.size)
  clear hb
  go_wp2
  go_ret
  exact ⟨rfl, HB9.out⟩

end Go.Proofs.Ytamppekadobagaa

/- The law on SetSize, walked: it answers true at every argument and turns nothing that was there. -/
import Derived.Test.YtelchkoplncmaaaSS8
namespace Go.Proofs.Ytelchkoplncmaaa
set_option linter.unusedVariables false
set_option maxRecDepth 1000000
set_option linter.unusedSimpArgs false
open Go.RowKit

set_option maxHeartbeats 4000000 in
theorem lawSize_c (ao : Option Addr) (n c : Nat) (xss : List (List ByteArray)) (i1 : Int) (w : World) (hx : xss.length = n) (hn0 : n ≤ 9223372036854775807) (hr : RdSS w ao xss) (hl0 : ∀ l ∈ xss, l.length ≤ 9223372036854775807 ∧ ∀ s ∈ l, s.size ≤ 9223372036854775807) (hw1 : -9223372036854775808 ≤ i1 ∧ i1 ≤ 9223372036854775807) :
    Calls Try.prog 12 #[.slice ao n c, .int .i64 i1] w fun e w' => e = .returned (.bool true) ∧ Below w.heap.size w w' := by
  have HX : Hid (xss.length = n) := hx
  have HR : Hid (RdSS w ao xss) := hr
  have q0 := szSS_c ao n c xss w hx hn0 hr hl0
  obtain ⟨r, fb, hF⟩ : ∃ r fb, sizeF xss i1 = (r, fb) := ⟨_, _, rfl⟩
  have HF : Hid (sizeF xss i1 = (r, fb)) := hF
  have hrr : (r != r) = false := by simp
  have hfb : (fb != fb) = false := by simp
  clear hx hr hl0 hF
  go_enter Try.func12, Try.ntmps12
  go_wp2_with fail
  refine q0.mono ?_
  clear q0
  rintro e w' ⟨rs, rfl, hw, hr2⟩
  subst w'
  by_cases hr0 : rs < 0
  · go_wp2
    go_ret
    exact ⟨rfl, Below.refl _ _⟩
  have hnn : n ≤ 1048576 := (hr2 (by omega)).1
  have HL : Hid (∀ l ∈ xss, l.length ≤ 1048576) := (hr2 (by omega)).2
  have hrn : ¬ rs < 0 := hr0
  clear hr2 hr0
  go_wp2_with fail
  refine (toSS_c ao n c xss w HX.out hnn HL.out HR.out).mono ?_
  rintro e w1 ⟨a1, c1, rfl, ho1, hb1⟩
  have HB1 : Hid (Below w.heap.size w w1) := hb1
  have q1 := specSize_c a1 n c1 xss i1 w1 HX.out hnn ho1.rd' r fb HF.out
  clear ho1 hb1
  go_wp2_with fail
  refine q1.mono ?_
  clear q1
  rintro e w' ⟨rfl, hw⟩
  subst w'
  go_wp2_with fail
  refine (toSS_c ao n c xss w1 HX.out hnn HL.out (HR.out.later HB1.out)).mono ?_
  rintro e w2 ⟨a2, c2, rfl, ho2, hb2⟩
  have HB2 : Hid (Below w.heap.size w w2) := HB1.out.trans (hb2.mono HB1.out.size)
  have HO2 : Hid (OwnSS w2 w1.heap.size (.slice a2 n c2) xss) := ho2
  have q2 := implSize_c a2 n c2 xss i1 w2 HX.out hnn ho2.rd' r fb HF.out
  clear ho2 hb2 HB1
  go_wp2_with fail
  refine q2.mono ?_
  clear q2
  rintro e w' ⟨rfl, hw⟩
  subst w'
  go_wp2_with fail
  refine (toSS_c ao n c xss w2 HX.out hnn HL.out (HR.out.later HB2.out)).mono ?_
  rintro e w3 ⟨a3, c3, rfl, ho3, hb3⟩
  have HB3 : Hid (Below w.heap.size w w3) := HB2.out.trans (hb3.mono HB2.out.size)
  have q3 := eqSS_c a2 a3 n c2 c3 xss w3 HX.out hnn HL.out (HO2.out.later hb3).rd' ho3.rd'
  clear ho3 hb3 HO2 HB2
  go_wp2_with fail
  refine q3.mono ?_
  clear q3
  rintro e w4 ⟨rfl, hb4⟩
  have HB4 : Hid (Below w.heap.size w w4) := HB3.out.trans (hb4.mono HB3.out.size)
  clear hb4 HB3
  go_wp2
  go_ret
  exact ⟨rfl, HB4.out⟩

end Go.Proofs.Ytelchkoplncmaaa

/- Chapter 13: boards copied by the program. -/
import Derived.Test.YtaokmjbhgkfnfaaPU13s
namespace Go.Proofs.Ytaokmjbhgkfnfaa
set_option linter.unusedVariables false
set_option maxRecDepth 1000000
set_option linter.unusedSimpArgs false
open Go.RowKit

set_option maxHeartbeats 2000000 in
theorem copyOfBoard_c (f e : Int) (sa : Option Addr) (sn sc : Nat) (la : Option Addr) (ln lc : Nat) (ta : Option Addr) (tn tc : Nat) (sg : List (List Int)) (li ls : List Int) (w : World) (hs : sg.length = sn) (hsn : sn ≤ 1000) (hl : li.length = ln) (hln : ln ≤ 1000) (ht : ls.length = tn) (htn : tn ≤ 1000) (hrs : RdNN w sa sg) (hrl : Rd w la li) (hrt : Rd w ta ls) (hsl : ∀ l ∈ sg, l.length ≤ 1000) (hlz : la = none → ln = 0 ∧ lc = 0) (htz : ta = none → tn = 0 ∧ tc = 0) :
    Calls Try.prog 68 #[.agg #[.int .i64 f, .int .i64 e, .slice sa sn sc, .slice la ln lc, .slice ta tn tc]] w fun x w' => ∃ sa' sc' la' lc' ta' tc', x = .returned (.agg #[.int .i64 f, .int .i64 e, .slice sa' sn sc', .slice la' ln lc', .slice ta' tn tc']) ∧ OwnBd w' w.heap.size w'.heap.size (.slice sa' sn sc') (.slice la' ln lc') (.slice ta' tn tc') ⟨f, e, sg, li, ls⟩ ∧ Below w.heap.size w w' := by
  have HS : Hid (sg.length = sn) := hs
  have HL : Hid (li.length = ln) := hl
  have HT : Hid (ls.length = tn) := ht
  have HZ0 : Hid (X5 ((w.alloc (.cells #[.int .i64 f, .int .i64 e, .slice sa sn sc, .slice la ln lc, .slice ta tn tc] 29)).alloc (.cells #[.int .i64 0, .int .i64 0, .slice none 0 0, .slice none 0 0, .slice none 0 0] 29)) (w.heap.size + 1) (.int .i64 0) (.int .i64 0) (.slice none 0 0) (.slice none 0 0) (.slice none 0 0)) := x5_new _ _ _ _ _ _ 29 _ (by simp)
  have HO0 : Hid (X5 ((w.alloc (.cells #[.int .i64 f, .int .i64 e, .slice sa sn sc, .slice la ln lc, .slice ta tn tc] 29)).alloc (.cells #[.int .i64 0, .int .i64 0, .slice none 0 0, .slice none 0 0, .slice none 0 0] 29)) w.heap.size (.int .i64 f) (.int .i64 e) (.slice sa sn sc) (.slice la ln lc) (.slice ta tn tc)) := (x5_new w (.int .i64 f) (.int .i64 e) (.slice sa sn sc) (.slice la ln lc) (.slice ta tn tc) 29 w.heap.size rfl).later (balloc _ _)
  have HB0 : Hid (Below w.heap.size w ((w.alloc (.cells #[.int .i64 f, .int .i64 e, .slice sa sn sc, .slice la ln lc, .slice ta tn tc] 29)).alloc (.cells #[.int .i64 0, .int .i64 0, .slice none 0 0, .slice none 0 0, .slice none 0 0] 29))) := (balloc w _).alloc (balloc w _).size _
  have hz0 : ((w.alloc (.cells #[.int .i64 f, .int .i64 e, .slice sa sn sc, .slice la ln lc, .slice ta tn tc] 29)).alloc (.cells #[.int .i64 0, .int .i64 0, .slice none 0 0, .slice none 0 0, .slice none 0 0] 29)).heap.size = w.heap.size + 2 := by simp
  have HN0 : Hid (((w.alloc (.cells #[.int .i64 f, .int .i64 e, .slice sa sn sc, .slice la ln lc, .slice ta tn tc] 29)).alloc (.cells #[.int .i64 0, .int .i64 0, .slice none 0 0, .slice none 0 0, .slice none 0 0] 29)).heap.size = w.heap.size + 2) := hz0
  have q1 := eachII_c sa sn sc sg ((w.alloc (.cells #[.int .i64 f, .int .i64 e, .slice sa sn sc, .slice la ln lc, .slice ta tn tc] 29)).alloc (.cells #[.int .i64 0, .int .i64 0, .slice none 0 0, .slice none 0 0, .slice none 0 0] 29)) hs hsn (hrs.later HB0.out) hsl
  have q2 := fun wx h => copyOfInts_c la ln lc li wx hl (by omega) (hrl.later (w' := wx) h) hlz
  have q3 := fun wx h => copyOfInts_c ta tn tc ls wx ht (by omega) (hrt.later (w' := wx) h) htz
  clear hs hl ht hsl hrs hrl hrt hz0 hlz htz
  go_enter Try.func68, Try.ntmps68
  go_wp2_with fail
  refine q1.mono ?_
  clear q1
  rintro x w1 ⟨a1, c1, rfl, ho, hb⟩
  have HZn : Hid (X5 w1 (w.heap.size + 1) (.int .i64 0) (.int .i64 0) (.slice none 0 0) (.slice none 0 0) (.slice none 0 0)) := HZ0.out.later hb
  have HOn : Hid (X5 w1 w.heap.size (.int .i64 f) (.int .i64 e) (.slice sa sn sc) (.slice la ln lc) (.slice ta tn tc)) := HO0.out.later hb
  have HBn : Hid (Below w.heap.size w w1) := HB0.out.trans (hb.mono HB0.out.size)
  have hzn : ((w.alloc (.cells #[.int .i64 f, .int .i64 e, .slice sa sn sc, .slice la ln lc, .slice ta tn tc] 29)).alloc (.cells #[.int .i64 0, .int .i64 0, .slice none 0 0, .slice none 0 0, .slice none 0 0] 29)).heap.size ≤ w1.heap.size := hb.size
  have HZ1 : Hid (X5 (w1.setCell ⟨w.heap.size, 2, none⟩ (.slice a1 sn c1)) (w.heap.size + 1) (.int .i64 0) (.int .i64 0) (.slice none 0 0) (.slice none 0 0) (.slice none 0 0)) := HZn.out.other (by omega)
  have HO1 : Hid (X5 (w1.setCell ⟨w.heap.size, 2, none⟩ (.slice a1 sn c1)) w.heap.size (.int .i64 f) (.int .i64 e) (.slice a1 sn c1) (.slice la ln lc) (.slice ta tn tc)) := HOn.out.set2 _
  have HB1 : Hid (Below w.heap.size w (w1.setCell ⟨w.heap.size, 2, none⟩ (.slice a1 sn c1))) := HBn.out.setCell (by show w.heap.size ≤ w.heap.size; omega) _
  have hge : w1.heap.size ≤ (w1.setCell ⟨w.heap.size, 2, none⟩ (.slice a1 sn c1)).heap.size := (grown_setCell _ _ _ _).size
  have hS := ho.mono (lo' := w.heap.size + 2) (qq := fun k => w.heap.size + 2 ≤ k ∧ k < w1.heap.size) (by have := HN0.out; omega) (fun k h => by have := HN0.out; omega)
  have S1 : Hid (OwnIP (w1.setCell ⟨w.heap.size, 2, none⟩ (.slice a1 sn c1)) (w.heap.size + 2) (fun k => w.heap.size + 2 ≤ k ∧ k < w1.heap.size) (.slice a1 sn c1) sg) := hS.setBox (by omega) _
  have N1 : Hid (w.heap.size + 2 ≤ w1.heap.size) := by show _ ≤ _; have := HN0.out; omega
  obtain ⟨E1, hE⟩ : ∃ E, w1.setCell ⟨w.heap.size, 2, none⟩ (.slice a1 sn c1) = E := ⟨_, rfl⟩
  rw [hE] at HZ1 HO1 HB1 hge S1
  have M1 : Hid (w1.heap.size ≤ E1.heap.size) := hge
  obtain ⟨⟨x0, x1, x2, x3, x4⟩, _⟩ := HO1.out
  obtain ⟨⟨o0, o1, o2, o3, o4⟩, of⟩ := HOn.out
  have ofn := of 2
  clear of hge hzn ho hb HZn HBn hS
  clear HZ0 HO0 HB0
  go_wp2_with fail
  clear hE x0 x1 x2 x3 x4 o0 o1 o2 o3 o4 ofn HOn
  refine (q2 _ HB1.out).mono ?_
  clear q2
  rintro x w2 ⟨a2, c2, rfl, ho, hb⟩
  have HZn : Hid (X5 w2 (w.heap.size + 1) (.int .i64 0) (.int .i64 0) (.slice none 0 0) (.slice none 0 0) (.slice none 0 0)) := HZ1.out.later hb
  have HOn : Hid (X5 w2 w.heap.size (.int .i64 f) (.int .i64 e) (.slice a1 sn c1) (.slice la ln lc) (.slice ta tn tc)) := HO1.out.later hb
  have HBn : Hid (Below w.heap.size w w2) := HB1.out.trans (hb.mono HB1.out.size)
  have hzn : E1.heap.size ≤ w2.heap.size := hb.size
  have HZ2 : Hid (X5 (w2.setCell ⟨w.heap.size, 3, none⟩ (.slice a2 ln c2)) (w.heap.size + 1) (.int .i64 0) (.int .i64 0) (.slice none 0 0) (.slice none 0 0) (.slice none 0 0)) := HZn.out.other (by omega)
  have HO2 : Hid (X5 (w2.setCell ⟨w.heap.size, 3, none⟩ (.slice a2 ln c2)) w.heap.size (.int .i64 f) (.int .i64 e) (.slice a1 sn c1) (.slice a2 ln c2) (.slice ta tn tc)) := HOn.out.set3 _
  have HB2 : Hid (Below w.heap.size w (w2.setCell ⟨w.heap.size, 3, none⟩ (.slice a2 ln c2))) := HBn.out.setCell (by show w.heap.size ≤ w.heap.size; omega) _
  have hge : w2.heap.size ≤ (w2.setCell ⟨w.heap.size, 3, none⟩ (.slice a2 ln c2)).heap.size := (grown_setCell _ _ _ _).size
  have S2 : Hid (OwnIP (w2.setCell ⟨w.heap.size, 3, none⟩ (.slice a2 ln c2)) (w.heap.size + 2) (fun k => w.heap.size + 2 ≤ k ∧ k < w1.heap.size) (.slice a1 sn c1) sg) := (S1.out.later hb).setBox (by omega) _
  have hR := ho.mono (show w1.heap.size ≤ E1.heap.size from M1.out)
  have R2_2 : Hid (Own (w2.setCell ⟨w.heap.size, 3, none⟩ (.slice a2 ln c2)) w1.heap.size (.slice a2 ln c2) li) := hR.setBox (by have := N1.out; omega) _
  have I2 : Hid (∀ k, (Value.slice a2 ln c2).ownBlock = some k → w1.heap.size ≤ k ∧ k < w2.heap.size) := fun k h => ⟨own_block_ge hR k h, (World.ownsRow.lt ho k h).2⟩
  have N2 : Hid (w1.heap.size ≤ w2.heap.size ∧ w.heap.size + 2 ≤ w2.heap.size) := by show _ ∧ _; have h8 := N1.out; have h9 := M1.out; omega
  obtain ⟨E2, hE⟩ : ∃ E, w2.setCell ⟨w.heap.size, 3, none⟩ (.slice a2 ln c2) = E := ⟨_, rfl⟩
  rw [hE] at HZ2 HO2 HB2 hge S2 R2_2
  have M2 : Hid (w2.heap.size ≤ E2.heap.size) := hge
  obtain ⟨⟨x0, x1, x2, x3, x4⟩, _⟩ := HO2.out
  obtain ⟨⟨o0, o1, o2, o3, o4⟩, of⟩ := HOn.out
  have ofn := of 3
  clear of hge hzn ho hb HZn HBn hR
  clear HZ1 HO1 HB1 S1
  go_wp2_with fail
  clear hE x0 x1 x2 x3 x4 o0 o1 o2 o3 o4 ofn HOn
  refine (q3 _ HB2.out).mono ?_
  clear q3
  rintro x w3 ⟨a3, c3, rfl, ho, hb⟩
  have HZn : Hid (X5 w3 (w.heap.size + 1) (.int .i64 0) (.int .i64 0) (.slice none 0 0) (.slice none 0 0) (.slice none 0 0)) := HZ2.out.later hb
  have HOn : Hid (X5 w3 w.heap.size (.int .i64 f) (.int .i64 e) (.slice a1 sn c1) (.slice a2 ln c2) (.slice ta tn tc)) := HO2.out.later hb
  have HBn : Hid (Below w.heap.size w w3) := HB2.out.trans (hb.mono HB2.out.size)
  have hzn : E2.heap.size ≤ w3.heap.size := hb.size
  have HZ3 : Hid (X5 (w3.setCell ⟨w.heap.size, 4, none⟩ (.slice a3 tn c3)) (w.heap.size + 1) (.int .i64 0) (.int .i64 0) (.slice none 0 0) (.slice none 0 0) (.slice none 0 0)) := HZn.out.other (by omega)
  have HO3 : Hid (X5 (w3.setCell ⟨w.heap.size, 4, none⟩ (.slice a3 tn c3)) w.heap.size (.int .i64 f) (.int .i64 e) (.slice a1 sn c1) (.slice a2 ln c2) (.slice a3 tn c3)) := HOn.out.set4 _
  have HB3 : Hid (Below w.heap.size w (w3.setCell ⟨w.heap.size, 4, none⟩ (.slice a3 tn c3))) := HBn.out.setCell (by show w.heap.size ≤ w.heap.size; omega) _
  have hge : w3.heap.size ≤ (w3.setCell ⟨w.heap.size, 4, none⟩ (.slice a3 tn c3)).heap.size := (grown_setCell _ _ _ _).size
  have S3 : Hid (OwnIP (w3.setCell ⟨w.heap.size, 4, none⟩ (.slice a3 tn c3)) (w.heap.size + 2) (fun k => w.heap.size + 2 ≤ k ∧ k < w1.heap.size) (.slice a1 sn c1) sg) := (S2.out.later hb).setBox (by omega) _
  have R2_3 : Hid (Own (w3.setCell ⟨w.heap.size, 4, none⟩ (.slice a3 tn c3)) w1.heap.size (.slice a2 ln c2) li) := (R2_2.out.later hb).setBox (by have := N1.out; omega) _
  have hR := ho.mono (show w2.heap.size ≤ E2.heap.size from M2.out)
  have R3_3 : Hid (Own (w3.setCell ⟨w.heap.size, 4, none⟩ (.slice a3 tn c3)) w2.heap.size (.slice a3 tn c3) ls) := hR.setBox (by have := N2.out; omega) _
  have I3 : Hid (∀ k, (Value.slice a3 tn c3).ownBlock = some k → w2.heap.size ≤ k ∧ k < w3.heap.size) := fun k h => ⟨own_block_ge hR k h, (World.ownsRow.lt ho k h).2⟩
  have N3 : Hid (w2.heap.size ≤ w3.heap.size ∧ w.heap.size + 2 ≤ w3.heap.size) := by show _ ∧ _; have h8 := N2.out; have h9 := M2.out; omega
  obtain ⟨E3, hE⟩ : ∃ E, w3.setCell ⟨w.heap.size, 4, none⟩ (.slice a3 tn c3) = E := ⟨_, rfl⟩
  rw [hE] at HZ3 HO3 HB3 hge S3 R2_3 R3_3
  have M3 : Hid (w3.heap.size ≤ E3.heap.size) := hge
  obtain ⟨⟨x0, x1, x2, x3, x4⟩, _⟩ := HO3.out
  obtain ⟨⟨o0, o1, o2, o3, o4⟩, of⟩ := HOn.out
  have ofn := of 4
  clear of hge hzn ho hb HZn HBn hR
  clear HZ2 HO2 HB2 S2 R2_2
  have hZF := (((((HZ3.out.set0 (.int .i64 f)).set1 (.int .i64 e)).set2 (.slice a1 sn c1)).set3 (.slice a2 ln c2)).set4 (.slice a3 tn c3))
  have hBF : Below w.heap.size w (((((E3.setCell ⟨w.heap.size + 1, 0, none⟩ (.int .i64 f)).setCell ⟨w.heap.size + 1, 1, none⟩ (.int .i64 e)).setCell ⟨w.heap.size + 1, 2, none⟩ (.slice a1 sn c1)).setCell ⟨w.heap.size + 1, 3, none⟩ (.slice a2 ln c2)).setCell ⟨w.heap.size + 1, 4, none⟩ (.slice a3 tn c3)) := (((((HB3.out.setCell (by show w.heap.size ≤ w.heap.size + 1; omega) _).setCell (by show w.heap.size ≤ w.heap.size + 1; omega) _).setCell (by show w.heap.size ≤ w.heap.size + 1; omega) _).setCell (by show w.heap.size ≤ w.heap.size + 1; omega) _).setCell (by show w.heap.size ≤ w.heap.size + 1; omega) _)
  have hSF := (((((S3.out.setBox (r := w.heap.size + 1) (j := 0) (by omega) (.int .i64 f)).setBox (r := w.heap.size + 1) (j := 1) (by omega) (.int .i64 e)).setBox (r := w.heap.size + 1) (j := 2) (by omega) (.slice a1 sn c1)).setBox (r := w.heap.size + 1) (j := 3) (by omega) (.slice a2 ln c2)).setBox (r := w.heap.size + 1) (j := 4) (by omega) (.slice a3 tn c3))
  have hR2 := (((((R2_3.out.setBox (r := w.heap.size + 1) (j := 0) (by have := N1.out; omega) (.int .i64 f)).setBox (r := w.heap.size + 1) (j := 1) (by have := N1.out; omega) (.int .i64 e)).setBox (r := w.heap.size + 1) (j := 2) (by have := N1.out; omega) (.slice a1 sn c1)).setBox (r := w.heap.size + 1) (j := 3) (by have := N1.out; omega) (.slice a2 ln c2)).setBox (r := w.heap.size + 1) (j := 4) (by have := N1.out; omega) (.slice a3 tn c3))
  have hR3 := (((((R3_3.out.setBox (r := w.heap.size + 1) (j := 0) (by have := N2.out; omega) (.int .i64 f)).setBox (r := w.heap.size + 1) (j := 1) (by have := N2.out; omega) (.int .i64 e)).setBox (r := w.heap.size + 1) (j := 2) (by have := N2.out; omega) (.slice a1 sn c1)).setBox (r := w.heap.size + 1) (j := 3) (by have := N2.out; omega) (.slice a2 ln c2)).setBox (r := w.heap.size + 1) (j := 4) (by have := N2.out; omega) (.slice a3 tn c3))
  have hsz : E3.heap.size ≤ (((((E3.setCell ⟨w.heap.size + 1, 0, none⟩ (.int .i64 f)).setCell ⟨w.heap.size + 1, 1, none⟩ (.int .i64 e)).setCell ⟨w.heap.size + 1, 2, none⟩ (.slice a1 sn c1)).setCell ⟨w.heap.size + 1, 3, none⟩ (.slice a2 ln c2)).setCell ⟨w.heap.size + 1, 4, none⟩ (.slice a3 tn c3)).heap.size := by simp
  obtain ⟨⟨u0, u1, u2, u3, u4⟩, uf⟩ := HZ3.out
  have uf0 := uf 0
  have uf1 := uf 1
  have uf2 := uf 2
  have uf3 := uf 3
  have uf4 := uf 4
  obtain ⟨FW, hFW⟩ : ∃ F, (((((E3.setCell ⟨w.heap.size + 1, 0, none⟩ (.int .i64 f)).setCell ⟨w.heap.size + 1, 1, none⟩ (.int .i64 e)).setCell ⟨w.heap.size + 1, 2, none⟩ (.slice a1 sn c1)).setCell ⟨w.heap.size + 1, 3, none⟩ (.slice a2 ln c2)).setCell ⟨w.heap.size + 1, 4, none⟩ (.slice a3 tn c3)) = F := ⟨_, rfl⟩
  rw [hFW] at hZF hBF hSF hR2 hR3 hsz
  obtain ⟨⟨t0, t1, t2, t3, t4⟩, _⟩ := hZF
  have HBF : Hid (Below w.heap.size w FW) := hBF
  have HOB : Hid (OwnBd FW w.heap.size FW.heap.size (.slice a1 sn c1) (.slice a2 ln c2) (.slice a3 tn c3) ⟨f, e, sg, li, ls⟩) := by
    have n1 := N1.out
    have n2 := N2.out
    have n3 := N3.out
    have m3 := M3.out
    refine ⟨⟨_, hSF.mono (by omega) (fun _ h => h), fun k hk => by omega, fun k h => ?_, fun k h => ?_⟩, hR2.mono (by omega), hR3.mono (by omega), ?_⟩
    · have := I2.out k h; omega
    · have := I3.out k h; omega
    · exact own_sep I2.out I3.out (by omega)
  clear hBF hSF hR2 hR3 uf HZ3 HO3 HB3 S3 R2_3 R3_3
  go_wp2
  refine bodyPost_ret (v := .agg #[.int .i64 f, .int .i64 e, .slice a1 sn c1, .slice a2 ln c2, .slice a3 tn c3]) (by simp [results, Try.results68, go_sem, t0, t1, t2, t3, t4]; try rfl) rfl ?_
  exact ⟨_, _, _, _, _, _, rfl, HOB.out, HBF.out⟩

end Go.Proofs.Ytaokmjbhgkfnfaa

/- The law on SayAt, walked: it answers true at every argument and turns nothing that was there. -/
import Derived.Test.YtheagikallnppaaSS15B
namespace Go.Proofs.Ytheagikallnppaa
set_option linter.unusedVariables false
set_option maxRecDepth 1000000
set_option linter.unusedSimpArgs false
open Go.RowKit

set_option maxHeartbeats 16000000 in
theorem lawSayAt_c (f : Int) (sa : Option Addr) (sn sc : Nat) (la : Option Addr) (ln lc : Nat) (ps : List (List Int)) (cs : List Int) (seat who word : Int) (w : World) (hs : ps.length = sn) (hsn0 : sn ≤ 9223372036854775807) (hl : cs.length = ln) (hln0 : ln ≤ 9223372036854775807) (hrs : RdII w sa ps) (hrl : Rd w la cs) (hsl0 : ∀ l ∈ ps, l.length ≤ 9223372036854775807) (hf0 : -9223372036854775808 ≤ f) (hf1 : f ≤ 9223372036854775807) :
    Calls Try.prog 6 #[.agg #[.int .i64 f, .slice sa sn sc, .slice la ln lc], .int .i64 seat, .int .i64 who, .int .i64 word] w fun e w' => e = .returned (.bool true) ∧ Below w.heap.size w w' := by
  obtain ⟨r0, hv⟩ : ∃ r, saV ⟨f, ps, cs⟩ seat who word = r := ⟨_, rfl⟩
  obtain ⟨fb, hF⟩ : ∃ fb, saB ⟨f, ps, cs⟩ seat who word = fb := ⟨_, rfl⟩
  have HQS : Hid (∀ sx sxc lx lxc wx, RdT wx sx sn sxc lx ln lxc ⟨f, ps, cs⟩ → Calls Try.prog 26 #[.agg #[.int .i64 f, .slice sx sn sxc, .slice lx ln lxc], .int .i64 seat, .int .i64 who, .int .i64 word] wx fun e w' => e = .returned (.tuple #[.int .i64 r0, .bool fb]) ∧ Below wx.heap.size wx w') := fun sx sxc lx lxc wx h => by rw [← hv, ← hF]; exact specSayAt_c sx sn sxc lx ln lxc ⟨f, ps, cs⟩ seat who word wx h
  have HQI : Hid (∀ sx sxc lx lxc wx, RdT wx sx sn sxc lx ln lxc ⟨f, ps, cs⟩ → Calls Try.prog 20 #[.agg #[.int .i64 f, .slice sx sn sxc, .slice lx ln lxc], .int .i64 seat, .int .i64 who, .int .i64 word] wx fun e w' => e = .returned (.tuple #[.int .i64 r0, .bool fb]) ∧ Below wx.heap.size wx w') := fun sx sxc lx lxc wx h => by rw [← hv, ← hF]; exact implSayAt_c sx sn sxc lx ln lxc ⟨f, ps, cs⟩ seat who word wx h
  have hrr : (r0 != r0) = false := by simp
  have hfb : (fb != fb) = false := by simp
  clear hv hF
  have HS : Hid (ps.length = sn) := hs
  have HL : Hid (cs.length = ln) := hl
  have HSL0 : Hid (∀ l ∈ ps, l.length ≤ 9223372036854775807) := hsl0
  have HR0RS : Hid (∀ wx, Below w.heap.size w wx → RdII wx sa ps) := fun wx h => hrs.later h
  have HR0RL : Hid (∀ wx, Below w.heap.size w wx → Rd wx la cs) := fun wx h => hrl.later h
  clear hs hl hsl0
  have HB_0 : Hid (Below w.heap.size w w) := Below.refl _ _
  have RS_0 : Hid (RdII w sa ps) := hrs
  have RL_0 : Hid (Rd w la cs) := hrl
  clear hrs hrl
  have hHB := HB_0.out.alloc HB_0.out.size (.cells #[.int .i64 f, .slice sa sn sc, .slice la ln lc] 50)
  have hRS := RS_0.out.later (balloc w (.cells #[.int .i64 f, .slice sa sn sc, .slice la ln lc] 50))
  have hRL := RL_0.out.later (balloc w (.cells #[.int .i64 f, .slice sa sn sc, .slice la ln lc] 50))
  have hA := x3_new w (.int .i64 f) (.slice sa sn sc) (.slice la ln lc) 50 w.heap.size rfl
  have hz : (w.alloc (.cells #[.int .i64 f, .slice sa sn sc, .slice la ln lc] 50)).heap.size = w.heap.size + 1 := by simp
  obtain ⟨w1, hV1⟩ : ∃ V, w.alloc (.cells #[.int .i64 f, .slice sa sn sc, .slice la ln lc] 50) = V := ⟨_, rfl⟩
  rw [hV1] at hHB hRS hRL hA hz
  have HB_1 : Hid (Below w.heap.size w w1) := hHB
  have RS_1 : Hid (RdII w1 sa ps) := hRS
  have RL_1 : Hid (Rd w1 la cs) := hRL
  have A_1 : Hid (X3 w1 w.heap.size (.int .i64 f) (.slice sa sn sc) (.slice la ln lc)) := hA
  have z1 : w.heap.size + 1 ≤ w1.heap.size := by omega
  clear HB_0 RS_0 RL_0 hHB hRS hRL hA hz
  go_enter Try.func6, Try.ntmps6
  obtain ⟨⟨Aq0, Aq1, Aq2⟩, Af⟩ := id (A_1.out)
  clear Af
  go_wp2_with fail
  clear hV1
  refine (szTable_c f sa sn sc la ln lc ps _ HS.out hsn0 hln0 RS_1.out HSL0.out).mono ?_
  clear Aq0 Aq1 Aq2
  rintro x w2 ⟨r, rfl, hr2, hb⟩
  have hB : Below w1.heap.size w1 w2 := hb
  have HB_2 : Hid (Below w.heap.size w w2) := HB_1.out.trans (hB.mono HB_1.out.size)
  have RS_2 : Hid (RdII w2 sa ps) := RS_1.out.later hB
  have RL_2 : Hid (Rd w2 la cs) := RL_1.out.later hB
  have A_2 : Hid (X3 w2 w.heap.size (.int .i64 f) (.slice sa sn sc) (.slice la ln lc)) := A_1.out.later hB
  have z2 : w1.heap.size ≤ w2.heap.size := hB.size
  clear hb hB HB_1 RS_1 RL_1 A_1
  by_cases hr0 : r < 0
  · clear hr2
    go_wp2
    go_ret
    exact ⟨rfl, HB_2.out⟩
  obtain ⟨hsn, hln, hsl⟩ := hr2 (by omega)
  have HSL : Hid (∀ l ∈ ps, l.length ≤ 1048576) := hsl
  have hrn : ¬ r < 0 := hr0
  clear hsl hr0 hr2
  have HSM : Hid (SmallTb ⟨f, ps, cs⟩) := (⟨by show ps.length ≤ _; rw [HS.out]; exact hsn, by show cs.length ≤ _; rw [HL.out]; exact hln, HSL.out⟩ : SmallTb ⟨f, ps, cs⟩)
  obtain ⟨⟨Aq0, Aq1, Aq2⟩, Af⟩ := id (A_2.out)
  clear Af
  go_wp2_with fail
  refine (toTable_c f sa sn sc la ln lc ps cs _ HS.out hsn HL.out hln RS_2.out RL_2.out HSL.out).mono ?_
  clear Aq0 Aq1 Aq2
  rintro e w3 ⟨sa1, sc1, la1, lc1, rfl, ho, hb⟩
  have hB : Below w2.heap.size w2 w3 := hb
  have HB_3 : Hid (Below w.heap.size w w3) := HB_2.out.trans (hB.mono HB_2.out.size)
  have RS_3 : Hid (RdII w3 sa ps) := RS_2.out.later hB
  have RL_3 : Hid (Rd w3 la cs) := RL_2.out.later hB
  have A_3 : Hid (X3 w3 w.heap.size (.int .i64 f) (.slice sa sn sc) (.slice la ln lc)) := A_2.out.later hB
  have z3 : w2.heap.size ≤ w3.heap.size := hB.size
  have B1_3 : Hid (OwnTb w3 w2.heap.size w3.heap.size (.slice sa1 sn sc1) (.slice la1 ln lc1) ⟨f, ps, cs⟩) := ho
  clear hb hB HB_2 RS_2 RL_2 A_2 ho
  go_wp2_with fail
  refine (HQS.out sa1 sc1 la1 lc1 _ (rdT_of HSM.out B1_3.out.rd)).mono ?_
  rintro e w4 ⟨rfl, hb⟩
  have hB : Below w3.heap.size w3 w4 := hb
  have HB_4 : Hid (Below w.heap.size w w4) := HB_3.out.trans (hB.mono HB_3.out.size)
  have RS_4 : Hid (RdII w4 sa ps) := RS_3.out.later hB
  have RL_4 : Hid (Rd w4 la cs) := RL_3.out.later hB
  have A_4 : Hid (X3 w4 w.heap.size (.int .i64 f) (.slice sa sn sc) (.slice la ln lc)) := A_3.out.later hB
  have z4 : w3.heap.size ≤ w4.heap.size := hB.size
  clear hb hB HB_3 RS_3 RL_3 A_3 B1_3 
  obtain ⟨⟨Aq0, Aq1, Aq2⟩, Af⟩ := id (A_4.out)
  clear Af
  go_wp2_with fail
  refine (toTable_c f sa sn sc la ln lc ps cs _ HS.out hsn HL.out hln RS_4.out RL_4.out HSL.out).mono ?_
  clear Aq0 Aq1 Aq2
  rintro e w5 ⟨sa2, sc2, la2, lc2, rfl, ho, hb⟩
  have hB : Below w4.heap.size w4 w5 := hb
  have HB_5 : Hid (Below w.heap.size w w5) := HB_4.out.trans (hB.mono HB_4.out.size)
  have RS_5 : Hid (RdII w5 sa ps) := RS_4.out.later hB
  have RL_5 : Hid (Rd w5 la cs) := RL_4.out.later hB
  have A_5 : Hid (X3 w5 w.heap.size (.int .i64 f) (.slice sa sn sc) (.slice la ln lc)) := A_4.out.later hB
  have z5 : w4.heap.size ≤ w5.heap.size := hB.size
  have B2_5 : Hid (OwnTb w5 w4.heap.size w5.heap.size (.slice sa2 sn sc2) (.slice la2 ln lc2) ⟨f, ps, cs⟩) := ho
  clear hb hB HB_4 RS_4 RL_4 A_4 ho
  have hHB := HB_5.out.alloc HB_5.out.size (.cells #[.int .i64 f, .slice sa2 sn sc2, .slice la2 ln lc2] 26)
  have hRS := RS_5.out.later (balloc w5 (.cells #[.int .i64 f, .slice sa2 sn sc2, .slice la2 ln lc2] 26))
  have hRL := RL_5.out.later (balloc w5 (.cells #[.int .i64 f, .slice sa2 sn sc2, .slice la2 ln lc2] 26))
  have hA := A_5.out.later (balloc w5 (.cells #[.int .i64 f, .slice sa2 sn sc2, .slice la2 ln lc2] 26))
  have hB2 := B2_5.out.later (balloc w5 (.cells #[.int .i64 f, .slice sa2 sn sc2, .slice la2 ln lc2] 26))
  have hY := x3_new w5 (.int .i64 f) (.slice sa2 sn sc2) (.slice la2 ln lc2) 26 w5.heap.size rfl
  have hz : (w5.alloc (.cells #[.int .i64 f, .slice sa2 sn sc2, .slice la2 ln lc2] 26)).heap.size = w5.heap.size + 1 := by simp
  obtain ⟨w6, hV6⟩ : ∃ V, w5.alloc (.cells #[.int .i64 f, .slice sa2 sn sc2, .slice la2 ln lc2] 26) = V := ⟨_, rfl⟩
  rw [hV6] at hHB hRS hRL hA hB2 hY hz
  have HB_6 : Hid (Below w.heap.size w w6) := hHB
  have RS_6 : Hid (RdII w6 sa ps) := hRS
  have RL_6 : Hid (Rd w6 la cs) := hRL
  have A_6 : Hid (X3 w6 w.heap.size (.int .i64 f) (.slice sa sn sc) (.slice la ln lc)) := hA
  have B2_6 : Hid (OwnTb w6 w4.heap.size w5.heap.size (.slice sa2 sn sc2) (.slice la2 ln lc2) ⟨f, ps, cs⟩) := hB2
  have Y_6 : Hid (X3 w6 w5.heap.size (.int .i64 f) (.slice sa2 sn sc2) (.slice la2 ln lc2)) := hY
  have z6 : w5.heap.size + 1 ≤ w6.heap.size := by omega
  clear HB_5 RS_5 RL_5 A_5 B2_5 hHB hRS hRL hA hB2 hY hz
  obtain ⟨⟨Yq0, Yq1, Yq2⟩, Yf⟩ := id (Y_6.out)
  clear Yf
  go_wp2_with fail
  clear hV6
  refine (HQI.out sa2 sc2 la2 lc2 _ (rdT_of HSM.out B2_6.out.rd)).mono ?_
  clear Yq0 Yq1 Yq2
  rintro e w7 ⟨rfl, hb⟩
  have hB : Below w6.heap.size w6 w7 := hb
  have HB_7 : Hid (Below w.heap.size w w7) := HB_6.out.trans (hB.mono HB_6.out.size)
  have RS_7 : Hid (RdII w7 sa ps) := RS_6.out.later hB
  have RL_7 : Hid (Rd w7 la cs) := RL_6.out.later hB
  have A_7 : Hid (X3 w7 w.heap.size (.int .i64 f) (.slice sa sn sc) (.slice la ln lc)) := A_6.out.later hB
  have B2_7 : Hid (OwnTb w7 w4.heap.size w5.heap.size (.slice sa2 sn sc2) (.slice la2 ln lc2) ⟨f, ps, cs⟩) := B2_6.out.later hB
  have Y_7 : Hid (X3 w7 w5.heap.size (.int .i64 f) (.slice sa2 sn sc2) (.slice la2 ln lc2)) := Y_6.out.later hB
  have z7 : w6.heap.size ≤ w7.heap.size := hB.size
  clear hb hB HB_6 RS_6 RL_6 A_6 B2_6 Y_6 
  obtain ⟨⟨Aq0, Aq1, Aq2⟩, Af⟩ := id (A_7.out)
  clear Af
  obtain ⟨⟨Yq0, Yq1, Yq2⟩, Yf⟩ := id (Y_7.out)
  clear Yf
  go_wp2_with fail
  refine wp_region_held_drew (S := (fun X => (X.cell? ⟨w5.heap.size, 0, none⟩ = some (.int .i64 f) ∧ X.cell? ⟨w5.heap.size, 1, none⟩ = some (.slice sa2 sn sc2) ∧ X.cell? ⟨w5.heap.size, 2, none⟩ = some (.slice la2 ln lc2)) ∧ (X.cell? ⟨w.heap.size, 0, none⟩ = some (.int .i64 f) ∧ X.cell? ⟨w.heap.size, 1, none⟩ = some (.slice sa sn sc) ∧ X.cell? ⟨w.heap.size, 2, none⟩ = some (.slice la ln lc)))) (by kernel_rfl) ?_ (fun hHeld => ?_)
  · exact ⟨(Y_7.out.later (Below.refl _ _).drew).1, (A_7.out.later (Below.refl _ _).drew).1⟩
  clear Aq0 Aq1 Aq2
  clear Yq0 Yq1 Yq2
  obtain ⟨D0, hD0⟩ : ∃ D, w7.drew = D := ⟨_, rfl⟩
  have hb0 : Below w7.heap.size w7 D0 := by rw [← hD0]; exact (Below.refl _ _).drew
  rw [hD0] at hHeld ⊢
  have HD0 : Hid (Below w7.heap.size w7 D0) := hb0
  clear hb0 hD0
  refine takeSG15 (i := 0) (oi := _) (v := ?_) (d := some 47) rfl (by kernel_rfl) (by kernel_rfl) (by kernel_rfl) (by kernel_rfl) (fun _ _ _ h => h) (Or.inl ⟨by rfl, ?_⟩) (by assumption) ?_
  rotate_left
  · (intro w hSw; (try dsimp only at hSw); go_simp <;> with_reducible rfl)
  try simp only [Act.put, List.setIfInBounds_toArray, List.set_cons_zero, List.set_cons_succ]
  refine takeSG15 (i := 1) (oi := _) (v := ?_) (d := some 48) rfl (by kernel_rfl) (by kernel_rfl) (by kernel_rfl) (by kernel_rfl) (fun _ _ _ h => h) (Or.inl ⟨by rfl, ?_⟩) (by assumption) ?_
  rotate_left
  · (intro w hSw; (try dsimp only at hSw); go_simp <;> with_reducible rfl)
  try simp only [Act.put, List.setIfInBounds_toArray, List.set_cons_zero, List.set_cons_succ]
  refine wpAnyH_ready (rs := [2]) (by kernel_rfl) (by simp) ?_
  refine AllReadyH.cons (o := _) rfl (fun K hK => ?_) AllReadyH.nil
  go_simp
  refine (toTable_c f sa sn sc la ln lc ps cs _ HS.out hsn HL.out hln (RS_7.out.later HD0.out) (RL_7.out.later HD0.out) HSL.out).mono ?_
  rintro x D1 ⟨sa3, sc3, la3, lc3, rfl, ho, hb⟩
  have HD1 : Hid (Below w7.heap.size w7 D1) := HD0.out.trans (hb.mono HD0.out.size)
  have HN1 : Hid (RdTb D1 sa3 sn sc3 la3 ln lc3 ⟨f, ps, cs⟩) := ho.rd
  clear ho hb HD0
  refine hK.out _ _ ?_ (fun hHeld => ?_)
  · exact ⟨(Y_7.out.later HD1.out).1, (A_7.out.later HD1.out).1⟩
  clear hK K
  try simp only [Act.put, List.setIfInBounds_toArray, List.set_cons_zero, List.set_cons_succ]
  refine wpAnyH_ready (rs := [3]) (by kernel_rfl) (by simp) ?_
  refine AllReadyH.cons (o := _) rfl (fun K hK => ?_) AllReadyH.nil
  go_simp
  refine (eqTable_c f sa2 sn sc2 la2 ln lc2 sa3 sc3 la3 lc3 ⟨f, ps, cs⟩ _ HSM.out (B2_7.out.later HD1.out).rd HN1.out).mono ?_
  rintro x w9 ⟨rfl, hb⟩
  have HD2 : Hid (Below w7.heap.size w7 w9) := HD1.out.trans (hb.mono HD1.out.size)
  clear hb HD1 HN1
  refine hK.out _ _ ?_ (fun hHeld => ?_)
  · exact ⟨(Y_7.out.later HD2.out).1, (A_7.out.later HD2.out).1⟩
  clear hK K
  try simp only [Act.put, List.setIfInBounds_toArray, List.set_cons_zero, List.set_cons_succ]
  refine takeSG15 (i := 4) (oi := _) (v := ?_) (d := some 51) rfl (by kernel_rfl) (by kernel_rfl) (by kernel_rfl) (by kernel_rfl) (fun _ _ _ h => h) (Or.inl ⟨by rfl, ?_⟩) (by assumption) ?_
  rotate_left
  · (intro w hSw; (try dsimp only at hSw); go_simp <;> with_reducible rfl)
  try simp only [Act.put, List.setIfInBounds_toArray, List.set_cons_zero, List.set_cons_succ]
  refine wpAnyH_done (by kernel_rfl) ?_ _
  clear hHeld
  have HB_9 : Hid (Below w.heap.size w w9) := HB_7.out.trans (HD2.out.mono HB_7.out.size)
  have RS_9 : Hid (RdII w9 sa ps) := RS_7.out.later HD2.out
  have RL_9 : Hid (Rd w9 la cs) := RL_7.out.later HD2.out
  have A_9 : Hid (X3 w9 w.heap.size (.int .i64 f) (.slice sa sn sc) (.slice la ln lc)) := A_7.out.later HD2.out
  have B2_9 : Hid (OwnTb w9 w4.heap.size w5.heap.size (.slice sa2 sn sc2) (.slice la2 ln lc2) ⟨f, ps, cs⟩) := B2_7.out.later HD2.out
  have Y_9 : Hid (X3 w9 w5.heap.size (.int .i64 f) (.slice sa2 sn sc2) (.slice la2 ln lc2)) := Y_7.out.later HD2.out
  have z9 : w7.heap.size ≤ w9.heap.size := HD2.out.size
  clear HD2 HB_7 RS_7 RL_7 A_7 B2_7 Y_7
  go_wp2
  go_ret
  exact ⟨rfl, HB_9.out⟩

end Go.Proofs.Ytheagikallnppaa

/- The law on GroupsOf, walked: it answers true at every argument and turns nothing that was there. -/
import Derived.Test.YtheagikallnppaaGS15
namespace Go.Proofs.Ytheagikallnppaa
set_option linter.unusedVariables false
set_option maxRecDepth 1000000
set_option linter.unusedSimpArgs false
open Go.RowKit

theorem Rng.toP {lo hi : Nat} {w w' : World} (h : Rng lo hi w w') : RngP (fun k => lo ≤ k ∧ k < hi) w w' := ⟨h.os, h.tape, h.output, h.size, fun q hq ho => h.block q hq (by omega)⟩
theorem OwnIR.rngP {w w' : World} {lo hi : Nat} {pp : Nat → Prop} {v : Value} {xss : List (List Int)} (h : OwnIR w lo hi v xss) (hr : RngP pp w w') (hd : ∀ k, lo ≤ k → k < hi → ¬ pp k) : OwnIR w' lo hi v xss := by
  obtain ⟨vs, hl, ho, hi2, hs, h1, h2⟩ := h
  exact ⟨vs, hl, row_rngP ho hr (fun k e => hd k (World.ownsRow.lt ho k e).1 (h1 k e)), fun j hj => (hi2 j hj).rngP hr (fun k e => hd k (own_block_ge (hi2 j hj) k e) (h2 j hj k e)), hs, h1, h2⟩
theorem grpV_short (t : TbV) : (grpV t).length ≤ 6 ∧ ∀ x ∈ grpV t, x.length ≤ 1048576 := by
  unfold grpV
  split
  · rename_i h
    have g := goodTb_iff t h
    have h6 := g.s6
    refine ⟨by have := grpsL_length t t.s.toNat t.s.toNat; omega, fun x hx => ?_⟩
    unfold grpsL at hx
    obtain ⟨j, _, e⟩ := List.mem_map.1 hx
    rw [← e]
    have := grpL_length t t.s.toNat j
    omega
  · exact ⟨by simp, fun x hx => by simp at hx⟩

set_option maxHeartbeats 16000000 in
theorem lawGroups_c (f : Int) (sa : Option Addr) (sn sc : Nat) (la : Option Addr) (ln lc : Nat) (ps : List (List Int)) (cs : List Int) (w : World) (hs : ps.length = sn) (hsn0 : sn ≤ 9223372036854775807) (hl : cs.length = ln) (hln0 : ln ≤ 9223372036854775807) (hrs : RdII w sa ps) (hrl : Rd w la cs) (hsl0 : ∀ l ∈ ps, l.length ≤ 9223372036854775807) (hf0 : -9223372036854775808 ≤ f) (hf1 : f ≤ 9223372036854775807) :
    Calls Try.prog 12 #[.agg #[.int .i64 f, .slice sa sn sc, .slice la ln lc]] w fun e w' => e = .returned (.bool true) ∧ Below w.heap.size w w' := by
  obtain ⟨l, hl0⟩ : ∃ l, grpV ⟨f, ps, cs⟩ = l := ⟨_, rfl⟩
  obtain ⟨fb, hF⟩ : ∃ fb, goodTb ⟨f, ps, cs⟩ = fb := ⟨_, rfl⟩
  obtain ⟨q, hq⟩ : ∃ q, l.length = q := ⟨_, rfl⟩
  have hq6 : q ≤ 6 := by rw [← hq, ← hl0]; exact (grpV_short _).1
  have HLL : Hid (∀ x ∈ l, x.length ≤ 1048576) := by rw [← hl0]; exact (grpV_short _).2
  have HQS : Hid (∀ sx sxc lx lxc wx, RdT wx sx sn sxc lx ln lxc ⟨f, ps, cs⟩ → Calls Try.prog 34 #[.agg #[.int .i64 f, .slice sx sn sxc, .slice lx ln lxc]] wx fun r w' => ∃ a' c', r = .returned (.tuple #[.slice a' q c', .bool fb]) ∧ OwnIR w' wx.heap.size w'.heap.size (.slice a' q c') l ∧ Below wx.heap.size wx w') := fun sx sxc lx lxc wx h => by
    have := specGroups_c sx sn sxc lx ln lxc ⟨f, ps, cs⟩ wx h
    unfold TellII at this
    rw [hl0, hF, hq] at this
    refine this.mono ?_
    rintro r w' ⟨a', c', rfl, ho, hb⟩
    exact ⟨a', c', rfl, ho.toS.toR, hb⟩
  have HQI : Hid (∀ sx sxc lx lxc wx, RdT wx sx sn sxc lx ln lxc ⟨f, ps, cs⟩ → Calls Try.prog 33 #[.agg #[.int .i64 f, .slice sx sn sxc, .slice lx ln lxc]] wx fun r w' => ∃ a' c', r = .returned (.tuple #[.slice a' q c', .bool fb]) ∧ OwnIR w' wx.heap.size w'.heap.size (.slice a' q c') l ∧ Below wx.heap.size wx w') := fun sx sxc lx lxc wx h => by
    have := implGroups_c sx sn sxc lx ln lxc ⟨f, ps, cs⟩ wx h
    unfold TellII at this
    rw [hl0, hF, hq] at this
    refine this.mono ?_
    rintro r w' ⟨a', c', rfl, ho, hb⟩
    exact ⟨a', c', rfl, ho.toS.toR, hb⟩
  have HQ : Hid (l.length = q) := hq
  have hfb : (fb != fb) = false := by simp
  obtain ⟨Mn, hMn⟩ : ∃ M : Int, 1 + ((cum l q : Nat) : Int) = M := ⟨_, rfl⟩
  have HNG : Hid (1 + ((cum l q : Nat) : Int) = Mn) := hMn
  obtain ⟨Ma, hMa⟩ : ∃ M : Int, 1 + ((numT ⟨f, ps, cs⟩ : Nat) : Int) = M := ⟨_, rfl⟩
  have HNA : Hid (1 + ((numT ⟨f, ps, cs⟩ : Nat) : Int) = Ma) := hMa
  have hmn : ¬ Mn < 0 := by omega
  have hma : ¬ Ma < 0 := by omega
  have hmm : (Mn != Mn) = false := by simp
  clear hF hl0 hq hMn hMa
  have HS : Hid (ps.length = sn) := hs
  have HL : Hid (cs.length = ln) := hl
  have HSL0 : Hid (∀ l ∈ ps, l.length ≤ 9223372036854775807) := hsl0
  have HR0RS : Hid (∀ wx, Below w.heap.size w wx → RdII wx sa ps) := fun wx h => hrs.later h
  have HR0RL : Hid (∀ wx, Below w.heap.size w wx → Rd wx la cs) := fun wx h => hrl.later h
  clear hs hl hsl0
  have HB_0 : Hid (Below w.heap.size w w) := Below.refl _ _
  have RS_0 : Hid (RdII w sa ps) := hrs
  have RL_0 : Hid (Rd w la cs) := hrl
  clear hrs hrl
  have hHB := HB_0.out.alloc HB_0.out.size (.cells #[.int .i64 f, .slice sa sn sc, .slice la ln lc] 50)
  have hRS := RS_0.out.later (balloc w (.cells #[.int .i64 f, .slice sa sn sc, .slice la ln lc] 50))
  have hRL := RL_0.out.later (balloc w (.cells #[.int .i64 f, .slice sa sn sc, .slice la ln lc] 50))
  have hA := x3_new w (.int .i64 f) (.slice sa sn sc) (.slice la ln lc) 50 w.heap.size rfl
  have hz : (w.alloc (.cells #[.int .i64 f, .slice sa sn sc, .slice la ln lc] 50)).heap.size = w.heap.size + 1 := by simp
  obtain ⟨w1, hV1⟩ : ∃ V, w.alloc (.cells #[.int .i64 f, .slice sa sn sc, .slice la ln lc] 50) = V := ⟨_, rfl⟩
  rw [hV1] at hHB hRS hRL hA hz
  have HB_1 : Hid (Below w.heap.size w w1) := hHB
  have RS_1 : Hid (RdII w1 sa ps) := hRS
  have RL_1 : Hid (Rd w1 la cs) := hRL
  have A_1 : Hid (X3 w1 w.heap.size (.int .i64 f) (.slice sa sn sc) (.slice la ln lc)) := hA
  have z1 : w.heap.size + 1 ≤ w1.heap.size := by omega
  clear HB_0 RS_0 RL_0 hHB hRS hRL hA hz
  go_enter Try.func12, Try.ntmps12
  obtain ⟨⟨Aq0, Aq1, Aq2⟩, Af⟩ := id (A_1.out)
  clear Af
  go_wp2_with fail
  clear hV1
  refine (szTable_c f sa sn sc la ln lc ps _ HS.out hsn0 hln0 RS_1.out HSL0.out).mono ?_
  clear Aq0 Aq1 Aq2
  rintro x w2 ⟨r, rfl, hr2, hb⟩
  have hB : Below w1.heap.size w1 w2 := hb
  have HB_2 : Hid (Below w.heap.size w w2) := HB_1.out.trans (hB.mono HB_1.out.size)
  have RS_2 : Hid (RdII w2 sa ps) := RS_1.out.later hB
  have RL_2 : Hid (Rd w2 la cs) := RL_1.out.later hB
  have A_2 : Hid (X3 w2 w.heap.size (.int .i64 f) (.slice sa sn sc) (.slice la ln lc)) := A_1.out.later hB
  have z2 : w1.heap.size ≤ w2.heap.size := hB.size
  clear hb hB HB_1 RS_1 RL_1 A_1
  by_cases hr0 : r < 0
  · clear hr2
    go_wp2
    go_ret
    exact ⟨rfl, HB_2.out⟩
  obtain ⟨hsn, hln, hsl⟩ := hr2 (by omega)
  have HSL : Hid (∀ l ∈ ps, l.length ≤ 1048576) := hsl
  have hrn : ¬ r < 0 := hr0
  clear hsl hr0 hr2
  have HSM : Hid (SmallTb ⟨f, ps, cs⟩) := (⟨by show ps.length ≤ _; rw [HS.out]; exact hsn, by show cs.length ≤ _; rw [HL.out]; exact hln, HSL.out⟩ : SmallTb ⟨f, ps, cs⟩)
  obtain ⟨⟨Aq0, Aq1, Aq2⟩, Af⟩ := id (A_2.out)
  clear Af
  go_wp2_with fail
  refine (toTable_c f sa sn sc la ln lc ps cs _ HS.out hsn HL.out hln RS_2.out RL_2.out HSL.out).mono ?_
  clear Aq0 Aq1 Aq2
  rintro e w3 ⟨sa1, sc1, la1, lc1, rfl, ho, hb⟩
  have hB : Below w2.heap.size w2 w3 := hb
  have HB_3 : Hid (Below w.heap.size w w3) := HB_2.out.trans (hB.mono HB_2.out.size)
  have RS_3 : Hid (RdII w3 sa ps) := RS_2.out.later hB
  have RL_3 : Hid (Rd w3 la cs) := RL_2.out.later hB
  have A_3 : Hid (X3 w3 w.heap.size (.int .i64 f) (.slice sa sn sc) (.slice la ln lc)) := A_2.out.later hB
  have z3 : w2.heap.size ≤ w3.heap.size := hB.size
  have B1_3 : Hid (OwnTb w3 w2.heap.size w3.heap.size (.slice sa1 sn sc1) (.slice la1 ln lc1) ⟨f, ps, cs⟩) := ho
  clear hb hB HB_2 RS_2 RL_2 A_2 ho
  go_wp2_with fail
  refine (HQS.out sa1 sc1 la1 lc1 _ (rdT_of HSM.out B1_3.out.rd)).mono ?_
  rintro e w4 ⟨a1, c1, rfl, ho, hb⟩
  have hB : Below w3.heap.size w3 w4 := hb
  have HB_4 : Hid (Below w.heap.size w w4) := HB_3.out.trans (hB.mono HB_3.out.size)
  have RS_4 : Hid (RdII w4 sa ps) := RS_3.out.later hB
  have RL_4 : Hid (Rd w4 la cs) := RL_3.out.later hB
  have A_4 : Hid (X3 w4 w.heap.size (.int .i64 f) (.slice sa sn sc) (.slice la ln lc)) := A_3.out.later hB
  have z4 : w3.heap.size ≤ w4.heap.size := hB.size
  have W_4 : Hid (OwnIR w4 w3.heap.size w4.heap.size (Value.slice a1 q c1) (l)) := ho
  clear hb hB HB_3 RS_3 RL_3 A_3 B1_3 ho
  obtain ⟨⟨Aq0, Aq1, Aq2⟩, Af⟩ := id (A_4.out)
  clear Af
  go_wp2_with fail
  refine (toTable_c f sa sn sc la ln lc ps cs _ HS.out hsn HL.out hln RS_4.out RL_4.out HSL.out).mono ?_
  clear Aq0 Aq1 Aq2
  rintro e w5 ⟨sa2, sc2, la2, lc2, rfl, ho, hb⟩
  have hB : Below w4.heap.size w4 w5 := hb
  have HB_5 : Hid (Below w.heap.size w w5) := HB_4.out.trans (hB.mono HB_4.out.size)
  have RS_5 : Hid (RdII w5 sa ps) := RS_4.out.later hB
  have RL_5 : Hid (Rd w5 la cs) := RL_4.out.later hB
  have A_5 : Hid (X3 w5 w.heap.size (.int .i64 f) (.slice sa sn sc) (.slice la ln lc)) := A_4.out.later hB
  have W_5 : Hid (OwnIR w5 w3.heap.size w4.heap.size (Value.slice a1 q c1) (l)) := W_4.out.later hB
  have z5 : w4.heap.size ≤ w5.heap.size := hB.size
  have B2_5 : Hid (OwnTb w5 w4.heap.size w5.heap.size (.slice sa2 sn sc2) (.slice la2 ln lc2) ⟨f, ps, cs⟩) := ho
  clear hb hB HB_4 RS_4 RL_4 A_4 W_4 ho
  have hHB := HB_5.out.alloc HB_5.out.size (.cells #[.int .i64 f, .slice sa2 sn sc2, .slice la2 ln lc2] 26)
  have hRS := RS_5.out.later (balloc w5 (.cells #[.int .i64 f, .slice sa2 sn sc2, .slice la2 ln lc2] 26))
  have hRL := RL_5.out.later (balloc w5 (.cells #[.int .i64 f, .slice sa2 sn sc2, .slice la2 ln lc2] 26))
  have hA := A_5.out.later (balloc w5 (.cells #[.int .i64 f, .slice sa2 sn sc2, .slice la2 ln lc2] 26))
  have hW := W_5.out.later (balloc w5 (.cells #[.int .i64 f, .slice sa2 sn sc2, .slice la2 ln lc2] 26))
  have hB2 := B2_5.out.later (balloc w5 (.cells #[.int .i64 f, .slice sa2 sn sc2, .slice la2 ln lc2] 26))
  have hY := x3_new w5 (.int .i64 f) (.slice sa2 sn sc2) (.slice la2 ln lc2) 26 w5.heap.size rfl
  have hz : (w5.alloc (.cells #[.int .i64 f, .slice sa2 sn sc2, .slice la2 ln lc2] 26)).heap.size = w5.heap.size + 1 := by simp
  obtain ⟨w6, hV6⟩ : ∃ V, w5.alloc (.cells #[.int .i64 f, .slice sa2 sn sc2, .slice la2 ln lc2] 26) = V := ⟨_, rfl⟩
  rw [hV6] at hHB hRS hRL hA hW hB2 hY hz
  have HB_6 : Hid (Below w.heap.size w w6) := hHB
  have RS_6 : Hid (RdII w6 sa ps) := hRS
  have RL_6 : Hid (Rd w6 la cs) := hRL
  have A_6 : Hid (X3 w6 w.heap.size (.int .i64 f) (.slice sa sn sc) (.slice la ln lc)) := hA
  have W_6 : Hid (OwnIR w6 w3.heap.size w4.heap.size (Value.slice a1 q c1) (l)) := hW
  have B2_6 : Hid (OwnTb w6 w4.heap.size w5.heap.size (.slice sa2 sn sc2) (.slice la2 ln lc2) ⟨f, ps, cs⟩) := hB2
  have Y_6 : Hid (X3 w6 w5.heap.size (.int .i64 f) (.slice sa2 sn sc2) (.slice la2 ln lc2)) := hY
  have z6 : w5.heap.size + 1 ≤ w6.heap.size := by omega
  clear HB_5 RS_5 RL_5 A_5 W_5 B2_5 hHB hRS hRL hA hW hB2 hY hz
  obtain ⟨⟨Yq0, Yq1, Yq2⟩, Yf⟩ := id (Y_6.out)
  clear Yf
  go_wp2_with fail
  clear hV6
  refine (HQI.out sa2 sc2 la2 lc2 _ (rdT_of HSM.out B2_6.out.rd)).mono ?_
  clear Yq0 Yq1 Yq2
  rintro e w7 ⟨a2, c2, rfl, ho, hb⟩
  have hB : Below w6.heap.size w6 w7 := hb
  have HB_7 : Hid (Below w.heap.size w w7) := HB_6.out.trans (hB.mono HB_6.out.size)
  have RS_7 : Hid (RdII w7 sa ps) := RS_6.out.later hB
  have RL_7 : Hid (Rd w7 la cs) := RL_6.out.later hB
  have A_7 : Hid (X3 w7 w.heap.size (.int .i64 f) (.slice sa sn sc) (.slice la ln lc)) := A_6.out.later hB
  have W_7 : Hid (OwnIR w7 w3.heap.size w4.heap.size (Value.slice a1 q c1) (l)) := W_6.out.later hB
  have B2_7 : Hid (OwnTb w7 w4.heap.size w5.heap.size (.slice sa2 sn sc2) (.slice la2 ln lc2) ⟨f, ps, cs⟩) := B2_6.out.later hB
  have Y_7 : Hid (X3 w7 w5.heap.size (.int .i64 f) (.slice sa2 sn sc2) (.slice la2 ln lc2)) := Y_6.out.later hB
  have z7 : w6.heap.size ≤ w7.heap.size := hB.size
  have G_7 : Hid (OwnIR w7 w6.heap.size w7.heap.size (Value.slice a2 q c2) (l)) := ho
  clear hb hB HB_6 RS_6 RL_6 A_6 W_6 B2_6 Y_6 ho
  go_wp2_with fail
  refine (eqII_c a2 a1 q c2 c1 l _ HQ.out (by omega) HLL.out G_7.out.toS.rd' W_7.out.toS.rd').mono ?_
  rintro e w8 ⟨rfl, hb⟩
  have hB : Below w7.heap.size w7 w8 := hb
  have HB_8 : Hid (Below w.heap.size w w8) := HB_7.out.trans (hB.mono HB_7.out.size)
  have RS_8 : Hid (RdII w8 sa ps) := RS_7.out.later hB
  have RL_8 : Hid (Rd w8 la cs) := RL_7.out.later hB
  have A_8 : Hid (X3 w8 w.heap.size (.int .i64 f) (.slice sa sn sc) (.slice la ln lc)) := A_7.out.later hB
  have W_8 : Hid (OwnIR w8 w3.heap.size w4.heap.size (Value.slice a1 q c1) (l)) := W_7.out.later hB
  have B2_8 : Hid (OwnTb w8 w4.heap.size w5.heap.size (.slice sa2 sn sc2) (.slice la2 ln lc2) ⟨f, ps, cs⟩) := B2_7.out.later hB
  have Y_8 : Hid (X3 w8 w5.heap.size (.int .i64 f) (.slice sa2 sn sc2) (.slice la2 ln lc2)) := Y_7.out.later hB
  have G_8 : Hid (OwnIR w8 w6.heap.size w7.heap.size (Value.slice a2 q c2) (l)) := G_7.out.later hB
  have z8 : w7.heap.size ≤ w8.heap.size := hB.size
  clear hb hB HB_7 RS_7 RL_7 A_7 W_7 B2_7 Y_7 G_7 
  obtain ⟨⟨Aq0, Aq1, Aq2⟩, Af⟩ := id (A_8.out)
  clear Af
  obtain ⟨⟨Yq0, Yq1, Yq2⟩, Yf⟩ := id (Y_8.out)
  clear Yf
  go_wp2_with fail
  refine wp_region_held_drew (S := (fun X => (X.cell? ⟨w5.heap.size, 0, none⟩ = some (.int .i64 f) ∧ X.cell? ⟨w5.heap.size, 1, none⟩ = some (.slice sa2 sn sc2) ∧ X.cell? ⟨w5.heap.size, 2, none⟩ = some (.slice la2 ln lc2)) ∧ (X.cell? ⟨w.heap.size, 0, none⟩ = some (.int .i64 f) ∧ X.cell? ⟨w.heap.size, 1, none⟩ = some (.slice sa sn sc) ∧ X.cell? ⟨w.heap.size, 2, none⟩ = some (.slice la ln lc)))) (by kernel_rfl) ?_ (fun hHeld => ?_)
  · exact ⟨(Y_8.out.later (Below.refl _ _).drew).1, (A_8.out.later (Below.refl _ _).drew).1⟩
  clear Aq0 Aq1 Aq2
  clear Yq0 Yq1 Yq2
  obtain ⟨D0, hD0⟩ : ∃ D, w8.drew = D := ⟨_, rfl⟩
  have hb0 : Below w8.heap.size w8 D0 := by rw [← hD0]; exact (Below.refl _ _).drew
  rw [hD0] at hHeld ⊢
  have HD0 : Hid (Below w8.heap.size w8 D0) := hb0
  clear hb0 hD0
  refine takeSG15 (i := 0) (oi := _) (v := ?_) (d := some 41) rfl (by kernel_rfl) (by kernel_rfl) (by kernel_rfl) (by kernel_rfl) (fun _ _ _ h => h) (Or.inl ⟨by rfl, ?_⟩) (by assumption) ?_
  rotate_left
  · (intro w hSw; (try dsimp only at hSw); go_simp <;> with_reducible rfl)
  try simp only [Act.put, List.setIfInBounds_toArray, List.set_cons_zero, List.set_cons_succ]
  refine takeSG15 (i := 1) (oi := _) (v := ?_) (d := some 42) rfl (by kernel_rfl) (by kernel_rfl) (by kernel_rfl) (by kernel_rfl) (fun _ _ _ h => h) (Or.inl ⟨by rfl, ?_⟩) (by assumption) ?_
  rotate_left
  · (intro w hSw; (try dsimp only at hSw); go_simp <;> with_reducible rfl)
  try simp only [Act.put, List.setIfInBounds_toArray, List.set_cons_zero, List.set_cons_succ]
  refine wpAnyH_ready (rs := [2]) (by kernel_rfl) (by simp) ?_
  refine AllReadyH.cons (o := _) rfl (fun K hK => ?_) AllReadyH.nil
  go_simp
  refine (toTable_c f sa sn sc la ln lc ps cs _ HS.out hsn HL.out hln (RS_8.out.later HD0.out) (RL_8.out.later HD0.out) HSL.out).mono ?_
  rintro x D1 ⟨sa3, sc3, la3, lc3, rfl, ho, hb⟩
  have HD1 : Hid (Below w8.heap.size w8 D1) := HD0.out.trans (hb.mono HD0.out.size)
  have HN1 : Hid (RdTb D1 sa3 sn sc3 la3 ln lc3 ⟨f, ps, cs⟩) := ho.rd
  clear ho hb HD0
  refine hK.out _ _ ?_ (fun hHeld => ?_)
  · exact ⟨(Y_8.out.later HD1.out).1, (A_8.out.later HD1.out).1⟩
  clear hK K
  try simp only [Act.put, List.setIfInBounds_toArray, List.set_cons_zero, List.set_cons_succ]
  refine wpAnyH_ready (rs := [3]) (by kernel_rfl) (by simp) ?_
  refine AllReadyH.cons (o := _) rfl (fun K hK => ?_) AllReadyH.nil
  go_simp
  refine (eqTable_c f sa2 sn sc2 la2 ln lc2 sa3 sc3 la3 lc3 ⟨f, ps, cs⟩ _ HSM.out (B2_8.out.later HD1.out).rd HN1.out).mono ?_
  rintro x w10 ⟨rfl, hb⟩
  have HD2 : Hid (Below w8.heap.size w8 w10) := HD1.out.trans (hb.mono HD1.out.size)
  clear hb HD1 HN1
  refine hK.out _ _ ?_ (fun hHeld => ?_)
  · exact ⟨(Y_8.out.later HD2.out).1, (A_8.out.later HD2.out).1⟩
  clear hK K
  try simp only [Act.put, List.setIfInBounds_toArray, List.set_cons_zero, List.set_cons_succ]
  refine takeSG15 (i := 4) (oi := _) (v := ?_) (d := some 45) rfl (by kernel_rfl) (by kernel_rfl) (by kernel_rfl) (by kernel_rfl) (fun _ _ _ h => h) (Or.inl ⟨by rfl, ?_⟩) (by assumption) ?_
  rotate_left
  · (intro w hSw; (try dsimp only at hSw); go_simp <;> with_reducible rfl)
  try simp only [Act.put, List.setIfInBounds_toArray, List.set_cons_zero, List.set_cons_succ]
  refine wpAnyH_done (by kernel_rfl) ?_ _
  clear hHeld
  have HB_10 : Hid (Below w.heap.size w w10) := HB_8.out.trans (HD2.out.mono HB_8.out.size)
  have RS_10 : Hid (RdII w10 sa ps) := RS_8.out.later HD2.out
  have RL_10 : Hid (Rd w10 la cs) := RL_8.out.later HD2.out
  have A_10 : Hid (X3 w10 w.heap.size (.int .i64 f) (.slice sa sn sc) (.slice la ln lc)) := A_8.out.later HD2.out
  have W_10 : Hid (OwnIR w10 w3.heap.size w4.heap.size (Value.slice a1 q c1) (l)) := W_8.out.later HD2.out
  have B2_10 : Hid (OwnTb w10 w4.heap.size w5.heap.size (.slice sa2 sn sc2) (.slice la2 ln lc2) ⟨f, ps, cs⟩) := B2_8.out.later HD2.out
  have Y_10 : Hid (X3 w10 w5.heap.size (.int .i64 f) (.slice sa2 sn sc2) (.slice la2 ln lc2)) := Y_8.out.later HD2.out
  have G_10 : Hid (OwnIR w10 w6.heap.size w7.heap.size (Value.slice a2 q c2) (l)) := G_8.out.later HD2.out
  have z10 : w8.heap.size ≤ w10.heap.size := HD2.out.size
  clear HD2 HB_8 RS_8 RL_8 A_8 W_8 B2_8 Y_8 G_8
  obtain ⟨⟨Yq0, Yq1, Yq2⟩, Yf⟩ := id (Y_10.out)
  clear Yf
  go_wp2_with fail
  refine (markTable_c f sa2 sn sc2 la2 ln lc2 w4.heap.size w5.heap.size ⟨f, ps, cs⟩ _ HSM.out (by omega) B2_10.out).mono ?_
  rw [HNA.out]
  clear Yq0 Yq1 Yq2
  rintro x w11 ⟨rfl, ho, hr⟩
  have z11 : w10.heap.size ≤ w11.heap.size := hr.size
  have HB_11 : Hid (Below w.heap.size w w11) := HB_10.out.trans (hr.below (fun k h => by have := HB_10.out.size; have h9 := h; omega) HB_10.out.size)
  have A_11 : Hid (X3 w11 w.heap.size (.int .i64 f) (.slice sa sn sc) (.slice la ln lc)) := A_10.out.rngP hr (fun h => by have h9 := h; omega)
  have W_11 : Hid (OwnIR w11 w3.heap.size w4.heap.size (Value.slice a1 q c1) (l)) := W_10.out.rngP hr (fun k1 h1 h2 h => by have h9 := h; omega)
  have Y_11 : Hid (X3 w11 w5.heap.size (.int .i64 f) (.slice sa2 sn sc2) (.slice la2 ln lc2)) := Y_10.out.rngP hr (fun h => by have h9 := h; omega)
  have G_11 : Hid (OwnIR w11 w6.heap.size w7.heap.size (Value.slice a2 q c2) (l)) := G_10.out.rngP hr (fun k1 h1 h2 h => by have h9 := h; omega)
  have RS_11 : Hid (RdII w11 sa ps) := HR0RS.out _ HB_11.out
  have RL_11 : Hid (Rd w11 la cs) := HR0RL.out _ HB_11.out
  clear ho hr HB_10 RS_10 RL_10 A_10 W_10 B2_10 Y_10 G_10
  go_wp2_with fail
  refine (eqII_c a2 a1 q c2 c1 l _ HQ.out (by omega) HLL.out G_11.out.toS.rd' W_11.out.toS.rd').mono ?_
  rintro e w12 ⟨rfl, hb⟩
  have hB : Below w11.heap.size w11 w12 := hb
  have HB_12 : Hid (Below w.heap.size w w12) := HB_11.out.trans (hB.mono HB_11.out.size)
  have RS_12 : Hid (RdII w12 sa ps) := RS_11.out.later hB
  have RL_12 : Hid (Rd w12 la cs) := RL_11.out.later hB
  have A_12 : Hid (X3 w12 w.heap.size (.int .i64 f) (.slice sa sn sc) (.slice la ln lc)) := A_11.out.later hB
  have W_12 : Hid (OwnIR w12 w3.heap.size w4.heap.size (Value.slice a1 q c1) (l)) := W_11.out.later hB
  have Y_12 : Hid (X3 w12 w5.heap.size (.int .i64 f) (.slice sa2 sn sc2) (.slice la2 ln lc2)) := Y_11.out.later hB
  have G_12 : Hid (OwnIR w12 w6.heap.size w7.heap.size (Value.slice a2 q c2) (l)) := G_11.out.later hB
  have z12 : w11.heap.size ≤ w12.heap.size := hB.size
  clear hb hB HB_11 RS_11 RL_11 A_11 W_11 Y_11 G_11 
  go_wp2_with fail
  refine (markII_c a2 q c2 w6.heap.size w7.heap.size l _ HQ.out (by omega) HLL.out G_12.out).mono ?_
  rw [HNG.out]
  rintro x w13 ⟨rfl, ho, hr0⟩
  have hr := hr0.toP
  have z13 : w12.heap.size ≤ w13.heap.size := hr.size
  have HB_13 : Hid (Below w.heap.size w w13) := HB_12.out.trans (hr.below (fun k h => by have := HB_12.out.size; have h9 := h; omega) HB_12.out.size)
  have A_13 : Hid (X3 w13 w.heap.size (.int .i64 f) (.slice sa sn sc) (.slice la ln lc)) := A_12.out.rngP hr (fun h => by have h9 := h; omega)
  have W_13 : Hid (OwnIR w13 w3.heap.size w4.heap.size (Value.slice a1 q c1) (l)) := W_12.out.rngP hr (fun k1 h1 h2 h => by have h9 := h; omega)
  have Y_13 : Hid (X3 w13 w5.heap.size (.int .i64 f) (.slice sa2 sn sc2) (.slice la2 ln lc2)) := Y_12.out.rngP hr (fun h => by have h9 := h; omega)
  have RS_13 : Hid (RdII w13 sa ps) := HR0RS.out _ HB_13.out
  have RL_13 : Hid (Rd w13 la cs) := HR0RL.out _ HB_13.out
  have G_13 : Hid (OwnIR w13 w6.heap.size w7.heap.size (Value.slice a2 q c2) (markL l)) := ho
  clear ho hr hr0 HB_12 RS_12 RL_12 A_12 W_12 Y_12 G_12
  go_wp2_with fail
  refine (heldII_c a2 q c2 w6.heap.size w7.heap.size l _ HQ.out (by omega) HLL.out G_13.out).mono ?_
  rw [HNG.out]
  rintro e w14 ⟨rfl, hb⟩
  have hB : Below w13.heap.size w13 w14 := hb
  have HB_14 : Hid (Below w.heap.size w w14) := HB_13.out.trans (hB.mono HB_13.out.size)
  have RS_14 : Hid (RdII w14 sa ps) := RS_13.out.later hB
  have RL_14 : Hid (Rd w14 la cs) := RL_13.out.later hB
  have A_14 : Hid (X3 w14 w.heap.size (.int .i64 f) (.slice sa sn sc) (.slice la ln lc)) := A_13.out.later hB
  have W_14 : Hid (OwnIR w14 w3.heap.size w4.heap.size (Value.slice a1 q c1) (l)) := W_13.out.later hB
  have Y_14 : Hid (X3 w14 w5.heap.size (.int .i64 f) (.slice sa2 sn sc2) (.slice la2 ln lc2)) := Y_13.out.later hB
  have G_14 : Hid (OwnIR w14 w6.heap.size w7.heap.size (Value.slice a2 q c2) (markL l)) := G_13.out.later hB
  have z14 : w13.heap.size ≤ w14.heap.size := hB.size
  clear hb hB HB_13 RS_13 RL_13 A_13 W_13 Y_13 G_13 
  obtain ⟨⟨Aq0, Aq1, Aq2⟩, Af⟩ := id (A_14.out)
  clear Af
  go_wp2_with fail
  refine (toTable_c f sa sn sc la ln lc ps cs _ HS.out hsn HL.out hln RS_14.out RL_14.out HSL.out).mono ?_
  clear Aq0 Aq1 Aq2
  rintro e w15 ⟨sa4, sc4, la4, lc4, rfl, ho, hb⟩
  have hB : Below w14.heap.size w14 w15 := hb
  have HB_15 : Hid (Below w.heap.size w w15) := HB_14.out.trans (hB.mono HB_14.out.size)
  have RS_15 : Hid (RdII w15 sa ps) := RS_14.out.later hB
  have RL_15 : Hid (Rd w15 la cs) := RL_14.out.later hB
  have A_15 : Hid (X3 w15 w.heap.size (.int .i64 f) (.slice sa sn sc) (.slice la ln lc)) := A_14.out.later hB
  have W_15 : Hid (OwnIR w15 w3.heap.size w4.heap.size (Value.slice a1 q c1) (l)) := W_14.out.later hB
  have Y_15 : Hid (X3 w15 w5.heap.size (.int .i64 f) (.slice sa2 sn sc2) (.slice la2 ln lc2)) := Y_14.out.later hB
  have G_15 : Hid (OwnIR w15 w6.heap.size w7.heap.size (Value.slice a2 q c2) (markL l)) := G_14.out.later hB
  have z15 : w14.heap.size ≤ w15.heap.size := hB.size
  have B4_15 : Hid (OwnTb w15 w14.heap.size w15.heap.size (.slice sa4 sn sc4) (.slice la4 ln lc4) ⟨f, ps, cs⟩) := ho
  clear hb hB HB_14 RS_14 RL_14 A_14 W_14 Y_14 G_14 ho
  go_wp2_with fail
  refine (HQI.out sa4 sc4 la4 lc4 _ (rdT_of HSM.out B4_15.out.rd)).mono ?_
  rintro e w16 ⟨a4, c4, rfl, ho, hb⟩
  have hB : Below w15.heap.size w15 w16 := hb
  have HB_16 : Hid (Below w.heap.size w w16) := HB_15.out.trans (hB.mono HB_15.out.size)
  have RS_16 : Hid (RdII w16 sa ps) := RS_15.out.later hB
  have RL_16 : Hid (Rd w16 la cs) := RL_15.out.later hB
  have A_16 : Hid (X3 w16 w.heap.size (.int .i64 f) (.slice sa sn sc) (.slice la ln lc)) := A_15.out.later hB
  have W_16 : Hid (OwnIR w16 w3.heap.size w4.heap.size (Value.slice a1 q c1) (l)) := W_15.out.later hB
  have Y_16 : Hid (X3 w16 w5.heap.size (.int .i64 f) (.slice sa2 sn sc2) (.slice la2 ln lc2)) := Y_15.out.later hB
  have G_16 : Hid (OwnIR w16 w6.heap.size w7.heap.size (Value.slice a2 q c2) (markL l)) := G_15.out.later hB
  have z16 : w15.heap.size ≤ w16.heap.size := hB.size
  have H_16 : Hid (OwnIR w16 w15.heap.size w16.heap.size (Value.slice a4 q c4) (l)) := ho
  clear hb hB HB_15 RS_15 RL_15 A_15 W_15 Y_15 G_15 B4_15 ho
  go_wp2_with fail
  refine (eqII_c a4 a1 q c4 c1 l _ HQ.out (by omega) HLL.out H_16.out.toS.rd' W_16.out.toS.rd').mono ?_
  rintro e w17 ⟨rfl, hb⟩
  have hB : Below w16.heap.size w16 w17 := hb
  have HB_17 : Hid (Below w.heap.size w w17) := HB_16.out.trans (hB.mono HB_16.out.size)
  have RS_17 : Hid (RdII w17 sa ps) := RS_16.out.later hB
  have RL_17 : Hid (Rd w17 la cs) := RL_16.out.later hB
  have A_17 : Hid (X3 w17 w.heap.size (.int .i64 f) (.slice sa sn sc) (.slice la ln lc)) := A_16.out.later hB
  have W_17 : Hid (OwnIR w17 w3.heap.size w4.heap.size (Value.slice a1 q c1) (l)) := W_16.out.later hB
  have Y_17 : Hid (X3 w17 w5.heap.size (.int .i64 f) (.slice sa2 sn sc2) (.slice la2 ln lc2)) := Y_16.out.later hB
  have G_17 : Hid (OwnIR w17 w6.heap.size w7.heap.size (Value.slice a2 q c2) (markL l)) := G_16.out.later hB
  have H_17 : Hid (OwnIR w17 w15.heap.size w16.heap.size (Value.slice a4 q c4) (l)) := H_16.out.later hB
  have z17 : w16.heap.size ≤ w17.heap.size := hB.size
  clear hb hB HB_16 RS_16 RL_16 A_16 W_16 Y_16 G_16 H_16 
  go_wp2_with fail
  refine (heldII_c a2 q c2 w6.heap.size w7.heap.size l _ HQ.out (by omega) HLL.out G_17.out).mono ?_
  rw [HNG.out]
  rintro e w18 ⟨rfl, hb⟩
  have hB : Below w17.heap.size w17 w18 := hb
  have HB_18 : Hid (Below w.heap.size w w18) := HB_17.out.trans (hB.mono HB_17.out.size)
  have RS_18 : Hid (RdII w18 sa ps) := RS_17.out.later hB
  have RL_18 : Hid (Rd w18 la cs) := RL_17.out.later hB
  have A_18 : Hid (X3 w18 w.heap.size (.int .i64 f) (.slice sa sn sc) (.slice la ln lc)) := A_17.out.later hB
  have W_18 : Hid (OwnIR w18 w3.heap.size w4.heap.size (Value.slice a1 q c1) (l)) := W_17.out.later hB
  have Y_18 : Hid (X3 w18 w5.heap.size (.int .i64 f) (.slice sa2 sn sc2) (.slice la2 ln lc2)) := Y_17.out.later hB
  have G_18 : Hid (OwnIR w18 w6.heap.size w7.heap.size (Value.slice a2 q c2) (markL l)) := G_17.out.later hB
  have H_18 : Hid (OwnIR w18 w15.heap.size w16.heap.size (Value.slice a4 q c4) (l)) := H_17.out.later hB
  have z18 : w17.heap.size ≤ w18.heap.size := hB.size
  clear hb hB HB_17 RS_17 RL_17 A_17 W_17 Y_17 G_17 H_17 
  go_wp2
  go_ret
  exact ⟨rfl, HB_18.out⟩

end Go.Proofs.Ytheagikallnppaa

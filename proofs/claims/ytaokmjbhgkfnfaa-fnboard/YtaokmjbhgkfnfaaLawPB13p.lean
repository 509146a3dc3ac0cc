/- The law on PlayBoard, walked: it answers true at every argument and turns nothing that was there. -/
import Derived.Test.YtaokmjbhgkfnfaaPB13p
import Derived.Test.YtaokmjbhgkfnfaaPQ13p
import Derived.Test.YtaokmjbhgkfnfaaLawSB13p
namespace Go.Proofs.Ytaokmjbhgkfnfaa
set_option linter.unusedVariables false
set_option maxRecDepth 1000000
set_option linter.unusedSimpArgs false
open Go.RowKit

theorem OwnB.rngP {pp : Nat → Prop} {w w' : World} {lo : Nat} {v : Value} {xs : List Bool} (h : OwnB w lo v xs) (hr : RngP pp w w') (hd : ∀ k, v.ownBlock = some k → ¬ pp k) : OwnB w' lo v xs := row_rngP h hr hd
theorem OwnT.rngP {pp : Nat → Prop} {w w' : World} {lo : Nat} {v : Value} {xs : List (Int × Int × Int)} (h : OwnT w lo v xs) (hr : RngP pp w w') (hd : ∀ k, v.ownBlock = some k → ¬ pp k) : OwnT w' lo v xs := by
  refine ⟨h.1, ?_⟩
  rcases h.2 with h0 | ⟨g, cap, cur, hv, hlo, hh, r⟩
  · exact Or.inl h0
  · exact Or.inr ⟨g, cap, cur, hv, hlo, by rw [hr.block g (Array.getElem?_eq_some_iff.1 hh).1 (hd g (by rw [hv]; rfl))]; exact hh, r⟩
theorem OwnBd.exBox {w : World} {lo hi : Nat} {S L T : Value} {b : BdV} (h : OwnBd w lo hi S L T b) {q : Nat} (hq : BoxT w q) : ∃ pp : Nat → Prop, OwnIP w lo pp S b.sg ∧ (∀ k, pp k → (lo ≤ k ∧ k < hi) ∧ k ≠ q) ∧ (∀ k, L.ownBlock = some k → ¬ pp k ∧ k < hi) ∧ (∀ k, T.ownBlock = some k → ¬ pp k ∧ k < hi) ∧ (∀ k, L.ownBlock = some k → k ≠ q) ∧ ∀ k, T.ownBlock = some k → k ≠ q := by
  obtain ⟨pp, h1, h2, h3, h4⟩ := h.ex
  refine ⟨fun k => pp k ∧ k ≠ q, ?_, fun k hk => ⟨h2 k hk.1, hk.2⟩, fun k hk => ⟨fun hh => (h3 k hk).1 hh.1, (h3 k hk).2⟩, fun k hk => ⟨fun hh => (h4 k hk).1 hh.1, (h4 k hk).2⟩, fun k hk e => row_box h.li hq (Or.inl rfl) (by rw [hk, e]), fun k hk e => row_box h.ls hq (Or.inl rfl) (by rw [hk, e])⟩
  obtain ⟨vs, hl, ho, hin, hs, a1, a2⟩ := h1
  exact ⟨vs, hl, ho, hin, hs, fun k e => ⟨a1 k e, fun e2 => row_box ho hq (Or.inr rfl) (by rw [e, e2])⟩, fun i hi' k e => ⟨a2 i hi' k e, fun e2 => row_box (hin i hi') hq (Or.inl rfl) (by rw [e, e2])⟩⟩

set_option maxHeartbeats 2000000 in
theorem markBoardX_c (f e : Int) (sa : Option Addr) (sn sc : Nat) (la : Option Addr) (ln lc : Nat) (ta : Option Addr) (tn tc : Nat) (lo hi : Nat) (b : BdV) (w : World) (hb : SmallBd b) (hh : hi ≤ w.heap.size) (ho : OwnBd w lo hi (.slice sa sn sc) (.slice la ln lc) (.slice ta tn tc) b) {q : Nat} (hq : BoxT w q) :
    Calls Try.prog 39 #[.agg #[.int .i64 f, .int .i64 e, .slice sa sn sc, .slice la ln lc, .slice ta tn tc], .int .i64 1] w fun x w' => x = .returned (.int .i64 (1 + (numB b : Nat))) ∧ OwnBd w' lo hi (.slice sa sn sc) (.slice la ln lc) (.slice ta tn tc) (markB b) ∧ RngP (fun k => (lo ≤ k ∧ k < hi) ∧ k ≠ q) w w' := by
  have hr := ho.rd
  have hsn : sn ≤ 1048576 := by rw [← hr.sl]; exact hb.s
  have hln : ln ≤ 1048576 := by rw [← hr.ll]; exact hb.l
  have htn : tn ≤ 1048576 := by rw [← hr.tl]; exact hb.t
  have hcum : cum b.sg sn ≤ 1099511627776 := Nat.le_trans (cum_le hb.r sn (by rw [hr.sl]; exact Nat.le_refl _)) (by have : sn * 1048576 ≤ 1048576 * 1048576 := Nat.mul_le_mul_right _ (by omega); omega)
  have HNB : Hid (numB b = cum b.sg sn + ln + tn) := by show _ = _; unfold numB; rw [hr.sl, hr.ll, hr.tl]
  have HMB : Hid (markB b = ⟨b.f, b.e, markL b.sg, marks (1 + (cum b.sg sn : Nat)) ln, marks (1 + (cum b.sg sn : Nat) + (ln : Nat)) tn⟩) := by show _ = _; unfold markB; rw [hr.sl, hr.ll, hr.tl]
  have hB0 := balloc w (.cells #[.int .i64 f, .int .i64 e, .slice sa sn sc, .slice la ln lc, .slice ta tn tc] 29)
  have hX0 := x5_new w (.int .i64 f) (.int .i64 e) (.slice sa sn sc) (.slice la ln lc) (.slice ta tn tc) 29 w.heap.size rfl
  obtain ⟨V, hV⟩ : ∃ V, w.alloc (.cells #[.int .i64 f, .int .i64 e, .slice sa sn sc, .slice la ln lc, .slice ta tn tc] 29) = V := ⟨_, rfl⟩
  rw [hV] at hB0 hX0
  obtain ⟨pp, h1, h2, h3, h4, h3q, h4q⟩ := (ho.later hB0).exBox (hq.later hB0)
  have hL0 := (ho.later hB0).li
  have hT0 := (ho.later hB0).ls
  have HSEP : Hid ((Value.slice la ln lc).ownBlock = none ∨ (Value.slice la ln lc).ownBlock ≠ (Value.slice ta tn tc).ownBlock) := ho.sep
  have HP2 : Hid (∀ k, pp k → (lo ≤ k ∧ k < hi) ∧ k ≠ q) := h2
  have HQ3 : Hid (∀ k, (Value.slice la ln lc).ownBlock = some k → k ≠ q) := h3q
  have HQ4 : Hid (∀ k, (Value.slice ta tn tc).ownBlock = some k → k ≠ q) := h4q
  have HP3 : Hid (∀ k, (Value.slice la ln lc).ownBlock = some k → ¬ pp k ∧ k < hi) := h3
  have HP4 : Hid (∀ k, (Value.slice ta tn tc).ownBlock = some k → ¬ pp k ∧ k < hi) := h4
  have HX0 : Hid (X5 V w.heap.size (.int .i64 f) (.int .i64 e) (.slice sa sn sc) (.slice la ln lc) (.slice ta tn tc)) := hX0
  have HL0 : Hid (Own V lo (.slice la ln lc) b.li) := hL0
  have HT0 : Hid (Own V lo (.slice ta tn tc) b.ls) := hT0
  have HR0 : Hid (RngP (fun k => (lo ≤ k ∧ k < hi) ∧ k ≠ q) w V) := ⟨hB0.os, hB0.tape, hB0.output, hB0.size, fun q hq _ => hB0.block q hq⟩
  have q1 := markIP_c sa sn sc lo pp b.sg V hr.sl hsn hb.r h1
  generalize cum b.sg sn = C at hcum HNB HMB q1
  obtain ⟨⟨c0, c1, c2, c3, c4⟩, _⟩ := hX0
  clear ho hr hB0 hL0 hT0 h1 h2 h3 h4 hb h3q h4q hq
  go_enter Try.func39, Try.ntmps39
  go_wp2_with fail
  clear hV c0 c1 c2 c3 c4
  refine q1.mono ?_
  clear q1
  rintro x w1 ⟨rfl, ho, hr⟩
  have HX1 : Hid (X5 w1 w.heap.size (.int .i64 f) (.int .i64 e) (.slice sa sn sc) (.slice la ln lc) (.slice ta tn tc)) := HX0.out.rngP hr (fun h => by have := HP2.out _ h; omega)
  have HL1 : Hid (Own w1 lo (.slice la ln lc) b.li) := HL0.out.rngP hr (fun k h => (HP3.out k h).1)
  have HT1 : Hid (Own w1 lo (.slice ta tn tc) b.ls) := HT0.out.rngP hr (fun k h => (HP4.out k h).1)
  have HS1 : Hid (OwnIP w1 lo pp (.slice sa sn sc) (markL b.sg)) := ho
  have HR1 : Hid (RngP (fun k => (lo ≤ k ∧ k < hi) ∧ k ≠ q) w w1) := HR0.out.trans (hr.imp HP2.out)
  obtain ⟨⟨c0, c1, c2, c3, c4⟩, _⟩ := HX1.out
  have q2 := markIntS_c la ln lc (1 + (C : Int)) lo b.li w1 (by omega) (by omega) (by omega) HL1.out
  clear ho hr HX0 HL0 HT0 HR0
  go_wp2_with fail
  clear c0 c1 c2 c3 c4
  refine q2.mono ?_
  clear q2
  rintro x w2 ⟨rfl, ho, hg⟩
  have HX2 : Hid (X5 w2 w.heap.size (.int .i64 f) (.int .i64 e) (.slice sa sn sc) (.slice la ln lc) (.slice ta tn tc)) := HX1.out.grown hg (fun h => by have := (HP3.out _ h.symm).2; omega)
  have hr2 : RngP (fun k => (Value.slice la ln lc).ownBlock = some k) w1 w2 := RngP.ofGrown hg (fun k h => h)
  have HT2 : Hid (Own w2 lo (.slice ta tn tc) b.ls) := HT1.out.kept hg (by rcases HSEP.out with h | h; exact (by cases h2 : (Value.slice ta tn tc).ownBlock with | none => exact Or.inl rfl | some k => rw [h]; exact Or.inr (by simp)); exact Or.inr (fun e => h e.symm))
  have HS2 : Hid (OwnIP w2 lo pp (.slice sa sn sc) (markL b.sg)) := HS1.out.rng hr2 (fun k h h5 => (HP3.out k h5).1 h)
  have HR2 : Hid (RngP (fun k => (lo ≤ k ∧ k < hi) ∧ k ≠ q) w w2) := HR1.out.trans (hr2.imp (fun k h => ⟨⟨own_block_ge HL1.out k h, (HP3.out k h).2⟩, HQ3.out k h⟩))
  have HL2 : Hid (Own w2 lo (.slice la ln lc) (marks (1 + (C : Int)) ln)) := ho
  obtain ⟨⟨c0, c1, c2, c3, c4⟩, _⟩ := HX2.out
  have q3 := markIntS_c ta tn tc (1 + (C : Int) + (ln : Int)) lo b.ls w2 (by omega) (by omega) (by omega) HT2.out
  clear ho hg hr2 HX1 HL1 HT1 HS1 HR1
  go_wp2_with fail
  clear c0 c1 c2 c3 c4
  refine q3.mono ?_
  clear q3
  rintro x w3 ⟨rfl, ho, hg⟩
  have hr3 : RngP (fun k => (Value.slice ta tn tc).ownBlock = some k) w2 w3 := RngP.ofGrown hg (fun k h => h)
  have HS3 : Hid (OwnIP w3 lo pp (.slice sa sn sc) (markL b.sg)) := HS2.out.rng hr3 (fun k h h5 => (HP4.out k h5).1 h)
  have HR3 : Hid (RngP (fun k => (lo ≤ k ∧ k < hi) ∧ k ≠ q) w w3) := HR2.out.trans (hr3.imp (fun k h => ⟨⟨own_block_ge HT2.out k h, (HP4.out k h).2⟩, HQ4.out k h⟩))
  have HL3 : Hid (Own w3 lo (.slice la ln lc) (marks (1 + (C : Int)) ln)) := HL2.out.kept hg HSEP.out
  have HT3 : Hid (Own w3 lo (.slice ta tn tc) (marks (1 + (C : Int) + (ln : Int)) tn)) := ho
  have HE : Hid (1 + (C : Int) + (ln : Int) + (tn : Int) = 1 + ((numB b : Nat) : Int)) := by show _ = _; rw [HNB.out]; omega
  clear ho hg hr3
  go_wp2
  go_ret
  refine ⟨ret_int HE.out, ?_, HR3.out⟩
  rw [HMB.out]
  exact ⟨⟨pp, HS3.out, (fun k h => (HP2.out k h).1), HP3.out, HP4.out⟩, HL3.out, HT3.out, HSEP.out⟩

/-- A board is marked: a row of bools stays as it was, wherever it lies. -/
theorem markBoardD_c (f e : Int) (sa : Option Addr) (sn sc : Nat) (la : Option Addr) (ln lc : Nat) (ta : Option Addr) (tn tc : Nat) (lo hi : Nat) (b : BdV) (w : World) (hb : SmallBd b) (hh : hi ≤ w.heap.size) (ho : OwnBd w lo hi (.slice sa sn sc) (.slice la ln lc) (.slice ta tn tc) b) {B : Nat} {v : Value} {dd : List Bool} (hd : OwnB w B v dd) :
    Calls Try.prog 39 #[.agg #[.int .i64 f, .int .i64 e, .slice sa sn sc, .slice la ln lc, .slice ta tn tc], .int .i64 1] w fun x w' => x = .returned (.int .i64 (1 + (numB b : Nat))) ∧ OwnBd w' lo hi (.slice sa sn sc) (.slice la ln lc) (.slice ta tn tc) (markB b) ∧ RngP (fun k => lo ≤ k ∧ k < hi) w w' ∧ OwnB w' B v dd := by
  cases hv : v.ownBlock with
  | none =>
    refine (markBoard_c f e sa sn sc la ln lc ta tn tc lo hi b w hb hh ho).mono ?_
    rintro x w' ⟨h1, h2, h3⟩
    exact ⟨h1, h2, h3, hd.rngP h3 (fun k hk => by rw [hv] at hk; cases hk)⟩
  | some q =>
    refine (markBoardX_c f e sa sn sc la ln lc ta tn tc lo hi b w hb hh ho (OwnB.boxT hd hv)).mono ?_
    rintro x w' ⟨h1, h2, h3⟩
    exact ⟨h1, h2, h3.imp (fun k h => h.1), hd.rngP h3 (fun k hk h => h.2 (by rw [hv] at hk; exact (Option.some.inj hk).symm))⟩
theorem numB_bound {b : BdV} (h : goodBd b = true ∨ b = zeroBd) : numB b ≤ 1000000000 := by
  have hs : SmallBd b ∧ b.sg.length ≤ 200 := by
    rcases h with h | rfl
    · exact ⟨good_small h, (good_few h).s⟩
    · exact ⟨zero_small, by simp [zeroBd]⟩
  have h1 := cum_le hs.1.r b.sg.length (Nat.le_refl _)
  have h2 := hs.1.l
  have h3 := hs.1.t
  have h4 : b.sg.length * 1048576 ≤ 200 * 1048576 := Nat.mul_le_mul_right _ hs.2
  unfold numB
  omega
theorem pbV_good (f : Int) (li : List Int) (l : List (Int × Int × Int)) : (goodBd (pbV f li l).1 = true ∨ (pbV f li l).1 = zeroBd) ∧ (pbV f li l).2.length ≤ 60 := by
  unfold pbV
  split
  · rename_i h
    unfold pbOk at h
    rw [Bool.and_eq_true, decide_eq_true_eq] at h
    have hg : goodBd ⟨f, 0, [], li, []⟩ = true := by rw [good_newB]; exact h.1
    exact ⟨Or.inl (playP_good hg l), by rw [playP_len hg]; exact h.2⟩
  · exact ⟨Or.inr rfl, by simp⟩

set_option maxHeartbeats 16000000 in
theorem lawPlayB_c (f : Int) (pa : Option Addr) (pn pc : Nat) (qi : List Int) (lo : Option Addr) (n lc : Nat) (l : List (Int × Int × Int)) (w : World) (hp : qi.length = pn) (hpn0 : pn ≤ 9223372036854775807) (hr : Rd w pa qi) (hx : l.length = n) (hn0 : n ≤ 9223372036854775807) (hrt : RdT w lo l) :
    Calls Try.prog 8 #[.int .i64 f, .slice pa pn pc, .slice lo n lc] w fun e w' => e = .returned (.bool true) ∧ Below w.heap.size w w' := by
  obtain ⟨⟨nb, dd⟩, hpv⟩ : ∃ p, pbV f qi l = p := ⟨_, rfl⟩
  obtain ⟨fb, hF⟩ : ∃ fb, pbOk f qi l.length = fb := ⟨_, rfl⟩
  have hpg := pbV_good f qi l
  rw [hpv] at hpg
  dsimp only at hpg
  obtain ⟨nf, hn1⟩ : ∃ n, nb.f = n := ⟨_, rfl⟩
  obtain ⟨ne, hn2⟩ : ∃ n, nb.e = n := ⟨_, rfl⟩
  obtain ⟨ns, hn3⟩ : ∃ n, nb.sg.length = n := ⟨_, rfl⟩
  obtain ⟨nl, hn4⟩ : ∃ n, nb.li.length = n := ⟨_, rfl⟩
  obtain ⟨nt, hn5⟩ : ∃ n, nb.ls.length = n := ⟨_, rfl⟩
  obtain ⟨nd, hn6⟩ : ∃ n, dd.length = n := ⟨_, rfl⟩
  have hnd : nd ≤ 60 := by rw [← hn6]; exact hpg.2
  have HSN : Hid (SmallBd nb) := by rcases hpg.1 with h | rfl; exact good_small h; exact zero_small
  have HQS : Hid (∀ p k t u wx {B B2 : Nat}, Own wx B (.slice p pn k) qi → OwnT wx B2 (.slice t n u) l → pn ≤ 1048576 → n ≤ 1048576 → Calls Try.prog 14 #[.int .i64 f, .slice p pn k, .slice t n u] wx fun r w' => ∃ sa' sc' la' lc' ta' tc' da' dc', r = .returned (.tuple #[.agg #[.int .i64 nf, .int .i64 ne, .slice sa' ns sc', .slice la' nl lc', .slice ta' nt tc'], .slice da' nd dc', .bool fb]) ∧ OwnBd w' wx.heap.size w'.heap.size (.slice sa' ns sc') (.slice la' nl lc') (.slice ta' nt tc') nb ∧ OwnB w' wx.heap.size (.slice da' nd dc') dd ∧ Below wx.heap.size wx w') := fun p k t u wx _ _ h h2 h3 h4 => by
    have := specPlay_c f p pn k t n u qi l wx hp h3 hx h4 h.rd'.2 h.nil h2.rd'.2
    unfold PbOk at this
    rw [hpv, hF] at this
    dsimp only at this
    rw [hn1, hn2, hn3, hn4, hn5, hn6] at this
    exact this
  have HQI : Hid (∀ p k t u wx {B B2 : Nat}, Own wx B (.slice p pn k) qi → OwnT wx B2 (.slice t n u) l → pn ≤ 1048576 → n ≤ 1048576 → Calls Try.prog 13 #[.int .i64 f, .slice p pn k, .slice t n u] wx fun r w' => ∃ sa' sc' la' lc' ta' tc' da' dc', r = .returned (.tuple #[.agg #[.int .i64 nf, .int .i64 ne, .slice sa' ns sc', .slice la' nl lc', .slice ta' nt tc'], .slice da' nd dc', .bool fb]) ∧ OwnBd w' wx.heap.size w'.heap.size (.slice sa' ns sc') (.slice la' nl lc') (.slice ta' nt tc') nb ∧ OwnB w' wx.heap.size (.slice da' nd dc') dd ∧ Below wx.heap.size wx w') := fun p k t u wx _ _ h h2 h3 h4 => by
    have := implPlay_c f p pn k t n u qi l wx hp h3 hx h4 h.rd'.2 h.nil h2.rd'.2
    unfold PbOk at this
    rw [hpv, hF] at this
    dsimp only at this
    rw [hn1, hn2, hn3, hn4, hn5, hn6] at this
    exact this
  have HP : Hid (qi.length = pn) := hp
  have HX : Hid (l.length = n) := hx
  have HD : Hid (dd.length = nd) := hn6
  have HN1 : Hid (nb.sg.length = ns) := hn3
  have HN2 : Hid (nb.li.length = nl) := hn4
  have HN3 : Hid (nb.ls.length = nt) := hn5
  have HR0RP : Hid (∀ wx, Below w.heap.size w wx → Rd wx pa qi) := fun wx h => hr.later h
  have HR0RT : Hid (∀ wx, Below w.heap.size w wx → RdT wx lo l) := fun wx h => hrt.later h
  have hfb : (fb != fb) = false := by simp
  have hnm := numB_bound hpg.1
  obtain ⟨Mn, hMn⟩ : ∃ M : Int, 1 + ((numB nb : Nat) : Int) = M := ⟨_, rfl⟩
  have HNN : Hid (1 + ((numB nb : Nat) : Int) = Mn) := hMn
  have hmn : ¬ Mn < 0 := by omega
  have hmn0 : 0 ≤ Mn := by omega
  have hmn9 : Mn ≤ 2000000000 := by omega
  obtain ⟨M2, hM2⟩ : ∃ M : Int, Mn + (nd : Int) = M := ⟨_, rfl⟩
  have HM2 : Hid (Mn + (nd : Int) = M2) := hM2
  have hm2 : ¬ M2 < 0 := by omega
  have hmm : (M2 != M2) = false := by simp
  obtain ⟨K1, hK1⟩ : ∃ K : Nat, 1 + pn = K := ⟨_, rfl⟩
  have HK1 : Hid ((1 : Int) + (pn : Int) = (K1 : Int)) := by show _ = _; omega
  obtain ⟨K2, hK2⟩ : ∃ K : Int, ((K1 + 3 * n : Nat) : Int) = K := ⟨_, rfl⟩
  have HK2 : Hid (((K1 + 3 * n : Nat) : Int) = K2) := hK2
  have hk2 : ¬ K2 < 0 := by omega
  have hk1 : pn ≤ 1048576 → K1 ≤ 1048577 := by omega
  clear hF hpv hpg hn1 hn2 hn3 hn4 hn5 hn6 hnm hMn hM2 hK1 hK2 hp hx
  have HB_0 : Hid (Below w.heap.size w w) := Below.refl _ _
  have RP_0 : Hid (Rd w pa qi) := hr
  have RT_0 : Hid (RdT w lo l) := hrt
  clear hr hrt
  go_enter Try.func8, Try.ntmps8
  by_cases hsz : 1048576 < pn
  · have hsz2 : (1048576 : Int) < (pn : Int) := by omega
    go_wp2
    go_ret
    exact ⟨rfl, HB_0.out⟩
  have hsz2 : ¬ (1048576 : Int) < (pn : Int) := by omega
  go_wp2_with fail
  refine (szBoardStepS_c lo n lc 1048576 _ hn0 (by omega)).mono ?_
  rintro e w' ⟨r, rfl, hw, hr1, hr2⟩
  subst w'
  by_cases hr0 : r < 0
  · clear hr1 hr2
    go_wp2
    go_ret
    exact ⟨rfl, HB_0.out⟩
  have hn : n ≤ 1048576 := (hr2 (by omega)).1
  have hrn : ¬ r < 0 := hr0
  clear hr1 hr2 hr0
  go_wp2_with fail
  refine (toIntS_c pa pn pc qi _ HP.out (by omega) RP_0.out).mono ?_
  rintro e w1 ⟨p1, k1, rfl, ho, hb⟩
  have hB : Below w.heap.size w w1 := hb
  have HB_1 : Hid (Below w.heap.size w w1) := HB_0.out.trans (hB.mono HB_0.out.size)
  have RP_1 : Hid (Rd w1 pa qi) := RP_0.out.later hB
  have RT_1 : Hid (RdT w1 lo l) := RT_0.out.later hB
  have z1 : w.heap.size ≤ w1.heap.size := hB.size
  have P1_1 : Hid (Own w1 w.heap.size (Value.slice p1 pn k1) (qi)) := ho
  have I_P1 : Hid (∀ k, (Value.slice p1 pn k1).ownBlock = some k → w.heap.size ≤ k ∧ k < w1.heap.size) := World.ownsRow.lt P1_1.out
  clear hb hB HB_0 RP_0 RT_0 ho
  go_wp2_with fail
  refine (toBoardStepS_c lo n lc l _ HX.out hn RT_1.out).mono ?_
  rintro e w2 ⟨t1, u1, rfl, ho, hb⟩
  have hB : Below w1.heap.size w1 w2 := hb
  have HB_2 : Hid (Below w.heap.size w w2) := HB_1.out.trans (hB.mono HB_1.out.size)
  have RP_2 : Hid (Rd w2 pa qi) := RP_1.out.later hB
  have RT_2 : Hid (RdT w2 lo l) := RT_1.out.later hB
  have P1_2 : Hid (Own w2 w.heap.size (Value.slice p1 pn k1) (qi)) := P1_1.out.later hB
  have z2 : w1.heap.size ≤ w2.heap.size := hB.size
  have S1_2 : Hid (OwnT w2 w1.heap.size (Value.slice t1 n u1) (l)) := ho
  have I_S1 : Hid (∀ k, (Value.slice t1 n u1).ownBlock = some k → w1.heap.size ≤ k ∧ k < w2.heap.size) := World.ownsRow.lt S1_2.out
  clear hb hB HB_1 RP_1 RT_1 P1_1 ho
  go_wp2_with fail
  refine (HQS.out p1 k1 t1 u1 _ P1_2.out S1_2.out (by omega) hn).mono ?_
  rintro e w3 ⟨sa1, sc1, la1, lc1, ta1, tc1, da1, dc1, rfl, ho, hd, hb⟩
  have hB : Below w2.heap.size w2 w3 := hb
  have HB_3 : Hid (Below w.heap.size w w3) := HB_2.out.trans (hB.mono HB_2.out.size)
  have RP_3 : Hid (Rd w3 pa qi) := RP_2.out.later hB
  have RT_3 : Hid (RdT w3 lo l) := RT_2.out.later hB
  have z3 : w2.heap.size ≤ w3.heap.size := hB.size
  have BW_3 : Hid (OwnBd w3 w2.heap.size w3.heap.size (.slice sa1 ns sc1) (.slice la1 nl lc1) (.slice ta1 nt tc1) nb) := ho
  have BWD_3 : Hid (OwnB w3 w2.heap.size (Value.slice da1 nd dc1) (dd)) := hd
  have I_BWD : Hid (∀ k, (Value.slice da1 nd dc1).ownBlock = some k → w2.heap.size ≤ k ∧ k < w3.heap.size) := World.ownsRow.lt BWD_3.out
  clear hb hB HB_2 RP_2 RT_2 P1_2 S1_2 ho hd
  have hHB := HB_3.out.alloc HB_3.out.size (.cells #[.int .i64 nf, .int .i64 ne, .slice sa1 ns sc1, .slice la1 nl lc1, .slice ta1 nt tc1] 29)
  have hRP := RP_3.out.later (balloc w3 (.cells #[.int .i64 nf, .int .i64 ne, .slice sa1 ns sc1, .slice la1 nl lc1, .slice ta1 nt tc1] 29))
  have hRT := RT_3.out.later (balloc w3 (.cells #[.int .i64 nf, .int .i64 ne, .slice sa1 ns sc1, .slice la1 nl lc1, .slice ta1 nt tc1] 29))
  have hBW := BW_3.out.later (balloc w3 (.cells #[.int .i64 nf, .int .i64 ne, .slice sa1 ns sc1, .slice la1 nl lc1, .slice ta1 nt tc1] 29))
  have hBWD := BWD_3.out.later (balloc w3 (.cells #[.int .i64 nf, .int .i64 ne, .slice sa1 ns sc1, .slice la1 nl lc1, .slice ta1 nt tc1] 29))
  have hX := x5_new w3 (.int .i64 nf) (.int .i64 ne) (.slice sa1 ns sc1) (.slice la1 nl lc1) (.slice ta1 nt tc1) 29 w3.heap.size rfl
  have hz : (w3.alloc (.cells #[.int .i64 nf, .int .i64 ne, .slice sa1 ns sc1, .slice la1 nl lc1, .slice ta1 nt tc1] 29)).heap.size = w3.heap.size + 1 := by simp
  obtain ⟨w4, hV4⟩ : ∃ V, w3.alloc (.cells #[.int .i64 nf, .int .i64 ne, .slice sa1 ns sc1, .slice la1 nl lc1, .slice ta1 nt tc1] 29) = V := ⟨_, rfl⟩
  rw [hV4] at hHB hRP hRT hBW hBWD hX hz
  have HB_4 : Hid (Below w.heap.size w w4) := hHB
  have RP_4 : Hid (Rd w4 pa qi) := hRP
  have RT_4 : Hid (RdT w4 lo l) := hRT
  have BW_4 : Hid (OwnBd w4 w2.heap.size w3.heap.size (.slice sa1 ns sc1) (.slice la1 nl lc1) (.slice ta1 nt tc1) nb) := hBW
  have BWD_4 : Hid (OwnB w4 w2.heap.size (Value.slice da1 nd dc1) (dd)) := hBWD
  have X_4 : Hid (X5 w4 w3.heap.size (.int .i64 nf) (.int .i64 ne) (.slice sa1 ns sc1) (.slice la1 nl lc1) (.slice ta1 nt tc1)) := hX
  have z4 : w3.heap.size + 1 ≤ w4.heap.size := by omega
  clear HB_3 RP_3 RT_3 BW_3 BWD_3 hHB hRP hRT hBW hBWD hX hz
  go_wp2_with fail
  clear hV4
  refine (toIntS_c pa pn pc qi _ HP.out (by omega) RP_4.out).mono ?_
  rintro e w5 ⟨p2, k2, rfl, ho, hb⟩
  have hB : Below w4.heap.size w4 w5 := hb
  have HB_5 : Hid (Below w.heap.size w w5) := HB_4.out.trans (hB.mono HB_4.out.size)
  have RP_5 : Hid (Rd w5 pa qi) := RP_4.out.later hB
  have RT_5 : Hid (RdT w5 lo l) := RT_4.out.later hB
  have BW_5 : Hid (OwnBd w5 w2.heap.size w3.heap.size (.slice sa1 ns sc1) (.slice la1 nl lc1) (.slice ta1 nt tc1) nb) := BW_4.out.later hB
  have BWD_5 : Hid (OwnB w5 w2.heap.size (Value.slice da1 nd dc1) (dd)) := BWD_4.out.later hB
  have X_5 : Hid (X5 w5 w3.heap.size (.int .i64 nf) (.int .i64 ne) (.slice sa1 ns sc1) (.slice la1 nl lc1) (.slice ta1 nt tc1)) := X_4.out.later hB
  have z5 : w4.heap.size ≤ w5.heap.size := hB.size
  have P2_5 : Hid (Own w5 w4.heap.size (Value.slice p2 pn k2) (qi)) := ho
  have I_P2 : Hid (∀ k, (Value.slice p2 pn k2).ownBlock = some k → w4.heap.size ≤ k ∧ k < w5.heap.size) := World.ownsRow.lt P2_5.out
  clear hb hB HB_4 RP_4 RT_4 BW_4 BWD_4 X_4 ho
  go_wp2_with fail
  refine (toBoardStepS_c lo n lc l _ HX.out hn RT_5.out).mono ?_
  rintro e w6 ⟨t2, u2, rfl, ho, hb⟩
  have hB : Below w5.heap.size w5 w6 := hb
  have HB_6 : Hid (Below w.heap.size w w6) := HB_5.out.trans (hB.mono HB_5.out.size)
  have RP_6 : Hid (Rd w6 pa qi) := RP_5.out.later hB
  have RT_6 : Hid (RdT w6 lo l) := RT_5.out.later hB
  have BW_6 : Hid (OwnBd w6 w2.heap.size w3.heap.size (.slice sa1 ns sc1) (.slice la1 nl lc1) (.slice ta1 nt tc1) nb) := BW_5.out.later hB
  have BWD_6 : Hid (OwnB w6 w2.heap.size (Value.slice da1 nd dc1) (dd)) := BWD_5.out.later hB
  have X_6 : Hid (X5 w6 w3.heap.size (.int .i64 nf) (.int .i64 ne) (.slice sa1 ns sc1) (.slice la1 nl lc1) (.slice ta1 nt tc1)) := X_5.out.later hB
  have P2_6 : Hid (Own w6 w4.heap.size (Value.slice p2 pn k2) (qi)) := P2_5.out.later hB
  have z6 : w5.heap.size ≤ w6.heap.size := hB.size
  have S2_6 : Hid (OwnT w6 w5.heap.size (Value.slice t2 n u2) (l)) := ho
  have I_S2 : Hid (∀ k, (Value.slice t2 n u2).ownBlock = some k → w5.heap.size ≤ k ∧ k < w6.heap.size) := World.ownsRow.lt S2_6.out
  clear hb hB HB_5 RP_5 RT_5 BW_5 BWD_5 X_5 P2_5 ho
  go_wp2_with fail
  refine (HQI.out p2 k2 t2 u2 _ P2_6.out S2_6.out (by omega) hn).mono ?_
  rintro e w7 ⟨sa2, sc2, la2, lc2, ta2, tc2, da2, dc2, rfl, ho, hd, hb⟩
  have hB : Below w6.heap.size w6 w7 := hb
  have HB_7 : Hid (Below w.heap.size w w7) := HB_6.out.trans (hB.mono HB_6.out.size)
  have RP_7 : Hid (Rd w7 pa qi) := RP_6.out.later hB
  have RT_7 : Hid (RdT w7 lo l) := RT_6.out.later hB
  have BW_7 : Hid (OwnBd w7 w2.heap.size w3.heap.size (.slice sa1 ns sc1) (.slice la1 nl lc1) (.slice ta1 nt tc1) nb) := BW_6.out.later hB
  have BWD_7 : Hid (OwnB w7 w2.heap.size (Value.slice da1 nd dc1) (dd)) := BWD_6.out.later hB
  have X_7 : Hid (X5 w7 w3.heap.size (.int .i64 nf) (.int .i64 ne) (.slice sa1 ns sc1) (.slice la1 nl lc1) (.slice ta1 nt tc1)) := X_6.out.later hB
  have P2_7 : Hid (Own w7 w4.heap.size (Value.slice p2 pn k2) (qi)) := P2_6.out.later hB
  have S2_7 : Hid (OwnT w7 w5.heap.size (Value.slice t2 n u2) (l)) := S2_6.out.later hB
  have z7 : w6.heap.size ≤ w7.heap.size := hB.size
  have BG_7 : Hid (OwnBd w7 w6.heap.size w7.heap.size (.slice sa2 ns sc2) (.slice la2 nl lc2) (.slice ta2 nt tc2) nb) := ho
  have BGD_7 : Hid (OwnB w7 w6.heap.size (Value.slice da2 nd dc2) (dd)) := hd
  have I_BGD : Hid (∀ k, (Value.slice da2 nd dc2).ownBlock = some k → w6.heap.size ≤ k ∧ k < w7.heap.size) := World.ownsRow.lt BGD_7.out
  clear hb hB HB_6 RP_6 RT_6 BW_6 BWD_6 X_6 P2_6 S2_6 ho hd
  have hHB := HB_7.out.alloc HB_7.out.size (.cells #[.int .i64 nf, .int .i64 ne, .slice sa2 ns sc2, .slice la2 nl lc2, .slice ta2 nt tc2] 29)
  have hRP := RP_7.out.later (balloc w7 (.cells #[.int .i64 nf, .int .i64 ne, .slice sa2 ns sc2, .slice la2 nl lc2, .slice ta2 nt tc2] 29))
  have hRT := RT_7.out.later (balloc w7 (.cells #[.int .i64 nf, .int .i64 ne, .slice sa2 ns sc2, .slice la2 nl lc2, .slice ta2 nt tc2] 29))
  have hBW := BW_7.out.later (balloc w7 (.cells #[.int .i64 nf, .int .i64 ne, .slice sa2 ns sc2, .slice la2 nl lc2, .slice ta2 nt tc2] 29))
  have hBWD := BWD_7.out.later (balloc w7 (.cells #[.int .i64 nf, .int .i64 ne, .slice sa2 ns sc2, .slice la2 nl lc2, .slice ta2 nt tc2] 29))
  have hX := X_7.out.later (balloc w7 (.cells #[.int .i64 nf, .int .i64 ne, .slice sa2 ns sc2, .slice la2 nl lc2, .slice ta2 nt tc2] 29))
  have hP2 := P2_7.out.later (balloc w7 (.cells #[.int .i64 nf, .int .i64 ne, .slice sa2 ns sc2, .slice la2 nl lc2, .slice ta2 nt tc2] 29))
  have hS2 := S2_7.out.later (balloc w7 (.cells #[.int .i64 nf, .int .i64 ne, .slice sa2 ns sc2, .slice la2 nl lc2, .slice ta2 nt tc2] 29))
  have hBG := BG_7.out.later (balloc w7 (.cells #[.int .i64 nf, .int .i64 ne, .slice sa2 ns sc2, .slice la2 nl lc2, .slice ta2 nt tc2] 29))
  have hBGD := BGD_7.out.later (balloc w7 (.cells #[.int .i64 nf, .int .i64 ne, .slice sa2 ns sc2, .slice la2 nl lc2, .slice ta2 nt tc2] 29))
  have hY := x5_new w7 (.int .i64 nf) (.int .i64 ne) (.slice sa2 ns sc2) (.slice la2 nl lc2) (.slice ta2 nt tc2) 29 w7.heap.size rfl
  have hz : (w7.alloc (.cells #[.int .i64 nf, .int .i64 ne, .slice sa2 ns sc2, .slice la2 nl lc2, .slice ta2 nt tc2] 29)).heap.size = w7.heap.size + 1 := by simp
  obtain ⟨w8, hV8⟩ : ∃ V, w7.alloc (.cells #[.int .i64 nf, .int .i64 ne, .slice sa2 ns sc2, .slice la2 nl lc2, .slice ta2 nt tc2] 29) = V := ⟨_, rfl⟩
  rw [hV8] at hHB hRP hRT hBW hBWD hX hP2 hS2 hBG hBGD hY hz
  have HB_8 : Hid (Below w.heap.size w w8) := hHB
  have RP_8 : Hid (Rd w8 pa qi) := hRP
  have RT_8 : Hid (RdT w8 lo l) := hRT
  have BW_8 : Hid (OwnBd w8 w2.heap.size w3.heap.size (.slice sa1 ns sc1) (.slice la1 nl lc1) (.slice ta1 nt tc1) nb) := hBW
  have BWD_8 : Hid (OwnB w8 w2.heap.size (Value.slice da1 nd dc1) (dd)) := hBWD
  have X_8 : Hid (X5 w8 w3.heap.size (.int .i64 nf) (.int .i64 ne) (.slice sa1 ns sc1) (.slice la1 nl lc1) (.slice ta1 nt tc1)) := hX
  have P2_8 : Hid (Own w8 w4.heap.size (Value.slice p2 pn k2) (qi)) := hP2
  have S2_8 : Hid (OwnT w8 w5.heap.size (Value.slice t2 n u2) (l)) := hS2
  have BG_8 : Hid (OwnBd w8 w6.heap.size w7.heap.size (.slice sa2 ns sc2) (.slice la2 nl lc2) (.slice ta2 nt tc2) nb) := hBG
  have BGD_8 : Hid (OwnB w8 w6.heap.size (Value.slice da2 nd dc2) (dd)) := hBGD
  have Y_8 : Hid (X5 w8 w7.heap.size (.int .i64 nf) (.int .i64 ne) (.slice sa2 ns sc2) (.slice la2 nl lc2) (.slice ta2 nt tc2)) := hY
  have z8 : w7.heap.size + 1 ≤ w8.heap.size := by omega
  clear HB_7 RP_7 RT_7 BW_7 BWD_7 X_7 P2_7 S2_7 BG_7 BGD_7 hHB hRP hRT hBW hBWD hX hP2 hS2 hBG hBGD hY hz
  obtain ⟨⟨Xq0, Xq1, Xq2, Xq3, Xq4⟩, Xf⟩ := id (X_8.out)
  clear Xf
  obtain ⟨⟨Yq0, Yq1, Yq2, Yq3, Yq4⟩, Yf⟩ := id (Y_8.out)
  clear Yf
  go_wp2_with fail
  clear hV8
  refine (eqBoard_c nf ne sa2 ns sc2 la2 nl lc2 ta2 nt tc2 sa1 sc1 la1 lc1 ta1 tc1 nb _ HSN.out BG_8.out.rd BW_8.out.rd).mono ?_
  clear Xq0 Xq1 Xq2 Xq3 Xq4
  clear Yq0 Yq1 Yq2 Yq3 Yq4
  rintro e w9 ⟨rfl, hb⟩
  have hB : Below w8.heap.size w8 w9 := hb
  have HB_9 : Hid (Below w.heap.size w w9) := HB_8.out.trans (hB.mono HB_8.out.size)
  have RP_9 : Hid (Rd w9 pa qi) := RP_8.out.later hB
  have RT_9 : Hid (RdT w9 lo l) := RT_8.out.later hB
  have BW_9 : Hid (OwnBd w9 w2.heap.size w3.heap.size (.slice sa1 ns sc1) (.slice la1 nl lc1) (.slice ta1 nt tc1) nb) := BW_8.out.later hB
  have BWD_9 : Hid (OwnB w9 w2.heap.size (Value.slice da1 nd dc1) (dd)) := BWD_8.out.later hB
  have X_9 : Hid (X5 w9 w3.heap.size (.int .i64 nf) (.int .i64 ne) (.slice sa1 ns sc1) (.slice la1 nl lc1) (.slice ta1 nt tc1)) := X_8.out.later hB
  have P2_9 : Hid (Own w9 w4.heap.size (Value.slice p2 pn k2) (qi)) := P2_8.out.later hB
  have S2_9 : Hid (OwnT w9 w5.heap.size (Value.slice t2 n u2) (l)) := S2_8.out.later hB
  have BG_9 : Hid (OwnBd w9 w6.heap.size w7.heap.size (.slice sa2 ns sc2) (.slice la2 nl lc2) (.slice ta2 nt tc2) nb) := BG_8.out.later hB
  have BGD_9 : Hid (OwnB w9 w6.heap.size (Value.slice da2 nd dc2) (dd)) := BGD_8.out.later hB
  have Y_9 : Hid (X5 w9 w7.heap.size (.int .i64 nf) (.int .i64 ne) (.slice sa2 ns sc2) (.slice la2 nl lc2) (.slice ta2 nt tc2)) := Y_8.out.later hB
  have z9 : w8.heap.size ≤ w9.heap.size := hB.size
  clear hb hB HB_8 RP_8 RT_8 BW_8 BWD_8 X_8 P2_8 S2_8 BG_8 BGD_8 Y_8 
  go_wp2_with fail
  refine (eqBoolS_c da2 da1 nd nd dc2 dc1 dd dd _ HD.out HD.out (by omega) (by omega) BGD_9.out.rd'.2 BWD_9.out.rd'.2).mono ?_
  rw [decide_eq_true rfl]
  rintro e w10 ⟨rfl, hb⟩
  have hB : Below w9.heap.size w9 w10 := hb
  have HB_10 : Hid (Below w.heap.size w w10) := HB_9.out.trans (hB.mono HB_9.out.size)
  have RP_10 : Hid (Rd w10 pa qi) := RP_9.out.later hB
  have RT_10 : Hid (RdT w10 lo l) := RT_9.out.later hB
  have BW_10 : Hid (OwnBd w10 w2.heap.size w3.heap.size (.slice sa1 ns sc1) (.slice la1 nl lc1) (.slice ta1 nt tc1) nb) := BW_9.out.later hB
  have BWD_10 : Hid (OwnB w10 w2.heap.size (Value.slice da1 nd dc1) (dd)) := BWD_9.out.later hB
  have X_10 : Hid (X5 w10 w3.heap.size (.int .i64 nf) (.int .i64 ne) (.slice sa1 ns sc1) (.slice la1 nl lc1) (.slice ta1 nt tc1)) := X_9.out.later hB
  have P2_10 : Hid (Own w10 w4.heap.size (Value.slice p2 pn k2) (qi)) := P2_9.out.later hB
  have S2_10 : Hid (OwnT w10 w5.heap.size (Value.slice t2 n u2) (l)) := S2_9.out.later hB
  have BG_10 : Hid (OwnBd w10 w6.heap.size w7.heap.size (.slice sa2 ns sc2) (.slice la2 nl lc2) (.slice ta2 nt tc2) nb) := BG_9.out.later hB
  have BGD_10 : Hid (OwnB w10 w6.heap.size (Value.slice da2 nd dc2) (dd)) := BGD_9.out.later hB
  have Y_10 : Hid (X5 w10 w7.heap.size (.int .i64 nf) (.int .i64 ne) (.slice sa2 ns sc2) (.slice la2 nl lc2) (.slice ta2 nt tc2)) := Y_9.out.later hB
  have z10 : w9.heap.size ≤ w10.heap.size := hB.size
  clear hb hB HB_9 RP_9 RT_9 BW_9 BWD_9 X_9 P2_9 S2_9 BG_9 BGD_9 Y_9 
  go_wp2_with fail
  refine (toIntS_c pa pn pc qi _ HP.out (by omega) RP_10.out).mono ?_
  rintro e w11 ⟨p3, k3, rfl, ho, hb⟩
  have hB : Below w10.heap.size w10 w11 := hb
  have HB_11 : Hid (Below w.heap.size w w11) := HB_10.out.trans (hB.mono HB_10.out.size)
  have RP_11 : Hid (Rd w11 pa qi) := RP_10.out.later hB
  have RT_11 : Hid (RdT w11 lo l) := RT_10.out.later hB
  have BW_11 : Hid (OwnBd w11 w2.heap.size w3.heap.size (.slice sa1 ns sc1) (.slice la1 nl lc1) (.slice ta1 nt tc1) nb) := BW_10.out.later hB
  have BWD_11 : Hid (OwnB w11 w2.heap.size (Value.slice da1 nd dc1) (dd)) := BWD_10.out.later hB
  have X_11 : Hid (X5 w11 w3.heap.size (.int .i64 nf) (.int .i64 ne) (.slice sa1 ns sc1) (.slice la1 nl lc1) (.slice ta1 nt tc1)) := X_10.out.later hB
  have P2_11 : Hid (Own w11 w4.heap.size (Value.slice p2 pn k2) (qi)) := P2_10.out.later hB
  have S2_11 : Hid (OwnT w11 w5.heap.size (Value.slice t2 n u2) (l)) := S2_10.out.later hB
  have BG_11 : Hid (OwnBd w11 w6.heap.size w7.heap.size (.slice sa2 ns sc2) (.slice la2 nl lc2) (.slice ta2 nt tc2) nb) := BG_10.out.later hB
  have BGD_11 : Hid (OwnB w11 w6.heap.size (Value.slice da2 nd dc2) (dd)) := BGD_10.out.later hB
  have Y_11 : Hid (X5 w11 w7.heap.size (.int .i64 nf) (.int .i64 ne) (.slice sa2 ns sc2) (.slice la2 nl lc2) (.slice ta2 nt tc2)) := Y_10.out.later hB
  have z11 : w10.heap.size ≤ w11.heap.size := hB.size
  have P3_11 : Hid (Own w11 w10.heap.size (Value.slice p3 pn k3) (qi)) := ho
  have I_P3 : Hid (∀ k, (Value.slice p3 pn k3).ownBlock = some k → w10.heap.size ≤ k ∧ k < w11.heap.size) := World.ownsRow.lt P3_11.out
  clear hb hB HB_10 RP_10 RT_10 BW_10 BWD_10 X_10 P2_10 S2_10 BG_10 BGD_10 Y_10 ho
  go_wp2_with fail
  refine (eqIntS_c p2 p3 pn pn k2 k3 qi qi _ HP.out HP.out (by omega) (by omega) P2_11.out.rd'.2 P3_11.out.rd'.2).mono ?_
  rw [decide_eq_true rfl]
  rintro e w12 ⟨rfl, hb⟩
  have hB : Below w11.heap.size w11 w12 := hb
  have HB_12 : Hid (Below w.heap.size w w12) := HB_11.out.trans (hB.mono HB_11.out.size)
  have RP_12 : Hid (Rd w12 pa qi) := RP_11.out.later hB
  have RT_12 : Hid (RdT w12 lo l) := RT_11.out.later hB
  have BW_12 : Hid (OwnBd w12 w2.heap.size w3.heap.size (.slice sa1 ns sc1) (.slice la1 nl lc1) (.slice ta1 nt tc1) nb) := BW_11.out.later hB
  have BWD_12 : Hid (OwnB w12 w2.heap.size (Value.slice da1 nd dc1) (dd)) := BWD_11.out.later hB
  have X_12 : Hid (X5 w12 w3.heap.size (.int .i64 nf) (.int .i64 ne) (.slice sa1 ns sc1) (.slice la1 nl lc1) (.slice ta1 nt tc1)) := X_11.out.later hB
  have P2_12 : Hid (Own w12 w4.heap.size (Value.slice p2 pn k2) (qi)) := P2_11.out.later hB
  have S2_12 : Hid (OwnT w12 w5.heap.size (Value.slice t2 n u2) (l)) := S2_11.out.later hB
  have BG_12 : Hid (OwnBd w12 w6.heap.size w7.heap.size (.slice sa2 ns sc2) (.slice la2 nl lc2) (.slice ta2 nt tc2) nb) := BG_11.out.later hB
  have BGD_12 : Hid (OwnB w12 w6.heap.size (Value.slice da2 nd dc2) (dd)) := BGD_11.out.later hB
  have Y_12 : Hid (X5 w12 w7.heap.size (.int .i64 nf) (.int .i64 ne) (.slice sa2 ns sc2) (.slice la2 nl lc2) (.slice ta2 nt tc2)) := Y_11.out.later hB
  have z12 : w11.heap.size ≤ w12.heap.size := hB.size
  clear hb hB HB_11 RP_11 RT_11 BW_11 BWD_11 X_11 P2_11 S2_11 BG_11 BGD_11 Y_11 P3_11 
  go_wp2_with fail
  refine (toBoardStepS_c lo n lc l _ HX.out hn RT_12.out).mono ?_
  rintro e w13 ⟨t3, u3, rfl, ho, hb⟩
  have hB : Below w12.heap.size w12 w13 := hb
  have HB_13 : Hid (Below w.heap.size w w13) := HB_12.out.trans (hB.mono HB_12.out.size)
  have RP_13 : Hid (Rd w13 pa qi) := RP_12.out.later hB
  have RT_13 : Hid (RdT w13 lo l) := RT_12.out.later hB
  have BW_13 : Hid (OwnBd w13 w2.heap.size w3.heap.size (.slice sa1 ns sc1) (.slice la1 nl lc1) (.slice ta1 nt tc1) nb) := BW_12.out.later hB
  have BWD_13 : Hid (OwnB w13 w2.heap.size (Value.slice da1 nd dc1) (dd)) := BWD_12.out.later hB
  have X_13 : Hid (X5 w13 w3.heap.size (.int .i64 nf) (.int .i64 ne) (.slice sa1 ns sc1) (.slice la1 nl lc1) (.slice ta1 nt tc1)) := X_12.out.later hB
  have P2_13 : Hid (Own w13 w4.heap.size (Value.slice p2 pn k2) (qi)) := P2_12.out.later hB
  have S2_13 : Hid (OwnT w13 w5.heap.size (Value.slice t2 n u2) (l)) := S2_12.out.later hB
  have BG_13 : Hid (OwnBd w13 w6.heap.size w7.heap.size (.slice sa2 ns sc2) (.slice la2 nl lc2) (.slice ta2 nt tc2) nb) := BG_12.out.later hB
  have BGD_13 : Hid (OwnB w13 w6.heap.size (Value.slice da2 nd dc2) (dd)) := BGD_12.out.later hB
  have Y_13 : Hid (X5 w13 w7.heap.size (.int .i64 nf) (.int .i64 ne) (.slice sa2 ns sc2) (.slice la2 nl lc2) (.slice ta2 nt tc2)) := Y_12.out.later hB
  have z13 : w12.heap.size ≤ w13.heap.size := hB.size
  have S3_13 : Hid (OwnT w13 w12.heap.size (Value.slice t3 n u3) (l)) := ho
  have I_S3 : Hid (∀ k, (Value.slice t3 n u3).ownBlock = some k → w12.heap.size ≤ k ∧ k < w13.heap.size) := World.ownsRow.lt S3_13.out
  clear hb hB HB_12 RP_12 RT_12 BW_12 BWD_12 X_12 P2_12 S2_12 BG_12 BGD_12 Y_12 ho
  go_wp2_with fail
  refine (eqBoardStepS_c t2 t3 n n u2 u3 l l _ HX.out HX.out (by omega) (by omega) S2_13.out.rd'.2 S3_13.out.rd'.2).mono ?_
  rw [decide_eq_true rfl]
  rintro e w14 ⟨rfl, hb⟩
  have hB : Below w13.heap.size w13 w14 := hb
  have HB_14 : Hid (Below w.heap.size w w14) := HB_13.out.trans (hB.mono HB_13.out.size)
  have RP_14 : Hid (Rd w14 pa qi) := RP_13.out.later hB
  have RT_14 : Hid (RdT w14 lo l) := RT_13.out.later hB
  have BW_14 : Hid (OwnBd w14 w2.heap.size w3.heap.size (.slice sa1 ns sc1) (.slice la1 nl lc1) (.slice ta1 nt tc1) nb) := BW_13.out.later hB
  have BWD_14 : Hid (OwnB w14 w2.heap.size (Value.slice da1 nd dc1) (dd)) := BWD_13.out.later hB
  have X_14 : Hid (X5 w14 w3.heap.size (.int .i64 nf) (.int .i64 ne) (.slice sa1 ns sc1) (.slice la1 nl lc1) (.slice ta1 nt tc1)) := X_13.out.later hB
  have P2_14 : Hid (Own w14 w4.heap.size (Value.slice p2 pn k2) (qi)) := P2_13.out.later hB
  have S2_14 : Hid (OwnT w14 w5.heap.size (Value.slice t2 n u2) (l)) := S2_13.out.later hB
  have BG_14 : Hid (OwnBd w14 w6.heap.size w7.heap.size (.slice sa2 ns sc2) (.slice la2 nl lc2) (.slice ta2 nt tc2) nb) := BG_13.out.later hB
  have BGD_14 : Hid (OwnB w14 w6.heap.size (Value.slice da2 nd dc2) (dd)) := BGD_13.out.later hB
  have Y_14 : Hid (X5 w14 w7.heap.size (.int .i64 nf) (.int .i64 ne) (.slice sa2 ns sc2) (.slice la2 nl lc2) (.slice ta2 nt tc2)) := Y_13.out.later hB
  have z14 : w13.heap.size ≤ w14.heap.size := hB.size
  clear hb hB HB_13 RP_13 RT_13 BW_13 BWD_13 X_13 P2_13 S2_13 BG_13 BGD_13 Y_13 S3_13 
  go_wp2_with fail
  refine (markIntS_c p2 pn k2 1 w4.heap.size qi _ (by omega) (by omega) (by omega) P2_14.out).mono ?_
  rw [HK1.out]
  rintro x w15 ⟨rfl, ho, hg⟩
  have z15 : w14.heap.size ≤ w15.heap.size := hg.size
  have hr := RngP.ofGrown hg (pp := fun k => (Value.slice p2 pn k2).ownBlock = some k) (fun k h => h)
  have HB_15 : Hid (Below w.heap.size w w15) := HB_14.out.trans (hr.below (fun k h => by have := HB_14.out.size; have h9 := I_P2.out _ h; omega) HB_14.out.size)
  have BW_15 : Hid (OwnBd w15 w2.heap.size w3.heap.size (.slice sa1 ns sc1) (.slice la1 nl lc1) (.slice ta1 nt tc1) nb) := BW_14.out.rng hr (fun k1 h1 h2 h => by have h9 := I_P2.out _ h; omega)
  have BWD_15 : Hid (OwnB w15 w2.heap.size (Value.slice da1 nd dc1) (dd)) := BWD_14.out.rngP hr (fun k0 h0 h => by have := I_BWD.out k0 h0; have h9 := I_P2.out _ h; omega)
  have X_15 : Hid (X5 w15 w3.heap.size (.int .i64 nf) (.int .i64 ne) (.slice sa1 ns sc1) (.slice la1 nl lc1) (.slice ta1 nt tc1)) := X_14.out.rngP hr (fun h => by have h9 := I_P2.out _ h; omega)
  have S2_15 : Hid (OwnT w15 w5.heap.size (Value.slice t2 n u2) (l)) := S2_14.out.rngP hr (fun k0 h0 h => by have := I_S2.out k0 h0; have h9 := I_P2.out _ h; omega)
  have BG_15 : Hid (OwnBd w15 w6.heap.size w7.heap.size (.slice sa2 ns sc2) (.slice la2 nl lc2) (.slice ta2 nt tc2) nb) := BG_14.out.rng hr (fun k1 h1 h2 h => by have h9 := I_P2.out _ h; omega)
  have BGD_15 : Hid (OwnB w15 w6.heap.size (Value.slice da2 nd dc2) (dd)) := BGD_14.out.rngP hr (fun k0 h0 h => by have := I_BGD.out k0 h0; have h9 := I_P2.out _ h; omega)
  have Y_15 : Hid (X5 w15 w7.heap.size (.int .i64 nf) (.int .i64 ne) (.slice sa2 ns sc2) (.slice la2 nl lc2) (.slice ta2 nt tc2)) := Y_14.out.rngP hr (fun h => by have h9 := I_P2.out _ h; omega)
  have RP_15 : Hid (Rd w15 pa qi) := HR0RP.out _ HB_15.out
  have RT_15 : Hid (RdT w15 lo l) := HR0RT.out _ HB_15.out
  have P2_15 : Hid (Own w15 w4.heap.size (Value.slice p2 pn k2) (marks 1 pn)) := ho
  clear ho hg hr HB_14 RP_14 RT_14 BW_14 BWD_14 X_14 P2_14 S2_14 BG_14 BGD_14 Y_14
  clear P2_15
  go_wp2_with fail
  refine (markBoardStepS_c t2 n u2 K1 w5.heap.size l _ hn (by omega) S2_15.out).mono ?_
  rw [HK2.out]
  rintro x w16 ⟨rfl, ho, hg⟩
  have z16 : w15.heap.size ≤ w16.heap.size := hg.size
  have hr := RngP.ofGrown hg (pp := fun k => (Value.slice t2 n u2).ownBlock = some k) (fun k h => h)
  have HB_16 : Hid (Below w.heap.size w w16) := HB_15.out.trans (hr.below (fun k h => by have := HB_15.out.size; have h9 := I_S2.out _ h; omega) HB_15.out.size)
  have BW_16 : Hid (OwnBd w16 w2.heap.size w3.heap.size (.slice sa1 ns sc1) (.slice la1 nl lc1) (.slice ta1 nt tc1) nb) := BW_15.out.rng hr (fun k1 h1 h2 h => by have h9 := I_S2.out _ h; omega)
  have BWD_16 : Hid (OwnB w16 w2.heap.size (Value.slice da1 nd dc1) (dd)) := BWD_15.out.rngP hr (fun k0 h0 h => by have := I_BWD.out k0 h0; have h9 := I_S2.out _ h; omega)
  have X_16 : Hid (X5 w16 w3.heap.size (.int .i64 nf) (.int .i64 ne) (.slice sa1 ns sc1) (.slice la1 nl lc1) (.slice ta1 nt tc1)) := X_15.out.rngP hr (fun h => by have h9 := I_S2.out _ h; omega)
  have BG_16 : Hid (OwnBd w16 w6.heap.size w7.heap.size (.slice sa2 ns sc2) (.slice la2 nl lc2) (.slice ta2 nt tc2) nb) := BG_15.out.rng hr (fun k1 h1 h2 h => by have h9 := I_S2.out _ h; omega)
  have BGD_16 : Hid (OwnB w16 w6.heap.size (Value.slice da2 nd dc2) (dd)) := BGD_15.out.rngP hr (fun k0 h0 h => by have := I_BGD.out k0 h0; have h9 := I_S2.out _ h; omega)
  have Y_16 : Hid (X5 w16 w7.heap.size (.int .i64 nf) (.int .i64 ne) (.slice sa2 ns sc2) (.slice la2 nl lc2) (.slice ta2 nt tc2)) := Y_15.out.rngP hr (fun h => by have h9 := I_S2.out _ h; omega)
  have RP_16 : Hid (Rd w16 pa qi) := HR0RP.out _ HB_16.out
  have RT_16 : Hid (RdT w16 lo l) := HR0RT.out _ HB_16.out
  have S2_16 : Hid (OwnT w16 w5.heap.size (Value.slice t2 n u2) (marksT K1 n)) := ho
  clear ho hg hr HB_15 RP_15 RT_15 BW_15 BWD_15 X_15 S2_15 BG_15 BGD_15 Y_15
  clear S2_16
  obtain ⟨⟨Xq0, Xq1, Xq2, Xq3, Xq4⟩, Xf⟩ := id (X_16.out)
  clear Xf
  obtain ⟨⟨Yq0, Yq1, Yq2, Yq3, Yq4⟩, Yf⟩ := id (Y_16.out)
  clear Yf
  go_wp2_with fail
  refine (eqBoard_c nf ne sa2 ns sc2 la2 nl lc2 ta2 nt tc2 sa1 sc1 la1 lc1 ta1 tc1 nb _ HSN.out BG_16.out.rd BW_16.out.rd).mono ?_
  clear Xq0 Xq1 Xq2 Xq3 Xq4
  clear Yq0 Yq1 Yq2 Yq3 Yq4
  rintro e w17 ⟨rfl, hb⟩
  have hB : Below w16.heap.size w16 w17 := hb
  have HB_17 : Hid (Below w.heap.size w w17) := HB_16.out.trans (hB.mono HB_16.out.size)
  have RP_17 : Hid (Rd w17 pa qi) := RP_16.out.later hB
  have RT_17 : Hid (RdT w17 lo l) := RT_16.out.later hB
  have BW_17 : Hid (OwnBd w17 w2.heap.size w3.heap.size (.slice sa1 ns sc1) (.slice la1 nl lc1) (.slice ta1 nt tc1) nb) := BW_16.out.later hB
  have BWD_17 : Hid (OwnB w17 w2.heap.size (Value.slice da1 nd dc1) (dd)) := BWD_16.out.later hB
  have X_17 : Hid (X5 w17 w3.heap.size (.int .i64 nf) (.int .i64 ne) (.slice sa1 ns sc1) (.slice la1 nl lc1) (.slice ta1 nt tc1)) := X_16.out.later hB
  have BG_17 : Hid (OwnBd w17 w6.heap.size w7.heap.size (.slice sa2 ns sc2) (.slice la2 nl lc2) (.slice ta2 nt tc2) nb) := BG_16.out.later hB
  have BGD_17 : Hid (OwnB w17 w6.heap.size (Value.slice da2 nd dc2) (dd)) := BGD_16.out.later hB
  have Y_17 : Hid (X5 w17 w7.heap.size (.int .i64 nf) (.int .i64 ne) (.slice sa2 ns sc2) (.slice la2 nl lc2) (.slice ta2 nt tc2)) := Y_16.out.later hB
  have z17 : w16.heap.size ≤ w17.heap.size := hB.size
  clear hb hB HB_16 RP_16 RT_16 BW_16 BWD_16 X_16 BG_16 BGD_16 Y_16 
  go_wp2_with fail
  refine (eqBoolS_c da2 da1 nd nd dc2 dc1 dd dd _ HD.out HD.out (by omega) (by omega) BGD_17.out.rd'.2 BWD_17.out.rd'.2).mono ?_
  rw [decide_eq_true rfl]
  rintro e w18 ⟨rfl, hb⟩
  have hB : Below w17.heap.size w17 w18 := hb
  have HB_18 : Hid (Below w.heap.size w w18) := HB_17.out.trans (hB.mono HB_17.out.size)
  have RP_18 : Hid (Rd w18 pa qi) := RP_17.out.later hB
  have RT_18 : Hid (RdT w18 lo l) := RT_17.out.later hB
  have BW_18 : Hid (OwnBd w18 w2.heap.size w3.heap.size (.slice sa1 ns sc1) (.slice la1 nl lc1) (.slice ta1 nt tc1) nb) := BW_17.out.later hB
  have BWD_18 : Hid (OwnB w18 w2.heap.size (Value.slice da1 nd dc1) (dd)) := BWD_17.out.later hB
  have X_18 : Hid (X5 w18 w3.heap.size (.int .i64 nf) (.int .i64 ne) (.slice sa1 ns sc1) (.slice la1 nl lc1) (.slice ta1 nt tc1)) := X_17.out.later hB
  have BG_18 : Hid (OwnBd w18 w6.heap.size w7.heap.size (.slice sa2 ns sc2) (.slice la2 nl lc2) (.slice ta2 nt tc2) nb) := BG_17.out.later hB
  have BGD_18 : Hid (OwnB w18 w6.heap.size (Value.slice da2 nd dc2) (dd)) := BGD_17.out.later hB
  have Y_18 : Hid (X5 w18 w7.heap.size (.int .i64 nf) (.int .i64 ne) (.slice sa2 ns sc2) (.slice la2 nl lc2) (.slice ta2 nt tc2)) := Y_17.out.later hB
  have z18 : w17.heap.size ≤ w18.heap.size := hB.size
  clear hb hB HB_17 RP_17 RT_17 BW_17 BWD_17 X_17 BG_17 BGD_17 Y_17 
  obtain ⟨⟨Yq0, Yq1, Yq2, Yq3, Yq4⟩, Yf⟩ := id (Y_18.out)
  clear Yf
  go_wp2_with fail
  refine (markBoardD_c nf ne sa2 ns sc2 la2 nl lc2 ta2 nt tc2 w6.heap.size w7.heap.size nb _ HSN.out (by omega) BG_18.out BGD_18.out).mono ?_
  rw [HNN.out]
  clear Yq0 Yq1 Yq2 Yq3 Yq4
  rintro x w19 ⟨rfl, ho, hr, hd⟩
  have z19 : w18.heap.size ≤ w19.heap.size := hr.size
  have HB_19 : Hid (Below w.heap.size w w19) := HB_18.out.trans (hr.below (fun k h => by have := HB_18.out.size; have h9 := h; omega) HB_18.out.size)
  have BW_19 : Hid (OwnBd w19 w2.heap.size w3.heap.size (.slice sa1 ns sc1) (.slice la1 nl lc1) (.slice ta1 nt tc1) nb) := BW_18.out.rng hr (fun k1 h1 h2 h => by have h9 := h; omega)
  have BWD_19 : Hid (OwnB w19 w2.heap.size (Value.slice da1 nd dc1) (dd)) := BWD_18.out.rngP hr (fun k0 h0 h => by have := I_BWD.out k0 h0; have h9 := h; omega)
  have X_19 : Hid (X5 w19 w3.heap.size (.int .i64 nf) (.int .i64 ne) (.slice sa1 ns sc1) (.slice la1 nl lc1) (.slice ta1 nt tc1)) := X_18.out.rngP hr (fun h => by have h9 := h; omega)
  have Y_19 : Hid (X5 w19 w7.heap.size (.int .i64 nf) (.int .i64 ne) (.slice sa2 ns sc2) (.slice la2 nl lc2) (.slice ta2 nt tc2)) := Y_18.out.rngP hr (fun h => by have h9 := h; omega)
  have RP_19 : Hid (Rd w19 pa qi) := HR0RP.out _ HB_19.out
  have RT_19 : Hid (RdT w19 lo l) := HR0RT.out _ HB_19.out
  have BG_19 : Hid (OwnBd w19 w6.heap.size w7.heap.size (.slice sa2 ns sc2) (.slice la2 nl lc2) (.slice ta2 nt tc2) (markB nb)) := ho
  have BGD_19 : Hid (OwnB w19 w6.heap.size (Value.slice da2 nd dc2) (dd)) := hd
  clear ho hr hd HB_18 RP_18 RT_18 BW_18 BWD_18 X_18 BG_18 BGD_18 Y_18
  go_wp2_with fail
  refine (markBoolS_c da2 nd dc2 Mn w6.heap.size dd _ (by omega) (by omega) (by omega) BGD_19.out).mono ?_
  rw [HM2.out]
  rintro x w20 ⟨rfl, ho, hg⟩
  have z20 : w19.heap.size ≤ w20.heap.size := hg.size
  have hr := RngP.ofGrown hg (pp := fun k => (Value.slice da2 nd dc2).ownBlock = some k) (fun k h => h)
  have HB_20 : Hid (Below w.heap.size w w20) := HB_19.out.trans (hr.below (fun k h => by have := HB_19.out.size; have h9 := I_BGD.out _ h; omega) HB_19.out.size)
  have BW_20 : Hid (OwnBd w20 w2.heap.size w3.heap.size (.slice sa1 ns sc1) (.slice la1 nl lc1) (.slice ta1 nt tc1) nb) := BW_19.out.rng hr (fun k1 h1 h2 h => by have h9 := I_BGD.out _ h; omega)
  have BWD_20 : Hid (OwnB w20 w2.heap.size (Value.slice da1 nd dc1) (dd)) := BWD_19.out.rngP hr (fun k0 h0 h => by have := I_BWD.out k0 h0; have h9 := I_BGD.out _ h; omega)
  have X_20 : Hid (X5 w20 w3.heap.size (.int .i64 nf) (.int .i64 ne) (.slice sa1 ns sc1) (.slice la1 nl lc1) (.slice ta1 nt tc1)) := X_19.out.rngP hr (fun h => by have h9 := I_BGD.out _ h; omega)
  have Y_20 : Hid (X5 w20 w7.heap.size (.int .i64 nf) (.int .i64 ne) (.slice sa2 ns sc2) (.slice la2 nl lc2) (.slice ta2 nt tc2)) := Y_19.out.rngP hr (fun h => by have h9 := I_BGD.out _ h; omega)
  have RP_20 : Hid (Rd w20 pa qi) := HR0RP.out _ HB_20.out
  have RT_20 : Hid (RdT w20 lo l) := HR0RT.out _ HB_20.out
  have BG_20 : Hid (OwnBd w20 w6.heap.size w7.heap.size (.slice sa2 ns sc2) (.slice la2 nl lc2) (.slice ta2 nt tc2) (markB nb)) := BG_19.out.grownBox hg (fun q hq => OwnB.boxT BGD_19.out hq)
  have BGD_20 : Hid (OwnB w20 w6.heap.size (Value.slice da2 nd dc2) (marksB Mn nd)) := ho
  clear ho hg hr HB_19 RP_19 RT_19 BW_19 BWD_19 X_19 BG_19 BGD_19 Y_19
  obtain ⟨⟨Yq0, Yq1, Yq2, Yq3, Yq4⟩, Yf⟩ := id (Y_20.out)
  clear Yf
  go_wp2_with fail
  refine (heldBoard_c nf ne sa2 ns sc2 la2 nl lc2 ta2 nt tc2 w6.heap.size w7.heap.size nb _ HSN.out HN1.out HN2.out HN3.out BG_20.out).mono ?_
  rw [HNN.out]
  clear Yq0 Yq1 Yq2 Yq3 Yq4
  rintro e w21 ⟨rfl, hb⟩
  have hB : Below w20.heap.size w20 w21 := hb
  have HB_21 : Hid (Below w.heap.size w w21) := HB_20.out.trans (hB.mono HB_20.out.size)
  have RP_21 : Hid (Rd w21 pa qi) := RP_20.out.later hB
  have RT_21 : Hid (RdT w21 lo l) := RT_20.out.later hB
  have BW_21 : Hid (OwnBd w21 w2.heap.size w3.heap.size (.slice sa1 ns sc1) (.slice la1 nl lc1) (.slice ta1 nt tc1) nb) := BW_20.out.later hB
  have BWD_21 : Hid (OwnB w21 w2.heap.size (Value.slice da1 nd dc1) (dd)) := BWD_20.out.later hB
  have X_21 : Hid (X5 w21 w3.heap.size (.int .i64 nf) (.int .i64 ne) (.slice sa1 ns sc1) (.slice la1 nl lc1) (.slice ta1 nt tc1)) := X_20.out.later hB
  have BG_21 : Hid (OwnBd w21 w6.heap.size w7.heap.size (.slice sa2 ns sc2) (.slice la2 nl lc2) (.slice ta2 nt tc2) (markB nb)) := BG_20.out.later hB
  have BGD_21 : Hid (OwnB w21 w6.heap.size (Value.slice da2 nd dc2) (marksB Mn nd)) := BGD_20.out.later hB
  have Y_21 : Hid (X5 w21 w7.heap.size (.int .i64 nf) (.int .i64 ne) (.slice sa2 ns sc2) (.slice la2 nl lc2) (.slice ta2 nt tc2)) := Y_20.out.later hB
  have z21 : w20.heap.size ≤ w21.heap.size := hB.size
  clear hb hB HB_20 RP_20 RT_20 BW_20 BWD_20 X_20 BG_20 BGD_20 Y_20 
  go_wp2_with fail
  refine (heldBoolS_c da2 nd dc2 Mn w6.heap.size _ (by omega) (by omega) (by omega) BGD_21.out).mono ?_
  rw [HM2.out]
  rintro e w' ⟨rfl, hw⟩
  subst w'
  go_wp2_with fail
  refine (toIntS_c pa pn pc qi _ HP.out (by omega) RP_21.out).mono ?_
  rintro e w22 ⟨p4, k4, rfl, ho, hb⟩
  have hB : Below w21.heap.size w21 w22 := hb
  have HB_22 : Hid (Below w.heap.size w w22) := HB_21.out.trans (hB.mono HB_21.out.size)
  have RP_22 : Hid (Rd w22 pa qi) := RP_21.out.later hB
  have RT_22 : Hid (RdT w22 lo l) := RT_21.out.later hB
  have BW_22 : Hid (OwnBd w22 w2.heap.size w3.heap.size (.slice sa1 ns sc1) (.slice la1 nl lc1) (.slice ta1 nt tc1) nb) := BW_21.out.later hB
  have BWD_22 : Hid (OwnB w22 w2.heap.size (Value.slice da1 nd dc1) (dd)) := BWD_21.out.later hB
  have X_22 : Hid (X5 w22 w3.heap.size (.int .i64 nf) (.int .i64 ne) (.slice sa1 ns sc1) (.slice la1 nl lc1) (.slice ta1 nt tc1)) := X_21.out.later hB
  have BG_22 : Hid (OwnBd w22 w6.heap.size w7.heap.size (.slice sa2 ns sc2) (.slice la2 nl lc2) (.slice ta2 nt tc2) (markB nb)) := BG_21.out.later hB
  have BGD_22 : Hid (OwnB w22 w6.heap.size (Value.slice da2 nd dc2) (marksB Mn nd)) := BGD_21.out.later hB
  have Y_22 : Hid (X5 w22 w7.heap.size (.int .i64 nf) (.int .i64 ne) (.slice sa2 ns sc2) (.slice la2 nl lc2) (.slice ta2 nt tc2)) := Y_21.out.later hB
  have z22 : w21.heap.size ≤ w22.heap.size := hB.size
  have P4_22 : Hid (Own w22 w21.heap.size (Value.slice p4 pn k4) (qi)) := ho
  have I_P4 : Hid (∀ k, (Value.slice p4 pn k4).ownBlock = some k → w21.heap.size ≤ k ∧ k < w22.heap.size) := World.ownsRow.lt P4_22.out
  clear hb hB HB_21 RP_21 RT_21 BW_21 BWD_21 X_21 BG_21 BGD_21 Y_21 ho
  go_wp2_with fail
  refine (toBoardStepS_c lo n lc l _ HX.out hn RT_22.out).mono ?_
  rintro e w23 ⟨t4, u4, rfl, ho, hb⟩
  have hB : Below w22.heap.size w22 w23 := hb
  have HB_23 : Hid (Below w.heap.size w w23) := HB_22.out.trans (hB.mono HB_22.out.size)
  have RP_23 : Hid (Rd w23 pa qi) := RP_22.out.later hB
  have RT_23 : Hid (RdT w23 lo l) := RT_22.out.later hB
  have BW_23 : Hid (OwnBd w23 w2.heap.size w3.heap.size (.slice sa1 ns sc1) (.slice la1 nl lc1) (.slice ta1 nt tc1) nb) := BW_22.out.later hB
  have BWD_23 : Hid (OwnB w23 w2.heap.size (Value.slice da1 nd dc1) (dd)) := BWD_22.out.later hB
  have X_23 : Hid (X5 w23 w3.heap.size (.int .i64 nf) (.int .i64 ne) (.slice sa1 ns sc1) (.slice la1 nl lc1) (.slice ta1 nt tc1)) := X_22.out.later hB
  have BG_23 : Hid (OwnBd w23 w6.heap.size w7.heap.size (.slice sa2 ns sc2) (.slice la2 nl lc2) (.slice ta2 nt tc2) (markB nb)) := BG_22.out.later hB
  have BGD_23 : Hid (OwnB w23 w6.heap.size (Value.slice da2 nd dc2) (marksB Mn nd)) := BGD_22.out.later hB
  have Y_23 : Hid (X5 w23 w7.heap.size (.int .i64 nf) (.int .i64 ne) (.slice sa2 ns sc2) (.slice la2 nl lc2) (.slice ta2 nt tc2)) := Y_22.out.later hB
  have P4_23 : Hid (Own w23 w21.heap.size (Value.slice p4 pn k4) (qi)) := P4_22.out.later hB
  have z23 : w22.heap.size ≤ w23.heap.size := hB.size
  have S4_23 : Hid (OwnT w23 w22.heap.size (Value.slice t4 n u4) (l)) := ho
  have I_S4 : Hid (∀ k, (Value.slice t4 n u4).ownBlock = some k → w22.heap.size ≤ k ∧ k < w23.heap.size) := World.ownsRow.lt S4_23.out
  clear hb hB HB_22 RP_22 RT_22 BW_22 BWD_22 X_22 BG_22 BGD_22 Y_22 P4_22 ho
  go_wp2_with fail
  refine (HQI.out p4 k4 t4 u4 _ P4_23.out S4_23.out (by omega) hn).mono ?_
  rintro e w24 ⟨sa4, sc4, la4, lc4, ta4, tc4, da4, dc4, rfl, ho, hd, hb⟩
  have hB : Below w23.heap.size w23 w24 := hb
  have HB_24 : Hid (Below w.heap.size w w24) := HB_23.out.trans (hB.mono HB_23.out.size)
  have RP_24 : Hid (Rd w24 pa qi) := RP_23.out.later hB
  have RT_24 : Hid (RdT w24 lo l) := RT_23.out.later hB
  have BW_24 : Hid (OwnBd w24 w2.heap.size w3.heap.size (.slice sa1 ns sc1) (.slice la1 nl lc1) (.slice ta1 nt tc1) nb) := BW_23.out.later hB
  have BWD_24 : Hid (OwnB w24 w2.heap.size (Value.slice da1 nd dc1) (dd)) := BWD_23.out.later hB
  have X_24 : Hid (X5 w24 w3.heap.size (.int .i64 nf) (.int .i64 ne) (.slice sa1 ns sc1) (.slice la1 nl lc1) (.slice ta1 nt tc1)) := X_23.out.later hB
  have BG_24 : Hid (OwnBd w24 w6.heap.size w7.heap.size (.slice sa2 ns sc2) (.slice la2 nl lc2) (.slice ta2 nt tc2) (markB nb)) := BG_23.out.later hB
  have BGD_24 : Hid (OwnB w24 w6.heap.size (Value.slice da2 nd dc2) (marksB Mn nd)) := BGD_23.out.later hB
  have Y_24 : Hid (X5 w24 w7.heap.size (.int .i64 nf) (.int .i64 ne) (.slice sa2 ns sc2) (.slice la2 nl lc2) (.slice ta2 nt tc2)) := Y_23.out.later hB
  have z24 : w23.heap.size ≤ w24.heap.size := hB.size
  have BH_24 : Hid (OwnBd w24 w23.heap.size w24.heap.size (.slice sa4 ns sc4) (.slice la4 nl lc4) (.slice ta4 nt tc4) nb) := ho
  have BHD_24 : Hid (OwnB w24 w23.heap.size (Value.slice da4 nd dc4) (dd)) := hd
  have I_BHD : Hid (∀ k, (Value.slice da4 nd dc4).ownBlock = some k → w23.heap.size ≤ k ∧ k < w24.heap.size) := World.ownsRow.lt BHD_24.out
  clear hb hB HB_23 RP_23 RT_23 BW_23 BWD_23 X_23 BG_23 BGD_23 Y_23 P4_23 S4_23 ho hd
  have hHB := HB_24.out.alloc HB_24.out.size (.cells #[.int .i64 nf, .int .i64 ne, .slice sa4 ns sc4, .slice la4 nl lc4, .slice ta4 nt tc4] 29)
  have hRP := RP_24.out.later (balloc w24 (.cells #[.int .i64 nf, .int .i64 ne, .slice sa4 ns sc4, .slice la4 nl lc4, .slice ta4 nt tc4] 29))
  have hRT := RT_24.out.later (balloc w24 (.cells #[.int .i64 nf, .int .i64 ne, .slice sa4 ns sc4, .slice la4 nl lc4, .slice ta4 nt tc4] 29))
  have hBW := BW_24.out.later (balloc w24 (.cells #[.int .i64 nf, .int .i64 ne, .slice sa4 ns sc4, .slice la4 nl lc4, .slice ta4 nt tc4] 29))
  have hBWD := BWD_24.out.later (balloc w24 (.cells #[.int .i64 nf, .int .i64 ne, .slice sa4 ns sc4, .slice la4 nl lc4, .slice ta4 nt tc4] 29))
  have hX := X_24.out.later (balloc w24 (.cells #[.int .i64 nf, .int .i64 ne, .slice sa4 ns sc4, .slice la4 nl lc4, .slice ta4 nt tc4] 29))
  have hBG := BG_24.out.later (balloc w24 (.cells #[.int .i64 nf, .int .i64 ne, .slice sa4 ns sc4, .slice la4 nl lc4, .slice ta4 nt tc4] 29))
  have hBGD := BGD_24.out.later (balloc w24 (.cells #[.int .i64 nf, .int .i64 ne, .slice sa4 ns sc4, .slice la4 nl lc4, .slice ta4 nt tc4] 29))
  have hY := Y_24.out.later (balloc w24 (.cells #[.int .i64 nf, .int .i64 ne, .slice sa4 ns sc4, .slice la4 nl lc4, .slice ta4 nt tc4] 29))
  have hBH := BH_24.out.later (balloc w24 (.cells #[.int .i64 nf, .int .i64 ne, .slice sa4 ns sc4, .slice la4 nl lc4, .slice ta4 nt tc4] 29))
  have hBHD := BHD_24.out.later (balloc w24 (.cells #[.int .i64 nf, .int .i64 ne, .slice sa4 ns sc4, .slice la4 nl lc4, .slice ta4 nt tc4] 29))
  have hZ := x5_new w24 (.int .i64 nf) (.int .i64 ne) (.slice sa4 ns sc4) (.slice la4 nl lc4) (.slice ta4 nt tc4) 29 w24.heap.size rfl
  have hz : (w24.alloc (.cells #[.int .i64 nf, .int .i64 ne, .slice sa4 ns sc4, .slice la4 nl lc4, .slice ta4 nt tc4] 29)).heap.size = w24.heap.size + 1 := by simp
  obtain ⟨w25, hV25⟩ : ∃ V, w24.alloc (.cells #[.int .i64 nf, .int .i64 ne, .slice sa4 ns sc4, .slice la4 nl lc4, .slice ta4 nt tc4] 29) = V := ⟨_, rfl⟩
  rw [hV25] at hHB hRP hRT hBW hBWD hX hBG hBGD hY hBH hBHD hZ hz
  have HB_25 : Hid (Below w.heap.size w w25) := hHB
  have RP_25 : Hid (Rd w25 pa qi) := hRP
  have RT_25 : Hid (RdT w25 lo l) := hRT
  have BW_25 : Hid (OwnBd w25 w2.heap.size w3.heap.size (.slice sa1 ns sc1) (.slice la1 nl lc1) (.slice ta1 nt tc1) nb) := hBW
  have BWD_25 : Hid (OwnB w25 w2.heap.size (Value.slice da1 nd dc1) (dd)) := hBWD
  have X_25 : Hid (X5 w25 w3.heap.size (.int .i64 nf) (.int .i64 ne) (.slice sa1 ns sc1) (.slice la1 nl lc1) (.slice ta1 nt tc1)) := hX
  have BG_25 : Hid (OwnBd w25 w6.heap.size w7.heap.size (.slice sa2 ns sc2) (.slice la2 nl lc2) (.slice ta2 nt tc2) (markB nb)) := hBG
  have BGD_25 : Hid (OwnB w25 w6.heap.size (Value.slice da2 nd dc2) (marksB Mn nd)) := hBGD
  have Y_25 : Hid (X5 w25 w7.heap.size (.int .i64 nf) (.int .i64 ne) (.slice sa2 ns sc2) (.slice la2 nl lc2) (.slice ta2 nt tc2)) := hY
  have BH_25 : Hid (OwnBd w25 w23.heap.size w24.heap.size (.slice sa4 ns sc4) (.slice la4 nl lc4) (.slice ta4 nt tc4) nb) := hBH
  have BHD_25 : Hid (OwnB w25 w23.heap.size (Value.slice da4 nd dc4) (dd)) := hBHD
  have Z_25 : Hid (X5 w25 w24.heap.size (.int .i64 nf) (.int .i64 ne) (.slice sa4 ns sc4) (.slice la4 nl lc4) (.slice ta4 nt tc4)) := hZ
  have z25 : w24.heap.size + 1 ≤ w25.heap.size := by omega
  clear HB_24 RP_24 RT_24 BW_24 BWD_24 X_24 BG_24 BGD_24 Y_24 BH_24 BHD_24 hHB hRP hRT hBW hBWD hX hBG hBGD hY hBH hBHD hZ hz
  obtain ⟨⟨Xq0, Xq1, Xq2, Xq3, Xq4⟩, Xf⟩ := id (X_25.out)
  clear Xf
  obtain ⟨⟨Zq0, Zq1, Zq2, Zq3, Zq4⟩, Zf⟩ := id (Z_25.out)
  clear Zf
  go_wp2_with fail
  clear hV25
  refine (eqBoard_c nf ne sa4 ns sc4 la4 nl lc4 ta4 nt tc4 sa1 sc1 la1 lc1 ta1 tc1 nb _ HSN.out BH_25.out.rd BW_25.out.rd).mono ?_
  clear Xq0 Xq1 Xq2 Xq3 Xq4
  clear Zq0 Zq1 Zq2 Zq3 Zq4
  rintro e w26 ⟨rfl, hb⟩
  have hB : Below w25.heap.size w25 w26 := hb
  have HB_26 : Hid (Below w.heap.size w w26) := HB_25.out.trans (hB.mono HB_25.out.size)
  have RP_26 : Hid (Rd w26 pa qi) := RP_25.out.later hB
  have RT_26 : Hid (RdT w26 lo l) := RT_25.out.later hB
  have BW_26 : Hid (OwnBd w26 w2.heap.size w3.heap.size (.slice sa1 ns sc1) (.slice la1 nl lc1) (.slice ta1 nt tc1) nb) := BW_25.out.later hB
  have BWD_26 : Hid (OwnB w26 w2.heap.size (Value.slice da1 nd dc1) (dd)) := BWD_25.out.later hB
  have X_26 : Hid (X5 w26 w3.heap.size (.int .i64 nf) (.int .i64 ne) (.slice sa1 ns sc1) (.slice la1 nl lc1) (.slice ta1 nt tc1)) := X_25.out.later hB
  have BG_26 : Hid (OwnBd w26 w6.heap.size w7.heap.size (.slice sa2 ns sc2) (.slice la2 nl lc2) (.slice ta2 nt tc2) (markB nb)) := BG_25.out.later hB
  have BGD_26 : Hid (OwnB w26 w6.heap.size (Value.slice da2 nd dc2) (marksB Mn nd)) := BGD_25.out.later hB
  have Y_26 : Hid (X5 w26 w7.heap.size (.int .i64 nf) (.int .i64 ne) (.slice sa2 ns sc2) (.slice la2 nl lc2) (.slice ta2 nt tc2)) := Y_25.out.later hB
  have BH_26 : Hid (OwnBd w26 w23.heap.size w24.heap.size (.slice sa4 ns sc4) (.slice la4 nl lc4) (.slice ta4 nt tc4) nb) := BH_25.out.later hB
  have BHD_26 : Hid (OwnB w26 w23.heap.size (Value.slice da4 nd dc4) (dd)) := BHD_25.out.later hB
  have Z_26 : Hid (X5 w26 w24.heap.size (.int .i64 nf) (.int .i64 ne) (.slice sa4 ns sc4) (.slice la4 nl lc4) (.slice ta4 nt tc4)) := Z_25.out.later hB
  have z26 : w25.heap.size ≤ w26.heap.size := hB.size
  clear hb hB HB_25 RP_25 RT_25 BW_25 BWD_25 X_25 BG_25 BGD_25 Y_25 BH_25 BHD_25 Z_25 
  go_wp2_with fail
  refine (eqBoolS_c da4 da1 nd nd dc4 dc1 dd dd _ HD.out HD.out (by omega) (by omega) BHD_26.out.rd'.2 BWD_26.out.rd'.2).mono ?_
  rw [decide_eq_true rfl]
  rintro e w27 ⟨rfl, hb⟩
  have hB : Below w26.heap.size w26 w27 := hb
  have HB_27 : Hid (Below w.heap.size w w27) := HB_26.out.trans (hB.mono HB_26.out.size)
  have RP_27 : Hid (Rd w27 pa qi) := RP_26.out.later hB
  have RT_27 : Hid (RdT w27 lo l) := RT_26.out.later hB
  have BW_27 : Hid (OwnBd w27 w2.heap.size w3.heap.size (.slice sa1 ns sc1) (.slice la1 nl lc1) (.slice ta1 nt tc1) nb) := BW_26.out.later hB
  have BWD_27 : Hid (OwnB w27 w2.heap.size (Value.slice da1 nd dc1) (dd)) := BWD_26.out.later hB
  have X_27 : Hid (X5 w27 w3.heap.size (.int .i64 nf) (.int .i64 ne) (.slice sa1 ns sc1) (.slice la1 nl lc1) (.slice ta1 nt tc1)) := X_26.out.later hB
  have BG_27 : Hid (OwnBd w27 w6.heap.size w7.heap.size (.slice sa2 ns sc2) (.slice la2 nl lc2) (.slice ta2 nt tc2) (markB nb)) := BG_26.out.later hB
  have BGD_27 : Hid (OwnB w27 w6.heap.size (Value.slice da2 nd dc2) (marksB Mn nd)) := BGD_26.out.later hB
  have Y_27 : Hid (X5 w27 w7.heap.size (.int .i64 nf) (.int .i64 ne) (.slice sa2 ns sc2) (.slice la2 nl lc2) (.slice ta2 nt tc2)) := Y_26.out.later hB
  have BH_27 : Hid (OwnBd w27 w23.heap.size w24.heap.size (.slice sa4 ns sc4) (.slice la4 nl lc4) (.slice ta4 nt tc4) nb) := BH_26.out.later hB
  have BHD_27 : Hid (OwnB w27 w23.heap.size (Value.slice da4 nd dc4) (dd)) := BHD_26.out.later hB
  have Z_27 : Hid (X5 w27 w24.heap.size (.int .i64 nf) (.int .i64 ne) (.slice sa4 ns sc4) (.slice la4 nl lc4) (.slice ta4 nt tc4)) := Z_26.out.later hB
  have z27 : w26.heap.size ≤ w27.heap.size := hB.size
  clear hb hB HB_26 RP_26 RT_26 BW_26 BWD_26 X_26 BG_26 BGD_26 Y_26 BH_26 BHD_26 Z_26 
  obtain ⟨⟨Yq0, Yq1, Yq2, Yq3, Yq4⟩, Yf⟩ := id (Y_27.out)
  clear Yf
  go_wp2_with fail
  refine (heldBoard_c nf ne sa2 ns sc2 la2 nl lc2 ta2 nt tc2 w6.heap.size w7.heap.size nb _ HSN.out HN1.out HN2.out HN3.out BG_27.out).mono ?_
  rw [HNN.out]
  clear Yq0 Yq1 Yq2 Yq3 Yq4
  rintro e w28 ⟨rfl, hb⟩
  have hB : Below w27.heap.size w27 w28 := hb
  have HB_28 : Hid (Below w.heap.size w w28) := HB_27.out.trans (hB.mono HB_27.out.size)
  have RP_28 : Hid (Rd w28 pa qi) := RP_27.out.later hB
  have RT_28 : Hid (RdT w28 lo l) := RT_27.out.later hB
  have BW_28 : Hid (OwnBd w28 w2.heap.size w3.heap.size (.slice sa1 ns sc1) (.slice la1 nl lc1) (.slice ta1 nt tc1) nb) := BW_27.out.later hB
  have BWD_28 : Hid (OwnB w28 w2.heap.size (Value.slice da1 nd dc1) (dd)) := BWD_27.out.later hB
  have X_28 : Hid (X5 w28 w3.heap.size (.int .i64 nf) (.int .i64 ne) (.slice sa1 ns sc1) (.slice la1 nl lc1) (.slice ta1 nt tc1)) := X_27.out.later hB
  have BG_28 : Hid (OwnBd w28 w6.heap.size w7.heap.size (.slice sa2 ns sc2) (.slice la2 nl lc2) (.slice ta2 nt tc2) (markB nb)) := BG_27.out.later hB
  have BGD_28 : Hid (OwnB w28 w6.heap.size (Value.slice da2 nd dc2) (marksB Mn nd)) := BGD_27.out.later hB
  have Y_28 : Hid (X5 w28 w7.heap.size (.int .i64 nf) (.int .i64 ne) (.slice sa2 ns sc2) (.slice la2 nl lc2) (.slice ta2 nt tc2)) := Y_27.out.later hB
  have BH_28 : Hid (OwnBd w28 w23.heap.size w24.heap.size (.slice sa4 ns sc4) (.slice la4 nl lc4) (.slice ta4 nt tc4) nb) := BH_27.out.later hB
  have BHD_28 : Hid (OwnB w28 w23.heap.size (Value.slice da4 nd dc4) (dd)) := BHD_27.out.later hB
  have Z_28 : Hid (X5 w28 w24.heap.size (.int .i64 nf) (.int .i64 ne) (.slice sa4 ns sc4) (.slice la4 nl lc4) (.slice ta4 nt tc4)) := Z_27.out.later hB
  have z28 : w27.heap.size ≤ w28.heap.size := hB.size
  clear hb hB HB_27 RP_27 RT_27 BW_27 BWD_27 X_27 BG_27 BGD_27 Y_27 BH_27 BHD_27 Z_27 
  go_wp2_with fail
  refine (heldBoolS_c da2 nd dc2 Mn w6.heap.size _ (by omega) (by omega) (by omega) BGD_28.out).mono ?_
  rw [HM2.out]
  rintro e w' ⟨rfl, hw⟩
  subst w'
  go_wp2
  go_ret
  exact ⟨rfl, HB_28.out⟩

end Go.Proofs.Ytaokmjbhgkfnfaa

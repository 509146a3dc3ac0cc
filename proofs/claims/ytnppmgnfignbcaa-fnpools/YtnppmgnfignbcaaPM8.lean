/- Chapter 8, the program: rounds played. -/
import Derived.Test.YtnppmgnfignbcaaWR8
namespace Go.Proofs.Ytnppmgnfignbcaa
set_option linter.unusedVariables false
set_option maxRecDepth 1000000
set_option linter.unusedSimpArgs false
open Go.RowKit

theorem row_sep {w : World} {b1 b2 n : Nat} {u v : Value} {x : List ByteArray} {vs : List Value} (h : OwnS w b1 u x) (k : w.ownsRow b2 29 1 v n vs) : u.ownBlock = none ∨ u.ownBlock ≠ v.ownBlock := by
  rcases h.2 with ⟨rfl, _⟩ | ⟨g, cap, cur, rfl, _, hg, _⟩
  · exact Or.inl rfl
  · rcases k.2 with ⟨rfl, _⟩ | ⟨g', cap', cur', rfl, _, hg', _⟩
    · exact Or.inr (by simp [Value.ownBlock])
    · refine Or.inr fun e => ?_
      simp only [Value.ownBlock, Option.some.injEq] at e
      subst e
      rw [hg] at hg'
      simp at hg'
theorem OwnSS.shape {w : World} {base : Nat} {v : Value} {xss : List (List ByteArray)} (h : OwnSS w base v xss) : ∃ ao c, v = .slice ao xss.length c := by
  obtain ⟨ao, c, h1, _⟩ := h.rd
  exact ⟨ao, c, h1⟩
theorem OwnSS.ge {w : World} {base : Nat} {v : Value} {xss : List (List ByteArray)} (h : OwnSS w base v xss) : ∀ k, v.ownBlock = some k → base ≤ k := by
  obtain ⟨vs, _, ho, _⟩ := h
  exact fun k e => (World.ownsRow.lt ho k e).1
/-- Rows are kept where one block below their base has turned. -/
theorem OwnSS.kept1 {w w' : World} {base g : Nat} {v : Value} {xss : List (List ByteArray)} (h : OwnSS w base v xss) (hg : w.grownBy w' (some g)) (hlt : g < base) : OwnSS w' base v xss := by
  obtain ⟨vs, hl, ho, hi, hs⟩ := h
  refine ⟨vs, hl, World.ownsRow.kept ho hg (Or.inr fun e => by have := (World.ownsRow.lt ho g e).1; omega), fun j hj => (hi j hj).kept hg (Or.inr fun e => by have := own_block_geS (hi j hj) g e; omega), hs⟩

/-- .. whose rows lie below B. -/
def OwnSL (w : World) (base B : Nat) (v : Value) (xss : List (List ByteArray)) : Prop :=
  ∃ vs : List Value, vs.length = xss.length ∧ w.ownsRow base 29 1 v xss.length vs ∧ (∀ j, j < xss.length → OwnS w base (vs.getD j nilV) (xss.getD j [])) ∧ (∀ i j, i < j → j < xss.length → sepB (vs.getD i nilV) (vs.getD j nilV)) ∧ ∀ j, j < xss.length → ∀ k, (vs.getD j nilV).ownBlock = some k → k < B
theorem OwnSS.lt {w : World} {base : Nat} {v : Value} {xss : List (List ByteArray)} (h : OwnSS w base v xss) : OwnSL w base w.heap.size v xss := by
  obtain ⟨vs, hl, ho, hi, hs⟩ := h
  exact ⟨vs, hl, ho, hi, hs, fun j hj k e => (World.ownsRow.lt (hi j hj) k e).2⟩
theorem OwnSL.later {w w' : World} {base B : Nat} {v : Value} {xss : List (List ByteArray)} (h : OwnSL w base B v xss) (hb : Below w.heap.size w w') : OwnSL w' base B v xss := by
  obtain ⟨vs, hl, ho, hi, hs, ht⟩ := h
  exact ⟨vs, hl, rowLater ho hb, fun j hj => (hi j hj).later hb, hs, ht⟩
theorem OwnSL.kept1 {w w' : World} {base B g : Nat} {v : Value} {xss : List (List ByteArray)} (h : OwnSL w base B v xss) (hg : w.grownBy w' (some g)) (hlt : g < base) : OwnSL w' base B v xss := by
  obtain ⟨vs, hl, ho, hi, hs, ht⟩ := h
  exact ⟨vs, hl, World.ownsRow.kept ho hg (Or.inr fun e => by have := (World.ownsRow.lt ho g e).1; omega), fun j hj => (hi j hj).kept hg (Or.inr fun e => by have := own_block_geS (hi j hj) g e; omega), hs, ht⟩

theorem appendSS_run (w : World) (base B : Nat) (v u : Value) (xss : List (List ByteArray)) (x : List ByteArray) (hown : OwnSL w base B v xss) (hu : OwnS w B u x) (hB : base ≤ B) (hbase : base ≤ w.heap.size) (hn : xss.length ≤ 1000) :
    ∃ v' w', (∀ ty, (Builtin.append_ #[23, 23] ty #[v, .slice (some ⟨w.heap.size, 0, none⟩) 1 1]).run Try.prog (w.alloc (.cells #[u] 29)) = .ok v' w') ∧ OwnSS w' base v' (xss ++ [x]) ∧ (w.alloc (.cells #[u] 29)).grownBy w' v.ownBlock ∧ Below base (w.alloc (.cells #[u] 29)) w' := by
  obtain ⟨i0, hi, hz0, hz1, hz2⟩ := info_parts Try.infoStrs
  obtain ⟨vs, hl, ho, hin, hs, hlt⟩ := hown
  have bW := balloc w (.cells #[u] 29)
  have hoW : (w.alloc (.cells #[u] 29)).ownsRow base 29 1 v xss.length vs := rowLater ho bW
  have huW : OwnS (w.alloc (.cells #[u] 29)) B u x := hu.later bW
  have hone : u.oneCell' = true := by
    obtain ⟨ao, c, h1⟩ := hu.shape
    rw [h1]; rfl
  have hnews : ∀ j y, [u][j]? = some y → (w.alloc (.cells #[u] 29)).cell? ((⟨w.heap.size, 0, none⟩ : Addr).add j) = some y := cell_new1 _ _ _
  obtain ⟨v', w', hrun, hown', hgrow, _⟩ := run_append_own (P := Try.prog) (w.alloc (.cells #[u] 29)) base 23 23 29 i0 (.slice none 0 0) 1 24 Try.underlying23 hi hz0 hz1 hz2 rfl (by decide) v xss.length vs hoW ⟨w.heap.size, 0, none⟩ 1 1 [u] rfl hnews (fun y hy => by simp at hy; subst hy; exact hone) (by unfold maxLen; omega) (by omega) (by simp; omega)
  have hge : ∀ k, v.ownBlock = some k → base ≤ k := fun k e => (World.ownsRow.lt ho k e).1
  refine ⟨v', w', fun ty => hrun, ?_, hgrow, (Below.refl _ _).grown hgrow (by simp; omega) hge⟩
  have ga : ∀ j, j < xss.length → (vs ++ [u]).getD j nilV = vs.getD j nilV := fun j hj => by simp [List.getD, List.getElem?_append_left (show j < vs.length by omega)]
  have gb : (vs ++ [u]).getD xss.length nilV = u := by simp [List.getD, ← hl]
  have xa : ∀ j, j < xss.length → (xss ++ [x]).getD j [] = xss.getD j [] := fun j hj => by simp [List.getD, List.getElem?_append_left hj]
  have xb : (xss ++ [x]).getD xss.length [] = x := by simp [List.getD]
  refine ⟨vs ++ [u], by simp [hl], by rw [show (xss ++ [x]).length = xss.length + 1 by simp]; exact hown', fun j hj => ?_, fun i j hij hj => ?_⟩
  · simp at hj
    by_cases e : j = xss.length
    · subst e
      rw [gb, xb]
      exact (huW.kept hgrow (row_sep huW hoW)).mono hB
    · rw [ga j (by omega), xa j (by omega)]
      have h := (hin j (by omega)).later bW
      exact h.kept hgrow (row_sep h hoW)
  · simp at hj
    by_cases e : j = xss.length
    · subst e
      rw [gb, ga i (by omega)]
      rcases Option.eq_none_or_eq_some (vs.getD i nilV).ownBlock with e1 | ⟨y, e1⟩
      · exact Or.inl e1
      · refine Or.inr fun e2 => ?_
        have h1 := hlt i (by omega) y e1
        have h2 := own_block_geS hu y (e2.symm.trans e1)
        omega
    · rw [ga j (by omega), ga i (by omega)]
      exact hs i j hij (by omega)

/-- What PlayMix hands back. -/
def PlayOut (w w' : World) (e : Ending) : Option (List (List ByteArray)) → Prop
  | none => e = .returned (.tuple #[.slice none 0 0, .bool false])
  | some zss => ∃ a' c', e = .returned (.tuple #[.slice a' zss.length c', .bool true]) ∧ OwnSS w' w.heap.size (.slice a' zss.length c') zss

theorem playM_step {z : MixV} {xss : List (List ByteArray)} {k : Nat} (h : k < xss.length) : playM z (xss.drop k) = if poolB (xss.getD k []) = true then (playM (tickM (putsM z (xss.getD k []))).1 (xss.drop (k + 1))).map ((tickM (putsM z (xss.getD k []))).2 :: ·) else none := by
  rw [List.drop_eq_getElem_cons h, playM]
  simp [List.getD, h]
theorem playM_end {z : MixV} {xss : List (List ByteArray)} {k : Nat} (h : xss.length ≤ k) : playM z (xss.drop k) = some [] := by
  rw [List.drop_of_length_le h, playM]
theorem pool_facts {l : List ByteArray} (h : poolB l = true) : l.length ≤ 12 ∧ ∀ s ∈ l, s.size ≤ 24 := by
  simp only [poolB, Bool.and_eq_true, decide_eq_true_eq, List.all_eq_true] at h
  exact ⟨h.1, fun s hs => by simpa [shortB] using h.2 s hs⟩
theorem map_snoc (o : Option (List (List ByteArray))) (outs : List (List ByteArray)) (x : List ByteArray) : (o.map (x :: ·)).map (outs ++ ·) = o.map ((outs ++ [x]) ++ ·) := by
  cases o with
  | none => rfl
  | some y => simp

set_option maxHeartbeats 8000000 in
theorem implPlay_go (ao : Option Addr) (n c : Nat) (a b : Int) (xss : List (List ByteArray)) (w : World) (hx : xss.length = n) (hn : n ≤ 20) (hnew : newB a b = true) (hr : RdSS w ao xss) (hl : ∀ l ∈ xss, l.length ≤ 1048576 ∧ ∀ s ∈ l, s.size ≤ 9223372036854775807) (R : Option (List (List ByteArray))) (hR : playM ⟨[], a, b, 0, []⟩ xss = R) :
    Calls Try.prog 14 #[.int .i64 a, .int .i64 b, .slice ao n c] w fun e w' => PlayOut w w' e R ∧ Below w.heap.size w w' := by
  have q0 := implNew_c a b w
  have hnm : newM a b = ⟨[], a, b, 0, []⟩ := by unfold newM; rw [if_pos hnew]
  rw [hnm, hnew] at q0
  have i20 : ¬ (20 : Int) < (n : Int) := by omega
  have HX : Hid (xss.length = n) := hx
  have HR : Hid (RdSS w ao xss) := hr
  have HL : Hid (∀ l ∈ xss, l.length ≤ 1048576 ∧ ∀ s ∈ l, s.size ≤ 9223372036854775807) := hl
  have HG0 : Hid (GoodV ⟨[], a, b, 0, []⟩) := good_new hnew
  have HRR : Hid (playM ⟨[], a, b, 0, []⟩ xss = R) := hR
  clear hx hr hl hR hnm hnew
  go_enter Try.func14, Try.ntmps14
  go_wp2_with fail
  refine q0.mono ?_
  clear q0
  rintro e w1 ⟨rfl, hb1⟩
  have hN := c5_new w1 (.slice none 0 0) a b 0 (.slice none 0 0) 41 w1.heap.size rfl
  have hB1 := hb1.alloc hb1.size (.cells #[.slice none 0 0, .int .i64 a, .int .i64 b, .int .i64 0, .slice none 0 0] 41)
  have hz : (w1.alloc (.cells #[.slice none 0 0, .int .i64 a, .int .i64 b, .int .i64 0, .slice none 0 0] 41)).heap.size = w1.heap.size + 1 := by simp
  obtain ⟨_, _, _, hS3, hS4⟩ := box_same w1 (.slice none 0 0) a b 0 (.slice none 0 0) 41
  obtain ⟨V, hV⟩ : ∃ V, w1.alloc (.cells #[.slice none 0 0, .int .i64 a, .int .i64 b, .int .i64 0, .slice none 0 0] 41) = V := ⟨_, rfl⟩
  rw [hV] at hN hB1 hz hS3 hS4
  obtain ⟨ρ, hρ⟩ : ∃ ρ, w1.heap.size = ρ := ⟨_, rfl⟩
  rw [hρ] at hN hS3 hS4 hz
  have HI0 : Hid (∃ (z : MixV) (outs : List (List ByteArray)) (pa : Option Addr) (pc : Nat) (sa : Option Addr) (sd : Nat), outs.length = 0 ∧ GoodV z ∧ C5 V ρ (.slice pa z.pool.length pc) z.least z.wait z.old (.slice sa z.seen.length sd) ∧ MixRd V pa pc sa sd z ∧ OffM ρ (ρ + 1) pa sa z ∧ OwnSS V (ρ + 1) (.slice none 0 0) outs ∧ (playM z (xss.drop 0)).map (outs ++ ·) = R) := by
    refine ⟨⟨[], a, b, 0, []⟩, [], none, 0, none, 0, rfl, HG0.out, hN, ⟨Or.inl rfl, Or.inl rfl, fun _ => ⟨rfl, rfl⟩, fun _ => ⟨rfl, rfl⟩⟩, ⟨fun a e => (by cases e), fun a e => (by cases e)⟩, ⟨[], rfl, World.ownsRow_nil _ _ _ _, fun j h => absurd h (by simp), fun i j _ h => absurd h (by simp)⟩, ?_⟩
    rw [List.drop_zero, HRR.out]
    cases R <;> simp
  have HB0 : Hid (Below w.heap.size w V ∧ w.heap.size ≤ ρ ∧ ρ + 1 ≤ V.heap.size) := ⟨hB1, by have := hb1.size; omega, by omega⟩
  obtain ⟨⟨n0, n1, n2, n3, n4⟩, nf⟩ := hN
  have nf3 := nf 3; have nf4 := nf 4
  clear hB1 hz hb1 nf HRR HG0
  go_wp2
  go_loopw [10, 31] (fun v iv wr => ∃ (k : Nat) (aa : Option Addr) (ac : Nat), k ≤ n ∧ iv = .int .i64 k ∧ v = .slice aa k ac ∧ Hid (∃ (z : MixV) (outs : List (List ByteArray)) (pa : Option Addr) (pc : Nat) (sa : Option Addr) (sd : Nat), outs.length = k ∧ GoodV z ∧ C5 wr ρ (.slice pa z.pool.length pc) z.least z.wait z.old (.slice sa z.seen.length sd) ∧ MixRd wr pa pc sa sd z ∧ OffM ρ (ρ + 1) pa sa z ∧ OwnSS wr (ρ + 1) (.slice aa k ac) outs ∧ (playM z (xss.drop k)).map (outs ++ ·) = R) ∧ Hid (Below w.heap.size w wr ∧ w.heap.size ≤ ρ ∧ ρ + 1 ≤ wr.heap.size)) (fun _ iv _ => n - (intOf iv).toNat)
  case atStart => exact ⟨0, none, 0, Nat.zero_le _, rfl, rfl, HI0, HB0⟩
  case round =>
    clear HI0 HB0 hV hS3 hS4 n0 n1 n2 n3 n4 nf3 nf4 hρ
    obtain ⟨k, aa, ac, hk, rfl, rfl, HI, HB⟩ := hrel
    obtain ⟨z, outs, pa, pc, sa, sd, hol, hg, hC, hM, hOff, hOS, hPl⟩ := HI.out
    by_cases hlt : k < n
    · have hkl : k < xss.length := by rw [HX.out]; exact hlt
      obtain ⟨b0, o0, ro, rc, rfl, g1, hro⟩ := (HR.out.later HB.out.1).get hkl
      have hlk := HL.out _ (mem_getD [] hkl)
      rw [playM_step hkl] at hPl
      have k0 : (0 : Int) ≤ (k : Int) := by omega
      have k1 : (k : Int) < (n : Int) := by omega
      generalize xss.getD k [] = row at g1 hro hlk hPl
      obtain ⟨rn, hrn⟩ : ∃ rn, row.length = rn := ⟨_, rfl⟩
      rw [hrn] at g1
      have q1 := fewS_c ro rn rc row wr hrn (by have := hlk.1; omega) hro hlk.2
      cases hpb : poolB row with
      | false =>
        rw [hpb] at q1 hPl
        have hRn : R = none := by rw [← hPl]; simp
        subst hRn
        clear hpb hPl hC hM hOff hOS hg hlk hro hrn HI hkl
        go_wp2_with fail
        refine q1.mono ?_
        clear q1
        rintro e w' ⟨rfl, hw⟩
        subst w'
        go_wp2
        refine bodyPost_ret (v := .tuple #[.slice none 0 0, .bool false]) (by simp [results, Try.results14, go_sem]; try rfl) rfl ?_
        exact ⟨rfl, HB.out.1⟩
      | true =>
        rw [hpb] at q1
        rw [if_pos hpb] at hPl
        obtain ⟨h12, h24⟩ := pool_facts hpb
        obtain ⟨xs, za, zb, zt, ys⟩ := z
        obtain ⟨pn, hpn⟩ : ∃ pn, xs.length = pn := ⟨_, rfl⟩
        obtain ⟨sn, hsn⟩ : ∃ sn, ys.length = sn := ⟨_, rfl⟩
        have hC' : C5 wr ρ (.slice pa pn pc) za zb zt (.slice sa sn sd) := by rw [← hpn, ← hsn]; exact hC
        have HC : Hid (C5 wr ρ (.slice pa pn pc) za zb zt (.slice sa sn sd)) := hC'
        have q2 := withRound_c pa sa ro pn pc sn sd rn rc ⟨xs, za, zb, zt, ys⟩ row wr hpn hsn hg hM hrn (by omega) hro h24
        have hgp := good_puts row hg h24
        generalize hPZ : putsM ⟨xs, za, zb, zt, ys⟩ row = P at q2 hgp hPl
        obtain ⟨px, qa, qb, qt, py⟩ := P
        obtain ⟨xn, hxn⟩ : ∃ xn, px.length = xn := ⟨_, rfl⟩
        obtain ⟨yn, hyn⟩ : ∃ yn, py.length = yn := ⟨_, rfl⟩
        have HGP : Hid (GoodV ⟨px, qa, qb, qt, py⟩) := hgp
        have HPLY : Hid (Option.map (outs ++ ·) (Option.map ((tickM ⟨px, qa, qb, qt, py⟩).2 :: ·) (playM (tickM ⟨px, qa, qb, qt, py⟩).1 (xss.drop (k + 1)))) = R) := hPl
        have HXN : Hid (px.length = xn) := hxn
        have HYN : Hid (py.length = yn) := hyn
        have HOS : Hid (OwnSS wr (ρ + 1) (.slice aa k ac) outs) := hOS
        have HOL : Hid (outs.length = k) := hol
        obtain ⟨⟨c0, c1, c2, c3, c4⟩, f⟩ := hC'
        clear f hpb hPl hC hM hOff hOS hg hlk hro hrn HI hkl hgp hpn hsn hxn hyn h12 h24 hPZ hol
        go_wp2_with fail
        refine q1.mono ?_
        clear q1
        rintro e w' ⟨rfl, hw⟩
        subst w'
        go_wp2_with fail
        refine q2.mono ?_
        clear q2 c0 c1 c2 c3 c4
        rintro e w2 ⟨p2, k2, s2, d2, he2, hm2, hb2⟩
        have he2' : e = .returned (.agg #[.slice p2 xn k2, .int .i64 qa, .int .i64 qb, .int .i64 qt, .slice s2 yn d2]) := by rw [he2, ← HXN.out, ← HYN.out]
        subst he2'
        have q3 := implTick_c p2 s2 xn k2 yn d2 qa qb qt px py w2 HXN.out HYN.out (by have : px.length ≤ 12 := HGP.out.many; have := HXN.out; omega) (by have : py.length ≤ 100 := HGP.out.seens; have := HYN.out; omega) hm2.rp hm2.rs (fun s hs => by have h : s.size ≤ 24 := HGP.out.short s hs; omega) (by rw [← HYN.out]; exact hm2.ns)
        have hgd : goodB ⟨px, qa, qb, qt, py⟩ = true := (goodB_iff _).2 HGP.out
        have htf : tickF ⟨px, qa, qb, qt, py⟩ = ((tickM ⟨px, qa, qb, qt, py⟩).1, (tickM ⟨px, qa, qb, qt, py⟩).2, true) := by unfold tickF; rw [if_pos hgd]
        rw [htf] at q3
        have HGT : Hid (GoodV (tickM ⟨px, qa, qb, qt, py⟩).1) := good_tick HGP.out
        obtain ⟨T, hT⟩ : ∃ T, (tickM ⟨px, qa, qb, qt, py⟩).1 = T := ⟨_, rfl⟩
        obtain ⟨lo, hlo⟩ : ∃ lo, (tickM ⟨px, qa, qb, qt, py⟩).2 = lo := ⟨_, rfl⟩
        rw [hT, hlo] at q3
        rw [hT] at HGT
        rw [hT, hlo] at HPLY
        obtain ⟨tx', ta, tb, tt, ty⟩ := T
        have HB2 : Hid (Below w.heap.size w w2) := HB.out.1.trans (hb2.mono HB.out.1.size)
        have HBW : Hid (Below wr.heap.size wr w2) := hb2
        clear he2 hm2 hb2 hgd htf hT hlo
        go_wp2_with fail
        refine q3.mono ?_
        clear q3
        rintro e w3 ⟨⟨p3, k3, s3, d3, q3, j3, he3, ho3, hp3, hq3, _⟩, hb3⟩
        obtain ⟨tn, htn⟩ : ∃ tn, tx'.length = tn := ⟨_, rfl⟩
        obtain ⟨tm, htm⟩ : ∃ tm, ty.length = tm := ⟨_, rfl⟩
        obtain ⟨ln, hln⟩ : ∃ ln, lo.length = ln := ⟨_, rfl⟩
        have he3' : e = .returned (.tuple #[.agg #[.slice p3 tn k3, .int .i64 ta, .int .i64 tb, .int .i64 tt, .slice s3 tm d3], .slice q3 ln j3, .bool true]) := by rw [he3, ← htn, ← htm, ← hln]
        subst he3'
        have HTN : Hid (tx'.length = tn) := htn
        have HTM : Hid (ty.length = tm) := htm
        have hM3 : MixRd w3 p3 k3 s3 d3 ⟨tx', ta, tb, tt, ty⟩ := MixRd.of (z := ⟨tx', ta, tb, tt, ty⟩) ho3 hp3
        have hO3 : OffM ρ (ρ + 1) p3 s3 ⟨tx', ta, tb, tt, ty⟩ := offM_new (z := ⟨tx', ta, tb, tt, ty⟩) ho3 hp3 (by have := HB.out.2.2; have := HBW.out.size; omega)
        have hq3' : OwnS w3 w2.heap.size (.slice q3 ln j3) lo := by rw [← hln]; exact hq3
        have hb3w : Below wr.heap.size wr w3 := HBW.out.trans (hb3.mono HBW.out.size)
        -- the box of what was ticked, then the store
        have bT := balloc w3 (.cells #[.slice p3 tn k3, .int .i64 ta, .int .i64 tb, .int .i64 tt, .slice s3 tm d3] 41)
        have hN := c5_new w3 (.slice p3 tn k3) ta tb tt (.slice s3 tm d3) 41 w3.heap.size rfl
        have hC4 := (HC.out.later hb3w).later bT
        have hM4 := hM3.later bT
        have hq4 := hq3'.later bT
        have hb4 : Below wr.heap.size wr (w3.alloc (.cells #[.slice p3 tn k3, .int .i64 ta, .int .i64 tb, .int .i64 tt, .slice s3 tm d3] 41)) := hb3w.alloc hb3w.size _
        obtain ⟨V4, hV4⟩ : ∃ V4, w3.alloc (.cells #[.slice p3 tn k3, .int .i64 ta, .int .i64 tb, .int .i64 tt, .slice s3 tm d3] 41) = V4 := ⟨_, rfl⟩
        rw [hV4] at hN hC4 hM4 hq4 hb4
        have hg5 := put5_grown V4 ρ (.slice p3 tn k3) ta tb tt (.slice s3 tm d3)
        have hC5 := hC4.put (.slice p3 tn k3) ta tb tt (.slice s3 tm d3)
        have hM5 := hM4.grown hO3 hg5 (Nat.le_refl _) (by omega)
        have hq5 := hq4.kept hg5 (Or.inr fun e => by have := own_block_geS hq4 _ e; have := HB.out.2.2; have := HBW.out.size; omega)
        have hOS5 := (HOS.out.lt.later hb4).kept1 hg5 (by omega)
        have hB5 : Below w.heap.size w (put5 V4 ρ (.slice p3 tn k3) ta tb tt (.slice s3 tm d3)) := (HB.out.1.trans (hb4.mono HB.out.1.size)).trans (below_grown hg5 HB.out.2.1 (Nat.le_trans HB.out.1.size hb4.size))
        have hz5 : ρ + 1 ≤ (put5 V4 ρ (.slice p3 tn k3) ta tb tt (.slice s3 tm d3)).heap.size := Nat.le_trans HB.out.2.2 (Nat.le_trans hb4.size hg5.size)
        obtain ⟨U, hU⟩ : ∃ U, put5 V4 ρ (.slice p3 tn k3) ta tb tt (.slice s3 tm d3) = U := ⟨_, rfl⟩
        rw [hU] at hC5 hM5 hq5 hOS5 hB5 hz5
        obtain ⟨v6, w6, r6, o6, g6, b6⟩ := appendSS_run U (ρ + 1) wr.heap.size (.slice aa k ac) (.slice q3 ln j3) outs lo hOS5 (hq5.mono HBW.out.size) HB.out.2.2 hz5 (by rw [HOL.out]; omega)
        have bU := balloc U (.cells #[.slice q3 ln j3] 29)
        have hgeA : ∀ k', (Value.slice aa k ac).ownBlock = some k' → ρ + 1 ≤ k' := HOS.out.ge
        have hC6 := (hC5.later bU).grown g6 (fun e => by have := hgeA _ e.symm; omega)
        have hM6 : MixRd w6 p3 k3 s3 d3 ⟨tx', ta, tb, tt, ty⟩ := by
          have h := hM5.later bU
          cases hob : (Value.slice aa k ac).ownBlock with
          | none => rw [hob] at g6; exact h.later ⟨g6.os, g6.tape, g6.output, g6.size, fun q hq => g6.block q hq (by simp)⟩
          | some g =>
            rw [hob] at g6
            have hlt : g < wr.heap.size := by
              obtain ⟨vs, _, hrow, _⟩ := HOS.out
              exact (World.ownsRow.lt hrow g hob).2
            exact h.grown (offM_new (lo := 0) (hi := wr.heap.size) (z := ⟨tx', ta, tb, tt, ty⟩) ho3 hp3 HBW.out.size) g6 (Nat.zero_le _) hlt
        have hB6 : Below w.heap.size w w6 := (hB5.alloc hB5.size _).trans (b6.mono (by have := HB.out.2.1; omega))
        obtain ⟨a6, c6, hv6⟩ := o6.shape
        rw [show (outs ++ [lo]).length = k + 1 by rw [List.length_append, HOL.out]; rfl] at hv6
        subst hv6
        have HI6 : Hid (∃ (z : MixV) (outs : List (List ByteArray)) (pa : Option Addr) (pc : Nat) (sa : Option Addr) (sd : Nat), outs.length = k + 1 ∧ GoodV z ∧ C5 w6 ρ (.slice pa z.pool.length pc) z.least z.wait z.old (.slice sa z.seen.length sd) ∧ MixRd w6 pa pc sa sd z ∧ OffM ρ (ρ + 1) pa sa z ∧ OwnSS w6 (ρ + 1) (.slice a6 (k + 1) c6) outs ∧ (playM z (xss.drop (k + 1))).map (outs ++ ·) = R) := by
          refine ⟨⟨tx', ta, tb, tt, ty⟩, outs ++ [lo], p3, k3, s3, d3, by rw [List.length_append, HOL.out]; rfl, HGT.out, ?_, hM6, hO3, o6, ?_⟩
          · show C5 w6 ρ (.slice p3 tx'.length k3) ta tb tt (.slice s3 ty.length d3)
            rw [HTN.out, HTM.out]; exact hC6
          · rw [← HPLY.out, map_snoc]
        have HB6 : Hid (Below w.heap.size w w6 ∧ w.heap.size ≤ ρ ∧ ρ + 1 ≤ w6.heap.size) := ⟨hB6, HB.out.2.1, by have := g6.size; simp at this; omega⟩
        obtain ⟨⟨n0, n1, n2, n3, n4⟩, nf⟩ := hN
        obtain ⟨⟨c0, c1, c2, c3, c4⟩, f⟩ := hC4
        have f0 := f 0; have f1 := f 1; have f2 := f 2; have f3 := f 3; have f4 := f 4
        unfold put5 at hU
        clear nf f he3 ho3 hp3 hq3 hb3 htn htm hln hM3 hO3 hq3' hb3w bT hM4 hq4 hb4 hg5 hC5 hM5 hq5 hOS5 hB5 hz5 o6 g6 b6 bU hgeA hC6 hM6 hB6 HC HOS HOL HGT HPLY HBW HB2 HB HTN HTM HGP HXN HYN
        go_wp2_with (at_builtin; refine Lib.wpList_append_run _ rfl _ _ _ _ rfl _ _ rfl rfl _ _ (r6 _) ?_; clear r6)
        go_roundw
        case rel => exact ⟨k + 1, a6, c6, by omega, by go_num, rfl, HI6, HB6⟩
        case measure => simp [intOf]; omega
    · obtain rfl : k = n := by omega
      rw [playM_end (by rw [HX.out]; exact Nat.le_refl _)] at hPl
      have hRs : R = some outs := by rw [← hPl]; simp
      subst hRs
      have HO : Hid (OwnSS wr w.heap.size (.slice aa k ac) outs) := hOS.mono (by have := HB.out.2.1; omega)
      have HOL : Hid (outs.length = k) := hol
      clear hC hM hOff hOS hg hPl HI hol
      go_wp2
      refine bodyPost_ret (v := .tuple #[.slice aa k ac, .bool true]) (by simp [results, Try.results14, go_sem]; try rfl) rfl ?_
      exact ⟨⟨aa, ac, by rw [HOL.out], by rw [HOL.out]; exact HO.out⟩, HB.out.1⟩

end Go.Proofs.Ytnppmgnfignbcaa

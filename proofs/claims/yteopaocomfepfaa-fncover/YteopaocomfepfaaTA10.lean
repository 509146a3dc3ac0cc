/- Chapter 10, the program: what lies in the channel is taken. -/
import Derived.Test.YteopaocomfepfaaCH10
import Derived.Test.YteopaocomfepfaaTR10
namespace Go.Proofs.Yteopaocomfepfaa
set_option linter.unusedVariables false
set_option maxRecDepth 1000000
set_option linter.unusedSimpArgs false
open Go.RowKit Go.Conc

theorem row_sepT {w : World} {b1 b2 t1 t2 K1 K2 n m : Nat} {v u : Value} {cs ds : List Value} (h : w.ownsRow b1 t1 K1 v n cs) (k : w.ownsRow b2 t2 K2 u m ds) (ht : t1 ≠ t2) : v.ownBlock = none ∨ v.ownBlock ≠ u.ownBlock := by
  rcases h.2 with ⟨rfl, _⟩ | ⟨g, cap, cur, rfl, _, hg, _⟩
  · exact Or.inl rfl
  · rcases k.2 with ⟨rfl, _⟩ | ⟨g', cap', cur', rfl, _, hg', _⟩
    · exact Or.inr (by simp [Value.ownBlock])
    · refine Or.inr fun e => ?_
      simp only [Value.ownBlock, Option.some.injEq] at e
      subst e
      rw [hg] at hg'
      simp at hg'
      exact ht hg'.2

/-- What lies in the channel. -/
def outV (x : Int × Int × Int) (t : ByteArray) : Value := .agg #[.int .i64 x.1, .int .i64 x.2.1, .int .i64 x.2.2, .string t]
def outs (es : List (Int × Int × Int)) (ts : List ByteArray) : List Value := List.zipWith outV es ts

noncomputable def takeR3 : Code := fstSeq (unBlock takeRound)
noncomputable def takeYes : Code := thenOf (unBlock (sndSeq (sndSeq (unBlock takeRound))))
noncomputable def takeNo : Code := elseOf (unBlock (sndSeq (sndSeq (unBlock takeRound))))
theorem takeRound_eq : takeRound = .block 1 (.seq takeR3 (.seq selReg (.block 2 (.cond (.tmp 10) takeYes takeNo)))) := by
  simp only [takeRound, takeR3, takeYes, takeNo, selReg, takeBody, Try.f61, Option.getD_some, sndSeq, fstSeq, unBlock, unLoop, thenOf, elseOf]

/-- What holds at the head of a round: E1, T1 are taken, E2, T2 lie in the channel. -/
def TakeI (w : World) (ch cap B : Nat) (es : List (Int × Int × Int)) (ts : List ByteArray) (m : Nat) (a : Act) (wr : World) : Prop :=
  ∃ (j1 j6 j7 j8 j9 j10 j11 j12 j13 j14 j15 j16 j17 j18 j19 j20 j21 j22 j23 u4 u5 : Value) (E1 E2 : List (Int × Int × Int)) (T1 T2 : List ByteArray), a = ⟨#[.chan (some ch), j1, .slice none 0 0, .slice none 0 0, u4, u5, j6, j7, j8, j9, j10, j11, j12, j13, j14, j15, j16, j17, j18, j19, j20, j21, j22, j23], []⟩ ∧ E1 ++ E2 = es ∧ T1 ++ T2 = ts ∧ E2.length = m ∧ T2.length = m ∧ Chan wr ch cap (outs E2 T2) ∧ OwnE wr w.heap.size u4 E1 ∧ OwnS wr w.heap.size u5 T1 ∧ Below B w wr ∧ w.heap.size ≤ wr.heap.size ∧ ∀ q, q < w.heap.size → q ≠ ch → wr.heap[q]? = w.heap[q]?

set_option maxRecDepth 1000000 in
set_option maxHeartbeats 8000000 in
theorem takeAll_c (ch cap B : Nat) (es : List (Int × Int × Int)) (ts : List ByteArray) (w : World) (n : Nat) (hle : es.length = n) (hlt : ts.length = n) (hn : n ≤ 1000) (hc : Chan w ch cap (outs es ts)) (hB : B ≤ ch) :
    Calls Try.prog 61 #[.chan (some ch)] w fun e w' => ∃ a1 c1 a2 c2, e = .returned (.tuple #[.slice a1 n c1, .slice a2 n c2]) ∧ OwnE w' w.heap.size (.slice a1 n c1) es ∧ OwnS w' w.heap.size (.slice a2 n c2) ts ∧ Below B w w' ∧ w.grownBy w' (some ch) := by
  have hch := hc.lt
  refine calls_of_wpL Try.func61 (c := takeBody) rfl ?_
  simp only [Try.ntmps61, List.size_toArray, List.length_cons, List.length_nil, Nat.reduceAdd, Nat.reduceSub, Array.replicate_succ, Array.replicate_zero, List.push_toArray, List.append_toArray, List.nil_append, List.cons_append]
  have hcode : takeBody = .seq (fstSeq takeBody) (.seq (fstSeq (sndSeq takeBody)) (.seq (fstSeq (sndSeq (sndSeq takeBody))) (.block 0 (.loop takeRound)))) := by
    simp only [takeRound, takeBody, Try.f61, Option.getD_some, sndSeq, fstSeq, unBlock, unLoop]
  rw [hcode]
  refine wpL_seq_k (fun K hK => ?_)
  simp only [takeBody, Try.f61, Option.getD_some, fstSeq]
  go_wp2
  refine wpL_seq_k (fun K hK => ?_)
  simp only [takeBody, Try.f61, Option.getD_some, fstSeq, sndSeq]
  go_wp2
  refine wpL_seq_k (fun K hK => ?_)
  simp only [takeBody, Try.f61, Option.getD_some, fstSeq, sndSeq]
  go_wp2
  refine wpL_block ?_
  refine wpL_loop (TakeI w ch cap B es ts) n ?_ ?_
  · exact ⟨_, _, _, _, _, _, _, _, _, _, _, _, _, _, _, _, _, _, _, _, _, [], es, [], ts, rfl, rfl, rfl, hle, hlt, hc, OwnE.nilq _ _, World.ownsRow_nil _ _ _ _, Below.refl _ _, Nat.le_refl _, fun _ _ _ => rfl⟩
  intro m a wr hI
  obtain ⟨j1, j6, j7, j8, j9, j10, j11, j12, j13, j14, j15, j16, j17, j18, j19, j20, j21, j22, j23, u4, u5, E1, E2, T1, T2, rfl, hE, hT, hm1, hm2, hcr, ho4, ho5, hbr, hsz, hkb⟩ := hI
  rw [takeRound_eq]
  refine wpL_block (wpL_seq_k (fun K hK => ?_))
  simp only [takeR3, takeRound, takeBody, Try.f61, Option.getD_some, fstSeq, sndSeq, unBlock, unLoop]
  go_wp2
  have U : True := trivial
  cases E2 with
  | nil =>
    obtain rfl : T2 = [] := List.length_eq_zero_iff.1 (hm2.trans hm1.symm)
    rw [List.append_nil] at hE hT
    subst hE hT
    obtain ⟨a1, c1, h4⟩ := ho4.shape
    obtain ⟨a2, c2, h5⟩ := ho5.shape
    rw [hle] at h4
    rw [hlt] at h5
    subst h4 h5
    have HO4 : Hid (OwnE wr w.heap.size (.slice a1 n c1) E1) := ho4
    have HO5 : Hid (OwnS wr w.heap.size (.slice a2 n c2) T1) := ho5
    have HB : Hid (Below B w wr) := hbr
    have HG : Hid (w.grownBy wr (some ch)) := ⟨hbr.os, hbr.tape, hbr.output, hbr.size, fun q hq hne => hkb q hq (fun e => hne (by rw [e]))⟩
    clear hkb
    refine wpL_seq (selReg_none _ _ _ _ _ _ _ _ _ _ _ _ _ _ _ _ _ _ _ _ _ _ _ ch cap wr _ hcr ?_)
    clear hcr ho4 ho5 hbr hc
    refine wpL_block (wpL_cond (t := false) rfl ?_)
    rw [if_neg (by simp)]
    refine wpL_of ?_
    simp only [takeNo, takeRound, takeBody, Try.f61, Option.getD_some, fstSeq, sndSeq, unBlock, unLoop, elseOf]
    go_wp2
    refine bodyPost_ret (v := .tuple #[.slice a1 n c1, .slice a2 n c2]) (by simp [results, Try.results61, go_sem]; try rfl) rfl ?_
    exact ⟨a1, c1, a2, c2, rfl, HO4.out, HO5.out, HB.out, HG.out⟩
  | cons x E2 =>
    cases T2 with
    | nil => simp at hm2; subst hm2; simp at hm1
    | cons t T2 =>
      obtain ⟨e0, e1, e2⟩ := x
      simp only [List.length_cons] at hm1 hm2
      refine wpL_seq (selReg_some _ _ _ _ _ _ _ _ _ _ _ _ _ _ _ _ _ _ _ _ _ _ _ ch cap e0 e1 e2 t (outs E2 T2) wr _ hcr (fun w1 hc1 hg1 => ?_))
      refine wpL_block (wpL_cond (t := true) rfl ?_)
      rw [if_pos rfl]
      refine wpL_of ?_
      have hl1 : E1.length ≤ 1000 := by have := congrArg List.length hE; simp at this; omega
      have hl2 : T1.length ≤ 1000 := by have := congrArg List.length hT; simp at this; omega
      have hs1 : wr.heap.size ≤ w1.heap.size := hg1.size
      have o4 : OwnE w1 w.heap.size u4 E1 := ho4.kept hg1 (by
        cases hv : u4.ownBlock with
        | none => exact Or.inl rfl
        | some k => exact Or.inr fun e => by simp at e; have := own_block_geE ho4 k hv; omega)
      have o5 : OwnS w1 w.heap.size u5 T1 := ho5.kept hg1 (by
        cases hv : u5.ownBlock with
        | none => exact Or.inl rfl
        | some k => exact Or.inr fun e => by simp at e; have := own_block_geS ho5 k hv; omega)
      have hb1 : Below B w w1 := hbr.trans (below_grown hg1 hB (by omega))
      -- the box of what was taken
      have bX := balloc w1 (.cells #[.int .i64 e0, .int .i64 e1, .int .i64 e2, .string t] 113)
      have cX := x4_new w1 (.int .i64 e0) (.int .i64 e1) (.int .i64 e2) (.string t) 113 w1.heap.size rfl
      have o4 := o4.later bX
      have o5 := o5.later bX
      have hc2 := hc1.later bX
      have hb2 := hb1.alloc (by have := hbr.size; omega) (.cells #[.int .i64 e0, .int .i64 e1, .int .i64 e2, .string t] 113)
      have hz2 : (w1.alloc (.cells #[.int .i64 e0, .int .i64 e1, .int .i64 e2, .string t] 113)).heap.size = w1.heap.size + 1 := by simp
      obtain ⟨w2, hw2⟩ : ∃ V, w1.alloc (.cells #[.int .i64 e0, .int .i64 e1, .int .i64 e2, .string t] 113) = V := ⟨_, rfl⟩
      rw [hw2] at cX o4 o5 hc2 hb2 hz2
      have i4 : ∀ k, u4.ownBlock = some k → w.heap.size ≤ k ∧ k < wr.heap.size := World.ownsRow.lt ho4
      have i5 : ∀ k, u5.ownBlock = some k → w.heap.size ≤ k ∧ k < wr.heap.size := World.ownsRow.lt ho5
      -- what was seen
      have bE := balloc w2 (.cells #[.int .i64 e0, .int .i64 e1, .int .i64 e2] 52)
      obtain ⟨v4, w3, r1, q4, g3, b3⟩ := appendE_run (w2.alloc (.cells #[.int .i64 e0, .int .i64 e1, .int .i64 e2] 52)) w.heap.size u4 E1 [(e0, e1, e2)] (some ⟨w2.heap.size, 0, none⟩) 1 1 (o4.later bE) (litE w2 e0 e1 e2) rfl (fun e => by cases e) (by simp; omega) (by have := bE.size; omega)
      have cX3 := (cX.later bE).grown g3 (fun e => by have := i4 _ e.symm; omega)
      have hc3 := (hc2.later bE).grown g3 (fun e => by have := i4 _ e.symm; omega)
      have q5 := (o5.later bE).kept g3 (row_sepT (o5.later bE) (o4.later bE) (by decide))
      have hb3 := (hb2.alloc (by have := hbr.size; omega) (.cells #[.int .i64 e0, .int .i64 e1, .int .i64 e2] 52)).trans (b3.mono (by omega))
      have hz3 : w2.heap.size ≤ w3.heap.size := Nat.le_trans bE.size b3.size
      -- its text
      have bS := balloc w3 (.cells #[.string t] 9)
      obtain ⟨v5, w4, r2, p5, g4, b4⟩ := appendS_run (w3.alloc (.cells #[.string t] 9)) w.heap.size u5 T1 [t] (some ⟨w3.heap.size, 0, none⟩) 1 1 (q5.later bS) (litS w3 t) rfl (fun e => by cases e) (by simp; omega) (by have := bS.size; omega)
      have hc4 := (hc3.later bS).grown g4 (fun e => by have := i5 _ e.symm; omega)
      have p4 := (q4.later bS).kept g4 (row_sepT (q4.later bS) (q5.later bS) (by decide))
      have hb4 := (hb3.alloc (by have := hbr.size; omega) (.cells #[.string t] 9)).trans (b4.mono (by omega))
      have hz4 : w3.heap.size ≤ w4.heap.size := Nat.le_trans bS.size b4.size
      have HC4 : Hid (Chan w4 ch cap (outs E2 T2)) := hc4
      have HP4 : Hid (OwnE w4 w.heap.size v4 (E1 ++ [(e0, e1, e2)])) := p4
      have HP5 : Hid (OwnS w4 w.heap.size v5 (T1 ++ [t])) := p5
      have HB4 : Hid (Below B w w4) := hb4
      have HK4 : Hid (∀ q, q < w.heap.size → q ≠ ch → w4.heap[q]? = w.heap[q]?) := fun q hq hne => by
        have e1 := b4.block q hq
        have e2 := bS.block q (by omega)
        have e3 := b3.block q hq
        have e4 := bE.block q (by omega)
        have e5 := bX.block q (by omega)
        have e6 := hg1.block q (by omega) (fun e => hne (by simpa using e))
        rw [hw2] at e5
        rw [e1, e2, e3, e4, e5, e6]
        exact hkb q hq hne
      have HZ4 : Hid (w.heap.size ≤ w4.heap.size) := (by show _ ≤ _; omega)
      have HE2 : Hid ((E1 ++ [(e0, e1, e2)]) ++ E2 = es) := (by show _ = _; rw [← hE]; simp)
      have HT2 : Hid ((T1 ++ [t]) ++ T2 = ts) := (by show _ = _; rw [← hT]; simp)
      have HM : Hid (E2.length + 1 = m ∧ T2.length + 1 = m) := ⟨hm1, hm2⟩
      obtain ⟨⟨x0, x1, x2, x3⟩, xf⟩ := cX
      obtain ⟨⟨y0, y1, y2, y3⟩, yf⟩ := cX3
      clear hcr ho4 ho5 hbr hc hc1 hg1 bX o4 o5 hc2 hb2 hz2 i4 i5 bE q4 g3 b3 hc3 q5 hb3 hz3 bS p5 g4 b4 hc4 p4 hb4 hz4 hE hT hm1 hm2 xf yf hb1 hs1 hkb
      simp only [takeYes, takeRound, takeBody, Try.f61, Option.getD_some, fstSeq, sndSeq, unBlock, unLoop, thenOf]
      go_wp2_with (first | (at_builtin; refine Lib.wpList_append_run _ rfl _ _ _ _ rfl _ _ rfl rfl _ _ (r1 _) ?_; clear r1) | (at_builtin; refine Lib.wpList_append_run _ rfl _ _ _ _ rfl _ _ rfl rfl _ _ (r2 _) ?_; clear r2))
      refine ⟨E2.length, by have := HM.out; omega, ?_⟩
      exact ⟨_, _, _, _, _, _, _, _, _, _, _, _, _, _, _, _, _, _, _, v4, v5, E1 ++ [(e0, e1, e2)], E2, T1 ++ [t], T2, rfl, HE2.out, HT2.out, rfl, by have := HM.out; omega, HC4.out, HP4.out, HP5.out, HB4.out, HZ4.out, HK4.out⟩

end Go.Proofs.Yteopaocomfepfaa

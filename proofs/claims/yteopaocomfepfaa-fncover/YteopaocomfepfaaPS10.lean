/- Chapter 10, the program: the steps are played, what goes out is sent. -/
import Derived.Test.YteopaocomfepfaaTA10
import Derived.Test.YteopaocomfepfaaC10
namespace Go.Proofs.Yteopaocomfepfaa
set_option linter.unusedVariables false
set_option maxRecDepth 1000000
set_option linter.unusedSimpArgs false
open Go.RowKit Go.Conc

noncomputable def plR3 : Code := fstSeq playRound
noncomputable def plC17 : Code := fstSeq (sndSeq playRound)
noncomputable def plBB : Code := unBlock (fstSeq (sndSeq (sndSeq playRound)))
noncomputable def plR11 : Code := sndSeq (sndSeq (sndSeq playRound))
noncomputable def plR4 : Code := fstSeq plBB
noncomputable def plR5 : Code := fstSeq (sndSeq plBB)
noncomputable def plR6 : Code := fstSeq (sndSeq (sndSeq plBB))
noncomputable def plR7 : Code := fstSeq (sndSeq (sndSeq (sndSeq plBB)))
noncomputable def plR8 : Code := fstSeq (sndSeq (sndSeq (sndSeq (sndSeq plBB))))
noncomputable def plR9 : Code := fstSeq (sndSeq (sndSeq (sndSeq (sndSeq (sndSeq plBB)))))
noncomputable def plEnd : Code := sndSeq (sndSeq (sndSeq playBody))
theorem playRound_eq : playRound = .seq plR3 (.seq plC17 (.seq (.block 1 plBB) plR11)) := by
  simp only [plR3, plC17, plBB, plR11, playRound, playBody, Try.f60, Option.getD_some, sndSeq, fstSeq, unBlock, unLoop]
theorem plBB_eq : plBB = .seq plR4 (.seq plR5 (.seq plR6 (.seq plR7 (.seq plR8 (.seq plR9 (.cond (.tmp 37) sendReg .skip)))))) := by
  simp only [plR4, plR5, plR6, plR7, plR8, plR9, sendReg, plBB, playRound, playBody, Try.f60, Option.getD_some, sndSeq, fstSeq, unBlock, unLoop, thenOf]
theorem playBody_eq : playBody = .seq (fstSeq playBody) (.seq (fstSeq (sndSeq playBody)) (.seq (.seq (fstSeq (fstSeq (sndSeq (sndSeq playBody)))) (.block 0 (.loop playRound))) plEnd)) := by
  simp only [plEnd, playRound, playBody, Try.f60, Option.getD_some, sndSeq, fstSeq, unBlock, unLoop]

/-- What holds at the head of a round. -/
def PlayI (w : World) (lo : Option Addr) (n lc ch cap B g3 : Nat) (y : Int) (l : List (Int × ByteArray)) (m : Nat) (a : Act) (wr : World) : Prop :=
  ∃ (j0 j4 j5 j8 j9 j10 j11 j12 j13 j17 j18 j19 j20 j21 j22 j23 j24 j25 j26 j27 j28 j29 j30 j31 j32 j33 j34 j35 j36 j37 j38 j39 j40 j41 j42 j43 u7 : Value) (k : Nat) (p : PlV) (a3 : Option Addr) (c3 : Nat), a = ⟨#[j0, .slice lo n lc, .chan (some ch), .pointer (some ⟨g3, 0, none⟩), j4, j5, .slice none 0 0, u7, j8, j9, j10, j11, j12, j13, .slice lo n lc, .int .i64 (n : Int), .int .i64 (k : Int), j17, j18, j19, j20, j21, j22, j23, j24, j25, j26, j27, j28, j29, j30, j31, j32, j33, j34, j35, j36, j37, j38, j39, j40, j41, j42, j43], []⟩ ∧ k ≤ n ∧ n = k + m ∧ playV y (l.take k) = p ∧ X3 wr g3 (.slice a3 p.q.length c3) (.int .i64 p.t) (.int .i64 y) ∧ OwnS wr (w.heap.size + 1) (.slice a3 p.q.length c3) p.q ∧ OwnB wr (w.heap.size + 1) u7 p.did ∧ Chan wr ch cap (outs p.em p.tx) ∧ Below B w wr ∧ w.heap.size < wr.heap.size

set_option maxRecDepth 1000000 in
set_option maxHeartbeats 16000000 in
theorem playSteps_c (lo : Option Addr) (n lc ch cap B : Nat) (y : Int) (l : List (Int × ByteArray)) (w : World) (hx : l.length = n) (hn : n ≤ 80) (hy : waysB y = true) (hcap : n ≤ cap) (hrl : ∀ wx, Below B w wx → RdK wx lo l) (hsz : ∀ x ∈ l, x.2.size ≤ 9223372036854775807) (hc : Chan w ch cap []) (hB : B ≤ ch) :
    Calls Try.prog 60 #[.agg #[.slice none 0 0, .int .i64 0, .int .i64 y], .slice lo n lc, .chan (some ch)] w fun e w' => ∃ a1 c1, e = .returned (.slice a1 n c1) ∧ OwnB w' w.heap.size (.slice a1 n c1) (playV y l).did ∧ Chan w' ch cap (outs (playV y l).em (playV y l).tx) ∧ Below B w w' := by
  have hch := hc.lt
  have HRL : Hid (∀ wx, Below B w wx → RdK wx lo l) := hrl
  have HSZ : Hid (∀ x ∈ l, x.2.size ≤ 9223372036854775807) := hsz
  have HX : Hid (l.length = n) := hx
  clear hrl hsz hx
  refine calls_of_wpL Try.func60 (c := playBody) rfl ?_
  generalize hBP : bodyPost Try.prog Try.f60 (fun e w' => ∃ a1 c1, e = .returned (.slice a1 n c1) ∧ OwnB w' w.heap.size (.slice a1 n c1) (playV y l).did ∧ Chan w' ch cap (outs (playV y l).em (playV y l).tx) ∧ Below B w w') = BP
  have HBP : Hid (bodyPost Try.prog Try.f60 (fun e w' => ∃ a1 c1, e = .returned (.slice a1 n c1) ∧ OwnB w' w.heap.size (.slice a1 n c1) (playV y l).did ∧ Chan w' ch cap (outs (playV y l).em (playV y l).tx) ∧ Below B w w') = BP) := hBP
  clear hBP
  simp only [Try.ntmps60, List.size_toArray, List.length_cons, List.length_nil, Nat.reduceAdd, Nat.reduceSub, Array.replicate_succ, Array.replicate_zero, List.push_toArray, List.append_toArray, List.nil_append, List.cons_append]
  rw [playBody_eq]
  refine wpL_seq_k (fun K hK => ?_)
  simp only [playBody, Try.f60, Option.getD_some, fstSeq]
  go_wp2
  refine wpL_seq_k (fun K hK => ?_)
  simp only [playBody, Try.f60, Option.getD_some, fstSeq, sndSeq]
  go_wp2
  refine wpL_seq (wpL_seq_k (fun K hK => ?_))
  simp only [playBody, Try.f60, Option.getD_some, fstSeq, sndSeq]
  go_wp2
  refine wpL_block ?_
  refine wpL_loop (PlayI w lo n lc ch cap B w.heap.size y l) n ?_ ?_
  · have b0 := balloc w (.cells #[.slice none 0 0, .int .i64 0, .int .i64 y] 45)
    exact ⟨_, _, _, _, _, _, _, _, _, _, _, _, _, _, _, _, _, _, _, _, _, _, _, _, _, _, _, _, _, _, _, _, _, _, _, _, _, 0, plNil, none, 0, rfl, Nat.zero_le _, by omega, rfl, x3_new w _ _ _ _ _ rfl, World.ownsRow_nil _ _ _ _, World.ownsRow_nil _ _ _ _, hc.later b0, b0.mono (by omega), by simp⟩
  intro m a wr hI
  obtain ⟨j0, j4, j5, j8, j9, j10, j11, j12, j13, j17, j18, j19, j20, j21, j22, j23, j24, j25, j26, j27, j28, j29, j30, j31, j32, j33, j34, j35, j36, j37, j38, j39, j40, j41, j42, j43, u7, k, p, a3, c3, rfl, hk, hkm, hp, hx3, hq3, ho7, hcr, hbr, hsw⟩ := hI
  have HKM : Hid (n = k + m) := hkm
  clear hkm
  rw [playRound_eq]
  refine wpL_seq_k (fun K hK => ?_)
  simp only [plR3, playRound, playBody, Try.f60, Option.getD_some, fstSeq, sndSeq, unBlock, unLoop]
  by_cases hlt : k < n
  case neg =>
    have hlt' : ¬ (k : Int) < (n : Int) := by omega
    go_wp2
    refine wpL_seq_k (fun K hK => ?_)
    simp only [plC17, playRound, playBody, Try.f60, Option.getD_some, fstSeq, sndSeq, unBlock, unLoop]
    go_wp2
    refine wpL_of ?_
    have hkn : k = n := by omega
    have HP : Hid (playV y l = p) := by show _ = _; rw [← hp, List.take_of_length_le (by rw [HX.out]; omega)]
    have hpo := pl_take hy l k (by rw [HX.out]; exact hk)
    rw [hp] at hpo
    obtain ⟨a1, c1, h7⟩ := ho7.shape
    rw [hpo.did, hkn] at h7
    subst h7
    have HO : Hid (OwnB wr (w.heap.size + 1) (.slice a1 n c1) p.did) := ho7
    have HC : Hid (Chan wr ch cap (outs p.em p.tx)) := hcr
    have HB : Hid (Below B w wr) := hbr
    clear hx3 hq3 ho7 hcr hbr hpo hp hc
    simp only [plEnd, playRound, playBody, Try.f60, Option.getD_some, fstSeq, sndSeq, unBlock, unLoop]
    go_wp2
    show BP .ret _ _
    rw [← HBP.out]
    refine bodyPost_ret (v := .slice a1 n c1) (by simp [results, Try.results60, go_sem, ]; try rfl) rfl ?_
    exact ⟨a1, c1, rfl, by rw [HP.out]; exact HO.out.mono (by omega), by rw [HP.out]; exact HC.out, HB.out⟩
  have hlt' : (k : Int) < (n : Int) := by omega
  have k0 : (0 : Int) ≤ (k : Int) := by omega
  go_wp2
  refine wpL_seq_k (fun K hK => ?_)
  simp only [plC17, playRound, playBody, Try.f60, Option.getD_some, fstSeq, sndSeq, unBlock, unLoop]
  go_wp2
  refine wpL_seq (wpL_block ?_)
  rw [plBB_eq]
  -- the step that is at hand
  have hkl : k < l.length := by rw [HX.out]; exact hlt
  have hpo := pl_take hy l k (by omega)
  rw [hp] at hpo
  have HPN : Hid (playV y (l.take (k + 1)) = plStep y p (l.getD k (0, ByteArray.empty))) := by show _ = _; rw [play_succ hkl, hp]
  obtain ⟨b, o, hlo, s0, s1⟩ := (HRL.out wr hbr).get hkl
  have hsx := HSZ.out _ (mem_getD (0, ByteArray.empty) hkl)
  generalize l.getD k (0, ByteArray.empty) = x at HPN s0 s1 hsx
  obtain ⟨kk, s⟩ := x
  dsimp only at s0 s1 hsx
  subst hlo
  obtain ⟨q, t, em, tx, did⟩ := p
  dsimp only at hx3 hq3 ho7 hcr hpo
  have hgood : goodC q t y = true := hpo.good
  have hql := (queueB_iff.1 (goodC_iff.1 hgood).1)
  have hem : em.length ≤ k := hpo.em
  have htx : tx.length = em.length := hpo.tx
  have hdid : did.length = k := hpo.did
  -- its box
  have b1 := balloc wr (.cells #[.int .i64 kk, .string s] 39)
  have cS := x2_new wr (.int .i64 kk) (.string s) 39 wr.heap.size rfl
  have cC := hx3.later b1
  have qC := hq3.later b1
  have oD := ho7.later b1
  have cH := hcr.later b1
  have bB := hbr.alloc (by have := hbr.size; omega) (.cells #[.int .i64 kk, .string s] 39)
  have z1 : (wr.alloc (.cells #[.int .i64 kk, .string s] 39)).heap.size = wr.heap.size + 1 := by simp
  obtain ⟨w1, hw1⟩ : ∃ V, wr.alloc (.cells #[.int .i64 kk, .string s] 39) = V := ⟨_, rfl⟩
  rw [hw1] at cS cC qC oD cH bB z1
  have HcS : Hid (X2 w1 wr.heap.size (.int .i64 kk) (.string s)) := cS
  have HcC : Hid (X3 w1 w.heap.size (.slice a3 q.length c3) (.int .i64 t) (.int .i64 y)) := cC
  have HqC : Hid (OwnS w1 (w.heap.size + 1) (.slice a3 q.length c3) q) := qC
  have HoD : Hid (OwnB w1 (w.heap.size + 1) u7 did) := oD
  have HcH : Hid (Chan w1 ch cap (outs em tx)) := cH
  have HbB : Hid (Below B w w1) := bB
  have Hz1 : Hid (w1.heap.size = wr.heap.size + 1) := z1
  have I7 : Hid (∀ k, u7.ownBlock = some k → w.heap.size + 1 ≤ k ∧ k < wr.heap.size) := World.ownsRow.lt ho7
  clear cS cC qC oD cH bB z1 b1 hx3 hq3 ho7 hcr hbr hc hpo
  refine wpL_seq_k (fun K hK => ?_)
  simp only [plR4, plBB, playRound, playBody, Try.f60, Option.getD_some, fstSeq, sndSeq, unBlock, unLoop]
  go_wp2
  -- the call
  obtain ⟨r, hr⟩ : ∃ r, stepV q t y kk s = r := ⟨_, rfl⟩
  have hF : stepF q t y kk s = r := by unfold stepF; rw [if_pos hgood, hr]
  have qS := implStep_c a3 q.length c3 t y kk s q w1 (by omega) HqC.out.ok (fun x hx => Nat.le_trans (hql.2 x hx) (by omega)) hsx r hF r.q.length rfl
  have hPS : plStep y ⟨q, t, em, tx, did⟩ (kk, s) = if r.ok = true then (if kk = 2 then ⟨r.q, r.t, em ++ [(r.e0, r.e1, r.e2)], tx ++ [r.s], did ++ [true]⟩ else ⟨r.q, r.t, em, tx, did ++ [true]⟩) else ⟨q, t, em, tx, did ++ [false]⟩ := by unfold plStep; dsimp only; rw [hr]
  have hry : r.ok = true → r.y = y := fun h => by rw [← hr] at h ⊢; exact stepV_y h
  have HPQ := HPN.out
  rw [hPS] at HPQ
  clear hF hr hPS hsx s0 s1 HPN
  obtain ⟨rq, rt, ry, re0, re1, re2, rs, rok⟩ := r
  dsimp only at qS HPQ hry
  obtain ⟨mq, hmq⟩ : ∃ mq, rq.length = mq := ⟨_, rfl⟩
  rw [hmq] at qS
  have HMQ : Hid (rq.length = mq) := hmq
  have HQL : Hid (q.length ≤ 5) := hql.1
  clear hmq hql
  refine wpL_seq_k (fun K hK => ?_)
  obtain ⟨⟨u0, u1, u2⟩, uf⟩ := id HcC.out
  obtain ⟨⟨t0, t1⟩, tf⟩ := id HcS.out
  clear uf tf
  simp only [plR5, plBB, playRound, playBody, Try.f60, Option.getD_some, fstSeq, sndSeq, unBlock, unLoop]
  go_wp2_with fail
  refine qS.mono ?_
  clear qS
  rintro e w2 ⟨a4, c4, rfl, ho, hb⟩
  have c2S := HcS.out.later hb
  have c2C := HcC.out.later hb
  have o2D := HoD.out.later hb
  have h2C := HcH.out.later hb
  have b2B := HbB.out.trans (hb.mono (by have := HbB.out.size; omega))
  have z2 : w1.heap.size ≤ w2.heap.size := hb.size
  have I4 : Hid (∀ k, (Value.slice a4 mq c4).ownBlock = some k → w1.heap.size ≤ k ∧ k < w2.heap.size) := World.ownsRow.lt ho
  have HQ2 : Hid (OwnS w2 (w.heap.size + 1) (.slice a3 q.length c3) q) := HqC.out.later hb
  clear u0 u1 u2 t0 t1 hb hw1
  -- the boxes of what is answered
  have b3 := balloc w2 (.cells #[.slice a4 mq c4, .int .i64 rt, .int .i64 ry] 45)
  have b4 := balloc (w2.alloc (.cells #[.slice a4 mq c4, .int .i64 rt, .int .i64 ry] 45)) (.cells #[.int .i64 re0, .int .i64 re1, .int .i64 re2] 52)
  have cN := (x3_new w2 (.slice a4 mq c4) (.int .i64 rt) (.int .i64 ry) 45 w2.heap.size rfl).later b4
  have cE := x3_new (w2.alloc (.cells #[.slice a4 mq c4, .int .i64 rt, .int .i64 ry] 45)) (.int .i64 re0) (.int .i64 re1) (.int .i64 re2) 52 (w2.heap.size + 1) (by simp)
  have c4S := (c2S.later b3).later b4
  have c4C := (c2C.later b3).later b4
  have o4D := (o2D.later b3).later b4
  have h4C := (h2C.later b3).later b4
  have o4Q := (ho.later b3).later b4
  have q4Q := (HQ2.out.later b3).later b4
  have b4B := (b2B.alloc (by have := b2B.size; omega) (.cells #[.slice a4 mq c4, .int .i64 rt, .int .i64 ry] 45)).alloc (by have := b2B.size; simp; omega) (.cells #[.int .i64 re0, .int .i64 re1, .int .i64 re2] 52)
  have z4 : ((w2.alloc (.cells #[.slice a4 mq c4, .int .i64 rt, .int .i64 ry] 45)).alloc (.cells #[.int .i64 re0, .int .i64 re1, .int .i64 re2] 52)).heap.size = w2.heap.size + 2 := by simp
  obtain ⟨w4, hw4⟩ : ∃ V, (w2.alloc (.cells #[.slice a4 mq c4, .int .i64 rt, .int .i64 ry] 45)).alloc (.cells #[.int .i64 re0, .int .i64 re1, .int .i64 re2] 52) = V := ⟨_, rfl⟩
  rw [hw4] at cN cE c4S c4C o4D h4C o4Q q4Q b4B z4
  have HB4 : Hid (Below B w w4) := b4B
  have HZ4 : Hid (w4.heap.size = w2.heap.size + 2) := z4
  clear b3 b4 c2S c2C o2D h2C b2B ho HQ2
  -- what was done
  have b5 := balloc w4 (.cells #[.bool rok] 4)
  have hz1 := Hz1.out
  obtain ⟨v7, w5, r5, q5, g5, d5⟩ := appendB_run (w4.alloc (.cells #[.bool rok] 4)) (w.heap.size + 1) u7 did [rok] (some ⟨w4.heap.size, 0, none⟩) 1 1 (o4D.later b5) (litB w4 rok) rfl (fun e => by cases e) (by omega) (by have := b5.size; omega)
  have c5S := (c4S.later b5).grown g5 (fun e => by have := I7.out _ e.symm; omega)
  have c5C := (c4C.later b5).grown g5 (fun e => by have := I7.out _ e.symm; omega)
  have c5N := (cN.later b5).grown g5 (fun e => by have := I7.out _ e.symm; omega)
  have c5E := (cE.later b5).grown g5 (fun e => by have := I7.out _ e.symm; omega)
  have h5C := (h4C.later b5).grown g5 (fun e => by have := I7.out _ e.symm; omega)
  have o5Q := (o4Q.later b5).kept g5 (row_sepT (o4Q.later b5) (o4D.later b5) (by decide))
  have q5Q := (q4Q.later b5).kept g5 (row_sepT (q4Q.later b5) (o4D.later b5) (by decide))
  have b5B : Below B w w5 := (HB4.out.alloc (by have := HB4.out.size; omega) (.cells #[.bool rok] 4)).trans (d5.mono (by omega))
  have z5 : w4.heap.size ≤ w5.heap.size := Nat.le_trans b5.size d5.size
  have H5S : Hid (X2 w5 wr.heap.size (.int .i64 kk) (.string s)) := c5S
  have H5C : Hid (X3 w5 w.heap.size (.slice a3 q.length c3) (.int .i64 t) (.int .i64 y)) := c5C
  have H5N : Hid (X3 w5 w2.heap.size (.slice a4 mq c4) (.int .i64 rt) (.int .i64 ry)) := c5N
  have H5E : Hid (X3 w5 (w2.heap.size + 1) (.int .i64 re0) (.int .i64 re1) (.int .i64 re2)) := c5E
  have H5H : Hid (Chan w5 ch cap (outs em tx)) := h5C
  have H5O : Hid (OwnS w5 w1.heap.size (.slice a4 mq c4) rq) := o5Q
  have H5Q : Hid (OwnS w5 (w.heap.size + 1) (.slice a3 q.length c3) q) := q5Q
  have H5D : Hid (OwnB w5 (w.heap.size + 1) v7 (did ++ [rok])) := q5
  have H5B : Hid (Below B w w5) := b5B
  have H5Z : Hid (w.heap.size < w5.heap.size) := (by show _ < _; omega)
  have HW1 : Hid (wr.heap.size < w1.heap.size) := (by show _ < _; omega)
  have HZ2 : Hid (w1.heap.size ≤ w2.heap.size) := z2
  clear c5S c5C c5N c5E h5C o5Q q5Q q5 b5B z5 cN cE c4S c4C o4D h4C o4Q q4Q b4B z4 b5 g5 d5 z2 hz1
  go_wp2
  clear hw4
  refine wpL_seq_k (fun K hK => ?_)
  simp only [plR6, plBB, playRound, playBody, Try.f60, Option.getD_some, fstSeq, sndSeq, unBlock, unLoop]
  go_wp2_with (at_builtin; refine Lib.wpList_append_run _ rfl _ _ _ _ rfl _ _ rfl rfl _ _ (r5 _) ?_; clear r5)
  cases rok with
  | false =>
    rw [if_neg (by simp)] at HPQ
    have HPK : Hid (playV y (l.take (k + 1)) = ⟨q, t, em, tx, did ++ [false]⟩) := HPQ
    clear HPQ hry
    refine wpL_seq_k (fun K hK => ?_)
    simp only [plR7, plBB, playRound, playBody, Try.f60, Option.getD_some, fstSeq, sndSeq, unBlock, unLoop]
    go_wp2
    refine wpL_of ?_
    simp only [plR11, playRound, playBody, Try.f60, Option.getD_some, fstSeq, sndSeq, unBlock, unLoop]
    go_wp2
    refine ⟨m - 1, by have := HKM.out; omega, ?_⟩
    rw [show (k : Int) + 1 = ((k + 1 : Nat) : Int) by simp]
    exact ⟨_, _, _, _, _, _, _, _, _, _, _, _, _, _, _, _, _, _, _, _, _, _, _, _, _, _, _, _, _, _, _, _, _, _, _, _, v7, k + 1, _, a3, c3, rfl, by omega, by have := HKM.out; omega, HPK.out, H5C.out, H5Q.out, H5D.out, H5H.out, H5B.out, H5Z.out⟩
  | true =>
    obtain rfl : ry = y := hry rfl
    rw [if_pos rfl] at HPQ
    refine wpL_seq_k (fun K hK => ?_)
    simp only [plR7, plBB, playRound, playBody, Try.f60, Option.getD_some, fstSeq, sndSeq, unBlock, unLoop]
    go_wp2
    -- the client goes on
    have h1 := HW1.out
    have h2 := HZ2.out
    have n1 : w.heap.size ≠ wr.heap.size := by omega
    have c6C := ((H5C.out.set0 (.slice a4 mq c4)).set1 (.int .i64 rt)).set2 (.int .i64 ry)
    have c6S := (((H5S.out.other (r' := w.heap.size) (j' := 0) (u := .slice a4 mq c4) (by omega)).other (r' := w.heap.size) (j' := 1) (u := .int .i64 rt) (by omega)).other (r' := w.heap.size) (j' := 2) (u := .int .i64 ry) (by omega))
    have c6E := (((H5E.out.other (r' := w.heap.size) (j' := 0) (u := .slice a4 mq c4) (by omega)).other (r' := w.heap.size) (j' := 1) (u := .int .i64 rt) (by omega)).other (r' := w.heap.size) (j' := 2) (u := .int .i64 ry) (by omega))
    have g6 := grown_trans (grown_trans (grown_setCell w5 w.heap.size 0 (.slice a4 mq c4)) (grown_setCell _ w.heap.size 1 (.int .i64 rt))) (grown_setCell _ w.heap.size 2 (.int .i64 ry))
    have h6H := H5H.out.grown g6 (fun e => by simp at e; omega)
    have o6O := ((H5O.out.set (r := w.heap.size) (j := 0) (u := .slice a4 mq c4) (by omega)).set (r := w.heap.size) (j := 1) (u := .int .i64 rt) (by omega)).set (r := w.heap.size) (j := 2) (u := .int .i64 ry) (by omega)
    have o6D := H5D.out.kept g6 (by
      cases hv : v7.ownBlock with
      | none => exact Or.inl rfl
      | some k => exact Or.inr fun e => by simp at e; have := own_block_geB H5D.out k hv; omega)
    have b6B := H5B.out.trans (below_grown g6 (B := B) (by omega) (by have := H5Z.out; omega))
    have z6 : (((w5.setCell ⟨w.heap.size, 0, none⟩ (.slice a4 mq c4)).setCell ⟨w.heap.size, 1, none⟩ (.int .i64 rt)).setCell ⟨w.heap.size, 2, none⟩ (.int .i64 ry)).heap.size = w5.heap.size := by simp
    obtain ⟨w6, hw6⟩ : ∃ V, ((w5.setCell ⟨w.heap.size, 0, none⟩ (.slice a4 mq c4)).setCell ⟨w.heap.size, 1, none⟩ (.int .i64 rt)).setCell ⟨w.heap.size, 2, none⟩ (.int .i64 ry) = V := ⟨_, rfl⟩
    rw [hw6] at c6C c6S c6E g6 h6H o6O o6D b6B z6
    obtain ⟨⟨n0, n1', n2⟩, nf⟩ := id H5N.out
    obtain ⟨⟨m0, m1, m2⟩, mf⟩ := id H5C.out
    have mf0 := mf 0
    have mf1 := mf 1
    have mf2 := mf 2
    obtain ⟨⟨y0, y1⟩, yf⟩ := id c6S
    have ne1 : ¬ w.heap.size = w2.heap.size := by omega
    have ne2 : ¬ w2.heap.size = w.heap.size := by omega
    have HZ6 : Hid (w6.heap.size = w5.heap.size) := z6
    clear mf nf yf z6
    refine wpL_seq_k (fun K hK => ?_)
    simp only [plR8, plBB, playRound, playBody, Try.f60, Option.getD_some, fstSeq, sndSeq, unBlock, unLoop]
    go_wp2
    clear hw6 n0 n1' n2 m0 m1 m2 mf0 mf1 mf2
    by_cases hk2 : kk = 2
    · subst hk2
      rw [if_pos rfl] at HPQ
      have HPK : Hid (playV ry (l.take (k + 1)) = ⟨rq, rt, em ++ [(re0, re1, re2)], tx ++ [rs], did ++ [true]⟩) := HPQ
      refine wpL_seq_k (fun K hK => ?_)
      simp only [plR9, plBB, playRound, playBody, Try.f60, Option.getD_some, fstSeq, sndSeq, unBlock, unLoop]
      go_wp2
      refine wpL_cond (t := true) rfl ?_
      rw [if_pos rfl]
      refine sendReg_w _ _ _ _ _ _ _ _ _ _ _ _ _ _ _ _ _ _ _ _ _ _ _ _ _ _ _ _ _ _ _ _ _ _ _ _ _ _ _ _ _ ch (w2.heap.size + 1) cap re0 re1 re2 rs (outs em tx) w6 _ h6H (by simp [outs]; omega) c6E (fun w7 h7 g7 => ?_)
      have h7' : Chan w7 ch cap (outs (em ++ [(re0, re1, re2)]) (tx ++ [rs])) := by
        have e : outs (em ++ [(re0, re1, re2)]) (tx ++ [rs]) = outs em tx ++ [outV (re0, re1, re2) rs] := by unfold outs; rw [List.zipWith_append htx.symm]; rfl
        rw [e]; exact h7
      have H7C := c6C.grown g7 (fun e => by simp at e; omega)
      have H7O := (o6O.kept g7 (by
        cases hv : (Value.slice a4 mq c4).ownBlock with
        | none => exact Or.inl rfl
        | some k => exact Or.inr fun e => by simp at e; have := own_block_geS o6O k hv; omega)).mono (base' := w.heap.size + 1) (by omega)
      have H7D := o6D.kept g7 (by
        cases hv : v7.ownBlock with
        | none => exact Or.inl rfl
        | some k => exact Or.inr fun e => by simp at e; have := own_block_geB o6D k hv; omega)
      have H7B := b6B.trans (below_grown g7 (B := B) (by omega) (by have := HZ6.out; have := H5Z.out; omega))
      have H7Z : w.heap.size < w7.heap.size := by have := g7.size; have := HZ6.out; have := H5Z.out; omega
      have hmq := HMQ.out
      show wpL _ plR11 _ _ _
      refine wpL_of ?_
      simp only [plR11, playRound, playBody, Try.f60, Option.getD_some, fstSeq, sndSeq, unBlock, unLoop]
      go_wp2
      refine ⟨m - 1, by have := HKM.out; omega, ?_⟩
      rw [show (k : Int) + 1 = ((k + 1 : Nat) : Int) by simp]
      exact ⟨_, _, _, _, _, _, _, _, _, _, _, _, _, _, _, _, _, _, _, _, _, _, _, _, _, _, _, _, _, _, _, _, _, _, _, _, v7, k + 1, _, a4, c4, rfl, by omega, by have := HKM.out; omega, HPK.out, by rw [hmq]; exact H7C, by rw [hmq]; exact H7O, H7D, h7', H7B, H7Z⟩
    · rw [if_neg hk2] at HPQ
      have HPK : Hid (playV ry (l.take (k + 1)) = ⟨rq, rt, em, tx, did ++ [true]⟩) := HPQ
      have e2 : (kk == 2) = false := by rw [beq_eq_false_iff_ne]; exact hk2
      have hmq := HMQ.out
      have H6C : Hid (X3 w6 w.heap.size (.slice a4 mq c4) (.int .i64 rt) (.int .i64 ry)) := c6C
      have H6O : Hid (OwnS w6 (w.heap.size + 1) (.slice a4 mq c4) rq) := o6O.mono (by omega)
      have H6D : Hid (OwnB w6 (w.heap.size + 1) v7 (did ++ [true])) := o6D
      have H6H : Hid (Chan w6 ch cap (outs em tx)) := h6H
      have H6B : Hid (Below B w w6) := b6B
      clear hk2 HPQ c6C c6S c6E g6 h6H o6O o6D b6B
      refine wpL_seq_k (fun K hK => ?_)
      simp only [plR9, plBB, playRound, playBody, Try.f60, Option.getD_some, fstSeq, sndSeq, unBlock, unLoop]
      go_wp2
      refine wpL_cond (t := false) rfl ?_
      rw [if_neg (by simp)]
      refine wpL_of ?_
      refine wp_skip ?_
      show wpL _ plR11 _ _ _
      refine wpL_of ?_
      simp only [plR11, playRound, playBody, Try.f60, Option.getD_some, fstSeq, sndSeq, unBlock, unLoop]
      go_wp2
      refine ⟨m - 1, by have := HKM.out; omega, ?_⟩
      rw [show (k : Int) + 1 = ((k + 1 : Nat) : Int) by simp]
      exact ⟨_, _, _, _, _, _, _, _, _, _, _, _, _, _, _, _, _, _, _, _, _, _, _, _, _, _, _, _, _, _, _, _, _, _, _, _, v7, k + 1, _, a4, c4, rfl, by omega, by have := HKM.out; omega, HPK.out, by rw [hmq]; exact H6C.out, by rw [hmq]; exact H6O.out, H6D.out, H6H.out, H6B.out, by have := HZ6.out; have := H5Z.out; omega⟩

end Go.Proofs.Yteopaocomfepfaa

/- Chapter 10: the regions that send and select. -/
import Derived.Test.YteopaocomfepfaaWL10
import Derived.Test.YteopaocomfepfaaG10
namespace Go.Proofs.Yteopaocomfepfaa
set_option linter.unusedVariables false
set_option maxRecDepth 1000000
set_option linter.unusedSimpArgs false
open Go.RowKit Go.Conc

def sndSeq : Code → Code | .seq _ b => b | c => c
def fstSeq : Code → Code | .seq a _ => a | c => c
def unBlock : Code → Code | .block _ c => c | c => c
def unLoop : Code → Code | .loop c => c | c => c
def thenOf : Code → Code | .cond _ x _ => x | c => c
def elseOf : Code → Code | .cond _ _ y => y | c => c
noncomputable def playBody : Code := Try.f60.body.getD .skip
noncomputable def playRound : Code := unLoop (unBlock (sndSeq (fstSeq (sndSeq (sndSeq playBody)))))
noncomputable def sendReg : Code := thenOf (sndSeq (sndSeq (sndSeq (sndSeq (sndSeq (sndSeq (unBlock (fstSeq (sndSeq (sndSeq playRound))))))))))

set_option maxRecDepth 1000000 in
set_option maxHeartbeats 4000000 in
theorem sendReg_w (p0 p1 p3 p4 p5 p6 p7 p8 p9 p10 p13 p14 p15 p16 p17 p18 p19 p20 p21 p22 p23 p24 p25 p26 p27 p28 p29 p30 p31 p32 p33 p34 p35 p36 p37 p38 p39 p40 p41 p42 p43 : Value) (ch g11 cap : Nat) (e0 e1 e2 : Int) (tx : ByteArray) (buf : List Value) (w : World) (Q : Exit → Act → World → Prop)
    (hc : Chan w ch cap buf) (hroom : buf.length < cap) (hx : X3 w g11 (.int .i64 e0) (.int .i64 e1) (.int .i64 e2))
    (hQ : ∀ w', Chan w' ch cap (buf ++ [.agg #[.int .i64 e0, .int .i64 e1, .int .i64 e2, .string tx]]) → w.grownBy w' (some ch) → Q .normal ⟨#[p0, p1, .chan (some ch), p3, p4, p5, p6, p7, p8, p9, p10, .pointer (some ⟨g11, 0, none⟩), .string tx, p13, p14, p15, p16, p17, p18, p19, p20, p21, p22, p23, p24, p25, p26, p27, p28, p29, p30, p31, p32, p33, p34, p35, p36, p37, .chan (some ch), .agg #[.int .i64 e0, .int .i64 e1, .int .i64 e2], .string tx, .agg #[.int .i64 e0, .int .i64 e1, .int .i64 e2, .string tx], p42, p43], []⟩ w') :
    wpL Try.prog sendReg Q ⟨#[p0, p1, .chan (some ch), p3, p4, p5, p6, p7, p8, p9, p10, .pointer (some ⟨g11, 0, none⟩), .string tx, p13, p14, p15, p16, p17, p18, p19, p20, p21, p22, p23, p24, p25, p26, p27, p28, p29, p30, p31, p32, p33, p34, p35, p36, p37, p38, p39, p40, p41, p42, p43], []⟩ w := by
  obtain ⟨s, r, hc⟩ := hc
  obtain ⟨⟨x0, x1, x2⟩, xf⟩ := hx
  refine wpL_steps (a' := ⟨#[p0, p1, .chan (some ch), p3, p4, p5, p6, p7, p8, p9, p10, .pointer (some ⟨g11, 0, none⟩), .string tx, p13, p14, p15, p16, p17, p18, p19, p20, p21, p22, p23, p24, p25, p26, p27, p28, p29, p30, p31, p32, p33, p34, p35, p36, p37, .chan (some ch), .agg #[.int .i64 e0, .int .i64 e1, .int .i64 e2], .string tx, .agg #[.int .i64 e0, .int .i64 e1, .int .i64 e2, .string tx], p42, p43], []⟩) (w' := w.setChan ch cap (buf.toArray.push (.agg #[.int .i64 e0, .int .i64 e1, .int .i64 e2, .string tx])) false (s + 1) r false) (fun f k cs => ?_) (hQ _ ⟨s + 1, r, ?_⟩ (grown_setChan _ _ _ _ _ _ _ _))
  case refine_2 =>
    rw [heap_setChan _ _ _ _ _ _ _ _ (Array.getElem?_eq_some_iff.1 hc).1]
    simp
  refine LoneTo.goes (n := 6) ?_
  simp only [sendReg, playRound, playBody, Try.f60, Option.getD_some, sndSeq, fstSeq, unBlock, unLoop, thenOf]
  s_reg
  (s_in; refine goes_oper_k rfl rfl (by simp [base]) (fun K hK => ?_); go_simp; refine hK _ _ ⟨trivial, ?_⟩; clear hK K)
  (s_in; refine goes_oper_k rfl rfl (by simp [base]) (fun K hK => ?_); go_simp; refine hK _ _ ⟨trivial, ?_⟩; clear hK K)
  (s_in; refine goes_oper_k rfl rfl (by simp [base]) (fun K hK => ?_); go_simp; refine hK _ _ ⟨trivial, ?_⟩; clear hK K)
  (s_in; refine goes_oper_k rfl rfl (by simp [base]) (fun K hK => ?_); go_simp; refine hK _ _ ⟨trivial, ?_⟩; clear hK K)
  s_stop
  refine LoneTo.step (step_lone_send_room (c := ch) (cap := cap) (buf := buf.toArray) (s := s) (r := r) (tm := false) (stepG_comm (cases := #[scase ch (.agg #[.int .i64 e0, .int .i64 e1, .int .i64 e2, .string tx]) (.tuple #[])]) (blocking := true) (shape := .send) (w' := w) rfl rfl (by simp [base]) (by simp [execOp, scase, Act.eval])) hc (by simpa using hroom)) ?_
  rw [Frame.finish_at]
  walk_nrm
  refine LoneTo.goes (n := 1) ?_
  s_c stepG_region_end
  s_stop
  exact LoneTo.done ⟨rfl, rfl⟩

noncomputable def takeBody : Code := Try.f61.body.getD .skip
noncomputable def takeRound : Code := unLoop (unBlock (sndSeq (sndSeq (sndSeq takeBody))))
noncomputable def selReg : Code := fstSeq (sndSeq (unBlock takeRound))

set_option maxRecDepth 1000000 in
set_option maxHeartbeats 4000000 in
/-- Something lies in the channel: it is taken. -/
theorem selReg_some (p0 p1 p2 p3 p4 p5 p6 p8 p9 p10 p11 p12 p13 p14 p15 p16 p17 p18 p19 p20 p21 p22 p23 : Value) (ch cap : Nat) (e0 e1 e2 : Int) (tx : ByteArray) (buf : List Value) (w : World) (Q : Exit → Act → World → Prop)
    (hc : Chan w ch cap (.agg #[.int .i64 e0, .int .i64 e1, .int .i64 e2, .string tx] :: buf))
    (hQ : ∀ w', Chan w' ch cap buf → w.grownBy w' (some ch) → Q .normal ⟨#[p0, p1, p2, p3, p4, p5, p6, .chan (some ch), .tuple #[.int .i64 0, .bool true, .agg #[.int .i64 e0, .int .i64 e1, .int .i64 e2, .string tx]], .int .i64 0, .bool true, p11, p12, p13, p14, p15, p16, p17, p18, p19, p20, p21, p22, p23], []⟩ w') :
    wpL Try.prog selReg Q ⟨#[p0, p1, p2, p3, p4, p5, p6, .chan (some ch), p8, p9, p10, p11, p12, p13, p14, p15, p16, p17, p18, p19, p20, p21, p22, p23], []⟩ w := by
  obtain ⟨s, r, hc⟩ := hc
  refine wpL_steps (a' := ⟨#[p0, p1, p2, p3, p4, p5, p6, .chan (some ch), .tuple #[.int .i64 0, .bool true, .agg #[.int .i64 e0, .int .i64 e1, .int .i64 e2, .string tx]], .int .i64 0, .bool true, p11, p12, p13, p14, p15, p16, p17, p18, p19, p20, p21, p22, p23], []⟩) (w' := w.setChan ch cap buf.toArray false s (r + 1) false) (fun f k cs => ?_) (hQ _ ⟨s, r + 1, ?_⟩ (grown_setChan _ _ _ _ _ _ _ _))
  case refine_2 =>
    rw [heap_setChan _ _ _ _ _ _ _ _ (Array.getElem?_eq_some_iff.1 hc).1]
  refine LoneTo.goes (n := 1) ?_
  simp only [selReg, takeRound, takeBody, Try.f61, Option.getD_some, sndSeq, fstSeq, unBlock, unLoop, thenOf]
  s_reg
  s_stop
  refine LoneTo.step (step_lone_select_recv_buf (c := ch) (z := .agg #[.int .i64 0, .int .i64 0, .int .i64 0, .string ⟨#[]⟩]) (stepG_comm (cases := #[rcase ch (.agg #[.int .i64 0, .int .i64 0, .int .i64 0, .string ⟨#[]⟩])]) (blocking := false) (shape := .select) (w' := w) rfl rfl (by simp [base]) (by simp [go_sem, execOp, rcase, Act.eval])) hc (by simp)) ?_
  rw [Frame.finish_at]
  walk_nrm
  refine LoneTo.goes (n := 3) ?_
  (s_in; refine goes_oper_k rfl rfl (by simp [base]) (fun K hK => ?_); go_simp; refine hK _ _ ⟨trivial, ?_⟩; clear hK K)
  (s_in; refine goes_oper_k rfl rfl (by simp [base]) (fun K hK => ?_); go_simp; refine hK _ _ ⟨trivial, ?_⟩; clear hK K)
  s_c stepG_region_end
  s_stop
  exact LoneTo.done ⟨rfl, rfl⟩

set_option maxRecDepth 1000000 in
set_option maxHeartbeats 4000000 in
/-- Nothing lies in the channel: the default. -/
theorem selReg_none (p0 p1 p2 p3 p4 p5 p6 p8 p9 p10 p11 p12 p13 p14 p15 p16 p17 p18 p19 p20 p21 p22 p23 : Value) (ch cap : Nat) (w : World) (Q : Exit → Act → World → Prop)
    (hc : Chan w ch cap [])
    (hQ : Q .normal ⟨#[p0, p1, p2, p3, p4, p5, p6, .chan (some ch), .tuple #[.int .i64 (-1), .bool false, .agg #[.int .i64 0, .int .i64 0, .int .i64 0, .string ⟨#[]⟩]], .int .i64 (-1), .bool false, p11, p12, p13, p14, p15, p16, p17, p18, p19, p20, p21, p22, p23], []⟩ w) :
    wpL Try.prog selReg Q ⟨#[p0, p1, p2, p3, p4, p5, p6, .chan (some ch), p8, p9, p10, p11, p12, p13, p14, p15, p16, p17, p18, p19, p20, p21, p22, p23], []⟩ w := by
  obtain ⟨s, r, hc⟩ := hc
  refine wpL_steps (a' := ⟨#[p0, p1, p2, p3, p4, p5, p6, .chan (some ch), .tuple #[.int .i64 (-1), .bool false, .agg #[.int .i64 0, .int .i64 0, .int .i64 0, .string ⟨#[]⟩]], .int .i64 (-1), .bool false, p11, p12, p13, p14, p15, p16, p17, p18, p19, p20, p21, p22, p23], []⟩) (w' := w) (fun f k cs => ?_) hQ
  refine LoneTo.goes (n := 1) ?_
  simp only [selReg, takeRound, takeBody, Try.f61, Option.getD_some, sndSeq, fstSeq, unBlock, unLoop, thenOf]
  s_reg
  s_stop
  refine LoneTo.step (step_lone_select_default (c := ch) (z := .agg #[.int .i64 0, .int .i64 0, .int .i64 0, .string ⟨#[]⟩]) (cap := cap) (s := s) (r := r) (tm := false) (stepG_comm (cases := #[rcase ch (.agg #[.int .i64 0, .int .i64 0, .int .i64 0, .string ⟨#[]⟩])]) (blocking := false) (shape := .select) (w' := w) rfl rfl (by simp [base]) (by simp [go_sem, execOp, rcase, Act.eval])) hc) ?_
  rw [Frame.finish_at]
  walk_nrm
  refine LoneTo.goes (n := 3) ?_
  (s_in; refine goes_oper_k rfl rfl (by simp [base]) (fun K hK => ?_); go_simp; refine hK _ _ ⟨trivial, ?_⟩; clear hK K)
  (s_in; refine goes_oper_k rfl rfl (by simp [base]) (fun K hK => ?_); go_simp; refine hK _ _ ⟨trivial, ?_⟩; clear hK K)
  s_c stepG_region_end
  s_stop
  exact LoneTo.done ⟨rfl, rfl⟩

end Go.Proofs.Yteopaocomfepfaa

/- Chapter 13: a region of the specification's PlayBoard: the step on a copy. -/
import Derived.Test.YtaokmjbhgkfnfaaAB13q
namespace Go.Proofs.Ytaokmjbhgkfnfaa
set_option linter.unusedVariables false
set_option maxRecDepth 1000000
set_option linter.unusedSimpArgs false
open Go.RowKit

def sndSeq3 : Code → Code | .seq _ b => b | c => c
def fstSeq3 : Code → Code | .seq a _ => a | c => c
def unBlock3 : Code → Code | .block _ c => c | c => c
def unLoop3 : Code → Code | .loop c => c | c => c
noncomputable def pbReg8 : Code := fstSeq3 (sndSeq3 (unBlock3 (fstSeq3 (sndSeq3 (sndSeq3 (unLoop3 (unBlock3 (sndSeq3 (fstSeq3 (sndSeq3 (sndSeq3 (sndSeq3 (sndSeq3 ((Try.f14.body.getD .skip)))))))))))))))

set_option maxRecDepth 1000000 in
set_option maxHeartbeats 16000000 in
theorem pbReg8_w (j0 j1 j2 j3 j4 j5 j6 j7 j8 j10 j11 j12 j14 j15 j16 j17 j18 j19 j20 j21 j22 j23 j24 j25 j26 j27 j28 j29 j30 j31 j32 j33 j34 j35 j36 j37 j38 j39 j40 j41 j42 j43 j44 j45 j46 j47 j48 j49 j50 j51 j52 : Value) (gN gS : Nat) (f e : Int) (sa : Option Addr) (sn sc : Nat) (la : Option Addr) (ln lcx : Nat) (ta : Option Addr) (tn tc : Nat) (sg : List (List Int)) (li ls : List Int) (kk mm ll : Int) (nf2 ne2 : Int) (ns2 nl2 nt2 : Nat) (nb : BdV) (fb : Bool) (K : Act → World → Prop) (w : World) (cN : X5 w gN (.int .i64 f) (.int .i64 e) (.slice sa sn sc) (.slice la ln lcx) (.slice ta tn tc)) (cS : X3 w gS (.int .i64 kk) (.int .i64 mm) (.int .i64 ll)) (hrb : ReadB w sa sn sc la ln lcx ta tn tc ⟨f, e, sg, li, ls⟩)
  (qO : ∀ wx, ReadB wx sa sn sc la ln lcx ta tn tc ⟨f, e, sg, li, ls⟩ → Calls Try.prog 55 #[.agg #[.int .i64 f, .int .i64 e, .slice sa sn sc, .slice la ln lcx, .slice ta tn tc]] wx fun x w' => ∃ sa' sc' la' lc' ta' tc', x = .returned (.agg #[.int .i64 f, .int .i64 e, .slice sa' sn sc', .slice la' ln lc', .slice ta' tn tc']) ∧ OwnBd w' wx.heap.size w'.heap.size (.slice sa' sn sc') (.slice la' ln lc') (.slice ta' tn tc') ⟨f, e, sg, li, ls⟩ ∧ Below wx.heap.size wx w')
  (qS : ∀ a1 c1 a2 c2 a3 c3 lo hi wx, OwnBd wx lo hi (.slice a1 sn c1) (.slice a2 ln c2) (.slice a3 tn c3) ⟨f, e, sg, li, ls⟩ → hi ≤ wx.heap.size → lo ≤ hi → Calls Try.prog 54 #[.agg #[.int .i64 f, .int .i64 e, .slice a1 sn c1, .slice a2 ln c2, .slice a3 tn c3], .agg #[.int .i64 kk, .int .i64 mm, .int .i64 ll]] wx fun r w' => ∃ sa sc la lc ta tc, r = .returned (.tuple #[.agg #[.int .i64 nf2, .int .i64 ne2, .slice sa ns2 sc, .slice la nl2 lc, .slice ta nt2 tc], .bool fb]) ∧ OwnBd w' lo w'.heap.size (.slice sa ns2 sc) (.slice la nl2 lc) (.slice ta nt2 tc) nb ∧ RngP (fun q => lo ≤ q ∧ q < hi) wx w')
  (hKK : ∀ (sa1 : Option Addr) (sc1 : Nat) (la1 : Option Addr) (lc1 : Nat) (ta1 : Option Addr) (tc1 : Nat) (sa2 : Option Addr) (sc2 : Nat) (la2 : Option Addr) (lc3 : Nat) (ta2 : Option Addr) (tc2 : Nat) (g8 : Nat) (wx : World), X5 wx g8 (.int .i64 nf2) (.int .i64 ne2) (.slice sa2 ns2 sc2) (.slice la2 nl2 lc3) (.slice ta2 nt2 tc2) → OwnBd wx w.heap.size wx.heap.size (.slice sa2 ns2 sc2) (.slice la2 nl2 lc3) (.slice ta2 nt2 tc2) nb → Below w.heap.size w wx → w.heap.size ≤ g8 → K ⟨#[j0, j1, j2, j3, j4, j5, j6, j7, j8, .pointer (some ⟨gN, 0, none⟩), j10, j11, j12, .pointer (some ⟨gS, 0, none⟩), .pointer (some ⟨g8, 0, none⟩), .bool fb, j16, j17, j18, j19, j20, j21, j22, j23, j24, j25, j26, j27, j28, j29, j30, j31, j32, j33, j34, j35, .tuple #[.agg #[.int .i64 nf2, .int .i64 ne2, .slice sa2 ns2 sc2, .slice la2 nl2 lc3, .slice ta2 nt2 tc2], .bool fb], .agg #[.int .i64 f, .int .i64 e, .slice sa sn sc, .slice la ln lcx, .slice ta tn tc], .agg #[.int .i64 f, .int .i64 e, .slice sa1 sn sc1, .slice la1 ln lc1, .slice ta1 tn tc1], .agg #[.int .i64 kk, .int .i64 mm, .int .i64 ll], .tuple #[.agg #[.int .i64 nf2, .int .i64 ne2, .slice sa2 ns2 sc2, .slice la2 nl2 lc3, .slice ta2 nt2 tc2], .bool fb], .agg #[.int .i64 nf2, .int .i64 ne2, .slice sa2 ns2 sc2, .slice la2 nl2 lc3, .slice ta2 nt2 tc2], .bool fb, j43, j44, j45, j46, j47, j48, j49, j50, j51, j52], []⟩ wx) :
  pbReg8.wp Try.prog (Exit.then K (fun _ _ _ => False)) ⟨#[j0, j1, j2, j3, j4, j5, j6, j7, j8, .pointer (some ⟨gN, 0, none⟩), j10, j11, j12, .pointer (some ⟨gS, 0, none⟩), j14, j15, j16, j17, j18, j19, j20, j21, j22, j23, j24, j25, j26, j27, j28, j29, j30, j31, j32, j33, j34, j35, j36, j37, j38, j39, j40, j41, j42, j43, j44, j45, j46, j47, j48, j49, j50, j51, j52], []⟩ w := by
 simp only [pbReg8, Try.f14, Option.getD_some, sndSeq3, fstSeq3, unBlock3, unLoop3]
 have HL_0 : Hid (Below w.heap.size w w.drew) := (Below.refl _ _).drew
 refine wp_region_held_drew (S := (fun w' => w'.cell? ⟨gN, 0, none⟩ = some (.int .i64 f) ∧ w'.cell? ⟨gN, 1, none⟩ = some (.int .i64 e) ∧ w'.cell? ⟨gN, 2, none⟩ = some (.slice sa sn sc) ∧ w'.cell? ⟨gN, 3, none⟩ = some (.slice la ln lcx) ∧ w'.cell? ⟨gN, 4, none⟩ = some (.slice ta tn tc) ∧ w'.cell? ⟨gS, 0, none⟩ = some (.int .i64 kk) ∧ w'.cell? ⟨gS, 1, none⟩ = some (.int .i64 mm) ∧ w'.cell? ⟨gS, 2, none⟩ = some (.int .i64 ll))) (by kernel_rfl) ?_ (fun hHeld => ?_)
 ·exact ⟨(cN.later (HL_0.out)).1.1, (cN.later (HL_0.out)).1.2.1, (cN.later (HL_0.out)).1.2.2.1, (cN.later (HL_0.out)).1.2.2.2.1, (cN.later (HL_0.out)).1.2.2.2.2, (cS.later (HL_0.out)).1.1, (cS.later (HL_0.out)).1.2.1, (cS.later (HL_0.out)).1.2.2⟩
 generalize w.drew = v0 at HL_0 hHeld ⊢
 refine takeV13 (i := 0) (oi := _) (v := ?_) (d := some 37) rfl (by kernel_rfl) (by kernel_rfl) (by kernel_rfl) (by kernel_rfl) (fun _ _ _ h => h) (Or.inl ⟨by rfl, ?_⟩) (by assumption) ?_
 rotate_left
 ·(intro w hSw; (try dsimp only at hSw); go_simp <;> with_reducible rfl)
 try simp only [Act.put, zsA, zsB, zsC]
 refine takeV13 (i := 2) (oi := _) (v := ?_) (d := some 39) rfl (by kernel_rfl) (by kernel_rfl) (by kernel_rfl) (by kernel_rfl) (fun _ _ _ h => h) (Or.inl ⟨by rfl, ?_⟩) (by assumption) ?_
 rotate_left
 ·(intro w hSw; (try dsimp only at hSw); go_simp <;> with_reducible rfl)
 try simp only [Act.put, zsA, zsB, zsC]
 refine wpAnyH_ready (rs := [1, 7]) (by kernel_rfl) (by simp) ?_
 refine AllReadyH.cons (o := _) rfl (fun K hK => ?cw17) (AllReadyH.cons (o := _) rfl (fun K hK => ?cw18) AllReadyH.nil)
 case' cw17 =>
  go_simp
  refine (qO v0 (hrb.later HL_0.out)).mono ?_
  rintro e v1 ⟨sa1, sc1, la1, lc1, ta1, tc1, rfl, ho, hb⟩
  have HL_1 : Hid (Below w.heap.size w v1) := HL_0.out.trans (hb.mono HL_0.out.size)
  have OO_1 : Hid (OwnBd v1 v0.heap.size v1.heap.size (.slice sa1 sn sc1) (.slice la1 ln lc1) (.slice ta1 tn tc1) ⟨f, e, sg, li, ls⟩) := ho
  have hl0 : w.heap.size ≤ v0.heap.size := HL_0.out.size
  have hz0 : v0.heap.size ≤ v1.heap.size := hb.size
  refine hK.out _ _ ?_ (fun hHeld => ?_)
  ·exact ⟨(cN.later (HL_1.out)).1.1, (cN.later (HL_1.out)).1.2.1, (cN.later (HL_1.out)).1.2.2.1, (cN.later (HL_1.out)).1.2.2.2.1, (cN.later (HL_1.out)).1.2.2.2.2, (cS.later (HL_1.out)).1.1, (cS.later (HL_1.out)).1.2.1, (cS.later (HL_1.out)).1.2.2⟩
  clear hK K hb ho HL_0
  try simp only [Act.put, zsA, zsB, zsC]
  refine wpAnyH_ready (rs := [3, 7]) (by kernel_rfl) (by simp) ?_
  refine AllReadyH.cons (o := _) rfl (fun K hK => ?cw19) (AllReadyH.cons (o := _) rfl (fun K hK => ?cw20) AllReadyH.nil)
  case' cw19 =>
   go_simp
   refine (qS sa1 sc1 la1 lc1 ta1 tc1 v0.heap.size v1.heap.size v1 OO_1.out (by omega) (by omega)).mono ?_
   rintro e v2 ⟨sa2, sc2, la2, lc3, ta2, tc2, rfl, ho, hr⟩
   have hl1 : w.heap.size ≤ v1.heap.size := HL_1.out.size
   have hb : Below w.heap.size v1 v2 := hr.below (fun k h => by omega) hl1
   have HL_2 : Hid (Below w.heap.size w v2) := HL_1.out.trans hb
   have OO_2 : Hid (OwnBd v2 v0.heap.size v2.heap.size (.slice sa2 ns2 sc2) (.slice la2 nl2 lc3) (.slice ta2 nt2 tc2) nb) := ho
   have hz1 : v1.heap.size ≤ v2.heap.size := hr.size
   refine hK.out _ _ ?_ (fun hHeld => ?_)
   ·exact ⟨(cN.later (HL_2.out)).1.1, (cN.later (HL_2.out)).1.2.1, (cN.later (HL_2.out)).1.2.2.1, (cN.later (HL_2.out)).1.2.2.2.1, (cN.later (HL_2.out)).1.2.2.2.2, (cS.later (HL_2.out)).1.1, (cS.later (HL_2.out)).1.2.1, (cS.later (HL_2.out)).1.2.2⟩
   clear hK K hb ho hr HL_1 OO_1
   try simp only [Act.put, zsA, zsB, zsC]
   refine takeV13 (i := 4) (oi := _) (v := ?_) (d := some 36) rfl (by kernel_rfl) (by kernel_rfl) (by kernel_rfl) (by kernel_rfl) (fun _ _ _ h => h) (Or.inl ⟨by rfl, ?_⟩) (by assumption) ?_
   rotate_left
   ·(intro w hSw; (try dsimp only at hSw); go_simp <;> with_reducible rfl)
   try simp only [Act.put, zsA, zsB, zsC]
   refine takeV13 (i := 5) (oi := _) (v := ?_) (d := some 41) rfl (by kernel_rfl) (by kernel_rfl) (by kernel_rfl) (by kernel_rfl) (fun _ _ _ h => h) (Or.inl ⟨by rfl, ?_⟩) (by assumption) ?_
   rotate_left
   ·(intro w hSw; (try dsimp only at hSw); go_simp <;> with_reducible rfl)
   try simp only [Act.put, zsA, zsB, zsC]
   refine takeV13 (i := 6) (oi := _) (v := ?_) (d := some 42) rfl (by kernel_rfl) (by kernel_rfl) (by kernel_rfl) (by kernel_rfl) (fun _ _ _ h => h) (Or.inl ⟨by rfl, ?_⟩) (by assumption) ?_
   rotate_left
   ·(intro w hSw; (try dsimp only at hSw); go_simp <;> with_reducible rfl)
   try simp only [Act.put, zsA, zsB, zsC]
   refine wpAnyH_ready (rs := [7]) (by kernel_rfl) (by simp) ?_
   refine AllReadyH.cons (o := _) rfl (fun K hK => ?cw21) AllReadyH.nil
   case' cw21 =>
    go_simp
    have hb : Below v2.heap.size v2 (v2.alloc (.cells #[.int .i64 0, .int .i64 0, .slice none 0 0, .slice none 0 0, .slice none 0 0] 29)) := balloc _ _
    have hN := x5_new v2 (.int .i64 0) (.int .i64 0) (.slice none 0 0) (.slice none 0 0) (.slice none 0 0) 29 v2.heap.size rfl
    have hT : BoxT (v2.alloc (.cells #[.int .i64 0, .int .i64 0, .slice none 0 0, .slice none 0 0, .slice none 0 0] 29)) v2.heap.size := BoxT.new _ _ (by decide) (by decide)
    have hsz : (v2.alloc (.cells #[.int .i64 0, .int .i64 0, .slice none 0 0, .slice none 0 0, .slice none 0 0] 29)).heap.size = v2.heap.size + 1 := by simp
    have h_HL := HL_2.out.trans (hb.mono HL_2.out.size)
    have h_OO := OO_2.out.later hb
    refine hK.out _ _ ?_ (fun hHeld => ?_)
    ·exact ⟨(cN.later (h_HL)).1.1, (cN.later (h_HL)).1.2.1, (cN.later (h_HL)).1.2.2.1, (cN.later (h_HL)).1.2.2.2.1, (cN.later (h_HL)).1.2.2.2.2, (cS.later (h_HL)).1.1, (cS.later (h_HL)).1.2.1, (cS.later (h_HL)).1.2.2⟩
    clear hK K
    try simp only [Act.put, zsA, zsB, zsC]
    generalize (v2.alloc (.cells #[.int .i64 0, .int .i64 0, .slice none 0 0, .slice none 0 0, .slice none 0 0] 29)) = v3 at hb hN hT hsz hHeld h_HL h_OO ⊢
    have HL_3 : Hid (Below w.heap.size w v3) := h_HL
    have OO_3 : Hid (OwnBd v3 v0.heap.size v2.heap.size (.slice sa2 ns2 sc2) (.slice la2 nl2 lc3) (.slice ta2 nt2 tc2) nb) := h_OO
    have XG_3 : Hid (X5 v3 v2.heap.size (.int .i64 0) (.int .i64 0) (.slice none 0 0) (.slice none 0 0) (.slice none 0 0)) := hN
    have XT_3 : Hid (BoxT v3 v2.heap.size) := hT
    have hl2 : w.heap.size ≤ v2.heap.size := HL_2.out.size
    have hz2 : v2.heap.size < v3.heap.size := by omega
    clear hb hN hT hsz h_HL HL_2 h_OO OO_2
    have XB := HL_3
    have X8 := XG_3
    have XU := XT_3
    have hlo : w.heap.size ≤ v0.heap.size := by omega
    have XQ : Hid (OwnBd v3 w.heap.size v2.heap.size (.slice sa2 ns2 sc2) (.slice la2 nl2 lc3) (.slice ta2 nt2 tc2) nb) := OO_3.out.mono hlo (Nat.le_refl _)
    have XL8 : w.heap.size ≤ v2.heap.size := by omega
    have HZ8 : v2.heap.size ≤ v3.heap.size := by omega
    clear hlo HL_3 XG_3 XT_3 OO_3 hl0 hz0 hl1 hz1 hl2 hz2
    generalize v2.heap.size = g8 at X8 XU XL8 ⊢
    generalize hh8 : v2.heap.size = hi8 at XQ
    have XH8 : hi8 ≤ v3.heap.size := by omega
    clear HZ8 hh8
    obtain ⟨V, rfl⟩ : ∃ V : World, V = v3 := ⟨_, rfl⟩
  case' cw20 =>
   go_simp
   have hb : Below v1.heap.size v1 (v1.alloc (.cells #[.int .i64 0, .int .i64 0, .slice none 0 0, .slice none 0 0, .slice none 0 0] 29)) := balloc _ _
   have hN := x5_new v1 (.int .i64 0) (.int .i64 0) (.slice none 0 0) (.slice none 0 0) (.slice none 0 0) 29 v1.heap.size rfl
   have hT : BoxT (v1.alloc (.cells #[.int .i64 0, .int .i64 0, .slice none 0 0, .slice none 0 0, .slice none 0 0] 29)) v1.heap.size := BoxT.new _ _ (by decide) (by decide)
   have hsz : (v1.alloc (.cells #[.int .i64 0, .int .i64 0, .slice none 0 0, .slice none 0 0, .slice none 0 0] 29)).heap.size = v1.heap.size + 1 := by simp
   have h_HL := HL_1.out.trans (hb.mono HL_1.out.size)
   have h_OO := OO_1.out.later hb
   refine hK.out _ _ ?_ (fun hHeld => ?_)
   ·exact ⟨(cN.later (h_HL)).1.1, (cN.later (h_HL)).1.2.1, (cN.later (h_HL)).1.2.2.1, (cN.later (h_HL)).1.2.2.2.1, (cN.later (h_HL)).1.2.2.2.2, (cS.later (h_HL)).1.1, (cS.later (h_HL)).1.2.1, (cS.later (h_HL)).1.2.2⟩
   clear hK K
   try simp only [Act.put, zsA, zsB, zsC]
   generalize (v1.alloc (.cells #[.int .i64 0, .int .i64 0, .slice none 0 0, .slice none 0 0, .slice none 0 0] 29)) = v2 at hb hN hT hsz hHeld h_HL h_OO ⊢
   have HL_2 : Hid (Below w.heap.size w v2) := h_HL
   have OO_2 : Hid (OwnBd v2 v0.heap.size v1.heap.size (.slice sa1 sn sc1) (.slice la1 ln lc1) (.slice ta1 tn tc1) ⟨f, e, sg, li, ls⟩) := h_OO
   have XG_2 : Hid (X5 v2 v1.heap.size (.int .i64 0) (.int .i64 0) (.slice none 0 0) (.slice none 0 0) (.slice none 0 0)) := hN
   have XT_2 : Hid (BoxT v2 v1.heap.size) := hT
   have hl1 : w.heap.size ≤ v1.heap.size := HL_1.out.size
   have hz1 : v1.heap.size < v2.heap.size := by omega
   clear hb hN hT hsz h_HL HL_1 h_OO OO_1
   refine wpAnyH_ready (rs := [3]) (by kernel_rfl) (by simp) ?_
   refine AllReadyH.cons (o := _) rfl (fun K hK => ?cw22) AllReadyH.nil
   case' cw22 =>
    go_simp
    refine (qS sa1 sc1 la1 lc1 ta1 tc1 v0.heap.size v1.heap.size v2 OO_2.out (by omega) (by omega)).mono ?_
    rintro e v3 ⟨sa2, sc2, la2, lc3, ta2, tc2, rfl, ho, hr⟩
    have hl2 : w.heap.size ≤ v2.heap.size := HL_2.out.size
    have hb : Below w.heap.size v2 v3 := hr.below (fun k h => by omega) hl2
    have HL_3 : Hid (Below w.heap.size w v3) := HL_2.out.trans hb
    have OO_3 : Hid (OwnBd v3 v0.heap.size v3.heap.size (.slice sa2 ns2 sc2) (.slice la2 nl2 lc3) (.slice ta2 nt2 tc2) nb) := ho
    have XG_3 : Hid (X5 v3 v1.heap.size (.int .i64 0) (.int .i64 0) (.slice none 0 0) (.slice none 0 0) (.slice none 0 0)) := XG_2.out.rngP hr (by omega)
    have XT_3 : Hid (BoxT v3 v1.heap.size) := XT_2.out.rngP hr (by omega)
    have hz2 : v2.heap.size ≤ v3.heap.size := hr.size
    refine hK.out _ _ ?_ (fun hHeld => ?_)
    ·exact ⟨(cN.later (HL_3.out)).1.1, (cN.later (HL_3.out)).1.2.1, (cN.later (HL_3.out)).1.2.2.1, (cN.later (HL_3.out)).1.2.2.2.1, (cN.later (HL_3.out)).1.2.2.2.2, (cS.later (HL_3.out)).1.1, (cS.later (HL_3.out)).1.2.1, (cS.later (HL_3.out)).1.2.2⟩
    clear hK K hb ho hr HL_2 OO_2 XG_2 XT_2
    try simp only [Act.put, zsA, zsB, zsC]
    refine takeV13 (i := 4) (oi := _) (v := ?_) (d := some 36) rfl (by kernel_rfl) (by kernel_rfl) (by kernel_rfl) (by kernel_rfl) (fun _ _ _ h => h) (Or.inl ⟨by rfl, ?_⟩) (by assumption) ?_
    rotate_left
    ·(intro w hSw; (try dsimp only at hSw); go_simp <;> with_reducible rfl)
    try simp only [Act.put, zsA, zsB, zsC]
    refine takeV13 (i := 5) (oi := _) (v := ?_) (d := some 41) rfl (by kernel_rfl) (by kernel_rfl) (by kernel_rfl) (by kernel_rfl) (fun _ _ _ h => h) (Or.inl ⟨by rfl, ?_⟩) (by assumption) ?_
    rotate_left
    ·(intro w hSw; (try dsimp only at hSw); go_simp <;> with_reducible rfl)
    try simp only [Act.put, zsA, zsB, zsC]
    refine takeV13 (i := 6) (oi := _) (v := ?_) (d := some 42) rfl (by kernel_rfl) (by kernel_rfl) (by kernel_rfl) (by kernel_rfl) (fun _ _ _ h => h) (Or.inl ⟨by rfl, ?_⟩) (by assumption) ?_
    rotate_left
    ·(intro w hSw; (try dsimp only at hSw); go_simp <;> with_reducible rfl)
    try simp only [Act.put, zsA, zsB, zsC]
    have XB := HL_3
    have X8 := XG_3
    have XU := XT_3
    have hlo : w.heap.size ≤ v0.heap.size := by omega
    have XQ : Hid (OwnBd v3 w.heap.size v3.heap.size (.slice sa2 ns2 sc2) (.slice la2 nl2 lc3) (.slice ta2 nt2 tc2) nb) := OO_3.out.mono hlo (Nat.le_refl _)
    have XL8 : w.heap.size ≤ v1.heap.size := by omega
    have HZ8 : v3.heap.size ≤ v3.heap.size := by omega
    clear hlo HL_3 XG_3 XT_3 OO_3 hl0 hz0 hl1 hz1 hl2 hz2
    generalize v1.heap.size = g8 at X8 XU XL8 ⊢
    generalize hh8 : v3.heap.size = hi8 at XQ
    have XH8 : hi8 ≤ v3.heap.size := by omega
    clear HZ8 hh8
    obtain ⟨V, rfl⟩ : ∃ V : World, V = v3 := ⟨_, rfl⟩
 case' cw18 =>
  go_simp
  have hb : Below v0.heap.size v0 (v0.alloc (.cells #[.int .i64 0, .int .i64 0, .slice none 0 0, .slice none 0 0, .slice none 0 0] 29)) := balloc _ _
  have hN := x5_new v0 (.int .i64 0) (.int .i64 0) (.slice none 0 0) (.slice none 0 0) (.slice none 0 0) 29 v0.heap.size rfl
  have hT : BoxT (v0.alloc (.cells #[.int .i64 0, .int .i64 0, .slice none 0 0, .slice none 0 0, .slice none 0 0] 29)) v0.heap.size := BoxT.new _ _ (by decide) (by decide)
  have hsz : (v0.alloc (.cells #[.int .i64 0, .int .i64 0, .slice none 0 0, .slice none 0 0, .slice none 0 0] 29)).heap.size = v0.heap.size + 1 := by simp
  have h_HL := HL_0.out.trans (hb.mono HL_0.out.size)
  refine hK.out _ _ ?_ (fun hHeld => ?_)
  ·exact ⟨(cN.later (h_HL)).1.1, (cN.later (h_HL)).1.2.1, (cN.later (h_HL)).1.2.2.1, (cN.later (h_HL)).1.2.2.2.1, (cN.later (h_HL)).1.2.2.2.2, (cS.later (h_HL)).1.1, (cS.later (h_HL)).1.2.1, (cS.later (h_HL)).1.2.2⟩
  clear hK K
  try simp only [Act.put, zsA, zsB, zsC]
  generalize (v0.alloc (.cells #[.int .i64 0, .int .i64 0, .slice none 0 0, .slice none 0 0, .slice none 0 0] 29)) = v1 at hb hN hT hsz hHeld h_HL  ⊢
  have HL_1 : Hid (Below w.heap.size w v1) := h_HL
  have XG_1 : Hid (X5 v1 v0.heap.size (.int .i64 0) (.int .i64 0) (.slice none 0 0) (.slice none 0 0) (.slice none 0 0)) := hN
  have XT_1 : Hid (BoxT v1 v0.heap.size) := hT
  have hl0 : w.heap.size ≤ v0.heap.size := HL_0.out.size
  have hz0 : v0.heap.size < v1.heap.size := by omega
  clear hb hN hT hsz h_HL HL_0
  refine wpAnyH_ready (rs := [1]) (by kernel_rfl) (by simp) ?_
  refine AllReadyH.cons (o := _) rfl (fun K hK => ?cw23) AllReadyH.nil
  case' cw23 =>
   go_simp
   refine (qO v1 (hrb.later HL_1.out)).mono ?_
   rintro e v2 ⟨sa1, sc1, la1, lc1, ta1, tc1, rfl, ho, hb⟩
   have HL_2 : Hid (Below w.heap.size w v2) := HL_1.out.trans (hb.mono HL_1.out.size)
   have OO_2 : Hid (OwnBd v2 v1.heap.size v2.heap.size (.slice sa1 sn sc1) (.slice la1 ln lc1) (.slice ta1 tn tc1) ⟨f, e, sg, li, ls⟩) := ho
   have XG_2 : Hid (X5 v2 v0.heap.size (.int .i64 0) (.int .i64 0) (.slice none 0 0) (.slice none 0 0) (.slice none 0 0)) := XG_1.out.later hb
   have XT_2 : Hid (BoxT v2 v0.heap.size) := XT_1.out.later hb
   have hl1 : w.heap.size ≤ v1.heap.size := HL_1.out.size
   have hz1 : v1.heap.size ≤ v2.heap.size := hb.size
   refine hK.out _ _ ?_ (fun hHeld => ?_)
   ·exact ⟨(cN.later (HL_2.out)).1.1, (cN.later (HL_2.out)).1.2.1, (cN.later (HL_2.out)).1.2.2.1, (cN.later (HL_2.out)).1.2.2.2.1, (cN.later (HL_2.out)).1.2.2.2.2, (cS.later (HL_2.out)).1.1, (cS.later (HL_2.out)).1.2.1, (cS.later (HL_2.out)).1.2.2⟩
   clear hK K hb ho HL_1 XG_1 XT_1
   try simp only [Act.put, zsA, zsB, zsC]
   refine wpAnyH_ready (rs := [3]) (by kernel_rfl) (by simp) ?_
   refine AllReadyH.cons (o := _) rfl (fun K hK => ?cw24) AllReadyH.nil
   case' cw24 =>
    go_simp
    refine (qS sa1 sc1 la1 lc1 ta1 tc1 v1.heap.size v2.heap.size v2 OO_2.out (by omega) (by omega)).mono ?_
    rintro e v3 ⟨sa2, sc2, la2, lc3, ta2, tc2, rfl, ho, hr⟩
    have hl2 : w.heap.size ≤ v2.heap.size := HL_2.out.size
    have hb : Below w.heap.size v2 v3 := hr.below (fun k h => by omega) hl2
    have HL_3 : Hid (Below w.heap.size w v3) := HL_2.out.trans hb
    have OO_3 : Hid (OwnBd v3 v1.heap.size v3.heap.size (.slice sa2 ns2 sc2) (.slice la2 nl2 lc3) (.slice ta2 nt2 tc2) nb) := ho
    have XG_3 : Hid (X5 v3 v0.heap.size (.int .i64 0) (.int .i64 0) (.slice none 0 0) (.slice none 0 0) (.slice none 0 0)) := XG_2.out.rngP hr (by omega)
    have XT_3 : Hid (BoxT v3 v0.heap.size) := XT_2.out.rngP hr (by omega)
    have hz2 : v2.heap.size ≤ v3.heap.size := hr.size
    refine hK.out _ _ ?_ (fun hHeld => ?_)
    ·exact ⟨(cN.later (HL_3.out)).1.1, (cN.later (HL_3.out)).1.2.1, (cN.later (HL_3.out)).1.2.2.1, (cN.later (HL_3.out)).1.2.2.2.1, (cN.later (HL_3.out)).1.2.2.2.2, (cS.later (HL_3.out)).1.1, (cS.later (HL_3.out)).1.2.1, (cS.later (HL_3.out)).1.2.2⟩
    clear hK K hb ho hr HL_2 OO_2 XG_2 XT_2
    try simp only [Act.put, zsA, zsB, zsC]
    refine takeV13 (i := 4) (oi := _) (v := ?_) (d := some 36) rfl (by kernel_rfl) (by kernel_rfl) (by kernel_rfl) (by kernel_rfl) (fun _ _ _ h => h) (Or.inl ⟨by rfl, ?_⟩) (by assumption) ?_
    rotate_left
    ·(intro w hSw; (try dsimp only at hSw); go_simp <;> with_reducible rfl)
    try simp only [Act.put, zsA, zsB, zsC]
    refine takeV13 (i := 5) (oi := _) (v := ?_) (d := some 41) rfl (by kernel_rfl) (by kernel_rfl) (by kernel_rfl) (by kernel_rfl) (fun _ _ _ h => h) (Or.inl ⟨by rfl, ?_⟩) (by assumption) ?_
    rotate_left
    ·(intro w hSw; (try dsimp only at hSw); go_simp <;> with_reducible rfl)
    try simp only [Act.put, zsA, zsB, zsC]
    refine takeV13 (i := 6) (oi := _) (v := ?_) (d := some 42) rfl (by kernel_rfl) (by kernel_rfl) (by kernel_rfl) (by kernel_rfl) (fun _ _ _ h => h) (Or.inl ⟨by rfl, ?_⟩) (by assumption) ?_
    rotate_left
    ·(intro w hSw; (try dsimp only at hSw); go_simp <;> with_reducible rfl)
    try simp only [Act.put, zsA, zsB, zsC]
    have XB := HL_3
    have X8 := XG_3
    have XU := XT_3
    have hlo : w.heap.size ≤ v1.heap.size := by omega
    have XQ : Hid (OwnBd v3 w.heap.size v3.heap.size (.slice sa2 ns2 sc2) (.slice la2 nl2 lc3) (.slice ta2 nt2 tc2) nb) := OO_3.out.mono hlo (Nat.le_refl _)
    have XL8 : w.heap.size ≤ v0.heap.size := by omega
    have HZ8 : v3.heap.size ≤ v3.heap.size := by omega
    clear hlo HL_3 XG_3 XT_3 OO_3 hl0 hz0 hl1 hz1 hl2 hz2
    generalize v0.heap.size = g8 at X8 XU XL8 ⊢
    generalize hh8 : v3.heap.size = hi8 at XQ
    have XH8 : hi8 ≤ v3.heap.size := by omega
    clear HZ8 hh8
    obtain ⟨V, rfl⟩ : ∃ V : World, V = v3 := ⟨_, rfl⟩
 all_goals (
  obtain ⟨⟨ce0, ce1, ce2, ce3, ce4⟩, ef⟩ := id X8.out
  have cq0 := ef 0
  have cq1 := ef 1
  have cq2 := ef 2
  have cq3 := ef 3
  have cq4 := ef 4
  have h_B : Below w.heap.size w (((((V.setCell ⟨g8, 0, none⟩ (.int .i64 nf2)).setCell ⟨g8, 1, none⟩ (.int .i64 ne2)).setCell ⟨g8, 2, none⟩ (.slice sa2 ns2 sc2)).setCell ⟨g8, 3, none⟩ (.slice la2 nl2 lc3)).setCell ⟨g8, 4, none⟩ (.slice ta2 nt2 tc2)) := (((((XB.out.setCell (by dsimp only; omega) _).setCell (by dsimp only; omega) _).setCell (by dsimp only; omega) _).setCell (by dsimp only; omega) _).setCell (by dsimp only; omega) _)
  have h_X : X5 (((((V.setCell ⟨g8, 0, none⟩ (.int .i64 nf2)).setCell ⟨g8, 1, none⟩ (.int .i64 ne2)).setCell ⟨g8, 2, none⟩ (.slice sa2 ns2 sc2)).setCell ⟨g8, 3, none⟩ (.slice la2 nl2 lc3)).setCell ⟨g8, 4, none⟩ (.slice ta2 nt2 tc2)) g8 (.int .i64 nf2) (.int .i64 ne2) (.slice sa2 ns2 sc2) (.slice la2 nl2 lc3) (.slice ta2 nt2 tc2) := (((((X8.out.set0 _).set1 _).set2 _).set3 _).set4 _)
  have h_Q : OwnBd (((((V.setCell ⟨g8, 0, none⟩ (.int .i64 nf2)).setCell ⟨g8, 1, none⟩ (.int .i64 ne2)).setCell ⟨g8, 2, none⟩ (.slice sa2 ns2 sc2)).setCell ⟨g8, 3, none⟩ (.slice la2 nl2 lc3)).setCell ⟨g8, 4, none⟩ (.slice ta2 nt2 tc2)) w.heap.size hi8 (.slice sa2 ns2 sc2) (.slice la2 nl2 lc3) (.slice ta2 nt2 tc2) nb := (OwnBd.box (OwnBd.box (OwnBd.box (OwnBd.box (OwnBd.box XQ.out XU.out 0 _) (XU.out.set g8 0 (.int .i64 nf2)) 1 _) ((XU.out.set g8 0 (.int .i64 nf2)).set g8 1 (.int .i64 ne2)) 2 _) (((XU.out.set g8 0 (.int .i64 nf2)).set g8 1 (.int .i64 ne2)).set g8 2 (.slice sa2 ns2 sc2)) 3 _) ((((XU.out.set g8 0 (.int .i64 nf2)).set g8 1 (.int .i64 ne2)).set g8 2 (.slice sa2 ns2 sc2)).set g8 3 (.slice la2 nl2 lc3)) 4 _)
  have h_Z : hi8 ≤ (((((V.setCell ⟨g8, 0, none⟩ (.int .i64 nf2)).setCell ⟨g8, 1, none⟩ (.int .i64 ne2)).setCell ⟨g8, 2, none⟩ (.slice sa2 ns2 sc2)).setCell ⟨g8, 3, none⟩ (.slice la2 nl2 lc3)).setCell ⟨g8, 4, none⟩ (.slice ta2 nt2 tc2)).heap.size := by simpa using XH8
  refine wpAnyH_ready (rs := [8]) (by kernel_rfl) (by simp) ?_
  refine AllReadyH.cons (o := _) rfl (fun K hK => ?_) AllReadyH.nil
  go_simp
  refine hK.out _ _ ?_ (fun hHeld => ?_)
  ·exact ⟨(cN.later (h_B)).1.1, (cN.later (h_B)).1.2.1, (cN.later (h_B)).1.2.2.1, (cN.later (h_B)).1.2.2.2.1, (cN.later (h_B)).1.2.2.2.2, (cS.later (h_B)).1.1, (cS.later (h_B)).1.2.1, (cS.later (h_B)).1.2.2⟩
  clear hK K
  try simp only [Act.put, zsA, zsB, zsC]
  generalize (((((V.setCell ⟨g8, 0, none⟩ (.int .i64 nf2)).setCell ⟨g8, 1, none⟩ (.int .i64 ne2)).setCell ⟨g8, 2, none⟩ (.slice sa2 ns2 sc2)).setCell ⟨g8, 3, none⟩ (.slice la2 nl2 lc3)).setCell ⟨g8, 4, none⟩ (.slice ta2 nt2 tc2)) = V1 at h_B h_X h_Q h_Z hHeld ⊢
  clear XB X8 XU XQ ef ce0 cq0 ce1 cq1 ce2 cq2 ce3 cq3 ce4 cq4
  refine takeV13 (i := 9) (oi := _) (v := ?_) (d := some 15) rfl (by kernel_rfl) (by kernel_rfl) (by kernel_rfl) (by kernel_rfl) (fun _ _ _ h => h) (Or.inl ⟨by rfl, ?_⟩) (by assumption) ?_
  rotate_left
  ·(intro w hSw; (try dsimp only at hSw); go_simp <;> with_reducible rfl)
  try simp only [Act.put, zsA, zsB, zsC]
  refine wpAnyH_done (by kernel_rfl) ?_ _
  exact hKK sa1 sc1 la1 lc1 ta1 tc1 sa2 sc2 la2 lc3 ta2 tc2 g8 V1 h_X (h_Q.mono (Nat.le_refl _) h_Z) h_B XL8)

end Go.Proofs.Ytaokmjbhgkfnfaa

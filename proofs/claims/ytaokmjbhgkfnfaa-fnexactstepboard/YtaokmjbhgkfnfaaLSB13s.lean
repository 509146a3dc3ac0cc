/- The law on StepBoard: region 7. -/
import Derived.Test.YtaokmjbhgkfnfaaLSX13s
namespace Go.Proofs.Ytaokmjbhgkfnfaa
set_option linter.unusedVariables false
set_option maxRecDepth 1000000
set_option linter.unusedSimpArgs false
open Go.RowKit

noncomputable def sbReg7 : Code := fstSeq4 (sndSeq4 (sndSeq4 (sndSeq4 (sndSeq4 (sndSeq4 (sndSeq4 ((Try.f7.body.getD .skip))))))))

set_option maxRecDepth 1000000 in
set_option maxHeartbeats 32000000 in
theorem sbReg7_w (j0 j1 j2 j4 j5 j6 j7 j9 j10 j11 j12 j13 j14 j15 j16 j17 j18 j19 j20 j21 j22 j23 j24 j25 j26 j27 j28 j29 j30 j31 j32 j33 j34 j35 j36 j37 j38 j39 j40 j41 j42 j43 j44 j45 j46 j47 j48 j49 j50 j51 j52 j53 j54 j55 j56 j57 j58 j59 j60 j61 j62 j63 j64 j65 j66 j67 j68 j69 j70 j71 j72 j73 j74 j75 j76 j77 j78 j79 j80 j81 j82 j83 j84 j85 j86 j87 j88 j89 j90 j91 j92 j93 j94 j95 j96 j97 j98 j99 j100 j101 j102 j103 : Value) (gY gT : Nat) (f e : Int) (sa : Option Addr) (sn sc : Nat) (la : Option Addr) (ln lc : Nat) (ta : Option Addr) (tn tc : Nat) (sg : List (List Int)) (li ls : List Int) (k m l : Int) (nf ne : Int) (ns nl nt : Nat) (nb : BdV) (fb : Bool) (sa2 : Option Addr) (sc2 : Nat) (la2 : Option Addr) (lc2 : Nat) (ta2 : Option Addr) (tc2 : Nat) (K : Act → World → Prop) (w : World) (cY : X5 w gY (.int .i64 f) (.int .i64 e) (.slice sa2 sn sc2) (.slice la2 ln lc2) (.slice ta2 tn tc2)) (cT : X3 w gT (.int .i64 k) (.int .i64 m) (.int .i64 l))
    (hrb : ReadB w sa2 sn sc2 la2 ln lc2 ta2 tn tc2 ⟨f, e, sg, li, ls⟩) (qs : ∀ a1 c1 a2 c2 a3 c3 wx, ReadB wx a1 sn c1 a2 ln c2 a3 tn c3 ⟨f, e, sg, li, ls⟩ → Calls Try.prog 20 #[.agg #[.int .i64 f, .int .i64 e, .slice a1 sn c1, .slice a2 ln c2, .slice a3 tn c3], .agg #[.int .i64 k, .int .i64 m, .int .i64 l]] wx fun r w' => ∃ sa' sc' la' lc' ta' tc', r = .returned (.tuple #[.agg #[.int .i64 nf, .int .i64 ne, .slice sa' ns sc', .slice la' nl lc', .slice ta' nt tc'], .bool fb]) ∧ OwnBd w' wx.heap.size w'.heap.size (.slice sa' ns sc') (.slice la' nl lc') (.slice ta' nt tc') nb ∧ Below wx.heap.size wx w')
    (hKK : ∀  (sa5 : Option Addr) (sc5 : Nat) (la5 : Option Addr) (lc5 : Nat) (ta5 : Option Addr) (tc5 : Nat) (g8 lo8 hi8 : Nat) (wx : World), X5 wx g8 (.int .i64 nf) (.int .i64 ne) (.slice sa5 ns sc5) (.slice la5 nl lc5) (.slice ta5 nt tc5) → OwnBd wx lo8 hi8 (.slice sa5 ns sc5) (.slice la5 nl lc5) (.slice ta5 nt tc5) nb → (g8 < lo8 ∨ hi8 ≤ g8) → w.heap.size ≤ g8 → w.heap.size ≤ lo8 → lo8 ≤ hi8 → hi8 ≤ wx.heap.size → Below w.heap.size w wx → K ⟨#[j0, j1, j2, .pointer (some ⟨gT, 0, none⟩), j4, j5, j6, j7, .pointer (some ⟨gY, 0, none⟩), .pointer (some ⟨g8, 0, none⟩), .bool fb, j11, j12, j13, j14, j15, j16, j17, j18, j19, j20, j21, j22, j23, j24, j25, j26, j27, j28, j29, j30, .tuple #[.agg #[.int .i64 nf, .int .i64 ne, .slice sa5 ns sc5, .slice la5 nl lc5, .slice ta5 nt tc5], .bool fb], .agg #[.int .i64 f, .int .i64 e, .slice sa2 sn sc2, .slice la2 ln lc2, .slice ta2 tn tc2], .agg #[.int .i64 k, .int .i64 m, .int .i64 l], .agg #[.int .i64 k, .int .i64 m, .int .i64 l], .tuple #[.agg #[.int .i64 nf, .int .i64 ne, .slice sa5 ns sc5, .slice la5 nl lc5, .slice ta5 nt tc5], .bool fb], .agg #[.int .i64 nf, .int .i64 ne, .slice sa5 ns sc5, .slice la5 nl lc5, .slice ta5 nt tc5], .bool fb, j38, j39, j40, j41, j42, j43, j44, j45, j46, j47, j48, j49, j50, j51, j52, j53, j54, j55, j56, j57, j58, j59, j60, j61, j62, j63, j64, j65, j66, j67, j68, j69, j70, j71, j72, j73, j74, j75, j76, j77, j78, j79, j80, j81, j82, j83, j84, j85, j86, j87, j88, j89, j90, j91, j92, j93, j94, j95, j96, j97, j98, j99, j100, j101, j102, j103], []⟩ wx) :
    sbReg7.wp Try.prog (Exit.then K (fun _ _ _ => False)) ⟨#[j0, j1, j2, .pointer (some ⟨gT, 0, none⟩), j4, j5, j6, j7, .pointer (some ⟨gY, 0, none⟩), j9, j10, j11, j12, j13, j14, j15, j16, j17, j18, j19, j20, j21, j22, j23, j24, j25, j26, j27, j28, j29, j30, j31, j32, j33, j34, j35, j36, j37, j38, j39, j40, j41, j42, j43, j44, j45, j46, j47, j48, j49, j50, j51, j52, j53, j54, j55, j56, j57, j58, j59, j60, j61, j62, j63, j64, j65, j66, j67, j68, j69, j70, j71, j72, j73, j74, j75, j76, j77, j78, j79, j80, j81, j82, j83, j84, j85, j86, j87, j88, j89, j90, j91, j92, j93, j94, j95, j96, j97, j98, j99, j100, j101, j102, j103], []⟩ w := by
  simp only [sbReg7, Try.f7, Option.getD_some, sndSeq4, fstSeq4]
  have HL_0 : Hid (Below w.heap.size w w.drew) := (Below.refl _ _).drew
  refine wp_region_held_drew (S := (fun w' => w'.cell? ⟨gY, 0, none⟩ = some (.int .i64 f) ∧ w'.cell? ⟨gY, 1, none⟩ = some (.int .i64 e) ∧ w'.cell? ⟨gY, 2, none⟩ = some (.slice sa2 sn sc2) ∧ w'.cell? ⟨gY, 3, none⟩ = some (.slice la2 ln lc2) ∧ w'.cell? ⟨gY, 4, none⟩ = some (.slice ta2 tn tc2) ∧ w'.cell? ⟨gT, 0, none⟩ = some (.int .i64 k) ∧ w'.cell? ⟨gT, 1, none⟩ = some (.int .i64 m) ∧ w'.cell? ⟨gT, 2, none⟩ = some (.int .i64 l))) (by kernel_rfl) ?_ (fun hHeld => ?_)
  · exact ⟨(cY.later (HL_0.out)).1.1, (cY.later (HL_0.out)).1.2.1, (cY.later (HL_0.out)).1.2.2.1, (cY.later (HL_0.out)).1.2.2.2.1, (cY.later (HL_0.out)).1.2.2.2.2, (cT.later (HL_0.out)).1.1, (cT.later (HL_0.out)).1.2.1, (cT.later (HL_0.out)).1.2.2⟩
  generalize w.drew = v0 at HL_0 hHeld ⊢
  refine takeV13 (i := 0) (oi := _) (v := ?_) (d := some 32) rfl (by kernel_rfl) (by kernel_rfl) (by kernel_rfl) (by kernel_rfl) (fun _ _ _ h => h) (Or.inl ⟨by rfl, ?_⟩) (by assumption) ?_
  rotate_left
  · (intro w hSw; (try dsimp only at hSw); go_simp <;> with_reducible rfl)
  try simp only [Act.put, List.setIfInBounds_toArray, List.set_cons_zero, List.set_cons_succ]
  refine takeV13 (i := 1) (oi := _) (v := ?_) (d := some 33) rfl (by kernel_rfl) (by kernel_rfl) (by kernel_rfl) (by kernel_rfl) (fun _ _ _ h => h) (Or.inl ⟨by rfl, ?_⟩) (by assumption) ?_
  rotate_left
  · (intro w hSw; (try dsimp only at hSw); go_simp <;> with_reducible rfl)
  try simp only [Act.put, List.setIfInBounds_toArray, List.set_cons_zero, List.set_cons_succ]
  refine wpAnyH_ready (rs := [2, 7]) (by kernel_rfl) (by simp) ?_
  refine AllReadyH.cons (o := _) rfl (fun K hK => ?cw27) (AllReadyH.cons (o := _) rfl (fun K hK => ?cw28) AllReadyH.nil)
  case' cw27 =>
    go_simp
    refine (toBoardStep_c k m l v0).mono ?_
    rintro e v1 ⟨rfl, hb⟩
    have HL_1 : Hid (Below w.heap.size w v1) := HL_0.out.trans (hb.mono HL_0.out.size)
    have hl0 : w.heap.size ≤ v0.heap.size := HL_0.out.size
    have hz0 : v0.heap.size ≤ v1.heap.size := hb.size
    refine hK.out _ _ ?_ (fun hHeld => ?_)
    · exact ⟨(cY.later (HL_1.out)).1.1, (cY.later (HL_1.out)).1.2.1, (cY.later (HL_1.out)).1.2.2.1, (cY.later (HL_1.out)).1.2.2.2.1, (cY.later (HL_1.out)).1.2.2.2.2, (cT.later (HL_1.out)).1.1, (cT.later (HL_1.out)).1.2.1, (cT.later (HL_1.out)).1.2.2⟩
    clear hK K hb  HL_0  
    try simp only [Act.put, List.setIfInBounds_toArray, List.set_cons_zero, List.set_cons_succ]
    refine wpAnyH_ready (rs := [3, 7]) (by kernel_rfl) (by simp) ?_
    refine AllReadyH.cons (o := _) rfl (fun K hK => ?cw29) (AllReadyH.cons (o := _) rfl (fun K hK => ?cw30) AllReadyH.nil)
    case' cw29 =>
      go_simp
      refine (qs sa2 sc2 la2 lc2 ta2 tc2 v1 (hrb.later HL_1.out)).mono ?_
      rintro e v2 ⟨sa5, sc5, la5, lc5, ta5, tc5, rfl, ho, hb⟩
      have HL_2 : Hid (Below w.heap.size w v2) := HL_1.out.trans (hb.mono HL_1.out.size)
      have OO_2 : Hid (OwnBd v2 v1.heap.size v2.heap.size (.slice sa5 ns sc5) (.slice la5 nl lc5) (.slice ta5 nt tc5) nb) := ho
      have hl1 : w.heap.size ≤ v1.heap.size := HL_1.out.size
      have hz1 : v1.heap.size ≤ v2.heap.size := hb.size
      refine hK.out _ _ ?_ (fun hHeld => ?_)
      · exact ⟨(cY.later (HL_2.out)).1.1, (cY.later (HL_2.out)).1.2.1, (cY.later (HL_2.out)).1.2.2.1, (cY.later (HL_2.out)).1.2.2.2.1, (cY.later (HL_2.out)).1.2.2.2.2, (cT.later (HL_2.out)).1.1, (cT.later (HL_2.out)).1.2.1, (cT.later (HL_2.out)).1.2.2⟩
      clear hK K hb ho HL_1  
      try simp only [Act.put, List.setIfInBounds_toArray, List.set_cons_zero, List.set_cons_succ]
      refine takeV13 (i := 4) (oi := _) (v := ?_) (d := some 31) rfl (by kernel_rfl) (by kernel_rfl) (by kernel_rfl) (by kernel_rfl) (fun _ _ _ h => h) (Or.inl ⟨by rfl, ?_⟩) (by assumption) ?_
      rotate_left
      · (intro w hSw; (try dsimp only at hSw); go_simp <;> with_reducible rfl)
      try simp only [Act.put, List.setIfInBounds_toArray, List.set_cons_zero, List.set_cons_succ]
      refine takeV13 (i := 5) (oi := _) (v := ?_) (d := some 36) rfl (by kernel_rfl) (by kernel_rfl) (by kernel_rfl) (by kernel_rfl) (fun _ _ _ h => h) (Or.inl ⟨by rfl, ?_⟩) (by assumption) ?_
      rotate_left
      · (intro w hSw; (try dsimp only at hSw); go_simp <;> with_reducible rfl)
      try simp only [Act.put, List.setIfInBounds_toArray, List.set_cons_zero, List.set_cons_succ]
      refine takeV13 (i := 6) (oi := _) (v := ?_) (d := some 37) rfl (by kernel_rfl) (by kernel_rfl) (by kernel_rfl) (by kernel_rfl) (fun _ _ _ h => h) (Or.inl ⟨by rfl, ?_⟩) (by assumption) ?_
      rotate_left
      · (intro w hSw; (try dsimp only at hSw); go_simp <;> with_reducible rfl)
      try simp only [Act.put, List.setIfInBounds_toArray, List.set_cons_zero, List.set_cons_succ]
      refine wpAnyH_ready (rs := [7]) (by kernel_rfl) (by simp) ?_
      refine AllReadyH.cons (o := _) rfl (fun K hK => ?cw31) AllReadyH.nil
      case' cw31 =>
        go_simp
        have hb : Below v2.heap.size v2 (v2.alloc (.cells #[.int .i64 0, .int .i64 0, .slice none 0 0, .slice none 0 0, .slice none 0 0] 29)) := balloc _ _
        have hN := x5_new v2 (.int .i64 0) (.int .i64 0) (.slice none 0 0) (.slice none 0 0) (.slice none 0 0) 29 v2.heap.size rfl
        have hsz : (v2.alloc (.cells #[.int .i64 0, .int .i64 0, .slice none 0 0, .slice none 0 0, .slice none 0 0] 29)).heap.size = v2.heap.size + 1 := by simp
        have h_HL := HL_2.out.trans (hb.mono HL_2.out.size)
        have h_OO := OO_2.out.later hb
        refine hK.out _ _ ?_ (fun hHeld => ?_)
        · exact ⟨(cY.later (h_HL)).1.1, (cY.later (h_HL)).1.2.1, (cY.later (h_HL)).1.2.2.1, (cY.later (h_HL)).1.2.2.2.1, (cY.later (h_HL)).1.2.2.2.2, (cT.later (h_HL)).1.1, (cT.later (h_HL)).1.2.1, (cT.later (h_HL)).1.2.2⟩
        clear hK K
        try simp only [Act.put, List.setIfInBounds_toArray, List.set_cons_zero, List.set_cons_succ]
        generalize (v2.alloc (.cells #[.int .i64 0, .int .i64 0, .slice none 0 0, .slice none 0 0, .slice none 0 0] 29)) = v3 at hb hN hsz hHeld h_HL h_OO ⊢
        have HL_3 : Hid (Below w.heap.size w v3) := h_HL
        have OO_3 : Hid (OwnBd v3 v1.heap.size v2.heap.size (.slice sa5 ns sc5) (.slice la5 nl lc5) (.slice ta5 nt tc5) nb) := h_OO
        have XG_3 : Hid (X5 v3 v2.heap.size (.int .i64 0) (.int .i64 0) (.slice none 0 0) (.slice none 0 0) (.slice none 0 0)) := hN
        have hl2 : w.heap.size ≤ v2.heap.size := HL_2.out.size
        have hz2 : v2.heap.size < v3.heap.size := by omega
        clear hb hN hsz h_HL HL_2 h_OO OO_2
        have XB := HL_3
        have X8 := XG_3
        have XQ := OO_3
        have XHh := HL_3.out.size
        generalize hg8 : v2.heap.size = g8 at X8 ⊢
        generalize hlo8 : v1.heap.size = lo8 at XQ
        generalize hhi8 : v2.heap.size = hi8 at XQ
        have XE : Hid ((g8 < lo8 ∨ hi8 ≤ g8) ∧ w.heap.size ≤ g8 ∧ w.heap.size ≤ lo8 ∧ lo8 ≤ hi8 ∧ hi8 ≤ v3.heap.size) := ⟨by omega, by omega, by omega, by omega, by omega⟩
        clear hg8 hlo8 hhi8 XHh HL_3 XG_3 OO_3  hl0 hz0 hl1 hz1 hl2 hz2
        obtain ⟨V, rfl⟩ : ∃ V : World, V = v3 := ⟨_, rfl⟩
    case' cw30 =>
      go_simp
      have hb : Below v1.heap.size v1 (v1.alloc (.cells #[.int .i64 0, .int .i64 0, .slice none 0 0, .slice none 0 0, .slice none 0 0] 29)) := balloc _ _
      have hN := x5_new v1 (.int .i64 0) (.int .i64 0) (.slice none 0 0) (.slice none 0 0) (.slice none 0 0) 29 v1.heap.size rfl
      have hsz : (v1.alloc (.cells #[.int .i64 0, .int .i64 0, .slice none 0 0, .slice none 0 0, .slice none 0 0] 29)).heap.size = v1.heap.size + 1 := by simp
      have h_HL := HL_1.out.trans (hb.mono HL_1.out.size)
      refine hK.out _ _ ?_ (fun hHeld => ?_)
      · exact ⟨(cY.later (h_HL)).1.1, (cY.later (h_HL)).1.2.1, (cY.later (h_HL)).1.2.2.1, (cY.later (h_HL)).1.2.2.2.1, (cY.later (h_HL)).1.2.2.2.2, (cT.later (h_HL)).1.1, (cT.later (h_HL)).1.2.1, (cT.later (h_HL)).1.2.2⟩
      clear hK K
      try simp only [Act.put, List.setIfInBounds_toArray, List.set_cons_zero, List.set_cons_succ]
      generalize (v1.alloc (.cells #[.int .i64 0, .int .i64 0, .slice none 0 0, .slice none 0 0, .slice none 0 0] 29)) = v2 at hb hN hsz hHeld h_HL  ⊢
      have HL_2 : Hid (Below w.heap.size w v2) := h_HL
      have XG_2 : Hid (X5 v2 v1.heap.size (.int .i64 0) (.int .i64 0) (.slice none 0 0) (.slice none 0 0) (.slice none 0 0)) := hN
      have hl1 : w.heap.size ≤ v1.heap.size := HL_1.out.size
      have hz1 : v1.heap.size < v2.heap.size := by omega
      clear hb hN hsz h_HL HL_1  
      refine wpAnyH_ready (rs := [3]) (by kernel_rfl) (by simp) ?_
      refine AllReadyH.cons (o := _) rfl (fun K hK => ?cw32) AllReadyH.nil
      case' cw32 =>
        go_simp
        refine (qs sa2 sc2 la2 lc2 ta2 tc2 v2 (hrb.later HL_2.out)).mono ?_
        rintro e v3 ⟨sa5, sc5, la5, lc5, ta5, tc5, rfl, ho, hb⟩
        have HL_3 : Hid (Below w.heap.size w v3) := HL_2.out.trans (hb.mono HL_2.out.size)
        have OO_3 : Hid (OwnBd v3 v2.heap.size v3.heap.size (.slice sa5 ns sc5) (.slice la5 nl lc5) (.slice ta5 nt tc5) nb) := ho
        have XG_3 : Hid (X5 v3 v1.heap.size (.int .i64 0) (.int .i64 0) (.slice none 0 0) (.slice none 0 0) (.slice none 0 0)) := XG_2.out.later hb
        have hl2 : w.heap.size ≤ v2.heap.size := HL_2.out.size
        have hz2 : v2.heap.size ≤ v3.heap.size := hb.size
        refine hK.out _ _ ?_ (fun hHeld => ?_)
        · exact ⟨(cY.later (HL_3.out)).1.1, (cY.later (HL_3.out)).1.2.1, (cY.later (HL_3.out)).1.2.2.1, (cY.later (HL_3.out)).1.2.2.2.1, (cY.later (HL_3.out)).1.2.2.2.2, (cT.later (HL_3.out)).1.1, (cT.later (HL_3.out)).1.2.1, (cT.later (HL_3.out)).1.2.2⟩
        clear hK K hb ho HL_2  XG_2
        try simp only [Act.put, List.setIfInBounds_toArray, List.set_cons_zero, List.set_cons_succ]
        refine takeV13 (i := 4) (oi := _) (v := ?_) (d := some 31) rfl (by kernel_rfl) (by kernel_rfl) (by kernel_rfl) (by kernel_rfl) (fun _ _ _ h => h) (Or.inl ⟨by rfl, ?_⟩) (by assumption) ?_
        rotate_left
        · (intro w hSw; (try dsimp only at hSw); go_simp <;> with_reducible rfl)
        try simp only [Act.put, List.setIfInBounds_toArray, List.set_cons_zero, List.set_cons_succ]
        refine takeV13 (i := 5) (oi := _) (v := ?_) (d := some 36) rfl (by kernel_rfl) (by kernel_rfl) (by kernel_rfl) (by kernel_rfl) (fun _ _ _ h => h) (Or.inl ⟨by rfl, ?_⟩) (by assumption) ?_
        rotate_left
        · (intro w hSw; (try dsimp only at hSw); go_simp <;> with_reducible rfl)
        try simp only [Act.put, List.setIfInBounds_toArray, List.set_cons_zero, List.set_cons_succ]
        refine takeV13 (i := 6) (oi := _) (v := ?_) (d := some 37) rfl (by kernel_rfl) (by kernel_rfl) (by kernel_rfl) (by kernel_rfl) (fun _ _ _ h => h) (Or.inl ⟨by rfl, ?_⟩) (by assumption) ?_
        rotate_left
        · (intro w hSw; (try dsimp only at hSw); go_simp <;> with_reducible rfl)
        try simp only [Act.put, List.setIfInBounds_toArray, List.set_cons_zero, List.set_cons_succ]
        have XB := HL_3
        have X8 := XG_3
        have XQ := OO_3
        have XHh := HL_3.out.size
        generalize hg8 : v1.heap.size = g8 at X8 ⊢
        generalize hlo8 : v2.heap.size = lo8 at XQ
        generalize hhi8 : v3.heap.size = hi8 at XQ
        have XE : Hid ((g8 < lo8 ∨ hi8 ≤ g8) ∧ w.heap.size ≤ g8 ∧ w.heap.size ≤ lo8 ∧ lo8 ≤ hi8 ∧ hi8 ≤ v3.heap.size) := ⟨by omega, by omega, by omega, by omega, by omega⟩
        clear hg8 hlo8 hhi8 XHh HL_3 XG_3 OO_3  hl0 hz0 hl1 hz1 hl2 hz2
        obtain ⟨V, rfl⟩ : ∃ V : World, V = v3 := ⟨_, rfl⟩
  case' cw28 =>
    go_simp
    have hb : Below v0.heap.size v0 (v0.alloc (.cells #[.int .i64 0, .int .i64 0, .slice none 0 0, .slice none 0 0, .slice none 0 0] 29)) := balloc _ _
    have hN := x5_new v0 (.int .i64 0) (.int .i64 0) (.slice none 0 0) (.slice none 0 0) (.slice none 0 0) 29 v0.heap.size rfl
    have hsz : (v0.alloc (.cells #[.int .i64 0, .int .i64 0, .slice none 0 0, .slice none 0 0, .slice none 0 0] 29)).heap.size = v0.heap.size + 1 := by simp
    have h_HL := HL_0.out.trans (hb.mono HL_0.out.size)
    refine hK.out _ _ ?_ (fun hHeld => ?_)
    · exact ⟨(cY.later (h_HL)).1.1, (cY.later (h_HL)).1.2.1, (cY.later (h_HL)).1.2.2.1, (cY.later (h_HL)).1.2.2.2.1, (cY.later (h_HL)).1.2.2.2.2, (cT.later (h_HL)).1.1, (cT.later (h_HL)).1.2.1, (cT.later (h_HL)).1.2.2⟩
    clear hK K
    try simp only [Act.put, List.setIfInBounds_toArray, List.set_cons_zero, List.set_cons_succ]
    generalize (v0.alloc (.cells #[.int .i64 0, .int .i64 0, .slice none 0 0, .slice none 0 0, .slice none 0 0] 29)) = v1 at hb hN hsz hHeld h_HL  ⊢
    have HL_1 : Hid (Below w.heap.size w v1) := h_HL
    have XG_1 : Hid (X5 v1 v0.heap.size (.int .i64 0) (.int .i64 0) (.slice none 0 0) (.slice none 0 0) (.slice none 0 0)) := hN
    have hl0 : w.heap.size ≤ v0.heap.size := HL_0.out.size
    have hz0 : v0.heap.size < v1.heap.size := by omega
    clear hb hN hsz h_HL HL_0  
    refine wpAnyH_ready (rs := [2]) (by kernel_rfl) (by simp) ?_
    refine AllReadyH.cons (o := _) rfl (fun K hK => ?cw33) AllReadyH.nil
    case' cw33 =>
      go_simp
      refine (toBoardStep_c k m l v1).mono ?_
      rintro e v2 ⟨rfl, hb⟩
      have HL_2 : Hid (Below w.heap.size w v2) := HL_1.out.trans (hb.mono HL_1.out.size)
      have XG_2 : Hid (X5 v2 v0.heap.size (.int .i64 0) (.int .i64 0) (.slice none 0 0) (.slice none 0 0) (.slice none 0 0)) := XG_1.out.later hb
      have hl1 : w.heap.size ≤ v1.heap.size := HL_1.out.size
      have hz1 : v1.heap.size ≤ v2.heap.size := hb.size
      refine hK.out _ _ ?_ (fun hHeld => ?_)
      · exact ⟨(cY.later (HL_2.out)).1.1, (cY.later (HL_2.out)).1.2.1, (cY.later (HL_2.out)).1.2.2.1, (cY.later (HL_2.out)).1.2.2.2.1, (cY.later (HL_2.out)).1.2.2.2.2, (cT.later (HL_2.out)).1.1, (cT.later (HL_2.out)).1.2.1, (cT.later (HL_2.out)).1.2.2⟩
      clear hK K hb  HL_1  XG_1
      try simp only [Act.put, List.setIfInBounds_toArray, List.set_cons_zero, List.set_cons_succ]
      refine wpAnyH_ready (rs := [3]) (by kernel_rfl) (by simp) ?_
      refine AllReadyH.cons (o := _) rfl (fun K hK => ?cw34) AllReadyH.nil
      case' cw34 =>
        go_simp
        refine (qs sa2 sc2 la2 lc2 ta2 tc2 v2 (hrb.later HL_2.out)).mono ?_
        rintro e v3 ⟨sa5, sc5, la5, lc5, ta5, tc5, rfl, ho, hb⟩
        have HL_3 : Hid (Below w.heap.size w v3) := HL_2.out.trans (hb.mono HL_2.out.size)
        have OO_3 : Hid (OwnBd v3 v2.heap.size v3.heap.size (.slice sa5 ns sc5) (.slice la5 nl lc5) (.slice ta5 nt tc5) nb) := ho
        have XG_3 : Hid (X5 v3 v0.heap.size (.int .i64 0) (.int .i64 0) (.slice none 0 0) (.slice none 0 0) (.slice none 0 0)) := XG_2.out.later hb
        have hl2 : w.heap.size ≤ v2.heap.size := HL_2.out.size
        have hz2 : v2.heap.size ≤ v3.heap.size := hb.size
        refine hK.out _ _ ?_ (fun hHeld => ?_)
        · exact ⟨(cY.later (HL_3.out)).1.1, (cY.later (HL_3.out)).1.2.1, (cY.later (HL_3.out)).1.2.2.1, (cY.later (HL_3.out)).1.2.2.2.1, (cY.later (HL_3.out)).1.2.2.2.2, (cT.later (HL_3.out)).1.1, (cT.later (HL_3.out)).1.2.1, (cT.later (HL_3.out)).1.2.2⟩
        clear hK K hb ho HL_2  XG_2
        try simp only [Act.put, List.setIfInBounds_toArray, List.set_cons_zero, List.set_cons_succ]
        refine takeV13 (i := 4) (oi := _) (v := ?_) (d := some 31) rfl (by kernel_rfl) (by kernel_rfl) (by kernel_rfl) (by kernel_rfl) (fun _ _ _ h => h) (Or.inl ⟨by rfl, ?_⟩) (by assumption) ?_
        rotate_left
        · (intro w hSw; (try dsimp only at hSw); go_simp <;> with_reducible rfl)
        try simp only [Act.put, List.setIfInBounds_toArray, List.set_cons_zero, List.set_cons_succ]
        refine takeV13 (i := 5) (oi := _) (v := ?_) (d := some 36) rfl (by kernel_rfl) (by kernel_rfl) (by kernel_rfl) (by kernel_rfl) (fun _ _ _ h => h) (Or.inl ⟨by rfl, ?_⟩) (by assumption) ?_
        rotate_left
        · (intro w hSw; (try dsimp only at hSw); go_simp <;> with_reducible rfl)
        try simp only [Act.put, List.setIfInBounds_toArray, List.set_cons_zero, List.set_cons_succ]
        refine takeV13 (i := 6) (oi := _) (v := ?_) (d := some 37) rfl (by kernel_rfl) (by kernel_rfl) (by kernel_rfl) (by kernel_rfl) (fun _ _ _ h => h) (Or.inl ⟨by rfl, ?_⟩) (by assumption) ?_
        rotate_left
        · (intro w hSw; (try dsimp only at hSw); go_simp <;> with_reducible rfl)
        try simp only [Act.put, List.setIfInBounds_toArray, List.set_cons_zero, List.set_cons_succ]
        have XB := HL_3
        have X8 := XG_3
        have XQ := OO_3
        have XHh := HL_3.out.size
        generalize hg8 : v0.heap.size = g8 at X8 ⊢
        generalize hlo8 : v2.heap.size = lo8 at XQ
        generalize hhi8 : v3.heap.size = hi8 at XQ
        have XE : Hid ((g8 < lo8 ∨ hi8 ≤ g8) ∧ w.heap.size ≤ g8 ∧ w.heap.size ≤ lo8 ∧ lo8 ≤ hi8 ∧ hi8 ≤ v3.heap.size) := ⟨by omega, by omega, by omega, by omega, by omega⟩
        clear hg8 hlo8 hhi8 XHh HL_3 XG_3 OO_3  hl0 hz0 hl1 hz1 hl2 hz2
        obtain ⟨V, rfl⟩ : ∃ V : World, V = v3 := ⟨_, rfl⟩
  all_goals (
    obtain ⟨XE1, XE2, XE3, XE5, XE4⟩ := XE.out
    obtain ⟨⟨ce0, ce1, ce2, ce3, ce4⟩, ef⟩ := id X8.out
    have cq0 := ef 0
    have cq1 := ef 1
    have cq2 := ef 2
    have cq3 := ef 3
    have cq4 := ef 4
    have h_B : Below w.heap.size w (((((V.setCell ⟨g8, 0, none⟩ (.int .i64 nf)).setCell ⟨g8, 1, none⟩ (.int .i64 ne)).setCell ⟨g8, 2, none⟩ (.slice sa5 ns sc5)).setCell ⟨g8, 3, none⟩ (.slice la5 nl lc5)).setCell ⟨g8, 4, none⟩ (.slice ta5 nt tc5)) := (((((XB.out.setCell (by dsimp only; omega) _).setCell (by dsimp only; omega) _).setCell (by dsimp only; omega) _).setCell (by dsimp only; omega) _).setCell (by dsimp only; omega) _)
    have h_X : X5 (((((V.setCell ⟨g8, 0, none⟩ (.int .i64 nf)).setCell ⟨g8, 1, none⟩ (.int .i64 ne)).setCell ⟨g8, 2, none⟩ (.slice sa5 ns sc5)).setCell ⟨g8, 3, none⟩ (.slice la5 nl lc5)).setCell ⟨g8, 4, none⟩ (.slice ta5 nt tc5)) g8 (.int .i64 nf) (.int .i64 ne) (.slice sa5 ns sc5) (.slice la5 nl lc5) (.slice ta5 nt tc5) := (((((X8.out.set0 _).set1 _).set2 _).set3 _).set4 _)
    have h_Q : OwnBd (((((V.setCell ⟨g8, 0, none⟩ (.int .i64 nf)).setCell ⟨g8, 1, none⟩ (.int .i64 ne)).setCell ⟨g8, 2, none⟩ (.slice sa5 ns sc5)).setCell ⟨g8, 3, none⟩ (.slice la5 nl lc5)).setCell ⟨g8, 4, none⟩ (.slice ta5 nt tc5)) lo8 hi8 (.slice sa5 ns sc5) (.slice la5 nl lc5) (.slice ta5 nt tc5) nb := (OwnBd.cell (OwnBd.cell (OwnBd.cell (OwnBd.cell (OwnBd.cell XQ.out (r := g8) (j := 0) XE1 _) (r := g8) (j := 1) XE1 _) (r := g8) (j := 2) XE1 _) (r := g8) (j := 3) XE1 _) (r := g8) (j := 4) XE1 _)
    have h_Z : hi8 ≤ (((((V.setCell ⟨g8, 0, none⟩ (.int .i64 nf)).setCell ⟨g8, 1, none⟩ (.int .i64 ne)).setCell ⟨g8, 2, none⟩ (.slice sa5 ns sc5)).setCell ⟨g8, 3, none⟩ (.slice la5 nl lc5)).setCell ⟨g8, 4, none⟩ (.slice ta5 nt tc5)).heap.size := by simpa using XE4
    refine wpAnyH_ready (rs := [8]) (by kernel_rfl) (by simp) ?_
    refine AllReadyH.cons (o := _) rfl (fun K hK => ?_) AllReadyH.nil
    go_simp
    refine hK.out _ _ ?_ (fun hHeld => ?_)
    · exact ⟨(cY.later (h_B)).1.1, (cY.later (h_B)).1.2.1, (cY.later (h_B)).1.2.2.1, (cY.later (h_B)).1.2.2.2.1, (cY.later (h_B)).1.2.2.2.2, (cT.later (h_B)).1.1, (cT.later (h_B)).1.2.1, (cT.later (h_B)).1.2.2⟩
    clear hK K
    try simp only [Act.put, List.setIfInBounds_toArray, List.set_cons_zero, List.set_cons_succ]
    generalize (((((V.setCell ⟨g8, 0, none⟩ (.int .i64 nf)).setCell ⟨g8, 1, none⟩ (.int .i64 ne)).setCell ⟨g8, 2, none⟩ (.slice sa5 ns sc5)).setCell ⟨g8, 3, none⟩ (.slice la5 nl lc5)).setCell ⟨g8, 4, none⟩ (.slice ta5 nt tc5)) = V1 at h_B h_X h_Q h_Z hHeld ⊢
    clear XB X8 XQ ef ce0 cq0 ce1 cq1 ce2 cq2 ce3 cq3 ce4 cq4
    refine takeV13 (i := 9) (oi := _) (v := ?_) (d := some 10) rfl (by kernel_rfl) (by kernel_rfl) (by kernel_rfl) (by kernel_rfl) (fun _ _ _ h => h) (Or.inl ⟨by rfl, ?_⟩) (by assumption) ?_
    rotate_left
    · (intro w hSw; (try dsimp only at hSw); go_simp <;> with_reducible rfl)
    try simp only [Act.put, List.setIfInBounds_toArray, List.set_cons_zero, List.set_cons_succ]
    refine wpAnyH_done (by kernel_rfl) ?_ _
    exact hKK  sa5 sc5 la5 lc5 ta5 tc5 g8 lo8 hi8 V1 h_X h_Q XE1 XE2 XE3 XE5 h_Z h_B)

end Go.Proofs.Ytaokmjbhgkfnfaa

/- The law on StepBoard: region 5. -/
import Derived.Test.YtaokmjbhgkfnfaaLSX13s
namespace Go.Proofs.Ytaokmjbhgkfnfaa
set_option linter.unusedVariables false
set_option maxRecDepth 1000000
set_option linter.unusedSimpArgs false
open Go.RowKit

noncomputable def sbReg5 : Code := fstSeq4 (sndSeq4 (sndSeq4 (sndSeq4 (sndSeq4 ((Try.f7.body.getD .skip))))))

set_option maxRecDepth 1000000 in
set_option maxHeartbeats 32000000 in
theorem sbReg5_w (j0 j1 j4 j5 j6 j7 j8 j9 j10 j11 j12 j13 j14 j15 j16 j17 j18 j19 j20 j21 j22 j23 j24 j25 j26 j27 j28 j29 j30 j31 j32 j33 j34 j35 j36 j37 j38 j39 j40 j41 j42 j43 j44 j45 j46 j47 j48 j49 j50 j51 j52 j53 j54 j55 j56 j57 j58 j59 j60 j61 j62 j63 j64 j65 j66 j67 j68 j69 j70 j71 j72 j73 j74 j75 j76 j77 j78 j79 j80 j81 j82 j83 j84 j85 j86 j87 j88 j89 j90 j91 j92 j93 j94 j95 j96 j97 j98 j99 j100 j101 j102 j103 : Value) (gA gT : Nat) (f e : Int) (sa : Option Addr) (sn sc : Nat) (la : Option Addr) (ln lc : Nat) (ta : Option Addr) (tn tc : Nat) (sg : List (List Int)) (li ls : List Int) (k m l : Int) (nf ne : Int) (ns nl nt : Nat) (nb : BdV) (fb : Bool) (K : Act → World → Prop) (w : World) (cA : X5 w gA (.int .i64 f) (.int .i64 e) (.slice sa sn sc) (.slice la ln lc) (.slice ta tn tc)) (cT : X3 w gT (.int .i64 k) (.int .i64 m) (.int .i64 l))
    (hs : sg.length = sn) (hsn : sn ≤ 1048576) (hl : li.length = ln) (hln : ln ≤ 1048576) (ht : ls.length = tn) (htn : tn ≤ 1048576) (hrs : RdII w sa sg) (hrl : Rd w la li) (hrt : Rd w ta ls) (hsl : ∀ l ∈ sg, l.length ≤ 1048576) (qs : ∀ a1 c1 a2 c2 a3 c3 wx, ReadB wx a1 sn c1 a2 ln c2 a3 tn c3 ⟨f, e, sg, li, ls⟩ → Calls Try.prog 21 #[.agg #[.int .i64 f, .int .i64 e, .slice a1 sn c1, .slice a2 ln c2, .slice a3 tn c3], .agg #[.int .i64 k, .int .i64 m, .int .i64 l]] wx fun r w' => ∃ sa' sc' la' lc' ta' tc', r = .returned (.tuple #[.agg #[.int .i64 nf, .int .i64 ne, .slice sa' ns sc', .slice la' nl lc', .slice ta' nt tc'], .bool fb]) ∧ OwnBd w' wx.heap.size w'.heap.size (.slice sa' ns sc') (.slice la' nl lc') (.slice ta' nt tc') nb ∧ Below wx.heap.size wx w')
    (hKK : ∀ (sa9 : Option Addr) (sc9 : Nat) (la9 : Option Addr) (lc9 : Nat) (ta9 : Option Addr) (tc9 : Nat) (sa5 : Option Addr) (sc5 : Nat) (la5 : Option Addr) (lc5 : Nat) (ta5 : Option Addr) (tc5 : Nat) (g8 lo8 hi8 : Nat) (wx : World), X5 wx g8 (.int .i64 nf) (.int .i64 ne) (.slice sa5 ns sc5) (.slice la5 nl lc5) (.slice ta5 nt tc5) → OwnBd wx lo8 hi8 (.slice sa5 ns sc5) (.slice la5 nl lc5) (.slice ta5 nt tc5) nb → (g8 < lo8 ∨ hi8 ≤ g8) → w.heap.size ≤ g8 → w.heap.size ≤ lo8 → lo8 ≤ hi8 → hi8 ≤ wx.heap.size → Below w.heap.size w wx → K ⟨#[j0, j1, .pointer (some ⟨gA, 0, none⟩), .pointer (some ⟨gT, 0, none⟩), j4, j5, .pointer (some ⟨g8, 0, none⟩), .bool fb, j8, j9, j10, j11, j12, j13, j14, j15, j16, j17, j18, j19, j20, .tuple #[.agg #[.int .i64 nf, .int .i64 ne, .slice sa5 ns sc5, .slice la5 nl lc5, .slice ta5 nt tc5], .bool fb], .agg #[.int .i64 f, .int .i64 e, .slice sa sn sc, .slice la ln lc, .slice ta tn tc], .agg #[.int .i64 f, .int .i64 e, .slice sa9 sn sc9, .slice la9 ln lc9, .slice ta9 tn tc9], .agg #[.int .i64 k, .int .i64 m, .int .i64 l], .agg #[.int .i64 k, .int .i64 m, .int .i64 l], .tuple #[.agg #[.int .i64 nf, .int .i64 ne, .slice sa5 ns sc5, .slice la5 nl lc5, .slice ta5 nt tc5], .bool fb], .agg #[.int .i64 nf, .int .i64 ne, .slice sa5 ns sc5, .slice la5 nl lc5, .slice ta5 nt tc5], .bool fb, j29, j30, j31, j32, j33, j34, j35, j36, j37, j38, j39, j40, j41, j42, j43, j44, j45, j46, j47, j48, j49, j50, j51, j52, j53, j54, j55, j56, j57, j58, j59, j60, j61, j62, j63, j64, j65, j66, j67, j68, j69, j70, j71, j72, j73, j74, j75, j76, j77, j78, j79, j80, j81, j82, j83, j84, j85, j86, j87, j88, j89, j90, j91, j92, j93, j94, j95, j96, j97, j98, j99, j100, j101, j102, j103], []⟩ wx) :
    sbReg5.wp Try.prog (Exit.then K (fun _ _ _ => False)) ⟨#[j0, j1, .pointer (some ⟨gA, 0, none⟩), .pointer (some ⟨gT, 0, none⟩), j4, j5, j6, j7, j8, j9, j10, j11, j12, j13, j14, j15, j16, j17, j18, j19, j20, j21, j22, j23, j24, j25, j26, j27, j28, j29, j30, j31, j32, j33, j34, j35, j36, j37, j38, j39, j40, j41, j42, j43, j44, j45, j46, j47, j48, j49, j50, j51, j52, j53, j54, j55, j56, j57, j58, j59, j60, j61, j62, j63, j64, j65, j66, j67, j68, j69, j70, j71, j72, j73, j74, j75, j76, j77, j78, j79, j80, j81, j82, j83, j84, j85, j86, j87, j88, j89, j90, j91, j92, j93, j94, j95, j96, j97, j98, j99, j100, j101, j102, j103], []⟩ w := by
  simp only [sbReg5, Try.f7, Option.getD_some, sndSeq4, fstSeq4]
  have HL_0 : Hid (Below w.heap.size w w.drew) := (Below.refl _ _).drew
  refine wp_region_held_drew (S := (fun w' => w'.cell? ⟨gA, 0, none⟩ = some (.int .i64 f) ∧ w'.cell? ⟨gA, 1, none⟩ = some (.int .i64 e) ∧ w'.cell? ⟨gA, 2, none⟩ = some (.slice sa sn sc) ∧ w'.cell? ⟨gA, 3, none⟩ = some (.slice la ln lc) ∧ w'.cell? ⟨gA, 4, none⟩ = some (.slice ta tn tc) ∧ w'.cell? ⟨gT, 0, none⟩ = some (.int .i64 k) ∧ w'.cell? ⟨gT, 1, none⟩ = some (.int .i64 m) ∧ w'.cell? ⟨gT, 2, none⟩ = some (.int .i64 l))) (by kernel_rfl) ?_ (fun hHeld => ?_)
  · exact ⟨(cA.later (HL_0.out)).1.1, (cA.later (HL_0.out)).1.2.1, (cA.later (HL_0.out)).1.2.2.1, (cA.later (HL_0.out)).1.2.2.2.1, (cA.later (HL_0.out)).1.2.2.2.2, (cT.later (HL_0.out)).1.1, (cT.later (HL_0.out)).1.2.1, (cT.later (HL_0.out)).1.2.2⟩
  generalize w.drew = v0 at HL_0 hHeld ⊢
  refine takeV13 (i := 0) (oi := _) (v := ?_) (d := some 22) rfl (by kernel_rfl) (by kernel_rfl) (by kernel_rfl) (by kernel_rfl) (fun _ _ _ h => h) (Or.inl ⟨by rfl, ?_⟩) (by assumption) ?_
  rotate_left
  · (intro w hSw; (try dsimp only at hSw); go_simp <;> with_reducible rfl)
  try simp only [Act.put, List.setIfInBounds_toArray, List.set_cons_zero, List.set_cons_succ]
  refine takeV13 (i := 2) (oi := _) (v := ?_) (d := some 24) rfl (by kernel_rfl) (by kernel_rfl) (by kernel_rfl) (by kernel_rfl) (fun _ _ _ h => h) (Or.inl ⟨by rfl, ?_⟩) (by assumption) ?_
  rotate_left
  · (intro w hSw; (try dsimp only at hSw); go_simp <;> with_reducible rfl)
  try simp only [Act.put, List.setIfInBounds_toArray, List.set_cons_zero, List.set_cons_succ]
  refine wpAnyH_ready (rs := [1, 8]) (by kernel_rfl) (by simp) ?_
  refine AllReadyH.cons (o := _) rfl (fun K hK => ?cw1) (AllReadyH.cons (o := _) rfl (fun K hK => ?cw2) AllReadyH.nil)
  case' cw1 =>
    go_simp
    refine (toBoard_c f e sa sn sc la ln lc ta tn tc sg li ls v0 hs hsn hl hln ht htn (hrs.later HL_0.out) (hrl.later HL_0.out) (hrt.later HL_0.out) hsl).mono ?_
    rintro e v1 ⟨sa9, sc9, la9, lc9, ta9, tc9, rfl, ho, hb⟩
    have HL_1 : Hid (Below w.heap.size w v1) := HL_0.out.trans (hb.mono HL_0.out.size)
    have CP_1 : Hid (ReadB v1 sa9 sn sc9 la9 ln lc9 ta9 tn tc9 ⟨f, e, sg, li, ls⟩) := ho.read
    have hl0 : w.heap.size ≤ v0.heap.size := HL_0.out.size
    have hz0 : v0.heap.size ≤ v1.heap.size := hb.size
    refine hK.out _ _ ?_ (fun hHeld => ?_)
    · exact ⟨(cA.later (HL_1.out)).1.1, (cA.later (HL_1.out)).1.2.1, (cA.later (HL_1.out)).1.2.2.1, (cA.later (HL_1.out)).1.2.2.2.1, (cA.later (HL_1.out)).1.2.2.2.2, (cT.later (HL_1.out)).1.1, (cT.later (HL_1.out)).1.2.1, (cT.later (HL_1.out)).1.2.2⟩
    clear hK K hb ho HL_0  
    try simp only [Act.put, List.setIfInBounds_toArray, List.set_cons_zero, List.set_cons_succ]
    refine wpAnyH_ready (rs := [3, 8]) (by kernel_rfl) (by simp) ?_
    refine AllReadyH.cons (o := _) rfl (fun K hK => ?cw3) (AllReadyH.cons (o := _) rfl (fun K hK => ?cw4) AllReadyH.nil)
    case' cw3 =>
      go_simp
      refine (toBoardStep_c k m l v1).mono ?_
      rintro e v2 ⟨rfl, hb⟩
      have HL_2 : Hid (Below w.heap.size w v2) := HL_1.out.trans (hb.mono HL_1.out.size)
      have CP_2 : Hid (ReadB v2 sa9 sn sc9 la9 ln lc9 ta9 tn tc9 ⟨f, e, sg, li, ls⟩) := CP_1.out.later hb
      have hl1 : w.heap.size ≤ v1.heap.size := HL_1.out.size
      have hz1 : v1.heap.size ≤ v2.heap.size := hb.size
      refine hK.out _ _ ?_ (fun hHeld => ?_)
      · exact ⟨(cA.later (HL_2.out)).1.1, (cA.later (HL_2.out)).1.2.1, (cA.later (HL_2.out)).1.2.2.1, (cA.later (HL_2.out)).1.2.2.2.1, (cA.later (HL_2.out)).1.2.2.2.2, (cT.later (HL_2.out)).1.1, (cT.later (HL_2.out)).1.2.1, (cT.later (HL_2.out)).1.2.2⟩
      clear hK K hb  HL_1 CP_1 
      try simp only [Act.put, List.setIfInBounds_toArray, List.set_cons_zero, List.set_cons_succ]
      refine wpAnyH_ready (rs := [4, 8]) (by kernel_rfl) (by simp) ?_
      refine AllReadyH.cons (o := _) rfl (fun K hK => ?cw5) (AllReadyH.cons (o := _) rfl (fun K hK => ?cw6) AllReadyH.nil)
      case' cw5 =>
        go_simp
        refine (qs sa9 sc9 la9 lc9 ta9 tc9 v2 CP_2.out).mono ?_
        rintro e v3 ⟨sa5, sc5, la5, lc5, ta5, tc5, rfl, ho, hb⟩
        have HL_3 : Hid (Below w.heap.size w v3) := HL_2.out.trans (hb.mono HL_2.out.size)
        have CP_3 : Hid (ReadB v3 sa9 sn sc9 la9 ln lc9 ta9 tn tc9 ⟨f, e, sg, li, ls⟩) := CP_2.out.later hb
        have OO_3 : Hid (OwnBd v3 v2.heap.size v3.heap.size (.slice sa5 ns sc5) (.slice la5 nl lc5) (.slice ta5 nt tc5) nb) := ho
        have hl2 : w.heap.size ≤ v2.heap.size := HL_2.out.size
        have hz2 : v2.heap.size ≤ v3.heap.size := hb.size
        refine hK.out _ _ ?_ (fun hHeld => ?_)
        · exact ⟨(cA.later (HL_3.out)).1.1, (cA.later (HL_3.out)).1.2.1, (cA.later (HL_3.out)).1.2.2.1, (cA.later (HL_3.out)).1.2.2.2.1, (cA.later (HL_3.out)).1.2.2.2.2, (cT.later (HL_3.out)).1.1, (cT.later (HL_3.out)).1.2.1, (cT.later (HL_3.out)).1.2.2⟩
        clear hK K hb ho HL_2 CP_2 
        try simp only [Act.put, List.setIfInBounds_toArray, List.set_cons_zero, List.set_cons_succ]
        refine takeV13 (i := 5) (oi := _) (v := ?_) (d := some 21) rfl (by kernel_rfl) (by kernel_rfl) (by kernel_rfl) (by kernel_rfl) (fun _ _ _ h => h) (Or.inl ⟨by rfl, ?_⟩) (by assumption) ?_
        rotate_left
        · (intro w hSw; (try dsimp only at hSw); go_simp <;> with_reducible rfl)
        try simp only [Act.put, List.setIfInBounds_toArray, List.set_cons_zero, List.set_cons_succ]
        refine takeV13 (i := 6) (oi := _) (v := ?_) (d := some 27) rfl (by kernel_rfl) (by kernel_rfl) (by kernel_rfl) (by kernel_rfl) (fun _ _ _ h => h) (Or.inl ⟨by rfl, ?_⟩) (by assumption) ?_
        rotate_left
        · (intro w hSw; (try dsimp only at hSw); go_simp <;> with_reducible rfl)
        try simp only [Act.put, List.setIfInBounds_toArray, List.set_cons_zero, List.set_cons_succ]
        refine takeV13 (i := 7) (oi := _) (v := ?_) (d := some 28) rfl (by kernel_rfl) (by kernel_rfl) (by kernel_rfl) (by kernel_rfl) (fun _ _ _ h => h) (Or.inl ⟨by rfl, ?_⟩) (by assumption) ?_
        rotate_left
        · (intro w hSw; (try dsimp only at hSw); go_simp <;> with_reducible rfl)
        try simp only [Act.put, List.setIfInBounds_toArray, List.set_cons_zero, List.set_cons_succ]
        refine wpAnyH_ready (rs := [8]) (by kernel_rfl) (by simp) ?_
        refine AllReadyH.cons (o := _) rfl (fun K hK => ?cw7) AllReadyH.nil
        case' cw7 =>
          go_simp
          have hb : Below v3.heap.size v3 (v3.alloc (.cells #[.int .i64 0, .int .i64 0, .slice none 0 0, .slice none 0 0, .slice none 0 0] 29)) := balloc _ _
          have hN := x5_new v3 (.int .i64 0) (.int .i64 0) (.slice none 0 0) (.slice none 0 0) (.slice none 0 0) 29 v3.heap.size rfl
          have hsz : (v3.alloc (.cells #[.int .i64 0, .int .i64 0, .slice none 0 0, .slice none 0 0, .slice none 0 0] 29)).heap.size = v3.heap.size + 1 := by simp
          have h_HL := HL_3.out.trans (hb.mono HL_3.out.size)
          have h_CP := CP_3.out.later hb
          have h_OO := OO_3.out.later hb
          refine hK.out _ _ ?_ (fun hHeld => ?_)
          · exact ⟨(cA.later (h_HL)).1.1, (cA.later (h_HL)).1.2.1, (cA.later (h_HL)).1.2.2.1, (cA.later (h_HL)).1.2.2.2.1, (cA.later (h_HL)).1.2.2.2.2, (cT.later (h_HL)).1.1, (cT.later (h_HL)).1.2.1, (cT.later (h_HL)).1.2.2⟩
          clear hK K
          try simp only [Act.put, List.setIfInBounds_toArray, List.set_cons_zero, List.set_cons_succ]
          generalize (v3.alloc (.cells #[.int .i64 0, .int .i64 0, .slice none 0 0, .slice none 0 0, .slice none 0 0] 29)) = v4 at hb hN hsz hHeld h_HL h_CP h_OO ⊢
          have HL_4 : Hid (Below w.heap.size w v4) := h_HL
          have CP_4 : Hid (ReadB v4 sa9 sn sc9 la9 ln lc9 ta9 tn tc9 ⟨f, e, sg, li, ls⟩) := h_CP
          have OO_4 : Hid (OwnBd v4 v2.heap.size v3.heap.size (.slice sa5 ns sc5) (.slice la5 nl lc5) (.slice ta5 nt tc5) nb) := h_OO
          have XG_4 : Hid (X5 v4 v3.heap.size (.int .i64 0) (.int .i64 0) (.slice none 0 0) (.slice none 0 0) (.slice none 0 0)) := hN
          have hl3 : w.heap.size ≤ v3.heap.size := HL_3.out.size
          have hz3 : v3.heap.size < v4.heap.size := by omega
          clear hb hN hsz h_HL HL_3 h_CP h_OO CP_3 OO_3
          have XB := HL_4
          have X8 := XG_4
          have XQ := OO_4
          have XHh := HL_4.out.size
          generalize hg8 : v3.heap.size = g8 at X8 ⊢
          generalize hlo8 : v2.heap.size = lo8 at XQ
          generalize hhi8 : v3.heap.size = hi8 at XQ
          have XE : Hid ((g8 < lo8 ∨ hi8 ≤ g8) ∧ w.heap.size ≤ g8 ∧ w.heap.size ≤ lo8 ∧ lo8 ≤ hi8 ∧ hi8 ≤ v4.heap.size) := ⟨by omega, by omega, by omega, by omega, by omega⟩
          clear hg8 hlo8 hhi8 XHh HL_4 XG_4 OO_4 CP_4 hl0 hz0 hl1 hz1 hl2 hz2 hl3 hz3
          obtain ⟨V, rfl⟩ : ∃ V : World, V = v4 := ⟨_, rfl⟩
      case' cw6 =>
        go_simp
        have hb : Below v2.heap.size v2 (v2.alloc (.cells #[.int .i64 0, .int .i64 0, .slice none 0 0, .slice none 0 0, .slice none 0 0] 29)) := balloc _ _
        have hN := x5_new v2 (.int .i64 0) (.int .i64 0) (.slice none 0 0) (.slice none 0 0) (.slice none 0 0) 29 v2.heap.size rfl
        have hsz : (v2.alloc (.cells #[.int .i64 0, .int .i64 0, .slice none 0 0, .slice none 0 0, .slice none 0 0] 29)).heap.size = v2.heap.size + 1 := by simp
        have h_HL := HL_2.out.trans (hb.mono HL_2.out.size)
        have h_CP := CP_2.out.later hb
        refine hK.out _ _ ?_ (fun hHeld => ?_)
        · exact ⟨(cA.later (h_HL)).1.1, (cA.later (h_HL)).1.2.1, (cA.later (h_HL)).1.2.2.1, (cA.later (h_HL)).1.2.2.2.1, (cA.later (h_HL)).1.2.2.2.2, (cT.later (h_HL)).1.1, (cT.later (h_HL)).1.2.1, (cT.later (h_HL)).1.2.2⟩
        clear hK K
        try simp only [Act.put, List.setIfInBounds_toArray, List.set_cons_zero, List.set_cons_succ]
        generalize (v2.alloc (.cells #[.int .i64 0, .int .i64 0, .slice none 0 0, .slice none 0 0, .slice none 0 0] 29)) = v3 at hb hN hsz hHeld h_HL h_CP ⊢
        have HL_3 : Hid (Below w.heap.size w v3) := h_HL
        have CP_3 : Hid (ReadB v3 sa9 sn sc9 la9 ln lc9 ta9 tn tc9 ⟨f, e, sg, li, ls⟩) := h_CP
        have XG_3 : Hid (X5 v3 v2.heap.size (.int .i64 0) (.int .i64 0) (.slice none 0 0) (.slice none 0 0) (.slice none 0 0)) := hN
        have hl2 : w.heap.size ≤ v2.heap.size := HL_2.out.size
        have hz2 : v2.heap.size < v3.heap.size := by omega
        clear hb hN hsz h_HL HL_2 h_CP CP_2
        refine wpAnyH_ready (rs := [4]) (by kernel_rfl) (by simp) ?_
        refine AllReadyH.cons (o := _) rfl (fun K hK => ?cw8) AllReadyH.nil
        case' cw8 =>
          go_simp
          refine (qs sa9 sc9 la9 lc9 ta9 tc9 v3 CP_3.out).mono ?_
          rintro e v4 ⟨sa5, sc5, la5, lc5, ta5, tc5, rfl, ho, hb⟩
          have HL_4 : Hid (Below w.heap.size w v4) := HL_3.out.trans (hb.mono HL_3.out.size)
          have CP_4 : Hid (ReadB v4 sa9 sn sc9 la9 ln lc9 ta9 tn tc9 ⟨f, e, sg, li, ls⟩) := CP_3.out.later hb
          have OO_4 : Hid (OwnBd v4 v3.heap.size v4.heap.size (.slice sa5 ns sc5) (.slice la5 nl lc5) (.slice ta5 nt tc5) nb) := ho
          have XG_4 : Hid (X5 v4 v2.heap.size (.int .i64 0) (.int .i64 0) (.slice none 0 0) (.slice none 0 0) (.slice none 0 0)) := XG_3.out.later hb
          have hl3 : w.heap.size ≤ v3.heap.size := HL_3.out.size
          have hz3 : v3.heap.size ≤ v4.heap.size := hb.size
          refine hK.out _ _ ?_ (fun hHeld => ?_)
          · exact ⟨(cA.later (HL_4.out)).1.1, (cA.later (HL_4.out)).1.2.1, (cA.later (HL_4.out)).1.2.2.1, (cA.later (HL_4.out)).1.2.2.2.1, (cA.later (HL_4.out)).1.2.2.2.2, (cT.later (HL_4.out)).1.1, (cT.later (HL_4.out)).1.2.1, (cT.later (HL_4.out)).1.2.2⟩
          clear hK K hb ho HL_3 CP_3 XG_3
          try simp only [Act.put, List.setIfInBounds_toArray, List.set_cons_zero, List.set_cons_succ]
          refine takeV13 (i := 5) (oi := _) (v := ?_) (d := some 21) rfl (by kernel_rfl) (by kernel_rfl) (by kernel_rfl) (by kernel_rfl) (fun _ _ _ h => h) (Or.inl ⟨by rfl, ?_⟩) (by assumption) ?_
          rotate_left
          · (intro w hSw; (try dsimp only at hSw); go_simp <;> with_reducible rfl)
          try simp only [Act.put, List.setIfInBounds_toArray, List.set_cons_zero, List.set_cons_succ]
          refine takeV13 (i := 6) (oi := _) (v := ?_) (d := some 27) rfl (by kernel_rfl) (by kernel_rfl) (by kernel_rfl) (by kernel_rfl) (fun _ _ _ h => h) (Or.inl ⟨by rfl, ?_⟩) (by assumption) ?_
          rotate_left
          · (intro w hSw; (try dsimp only at hSw); go_simp <;> with_reducible rfl)
          try simp only [Act.put, List.setIfInBounds_toArray, List.set_cons_zero, List.set_cons_succ]
          refine takeV13 (i := 7) (oi := _) (v := ?_) (d := some 28) rfl (by kernel_rfl) (by kernel_rfl) (by kernel_rfl) (by kernel_rfl) (fun _ _ _ h => h) (Or.inl ⟨by rfl, ?_⟩) (by assumption) ?_
          rotate_left
          · (intro w hSw; (try dsimp only at hSw); go_simp <;> with_reducible rfl)
          try simp only [Act.put, List.setIfInBounds_toArray, List.set_cons_zero, List.set_cons_succ]
          have XB := HL_4
          have X8 := XG_4
          have XQ := OO_4
          have XHh := HL_4.out.size
          generalize hg8 : v2.heap.size = g8 at X8 ⊢
          generalize hlo8 : v3.heap.size = lo8 at XQ
          generalize hhi8 : v4.heap.size = hi8 at XQ
          have XE : Hid ((g8 < lo8 ∨ hi8 ≤ g8) ∧ w.heap.size ≤ g8 ∧ w.heap.size ≤ lo8 ∧ lo8 ≤ hi8 ∧ hi8 ≤ v4.heap.size) := ⟨by omega, by omega, by omega, by omega, by omega⟩
          clear hg8 hlo8 hhi8 XHh HL_4 XG_4 OO_4 CP_4 hl0 hz0 hl1 hz1 hl2 hz2 hl3 hz3
          obtain ⟨V, rfl⟩ : ∃ V : World, V = v4 := ⟨_, rfl⟩
    case' cw4 =>
      go_simp
      have hb : Below v1.heap.size v1 (v1.alloc (.cells #[.int .i64 0, .int .i64 0, .slice none 0 0, .slice none 0 0, .slice none 0 0] 29)) := balloc _ _
      have hN := x5_new v1 (.int .i64 0) (.int .i64 0) (.slice none 0 0) (.slice none 0 0) (.slice none 0 0) 29 v1.heap.size rfl
      have hsz : (v1.alloc (.cells #[.int .i64 0, .int .i64 0, .slice none 0 0, .slice none 0 0, .slice none 0 0] 29)).heap.size = v1.heap.size + 1 := by simp
      have h_HL := HL_1.out.trans (hb.mono HL_1.out.size)
      have h_CP := CP_1.out.later hb
      refine hK.out _ _ ?_ (fun hHeld => ?_)
      · exact ⟨(cA.later (h_HL)).1.1, (cA.later (h_HL)).1.2.1, (cA.later (h_HL)).1.2.2.1, (cA.later (h_HL)).1.2.2.2.1, (cA.later (h_HL)).1.2.2.2.2, (cT.later (h_HL)).1.1, (cT.later (h_HL)).1.2.1, (cT.later (h_HL)).1.2.2⟩
      clear hK K
      try simp only [Act.put, List.setIfInBounds_toArray, List.set_cons_zero, List.set_cons_succ]
      generalize (v1.alloc (.cells #[.int .i64 0, .int .i64 0, .slice none 0 0, .slice none 0 0, .slice none 0 0] 29)) = v2 at hb hN hsz hHeld h_HL h_CP ⊢
      have HL_2 : Hid (Below w.heap.size w v2) := h_HL
      have CP_2 : Hid (ReadB v2 sa9 sn sc9 la9 ln lc9 ta9 tn tc9 ⟨f, e, sg, li, ls⟩) := h_CP
      have XG_2 : Hid (X5 v2 v1.heap.size (.int .i64 0) (.int .i64 0) (.slice none 0 0) (.slice none 0 0) (.slice none 0 0)) := hN
      have hl1 : w.heap.size ≤ v1.heap.size := HL_1.out.size
      have hz1 : v1.heap.size < v2.heap.size := by omega
      clear hb hN hsz h_HL HL_1 h_CP CP_1
      refine wpAnyH_ready (rs := [3]) (by kernel_rfl) (by simp) ?_
      refine AllReadyH.cons (o := _) rfl (fun K hK => ?cw9) AllReadyH.nil
      case' cw9 =>
        go_simp
        refine (toBoardStep_c k m l v2).mono ?_
        rintro e v3 ⟨rfl, hb⟩
        have HL_3 : Hid (Below w.heap.size w v3) := HL_2.out.trans (hb.mono HL_2.out.size)
        have CP_3 : Hid (ReadB v3 sa9 sn sc9 la9 ln lc9 ta9 tn tc9 ⟨f, e, sg, li, ls⟩) := CP_2.out.later hb
        have XG_3 : Hid (X5 v3 v1.heap.size (.int .i64 0) (.int .i64 0) (.slice none 0 0) (.slice none 0 0) (.slice none 0 0)) := XG_2.out.later hb
        have hl2 : w.heap.size ≤ v2.heap.size := HL_2.out.size
        have hz2 : v2.heap.size ≤ v3.heap.size := hb.size
        refine hK.out _ _ ?_ (fun hHeld => ?_)
        · exact ⟨(cA.later (HL_3.out)).1.1, (cA.later (HL_3.out)).1.2.1, (cA.later (HL_3.out)).1.2.2.1, (cA.later (HL_3.out)).1.2.2.2.1, (cA.later (HL_3.out)).1.2.2.2.2, (cT.later (HL_3.out)).1.1, (cT.later (HL_3.out)).1.2.1, (cT.later (HL_3.out)).1.2.2⟩
        clear hK K hb  HL_2 CP_2 XG_2
        try simp only [Act.put, List.setIfInBounds_toArray, List.set_cons_zero, List.set_cons_succ]
        refine wpAnyH_ready (rs := [4]) (by kernel_rfl) (by simp) ?_
        refine AllReadyH.cons (o := _) rfl (fun K hK => ?cw10) AllReadyH.nil
        case' cw10 =>
          go_simp
          refine (qs sa9 sc9 la9 lc9 ta9 tc9 v3 CP_3.out).mono ?_
          rintro e v4 ⟨sa5, sc5, la5, lc5, ta5, tc5, rfl, ho, hb⟩
          have HL_4 : Hid (Below w.heap.size w v4) := HL_3.out.trans (hb.mono HL_3.out.size)
          have CP_4 : Hid (ReadB v4 sa9 sn sc9 la9 ln lc9 ta9 tn tc9 ⟨f, e, sg, li, ls⟩) := CP_3.out.later hb
          have OO_4 : Hid (OwnBd v4 v3.heap.size v4.heap.size (.slice sa5 ns sc5) (.slice la5 nl lc5) (.slice ta5 nt tc5) nb) := ho
          have XG_4 : Hid (X5 v4 v1.heap.size (.int .i64 0) (.int .i64 0) (.slice none 0 0) (.slice none 0 0) (.slice none 0 0)) := XG_3.out.later hb
          have hl3 : w.heap.size ≤ v3.heap.size := HL_3.out.size
          have hz3 : v3.heap.size ≤ v4.heap.size := hb.size
          refine hK.out _ _ ?_ (fun hHeld => ?_)
          · exact ⟨(cA.later (HL_4.out)).1.1, (cA.later (HL_4.out)).1.2.1, (cA.later (HL_4.out)).1.2.2.1, (cA.later (HL_4.out)).1.2.2.2.1, (cA.later (HL_4.out)).1.2.2.2.2, (cT.later (HL_4.out)).1.1, (cT.later (HL_4.out)).1.2.1, (cT.later (HL_4.out)).1.2.2⟩
          clear hK K hb ho HL_3 CP_3 XG_3
          try simp only [Act.put, List.setIfInBounds_toArray, List.set_cons_zero, List.set_cons_succ]
          refine takeV13 (i := 5) (oi := _) (v := ?_) (d := some 21) rfl (by kernel_rfl) (by kernel_rfl) (by kernel_rfl) (by kernel_rfl) (fun _ _ _ h => h) (Or.inl ⟨by rfl, ?_⟩) (by assumption) ?_
          rotate_left
          · (intro w hSw; (try dsimp only at hSw); go_simp <;> with_reducible rfl)
          try simp only [Act.put, List.setIfInBounds_toArray, List.set_cons_zero, List.set_cons_succ]
          refine takeV13 (i := 6) (oi := _) (v := ?_) (d := some 27) rfl (by kernel_rfl) (by kernel_rfl) (by kernel_rfl) (by kernel_rfl) (fun _ _ _ h => h) (Or.inl ⟨by rfl, ?_⟩) (by assumption) ?_
          rotate_left
          · (intro w hSw; (try dsimp only at hSw); go_simp <;> with_reducible rfl)
          try simp only [Act.put, List.setIfInBounds_toArray, List.set_cons_zero, List.set_cons_succ]
          refine takeV13 (i := 7) (oi := _) (v := ?_) (d := some 28) rfl (by kernel_rfl) (by kernel_rfl) (by kernel_rfl) (by kernel_rfl) (fun _ _ _ h => h) (Or.inl ⟨by rfl, ?_⟩) (by assumption) ?_
          rotate_left
          · (intro w hSw; (try dsimp only at hSw); go_simp <;> with_reducible rfl)
          try simp only [Act.put, List.setIfInBounds_toArray, List.set_cons_zero, List.set_cons_succ]
          have XB := HL_4
          have X8 := XG_4
          have XQ := OO_4
          have XHh := HL_4.out.size
          generalize hg8 : v1.heap.size = g8 at X8 ⊢
          generalize hlo8 : v3.heap.size = lo8 at XQ
          generalize hhi8 : v4.heap.size = hi8 at XQ
          have XE : Hid ((g8 < lo8 ∨ hi8 ≤ g8) ∧ w.heap.size ≤ g8 ∧ w.heap.size ≤ lo8 ∧ lo8 ≤ hi8 ∧ hi8 ≤ v4.heap.size) := ⟨by omega, by omega, by omega, by omega, by omega⟩
          clear hg8 hlo8 hhi8 XHh HL_4 XG_4 OO_4 CP_4 hl0 hz0 hl1 hz1 hl2 hz2 hl3 hz3
          obtain ⟨V, rfl⟩ : ∃ V : World, V = v4 := ⟨_, rfl⟩
  case' cw2 =>
    go_simp
    have hb : Below v0.heap.size v0 (v0.alloc (.cells #[.int .i64 0, .int .i64 0, .slice none 0 0, .slice none 0 0, .slice none 0 0] 29)) := balloc _ _
    have hN := x5_new v0 (.int .i64 0) (.int .i64 0) (.slice none 0 0) (.slice none 0 0) (.slice none 0 0) 29 v0.heap.size rfl
    have hsz : (v0.alloc (.cells #[.int .i64 0, .int .i64 0, .slice none 0 0, .slice none 0 0, .slice none 0 0] 29)).heap.size = v0.heap.size + 1 := by simp
    have h_HL := HL_0.out.trans (hb.mono HL_0.out.size)
    refine hK.out _ _ ?_ (fun hHeld => ?_)
    · exact ⟨(cA.later (h_HL)).1.1, (cA.later (h_HL)).1.2.1, (cA.later (h_HL)).1.2.2.1, (cA.later (h_HL)).1.2.2.2.1, (cA.later (h_HL)).1.2.2.2.2, (cT.later (h_HL)).1.1, (cT.later (h_HL)).1.2.1, (cT.later (h_HL)).1.2.2⟩
    clear hK K
    try simp only [Act.put, List.setIfInBounds_toArray, List.set_cons_zero, List.set_cons_succ]
    generalize (v0.alloc (.cells #[.int .i64 0, .int .i64 0, .slice none 0 0, .slice none 0 0, .slice none 0 0] 29)) = v1 at hb hN hsz hHeld h_HL  ⊢
    have HL_1 : Hid (Below w.heap.size w v1) := h_HL
    have XG_1 : Hid (X5 v1 v0.heap.size (.int .i64 0) (.int .i64 0) (.slice none 0 0) (.slice none 0 0) (.slice none 0 0)) := hN
    have hl0 : w.heap.size ≤ v0.heap.size := HL_0.out.size
    have hz0 : v0.heap.size < v1.heap.size := by omega
    clear hb hN hsz h_HL HL_0  
    refine wpAnyH_ready (rs := [1]) (by kernel_rfl) (by simp) ?_
    refine AllReadyH.cons (o := _) rfl (fun K hK => ?cw11) AllReadyH.nil
    case' cw11 =>
      go_simp
      refine (toBoard_c f e sa sn sc la ln lc ta tn tc sg li ls v1 hs hsn hl hln ht htn (hrs.later HL_1.out) (hrl.later HL_1.out) (hrt.later HL_1.out) hsl).mono ?_
      rintro e v2 ⟨sa9, sc9, la9, lc9, ta9, tc9, rfl, ho, hb⟩
      have HL_2 : Hid (Below w.heap.size w v2) := HL_1.out.trans (hb.mono HL_1.out.size)
      have CP_2 : Hid (ReadB v2 sa9 sn sc9 la9 ln lc9 ta9 tn tc9 ⟨f, e, sg, li, ls⟩) := ho.read
      have XG_2 : Hid (X5 v2 v0.heap.size (.int .i64 0) (.int .i64 0) (.slice none 0 0) (.slice none 0 0) (.slice none 0 0)) := XG_1.out.later hb
      have hl1 : w.heap.size ≤ v1.heap.size := HL_1.out.size
      have hz1 : v1.heap.size ≤ v2.heap.size := hb.size
      refine hK.out _ _ ?_ (fun hHeld => ?_)
      · exact ⟨(cA.later (HL_2.out)).1.1, (cA.later (HL_2.out)).1.2.1, (cA.later (HL_2.out)).1.2.2.1, (cA.later (HL_2.out)).1.2.2.2.1, (cA.later (HL_2.out)).1.2.2.2.2, (cT.later (HL_2.out)).1.1, (cT.later (HL_2.out)).1.2.1, (cT.later (HL_2.out)).1.2.2⟩
      clear hK K hb ho HL_1  XG_1
      try simp only [Act.put, List.setIfInBounds_toArray, List.set_cons_zero, List.set_cons_succ]
      refine wpAnyH_ready (rs := [3]) (by kernel_rfl) (by simp) ?_
      refine AllReadyH.cons (o := _) rfl (fun K hK => ?cw12) AllReadyH.nil
      case' cw12 =>
        go_simp
        refine (toBoardStep_c k m l v2).mono ?_
        rintro e v3 ⟨rfl, hb⟩
        have HL_3 : Hid (Below w.heap.size w v3) := HL_2.out.trans (hb.mono HL_2.out.size)
        have CP_3 : Hid (ReadB v3 sa9 sn sc9 la9 ln lc9 ta9 tn tc9 ⟨f, e, sg, li, ls⟩) := CP_2.out.later hb
        have XG_3 : Hid (X5 v3 v0.heap.size (.int .i64 0) (.int .i64 0) (.slice none 0 0) (.slice none 0 0) (.slice none 0 0)) := XG_2.out.later hb
        have hl2 : w.heap.size ≤ v2.heap.size := HL_2.out.size
        have hz2 : v2.heap.size ≤ v3.heap.size := hb.size
        refine hK.out _ _ ?_ (fun hHeld => ?_)
        · exact ⟨(cA.later (HL_3.out)).1.1, (cA.later (HL_3.out)).1.2.1, (cA.later (HL_3.out)).1.2.2.1, (cA.later (HL_3.out)).1.2.2.2.1, (cA.later (HL_3.out)).1.2.2.2.2, (cT.later (HL_3.out)).1.1, (cT.later (HL_3.out)).1.2.1, (cT.later (HL_3.out)).1.2.2⟩
        clear hK K hb  HL_2 CP_2 XG_2
        try simp only [Act.put, List.setIfInBounds_toArray, List.set_cons_zero, List.set_cons_succ]
        refine wpAnyH_ready (rs := [4]) (by kernel_rfl) (by simp) ?_
        refine AllReadyH.cons (o := _) rfl (fun K hK => ?cw13) AllReadyH.nil
        case' cw13 =>
          go_simp
          refine (qs sa9 sc9 la9 lc9 ta9 tc9 v3 CP_3.out).mono ?_
          rintro e v4 ⟨sa5, sc5, la5, lc5, ta5, tc5, rfl, ho, hb⟩
          have HL_4 : Hid (Below w.heap.size w v4) := HL_3.out.trans (hb.mono HL_3.out.size)
          have CP_4 : Hid (ReadB v4 sa9 sn sc9 la9 ln lc9 ta9 tn tc9 ⟨f, e, sg, li, ls⟩) := CP_3.out.later hb
          have OO_4 : Hid (OwnBd v4 v3.heap.size v4.heap.size (.slice sa5 ns sc5) (.slice la5 nl lc5) (.slice ta5 nt tc5) nb) := ho
          have XG_4 : Hid (X5 v4 v0.heap.size (.int .i64 0) (.int .i64 0) (.slice none 0 0) (.slice none 0 0) (.slice none 0 0)) := XG_3.out.later hb
          have hl3 : w.heap.size ≤ v3.heap.size := HL_3.out.size
          have hz3 : v3.heap.size ≤ v4.heap.size := hb.size
          refine hK.out _ _ ?_ (fun hHeld => ?_)
          · exact ⟨(cA.later (HL_4.out)).1.1, (cA.later (HL_4.out)).1.2.1, (cA.later (HL_4.out)).1.2.2.1, (cA.later (HL_4.out)).1.2.2.2.1, (cA.later (HL_4.out)).1.2.2.2.2, (cT.later (HL_4.out)).1.1, (cT.later (HL_4.out)).1.2.1, (cT.later (HL_4.out)).1.2.2⟩
          clear hK K hb ho HL_3 CP_3 XG_3
          try simp only [Act.put, List.setIfInBounds_toArray, List.set_cons_zero, List.set_cons_succ]
          refine takeV13 (i := 5) (oi := _) (v := ?_) (d := some 21) rfl (by kernel_rfl) (by kernel_rfl) (by kernel_rfl) (by kernel_rfl) (fun _ _ _ h => h) (Or.inl ⟨by rfl, ?_⟩) (by assumption) ?_
          rotate_left
          · (intro w hSw; (try dsimp only at hSw); go_simp <;> with_reducible rfl)
          try simp only [Act.put, List.setIfInBounds_toArray, List.set_cons_zero, List.set_cons_succ]
          refine takeV13 (i := 6) (oi := _) (v := ?_) (d := some 27) rfl (by kernel_rfl) (by kernel_rfl) (by kernel_rfl) (by kernel_rfl) (fun _ _ _ h => h) (Or.inl ⟨by rfl, ?_⟩) (by assumption) ?_
          rotate_left
          · (intro w hSw; (try dsimp only at hSw); go_simp <;> with_reducible rfl)
          try simp only [Act.put, List.setIfInBounds_toArray, List.set_cons_zero, List.set_cons_succ]
          refine takeV13 (i := 7) (oi := _) (v := ?_) (d := some 28) rfl (by kernel_rfl) (by kernel_rfl) (by kernel_rfl) (by kernel_rfl) (fun _ _ _ h => h) (Or.inl ⟨by rfl, ?_⟩) (by assumption) ?_
          rotate_left
          · (intro w hSw; (try dsimp only at hSw); go_simp <;> with_reducible rfl)
          try simp only [Act.put, List.setIfInBounds_toArray, List.set_cons_zero, List.set_cons_succ]
          have XB := HL_4
          have X8 := XG_4
          have XQ := OO_4
          have XHh := HL_4.out.size
          generalize hg8 : v0.heap.size = g8 at X8 ⊢
          generalize hlo8 : v3.heap.size = lo8 at XQ
          generalize hhi8 : v4.heap.size = hi8 at XQ
          have XE : Hid ((g8 < lo8 ∨ hi8 ≤ g8) ∧ w.heap.size ≤ g8 ∧ w.heap.size ≤ lo8 ∧ lo8 ≤ hi8 ∧ hi8 ≤ v4.heap.size) := ⟨by omega, by omega, by omega, by omega, by omega⟩
          clear hg8 hlo8 hhi8 XHh HL_4 XG_4 OO_4 CP_4 hl0 hz0 hl1 hz1 hl2 hz2 hl3 hz3
          obtain ⟨V, rfl⟩ : ∃ V : World, V = v4 := ⟨_, rfl⟩
  all_goals (
    obtain ⟨XE1, XE2, XE3, XE5, XE4⟩ := XE.out
    obtain ⟨⟨ce0, ce1, ce2, ce3, ce4⟩, ef⟩ := id X8.out
    have cq0 := ef 0
    have cq1 := ef 1
    have cq2 := ef 2
    have cq3 := ef 3
    have cq4 := ef 4
    have h_B : Below w.heap.size w (((((V.setCell ⟨g8, 0, none⟩ (.int .i64 nf)).setCell ⟨g8, 1, none⟩ (.int .i64 ne)).setCell ⟨g8, 2, none⟩ (.slice sa5 ns sc5)).setCell ⟨g8, 3, none⟩ (.slice la5 nl lc5)).setCell ⟨g8, 4, none⟩ (.slice ta5 nt tc5)) := (((((XB.out.setCell (by dsimp only; omega) _).setCell (by dsimp only; omega) _).setCell (by dsimp only; omega) _).setCell (by dsimp only; omega) _).setCell (by dsimp only; omega) _)
    have h_X : X5 (((((V.setCell ⟨g8, 0, none⟩ (.int .i64 nf)).setCell ⟨g8, 1, none⟩ (.int .i64 ne)).setCell ⟨g8, 2, none⟩ (.slice sa5 ns sc5)).setCell ⟨g8, 3, none⟩ (.slice la5 nl lc5)).setCell ⟨g8, 4, none⟩ (.slice ta5 nt tc5)) g8 (.int .i64 nf) (.int .i64 ne) (.slice sa5 ns sc5) (.slice la5 nl lc5) (.slice ta5 nt tc5) := (((((X8.out.set0 _).set1 _).set2 _).set3 _).set4 _)
    have h_Q : OwnBd (((((V.setCell ⟨g8, 0, none⟩ (.int .i64 nf)).setCell ⟨g8, 1, none⟩ (.int .i64 ne)).setCell ⟨g8, 2, none⟩ (.slice sa5 ns sc5)).setCell ⟨g8, 3, none⟩ (.slice la5 nl lc5)).setCell ⟨g8, 4, none⟩ (.slice ta5 nt tc5)) lo8 hi8 (.slice sa5 ns sc5) (.slice la5 nl lc5) (.slice ta5 nt tc5) nb := (OwnBd.cell (OwnBd.cell (OwnBd.cell (OwnBd.cell (OwnBd.cell XQ.out (r := g8) (j := 0) XE1 _) (r := g8) (j := 1) XE1 _) (r := g8) (j := 2) XE1 _) (r := g8) (j := 3) XE1 _) (r := g8) (j := 4) XE1 _)
    have h_Z : hi8 ≤ (((((V.setCell ⟨g8, 0, none⟩ (.int .i64 nf)).setCell ⟨g8, 1, none⟩ (.int .i64 ne)).setCell ⟨g8, 2, none⟩ (.slice sa5 ns sc5)).setCell ⟨g8, 3, none⟩ (.slice la5 nl lc5)).setCell ⟨g8, 4, none⟩ (.slice ta5 nt tc5)).heap.size := by simpa using XE4
    refine wpAnyH_ready (rs := [9]) (by kernel_rfl) (by simp) ?_
    refine AllReadyH.cons (o := _) rfl (fun K hK => ?_) AllReadyH.nil
    go_simp
    refine hK.out _ _ ?_ (fun hHeld => ?_)
    · exact ⟨(cA.later (h_B)).1.1, (cA.later (h_B)).1.2.1, (cA.later (h_B)).1.2.2.1, (cA.later (h_B)).1.2.2.2.1, (cA.later (h_B)).1.2.2.2.2, (cT.later (h_B)).1.1, (cT.later (h_B)).1.2.1, (cT.later (h_B)).1.2.2⟩
    clear hK K
    try simp only [Act.put, List.setIfInBounds_toArray, List.set_cons_zero, List.set_cons_succ]
    generalize (((((V.setCell ⟨g8, 0, none⟩ (.int .i64 nf)).setCell ⟨g8, 1, none⟩ (.int .i64 ne)).setCell ⟨g8, 2, none⟩ (.slice sa5 ns sc5)).setCell ⟨g8, 3, none⟩ (.slice la5 nl lc5)).setCell ⟨g8, 4, none⟩ (.slice ta5 nt tc5)) = V1 at h_B h_X h_Q h_Z hHeld ⊢
    clear XB X8 XQ ef ce0 cq0 ce1 cq1 ce2 cq2 ce3 cq3 ce4 cq4
    refine takeV13 (i := 10) (oi := _) (v := ?_) (d := some 7) rfl (by kernel_rfl) (by kernel_rfl) (by kernel_rfl) (by kernel_rfl) (fun _ _ _ h => h) (Or.inl ⟨by rfl, ?_⟩) (by assumption) ?_
    rotate_left
    · (intro w hSw; (try dsimp only at hSw); go_simp <;> with_reducible rfl)
    try simp only [Act.put, List.setIfInBounds_toArray, List.set_cons_zero, List.set_cons_succ]
    refine wpAnyH_done (by kernel_rfl) ?_ _
    exact hKK sa9 sc9 la9 lc9 ta9 tc9 sa5 sc5 la5 lc5 ta5 tc5 g8 lo8 hi8 V1 h_X h_Q XE1 XE2 XE3 XE5 h_Z h_B)

end Go.Proofs.Ytaokmjbhgkfnfaa

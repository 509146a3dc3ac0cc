/- What chapter 6 draws: sums to be opened. -/
import Derived.Test.YtobomcmjilcnaaaD6O
namespace Go.Proofs.Ytobomcmjilcnaaa
set_option linter.unusedVariables false
set_option maxRecDepth 1000000
set_option linter.unusedSimpArgs false
open Go.RowKit

def DrawnSum (w : World) (e : Ending) (w' : World) : Prop := ∃ x y a' p c' ps z, e = .returned (.tuple #[.agg #[.int .i64 x, .int .i64 y], .slice a' p c', .int .i64 z]) ∧ p ≤ 6 ∧ ps.length = p ∧ Rd w' a' ps ∧ Below w.heap.size w w'

set_option maxHeartbeats 8000000 in
set_option maxRecDepth 1000000 in
theorem drawOpenSum_c (ao : Option Addr) (n c : Nat) (w : World) (hn : n ≤ 9223372036854775807) (h : CodeOk w w.heap.size ao n) :
    Calls Try.prog 13 #[.slice ao n c] w (DrawnSum w) := by
  obtain ⟨i0, hi, hz0, hz1, hz2⟩ := info_parts Try.infoInt
  obtain ⟨g, hg0⟩ : ∃ g, w.heap.size + 1 = g := ⟨_, rfl⟩
  have HC : Hid (Cur ((w.alloc (.cells #[.int .i64 0, .int .i64 0] 25)).alloc (.cells #[.slice ao n c, .int .i64 0, .int .u64 0] 61)) g ao n c 0) := by
    have h1 := cur_new (w := (w.alloc (.cells #[.int .i64 0, .int .i64 0] 25))) (c := c) 61 hn (h.later (below_one _ _) (by simp))
    show Cur _ _ _ _ _ _
    rw [← hg0]
    simpa using h1
  have HR : Hid (C2 ((w.alloc (.cells #[.int .i64 0, .int .i64 0] 25)).alloc (.cells #[.slice ao n c, .int .i64 0, .int .u64 0] 61)) w.heap.size 0 0) := (c2_new w 0 0 25 w.heap.size rfl).alloc _
  have HB : Hid (Below w.heap.size w ((w.alloc (.cells #[.int .i64 0, .int .i64 0] 25)).alloc (.cells #[.slice ao n c, .int .i64 0, .int .u64 0] 61))) := below_two _ _ _
  have HOld : Hid (Old ao n (w.heap.size + 2)) := old_mono h.old (by omega)
  clear h
  go_enter Try.func13, Try.ntmps13
  go_wp2_with fail
  refine (secrets_c g ao n c 0 _ (by omega) HC.out).mono ?_
  rintro e w1 ⟨a1, q, c1, ss, rfl, hq, hl, ho, hc, hg⟩
  have HL : Hid (ss.length = q) := hl
  have C1 : Hid (Cur w1 g ao n c 100) := hc.mono (by omega)
  have R1 : Hid (C2 w1 w.heap.size 0 0) := HR.out.gb hg (by omega)
  have B1 : Hid (Below w.heap.size w w1) := HB.out.trans (hg.below (by simp; omega) (by omega))
  have S1 : Hid (Own w1 (g + 1) (.slice a1 q c1) ss) := ho.mono (by simp; omega)
  clear hl ho hc hg HC HR HB
  go_wp2_with fail
  refine (sealed_c g ao n c 100 _ (by omega) C1.out).mono ?_
  rintro e w2 ⟨x, y, rfl, hc, hg⟩
  have CV : Hid (Cur (w2.alloc (Obj.cells #[Value.int .i64 x, Value.int .i64 y] 25)) g ao n c 140) := (hc.mono (by omega)).alloc _
  have BV : Hid (Below w.heap.size w (w2.alloc (Obj.cells #[Value.int .i64 x, Value.int .i64 y] 25))) := by
    have h2 := B1.out.trans (hg.below B1.out.size (by omega))
    exact h2.alloc h2.size _
  have SV : Hid (Own (w2.alloc (Obj.cells #[Value.int .i64 x, Value.int .i64 y] 25)) (g + 1) (.slice a1 q c1) ss) := (S1.out.kept hg (sep_own S1.out (by omega))).later (below_one _ _)
  have RV : Hid (C2 (w2.alloc (Obj.cells #[Value.int .i64 x, Value.int .i64 y] 25)) w.heap.size 0 0) := (R1.out.gb hg (by omega)).alloc _
  have XV : Hid (C2 (w2.alloc (Obj.cells #[Value.int .i64 x, Value.int .i64 y] 25)) w2.heap.size x y) := c2_new w2 x y 25 w2.heap.size rfl
  have hgs : g < w2.heap.size := hc.lt
  have HSX : Hid ((Value.slice a1 q c1).ownBlock = none ∨ (Value.slice a1 q c1).ownBlock ≠ some w2.heap.size) := sep_top (S1.out.kept hg (sep_own S1.out (by omega))) (Nat.le_refl _)
  clear hc hg C1 R1 B1 S1
  have hk := specKey_c a1 q c1 ss (w2.alloc (Obj.cells #[Value.int .i64 x, Value.int .i64 y] 25)) HL.out (by omega) SV.out.rd'.2
  generalize (if secsB ss = true then keyI ss else 0) = kv at hk
  generalize secsB ss = kb at hk
  obtain ⟨g7, hg7⟩ : ∃ g7, w2.heap.size = g7 := ⟨_, rfl⟩
  rw [hg7] at XV hgs HSX
  go_wp2_with fail
  refine hk.mono ?_
  clear hk
  rintro e w' ⟨rfl, hw⟩
  subst w'
  obtain ⟨V, hV⟩ : ∃ V, w2.alloc (Obj.cells #[Value.int .i64 x, Value.int .i64 y] 25) = V := ⟨_, rfl⟩
  rw [hV] at CV BV SV RV XV ⊢
  clear hV hg7
  cases kb
  · have CW : Hid (Cur V g ao n c 1000) := CV.out.mono (by omega)
    have RW := RV
    have XW := XV
    have SW := SV
    have BW := BV
    clear CV RV XV SV BV
    obtain ⟨W, rfl⟩ : ∃ W : World, W = V := ⟨_, rfl⟩
    go_wp2
    go_loopw [12, 48] (fun v i wr => ∃ (k : Nat) (ps : List Int), k ≤ q ∧ i = .int .i64 k ∧ ps.length ≤ k ∧ Hid (Own wr W.heap.size v ps) ∧ Hid (Below W.heap.size W wr)) (fun _ i _ => q - (intOf i).toNat)
    case atStart => exact ⟨0, [], Nat.zero_le _, rfl, Nat.le_refl _, World.ownsRow_nil _ _ _ _, Below.refl _ _⟩
    case round =>
      obtain ⟨k, ps, hk, rfl, hpk, hO, hB⟩ := hrel
      by_cases hlt : k < q
      · obtain ⟨b, o, rfl, g1⟩ := Rd.get (k := k) (SW.out.rd'.2.later hB.out) (by rw [HL.out]; exact hlt)
        generalize ss.getD k 0 = sv at g1
        have qw := specPart_c sv (x) (y) wr
        generalize partI sv (x) (y) = pv at qw
        generalize openB sv (x) (y) = pb at qw
        obtain ⟨e0, e1, e2, e3⟩ := XW.out.keep hB.out
        go_wp2_with fail
        refine qw.mono ?_
        clear qw e0 e1 e2 e3 g1
        rintro e wa ⟨rfl, hb⟩
        have HBa : Hid (Below W.heap.size W wa) := hB.out.trans (hb.mono hB.out.size)
        have hOa : Hid (Own wa W.heap.size u12 ps) := hO.out.later hb
        clear hb hO hB
        cases pb
        · go_wp2
          go_roundw
          case rel => exact ⟨k + 1, ps, by omega, by go_num, by omega, hOa, HBa⟩
          case measure => simp [intOf]; omega
        · obtain ⟨p, hp⟩ : ∃ p, ps.length = p := ⟨_, rfl⟩
          have HP : Hid (ps.length = p) := hp
          rw [hp] at hpk
          have hown : wa.ownsRow W.heap.size 3 1 u12 p (cellsI ps) := by have h := hOa.out; unfold Own at h; rw [hp] at h; exact h
          have hob : ∀ k', u12.ownBlock = some k' → W.heap.size ≤ k' := own_block_ge hOa.out
          clear hp
          go_wp2_with (at_builtin; refine wpList_append_own _ rfl _ _ 23 rfl W.heap.size 3 i0 (.int .i64 0) 1 8 Try.underlying23 hi hz0 hz1 hz2 rfl (by decide) _ _ _ rfl (hown.alloc _) ⟨wa.heap.size, 0, none⟩ 1 1 [.int .i64 pv] rfl rfl (cell_new1 _ _ _) (ints_oneCell .i64 [pv]) (by unfold maxLen; omega) (by omega) (by have := HBa.out.size; simp; omega) ?_; intro v' wb hown' hgrow _; have HO' : Hid (Own wb W.heap.size v' (ps ++ [pv])) := own_push (w := wa) (v := u12) (by simpa [HP.out] using hown'); have HB' : Hid (Below W.heap.size W wb) := (HBa.out.alloc HBa.out.size _).grown hgrow (by have := HBa.out.size; simp; omega) (fun k' e => hob k' e); clear hown' hgrow)
          go_roundw
          case rel => exact ⟨k + 1, ps ++ [pv], by omega, by go_num, by rw [List.length_append, HP.out]; simp; omega, HO', HB'⟩
          case measure => simp [intOf]; omega
      · obtain rfl : k = q := by omega
        obtain ⟨a', c', hv⟩ := hO.out.shape
        obtain ⟨p, hp⟩ : ∃ p, ps.length = p := ⟨_, rfl⟩
        rw [hp] at hv
        subst hv
        have HP : Hid (ps.length = p) := hp
        rw [hp] at hpk
        clear hp
        have CR : Hid (Cur wr g ao n c 1000) := CW.out.later hB.out
        have RR : Hid (C2 wr w.heap.size 0 0) := RW.out.keep hB.out
        have XR : Hid (C2 wr g7 (x) (y)) := XW.out.keep hB.out
        have BR : Hid (Below w.heap.size w wr) := BW.out.trans (hB.out.mono BW.out.size)
        have hWr := hB.out.size
        have hcl := CR.out.lt
        have hxl := XR.out.lt
        have hrl := RR.out.lt
        have hgW : g < W.heap.size := CW.out.lt
        have hrW : w.heap.size < W.heap.size := RW.out.lt
        clear hB CW RW XW SW BW
        have hlit : ∀ j, j < 5 → ∃ y, (wr.alloc (.cells #[.int .i64 (-1), .int .i64 0, .int .i64 3, .int .i64 100, .int .i64 101] 3)).cell? ⟨wr.heap.size, j, none⟩ = some (.int .i64 y) ∧ True := lit_cells (fun _ => True) wr #[.int .i64 (-1), .int .i64 0, .int .i64 3, .int .i64 100, .int .i64 101] 3 5 rfl ⟨trivial, trivial, trivial, trivial, trivial, trivial⟩
        have HLIT : Hid (∀ j, j < 5 → ∃ y, (wr.alloc (.cells #[.int .i64 (-1), .int .i64 0, .int .i64 3, .int .i64 100, .int .i64 101] 3)).drew.cell? ⟨wr.heap.size, j, none⟩ = some (.int .i64 y) ∧ True) := hlit
        clear hlit
        obtain ⟨e0, e1, e2, e3⟩ := XR.out
        go_wp2_with fail
        go_region_held3 (fun w' => w'.cell? ⟨g7, 0, none⟩ = some (.int .i64 (x)) ∧ w'.cell? ⟨g7, 1, none⟩ = some (.int .i64 (y))) (first | exact ⟨f0, f1⟩ | exact ⟨calloc e0, calloc e1⟩ | exact ⟨((XC.out.other (by omega) _ _).other (by omega) _ _).1, ((XC.out.other (by omega) _ _).other (by omega) _ _).2.1⟩ | go_keep) (first
          | (go_at_call 51; refine (among_p (fun _ => True) g ao n c 1000 wr.heap.size 5 _ (by omega) (by omega) HLIT.out (by omega) ((CR.out.alloc _).later (Below.refl _ _).drew)).mono ?_; rintro e wc ⟨zz, rfl, _, hc1, hg1⟩; have RC : Hid (C2 wc w.heap.size 0 0) := (C2.drew (RR.out.alloc _)).gb hg1 (by omega); have XC : Hid (C2 wc g7 (x) (y)) := (C2.drew (XR.out.alloc _)).gb hg1 (by omega); have BC : Hid (Below w.heap.size w wc) := (BR.out.alloc BR.out.size _).drew.trans (hg1.below (by have := BR.out.size; simp; omega) (by omega)); have OC : Hid (Own wc W.heap.size (.slice a' p c') ps) := ((hO.out.later (balloc wr _)).later (Below.refl _ _).drew).kept hg1 (sep_own hO.out (by omega)); obtain ⟨f0, f1, f2, f3⟩ := XC.out; obtain ⟨r0, r1, r2, r3⟩ := RC.out; have rl := RC.out.lt; clear hc1 hg1))
        all_goals go_wp2
        all_goals have hg1 := grown_set wc w.heap.size 0 (.int .i64 (x))
        all_goals have hg2 := grown_set (wc.setCell ⟨w.heap.size, 0, none⟩ (.int .i64 (x))) w.heap.size 1 (.int .i64 (y))
        all_goals have O3 := OC.out.kept hg1 (sep_own OC.out (by omega))
        all_goals have O4 := O3.kept hg2 (sep_own O3 (by omega))
        all_goals refine bodyPost_ret (v := .tuple #[.agg #[.int .i64 (x), .int .i64 (y)], .slice a' p c', .int .i64 zz]) (by simp [results, Try.results13, go_sem, r0, r1]; try rfl) rfl ?_
        all_goals exact ⟨(x), (y), a', p, c', ps, zz, rfl, by omega, HP.out, O4.rd'.2, (BC.out.setCell (p := ⟨w.heap.size, 0, none⟩) (Nat.le_refl _) _).setCell (p := ⟨w.heap.size, 1, none⟩) (Nat.le_refl _) _⟩
  · go_wp2_with fail
    refine (pick_c g ao n c 140 200 _ (by omega) (by omega) CV.out).mono ?_
    rintro e w3 ⟨z, rfl, hzz0, hzz1, hc, hg⟩
    have C3 : Hid (Cur w3 g ao n c 142) := hc.mono (by omega)
    have B3 : Hid (Below w.heap.size w w3) := BV.out.trans (hg.below BV.out.size (by omega))
    have S3 : Hid (Own w3 (g + 1) (.slice a1 q c1) ss) := SV.out.kept hg (sep_own SV.out (by omega))
    have R3 : Hid (C2 w3 w.heap.size 0 0) := RV.out.gb hg (by omega)
    have X3 : Hid (C2 w3 g7 x y) := XV.out.gb hg (by omega)
    clear hc hg CV BV SV RV XV
    go_wp2_with fail
    refine (pick_c g ao n c 142 4 _ (by omega) (by omega) C3.out).mono ?_
    rintro e w4 ⟨z4, rfl, hz40, hz41, hc, hg⟩
    have C4 : Hid (Cur w4 g ao n c 144) := hc.mono (by omega)
    have B4 : Hid (Below w.heap.size w w4) := B3.out.trans (hg.below B3.out.size (by omega))
    have S4 : Hid (Own w4 (g + 1) (.slice a1 q c1) ss) := S3.out.kept hg (sep_own S3.out (by omega))
    have R4 : Hid (C2 w4 w.heap.size 0 0) := R3.out.gb hg (by omega)
    have X4 : Hid (C2 w4 g7 x y) := X3.out.gb hg (by omega)
    clear hc hg C3 B3 S3 R3 X3
    have hcv := specVote_c kv (1 + z) z4 w4
    generalize voteX kv (1 + z) z4 = vx at hcv
    generalize voteY kv (1 + z) z4 = vy at hcv
    generalize voteB kv (1 + z) z4 = vb at hcv
    go_wp2_with fail
    refine hcv.mono ?_
    clear hcv
    rintro e w5 ⟨rfl, hb⟩
    have CU : Hid (Cur (w5.alloc (Obj.cells #[Value.int .i64 vx, Value.int .i64 vy] 25)) g ao n c 144) := (C4.out.later hb).alloc _
    have BU : Hid (Below w.heap.size w (w5.alloc (Obj.cells #[Value.int .i64 vx, Value.int .i64 vy] 25))) := by
      have h2 := B4.out.trans (hb.mono B4.out.size)
      exact h2.alloc h2.size _
    have SU : Hid (Own (w5.alloc (Obj.cells #[Value.int .i64 vx, Value.int .i64 vy] 25)) (g + 1) (.slice a1 q c1) ss) := (S4.out.later hb).later (below_one _ _)
    have RU : Hid (C2 (w5.alloc (Obj.cells #[Value.int .i64 vx, Value.int .i64 vy] 25)) w.heap.size 0 0) := (R4.out.keep hb).alloc _
    have XU : Hid (C2 (w5.alloc (Obj.cells #[Value.int .i64 vx, Value.int .i64 vy] 25)) g7 x y) := (X4.out.keep hb).alloc _
    have YU : Hid (C2 (w5.alloc (Obj.cells #[Value.int .i64 vx, Value.int .i64 vy] 25)) w5.heap.size vx vy) := c2_new w5 vx vy 25 w5.heap.size rfl
    have h75 : g7 < w5.heap.size := (X4.out.keep hb).lt
    have hg5 : g < w5.heap.size := by omega
    clear hb C4 B4 S4 R4 X4
    cases vb
    · have CW : Hid (Cur (w5.alloc (Obj.cells #[Value.int .i64 vx, Value.int .i64 vy] 25)) g ao n c 1000) := CU.out.mono (by omega)
      have RW := RU
      have XW := XU
      have SW := SU
      have BW := BU
      clear CU RU XU SU BU YU
      go_wp2
      obtain ⟨W, hW⟩ : ∃ W, w5.alloc (Obj.cells #[Value.int .i64 vx, Value.int .i64 vy] 25) = W := ⟨_, rfl⟩
      rw [hW] at CW RW XW SW BW ⊢
      clear hW
      go_wp2
      go_loopw [12, 48] (fun v i wr => ∃ (k : Nat) (ps : List Int), k ≤ q ∧ i = .int .i64 k ∧ ps.length ≤ k ∧ Hid (Own wr W.heap.size v ps) ∧ Hid (Below W.heap.size W wr)) (fun _ i _ => q - (intOf i).toNat)
      case atStart => exact ⟨0, [], Nat.zero_le _, rfl, Nat.le_refl _, World.ownsRow_nil _ _ _ _, Below.refl _ _⟩
      case round =>
        obtain ⟨k, ps, hk, rfl, hpk, hO, hB⟩ := hrel
        by_cases hlt : k < q
        · obtain ⟨b, o, rfl, g1⟩ := Rd.get (k := k) (SW.out.rd'.2.later hB.out) (by rw [HL.out]; exact hlt)
          generalize ss.getD k 0 = sv at g1
          have qw := specPart_c sv (x) (y) wr
          generalize partI sv (x) (y) = pv at qw
          generalize openB sv (x) (y) = pb at qw
          obtain ⟨e0, e1, e2, e3⟩ := XW.out.keep hB.out
          go_wp2_with fail
          refine qw.mono ?_
          clear qw e0 e1 e2 e3 g1
          rintro e wa ⟨rfl, hb⟩
          have HBa : Hid (Below W.heap.size W wa) := hB.out.trans (hb.mono hB.out.size)
          have hOa : Hid (Own wa W.heap.size u12 ps) := hO.out.later hb
          clear hb hO hB
          cases pb
          · go_wp2
            go_roundw
            case rel => exact ⟨k + 1, ps, by omega, by go_num, by omega, hOa, HBa⟩
            case measure => simp [intOf]; omega
          · obtain ⟨p, hp⟩ : ∃ p, ps.length = p := ⟨_, rfl⟩
            have HP : Hid (ps.length = p) := hp
            rw [hp] at hpk
            have hown : wa.ownsRow W.heap.size 3 1 u12 p (cellsI ps) := by have h := hOa.out; unfold Own at h; rw [hp] at h; exact h
            have hob : ∀ k', u12.ownBlock = some k' → W.heap.size ≤ k' := own_block_ge hOa.out
            clear hp
            go_wp2_with (at_builtin; refine wpList_append_own _ rfl _ _ 23 rfl W.heap.size 3 i0 (.int .i64 0) 1 8 Try.underlying23 hi hz0 hz1 hz2 rfl (by decide) _ _ _ rfl (hown.alloc _) ⟨wa.heap.size, 0, none⟩ 1 1 [.int .i64 pv] rfl rfl (cell_new1 _ _ _) (ints_oneCell .i64 [pv]) (by unfold maxLen; omega) (by omega) (by have := HBa.out.size; simp; omega) ?_; intro v' wb hown' hgrow _; have HO' : Hid (Own wb W.heap.size v' (ps ++ [pv])) := own_push (w := wa) (v := u12) (by simpa [HP.out] using hown'); have HB' : Hid (Below W.heap.size W wb) := (HBa.out.alloc HBa.out.size _).grown hgrow (by have := HBa.out.size; simp; omega) (fun k' e => hob k' e); clear hown' hgrow)
            go_roundw
            case rel => exact ⟨k + 1, ps ++ [pv], by omega, by go_num, by rw [List.length_append, HP.out]; simp; omega, HO', HB'⟩
            case measure => simp [intOf]; omega
        · obtain rfl : k = q := by omega
          obtain ⟨a', c', hv⟩ := hO.out.shape
          obtain ⟨p, hp⟩ : ∃ p, ps.length = p := ⟨_, rfl⟩
          rw [hp] at hv
          subst hv
          have HP : Hid (ps.length = p) := hp
          rw [hp] at hpk
          clear hp
          have CR : Hid (Cur wr g ao n c 1000) := CW.out.later hB.out
          have RR : Hid (C2 wr w.heap.size 0 0) := RW.out.keep hB.out
          have XR : Hid (C2 wr g7 (x) (y)) := XW.out.keep hB.out
          have BR : Hid (Below w.heap.size w wr) := BW.out.trans (hB.out.mono BW.out.size)
          have hWr := hB.out.size
          have hcl := CR.out.lt
          have hxl := XR.out.lt
          have hrl := RR.out.lt
          have hgW : g < W.heap.size := CW.out.lt
          have hrW : w.heap.size < W.heap.size := RW.out.lt
          clear hB CW RW XW SW BW
          have hlit : ∀ j, j < 5 → ∃ y, (wr.alloc (.cells #[.int .i64 (-1), .int .i64 0, .int .i64 3, .int .i64 100, .int .i64 101] 3)).cell? ⟨wr.heap.size, j, none⟩ = some (.int .i64 y) ∧ True := lit_cells (fun _ => True) wr #[.int .i64 (-1), .int .i64 0, .int .i64 3, .int .i64 100, .int .i64 101] 3 5 rfl ⟨trivial, trivial, trivial, trivial, trivial, trivial⟩
          have HLIT : Hid (∀ j, j < 5 → ∃ y, (wr.alloc (.cells #[.int .i64 (-1), .int .i64 0, .int .i64 3, .int .i64 100, .int .i64 101] 3)).drew.cell? ⟨wr.heap.size, j, none⟩ = some (.int .i64 y) ∧ True) := hlit
          clear hlit
          obtain ⟨e0, e1, e2, e3⟩ := XR.out
          go_wp2_with fail
          go_region_held3 (fun w' => w'.cell? ⟨g7, 0, none⟩ = some (.int .i64 (x)) ∧ w'.cell? ⟨g7, 1, none⟩ = some (.int .i64 (y))) (first | exact ⟨f0, f1⟩ | exact ⟨calloc e0, calloc e1⟩ | exact ⟨((XC.out.other (by omega) _ _).other (by omega) _ _).1, ((XC.out.other (by omega) _ _).other (by omega) _ _).2.1⟩ | go_keep) (first
            | (go_at_call 51; refine (among_p (fun _ => True) g ao n c 1000 wr.heap.size 5 _ (by omega) (by omega) HLIT.out (by omega) ((CR.out.alloc _).later (Below.refl _ _).drew)).mono ?_; rintro e wc ⟨zz, rfl, _, hc1, hg1⟩; have RC : Hid (C2 wc w.heap.size 0 0) := (C2.drew (RR.out.alloc _)).gb hg1 (by omega); have XC : Hid (C2 wc g7 (x) (y)) := (C2.drew (XR.out.alloc _)).gb hg1 (by omega); have BC : Hid (Below w.heap.size w wc) := (BR.out.alloc BR.out.size _).drew.trans (hg1.below (by have := BR.out.size; simp; omega) (by omega)); have OC : Hid (Own wc W.heap.size (.slice a' p c') ps) := ((hO.out.later (balloc wr _)).later (Below.refl _ _).drew).kept hg1 (sep_own hO.out (by omega)); obtain ⟨f0, f1, f2, f3⟩ := XC.out; obtain ⟨r0, r1, r2, r3⟩ := RC.out; have rl := RC.out.lt; clear hc1 hg1))
          all_goals go_wp2
          all_goals have hg1 := grown_set wc w.heap.size 0 (.int .i64 (x))
          all_goals have hg2 := grown_set (wc.setCell ⟨w.heap.size, 0, none⟩ (.int .i64 (x))) w.heap.size 1 (.int .i64 (y))
          all_goals have O3 := OC.out.kept hg1 (sep_own OC.out (by omega))
          all_goals have O4 := O3.kept hg2 (sep_own O3 (by omega))
          all_goals refine bodyPost_ret (v := .tuple #[.agg #[.int .i64 (x), .int .i64 (y)], .slice a' p c', .int .i64 zz]) (by simp [results, Try.results13, go_sem, r0, r1]; try rfl) rfl ?_
          all_goals exact ⟨(x), (y), a', p, c', ps, zz, rfl, by omega, HP.out, O4.rd'.2, (BC.out.setCell (p := ⟨w.heap.size, 0, none⟩) (Nat.le_refl _) _).setCell (p := ⟨w.heap.size, 1, none⟩) (Nat.le_refl _) _⟩
    · go_wp2_with fail
      refine (one_c g ao n c 144 2 _ (by omega) (by omega) CU.out).mono ?_
      rintro e w6 ⟨b2, rfl, hc, hg⟩
      have YW : Hid (C2 w6 w5.heap.size vx vy) := YU.out.gb hg (by omega)
      have C6 : Hid (Cur w6 g ao n c 146) := hc.mono (by omega)
      have B6 : Hid (Below w.heap.size w w6) := BU.out.trans (hg.below BU.out.size (by omega))
      have S6 : Hid (Own w6 (g + 1) (.slice a1 q c1) ss) := SU.out.kept hg (sep_own SU.out (by omega))
      have R6 : Hid (C2 w6 w.heap.size 0 0) := RU.out.gb hg (by omega)
      have X6 : Hid (C2 w6 g7 x y) := XU.out.gb hg (by omega)
      clear hc hg CU BU SU RU XU
      cases b2
      · have CW : Hid (Cur w6 g ao n c 1000) := C6.out.mono (by omega)
        have RW := R6
        have XW := X6
        have SW := S6
        have BW := B6
        clear C6 R6 X6 S6 B6 YW
        obtain ⟨W, rfl⟩ : ∃ W : World, W = w6 := ⟨_, rfl⟩
        go_wp2
        go_loopw [12, 48] (fun v i wr => ∃ (k : Nat) (ps : List Int), k ≤ q ∧ i = .int .i64 k ∧ ps.length ≤ k ∧ Hid (Own wr W.heap.size v ps) ∧ Hid (Below W.heap.size W wr)) (fun _ i _ => q - (intOf i).toNat)
        case atStart => exact ⟨0, [], Nat.zero_le _, rfl, Nat.le_refl _, World.ownsRow_nil _ _ _ _, Below.refl _ _⟩
        case round =>
          obtain ⟨k, ps, hk, rfl, hpk, hO, hB⟩ := hrel
          by_cases hlt : k < q
          · obtain ⟨b, o, rfl, g1⟩ := Rd.get (k := k) (SW.out.rd'.2.later hB.out) (by rw [HL.out]; exact hlt)
            generalize ss.getD k 0 = sv at g1
            have qw := specPart_c sv (x) (y) wr
            generalize partI sv (x) (y) = pv at qw
            generalize openB sv (x) (y) = pb at qw
            obtain ⟨e0, e1, e2, e3⟩ := XW.out.keep hB.out
            go_wp2_with fail
            refine qw.mono ?_
            clear qw e0 e1 e2 e3 g1
            rintro e wa ⟨rfl, hb⟩
            have HBa : Hid (Below W.heap.size W wa) := hB.out.trans (hb.mono hB.out.size)
            have hOa : Hid (Own wa W.heap.size u12 ps) := hO.out.later hb
            clear hb hO hB
            cases pb
            · go_wp2
              go_roundw
              case rel => exact ⟨k + 1, ps, by omega, by go_num, by omega, hOa, HBa⟩
              case measure => simp [intOf]; omega
            · obtain ⟨p, hp⟩ : ∃ p, ps.length = p := ⟨_, rfl⟩
              have HP : Hid (ps.length = p) := hp
              rw [hp] at hpk
              have hown : wa.ownsRow W.heap.size 3 1 u12 p (cellsI ps) := by have h := hOa.out; unfold Own at h; rw [hp] at h; exact h
              have hob : ∀ k', u12.ownBlock = some k' → W.heap.size ≤ k' := own_block_ge hOa.out
              clear hp
              go_wp2_with (at_builtin; refine wpList_append_own _ rfl _ _ 23 rfl W.heap.size 3 i0 (.int .i64 0) 1 8 Try.underlying23 hi hz0 hz1 hz2 rfl (by decide) _ _ _ rfl (hown.alloc _) ⟨wa.heap.size, 0, none⟩ 1 1 [.int .i64 pv] rfl rfl (cell_new1 _ _ _) (ints_oneCell .i64 [pv]) (by unfold maxLen; omega) (by omega) (by have := HBa.out.size; simp; omega) ?_; intro v' wb hown' hgrow _; have HO' : Hid (Own wb W.heap.size v' (ps ++ [pv])) := own_push (w := wa) (v := u12) (by simpa [HP.out] using hown'); have HB' : Hid (Below W.heap.size W wb) := (HBa.out.alloc HBa.out.size _).grown hgrow (by have := HBa.out.size; simp; omega) (fun k' e => hob k' e); clear hown' hgrow)
              go_roundw
              case rel => exact ⟨k + 1, ps ++ [pv], by omega, by go_num, by rw [List.length_append, HP.out]; simp; omega, HO', HB'⟩
              case measure => simp [intOf]; omega
          · obtain rfl : k = q := by omega
            obtain ⟨a', c', hv⟩ := hO.out.shape
            obtain ⟨p, hp⟩ : ∃ p, ps.length = p := ⟨_, rfl⟩
            rw [hp] at hv
            subst hv
            have HP : Hid (ps.length = p) := hp
            rw [hp] at hpk
            clear hp
            have CR : Hid (Cur wr g ao n c 1000) := CW.out.later hB.out
            have RR : Hid (C2 wr w.heap.size 0 0) := RW.out.keep hB.out
            have XR : Hid (C2 wr g7 (x) (y)) := XW.out.keep hB.out
            have BR : Hid (Below w.heap.size w wr) := BW.out.trans (hB.out.mono BW.out.size)
            have hWr := hB.out.size
            have hcl := CR.out.lt
            have hxl := XR.out.lt
            have hrl := RR.out.lt
            have hgW : g < W.heap.size := CW.out.lt
            have hrW : w.heap.size < W.heap.size := RW.out.lt
            clear hB CW RW XW SW BW
            have hlit : ∀ j, j < 5 → ∃ y, (wr.alloc (.cells #[.int .i64 (-1), .int .i64 0, .int .i64 3, .int .i64 100, .int .i64 101] 3)).cell? ⟨wr.heap.size, j, none⟩ = some (.int .i64 y) ∧ True := lit_cells (fun _ => True) wr #[.int .i64 (-1), .int .i64 0, .int .i64 3, .int .i64 100, .int .i64 101] 3 5 rfl ⟨trivial, trivial, trivial, trivial, trivial, trivial⟩
            have HLIT : Hid (∀ j, j < 5 → ∃ y, (wr.alloc (.cells #[.int .i64 (-1), .int .i64 0, .int .i64 3, .int .i64 100, .int .i64 101] 3)).drew.cell? ⟨wr.heap.size, j, none⟩ = some (.int .i64 y) ∧ True) := hlit
            clear hlit
            obtain ⟨e0, e1, e2, e3⟩ := XR.out
            go_wp2_with fail
            go_region_held3 (fun w' => w'.cell? ⟨g7, 0, none⟩ = some (.int .i64 (x)) ∧ w'.cell? ⟨g7, 1, none⟩ = some (.int .i64 (y))) (first | exact ⟨f0, f1⟩ | exact ⟨calloc e0, calloc e1⟩ | exact ⟨((XC.out.other (by omega) _ _).other (by omega) _ _).1, ((XC.out.other (by omega) _ _).other (by omega) _ _).2.1⟩ | go_keep) (first
              | (go_at_call 51; refine (among_p (fun _ => True) g ao n c 1000 wr.heap.size 5 _ (by omega) (by omega) HLIT.out (by omega) ((CR.out.alloc _).later (Below.refl _ _).drew)).mono ?_; rintro e wc ⟨zz, rfl, _, hc1, hg1⟩; have RC : Hid (C2 wc w.heap.size 0 0) := (C2.drew (RR.out.alloc _)).gb hg1 (by omega); have XC : Hid (C2 wc g7 (x) (y)) := (C2.drew (XR.out.alloc _)).gb hg1 (by omega); have BC : Hid (Below w.heap.size w wc) := (BR.out.alloc BR.out.size _).drew.trans (hg1.below (by have := BR.out.size; simp; omega) (by omega)); have OC : Hid (Own wc W.heap.size (.slice a' p c') ps) := ((hO.out.later (balloc wr _)).later (Below.refl _ _).drew).kept hg1 (sep_own hO.out (by omega)); obtain ⟨f0, f1, f2, f3⟩ := XC.out; obtain ⟨r0, r1, r2, r3⟩ := RC.out; have rl := RC.out.lt; clear hc1 hg1))
            all_goals go_wp2
            all_goals have hg1 := grown_set wc w.heap.size 0 (.int .i64 (x))
            all_goals have hg2 := grown_set (wc.setCell ⟨w.heap.size, 0, none⟩ (.int .i64 (x))) w.heap.size 1 (.int .i64 (y))
            all_goals have O3 := OC.out.kept hg1 (sep_own OC.out (by omega))
            all_goals have O4 := O3.kept hg2 (sep_own O3 (by omega))
            all_goals refine bodyPost_ret (v := .tuple #[.agg #[.int .i64 (x), .int .i64 (y)], .slice a' p c', .int .i64 zz]) (by simp [results, Try.results13, go_sem, r0, r1]; try rfl) rfl ?_
            all_goals exact ⟨(x), (y), a', p, c', ps, zz, rfl, by omega, HP.out, O4.rd'.2, (BC.out.setCell (p := ⟨w.heap.size, 0, none⟩) (Nat.le_refl _) _).setCell (p := ⟨w.heap.size, 1, none⟩) (Nat.le_refl _) _⟩
      · obtain ⟨ya, yb, yc, yd⟩ := YW.out
        obtain ⟨xa, xb, xc, xd⟩ := X6.out
        have hs1 := grown_set w6 g7 0 (.int .i64 vx)
        have hs2 := grown_set (w6.setCell ⟨g7, 0, none⟩ (.int .i64 vx)) g7 1 (.int .i64 vy)
        have hgw : g7 < w6.heap.size := X6.out.lt
        have CW : Hid (Cur ((w6.setCell ⟨g7, 0, none⟩ (.int .i64 vx)).setCell ⟨g7, 1, none⟩ (.int .i64 vy)) g ao n c 1000) := ((C6.out.grown (B := w.heap.size + 2) hs1 (fun k hk => by simp at hk; omega) (by omega) HOld.out).grown (B := w.heap.size + 2) hs2 (fun k hk => by simp at hk; omega) (by omega) HOld.out).mono (by omega)
        have RW : Hid (C2 ((w6.setCell ⟨g7, 0, none⟩ (.int .i64 vx)).setCell ⟨g7, 1, none⟩ (.int .i64 vy)) w.heap.size 0 0) := (R6.out.other (by omega) _ _).other (by omega) _ _
        have XW : Hid (C2 ((w6.setCell ⟨g7, 0, none⟩ (.int .i64 vx)).setCell ⟨g7, 1, none⟩ (.int .i64 vy)) g7 vx vy) := X6.out.set _ _
        have BW : Hid (Below w.heap.size w ((w6.setCell ⟨g7, 0, none⟩ (.int .i64 vx)).setCell ⟨g7, 1, none⟩ (.int .i64 vy))) := (B6.out.setCell (p := ⟨g7, 0, none⟩) (by simp; omega) _).setCell (p := ⟨g7, 1, none⟩) (by simp; omega) _
        have hsep : (Value.slice a1 q c1).ownBlock = none ∨ (Value.slice a1 q c1).ownBlock ≠ some g7 := HSX.out
        have SW : Hid (Own ((w6.setCell ⟨g7, 0, none⟩ (.int .i64 vx)).setCell ⟨g7, 1, none⟩ (.int .i64 vy)) (g + 1) (.slice a1 q c1) ss) := (S6.out.kept hs1 hsep).kept hs2 hsep
        clear hs1 hs2 C6 R6 X6 S6 B6 YW hsep
        go_wp2
        obtain ⟨W, hW⟩ : ∃ W, (w6.setCell ⟨g7, 0, none⟩ (.int .i64 vx)).setCell ⟨g7, 1, none⟩ (.int .i64 vy) = W := ⟨_, rfl⟩
        rw [hW] at CW RW XW SW BW ⊢
        clear hW
        go_wp2
        go_loopw [12, 48] (fun v i wr => ∃ (k : Nat) (ps : List Int), k ≤ q ∧ i = .int .i64 k ∧ ps.length ≤ k ∧ Hid (Own wr W.heap.size v ps) ∧ Hid (Below W.heap.size W wr)) (fun _ i _ => q - (intOf i).toNat)
        case atStart => exact ⟨0, [], Nat.zero_le _, rfl, Nat.le_refl _, World.ownsRow_nil _ _ _ _, Below.refl _ _⟩
        case round =>
          obtain ⟨k, ps, hk, rfl, hpk, hO, hB⟩ := hrel
          by_cases hlt : k < q
          · obtain ⟨b, o, rfl, g1⟩ := Rd.get (k := k) (SW.out.rd'.2.later hB.out) (by rw [HL.out]; exact hlt)
            generalize ss.getD k 0 = sv at g1
            have qw := specPart_c sv (vx) (vy) wr
            generalize partI sv (vx) (vy) = pv at qw
            generalize openB sv (vx) (vy) = pb at qw
            obtain ⟨e0, e1, e2, e3⟩ := XW.out.keep hB.out
            go_wp2_with fail
            refine qw.mono ?_
            clear qw e0 e1 e2 e3 g1
            rintro e wa ⟨rfl, hb⟩
            have HBa : Hid (Below W.heap.size W wa) := hB.out.trans (hb.mono hB.out.size)
            have hOa : Hid (Own wa W.heap.size u12 ps) := hO.out.later hb
            clear hb hO hB
            cases pb
            · go_wp2
              go_roundw
              case rel => exact ⟨k + 1, ps, by omega, by go_num, by omega, hOa, HBa⟩
              case measure => simp [intOf]; omega
            · obtain ⟨p, hp⟩ : ∃ p, ps.length = p := ⟨_, rfl⟩
              have HP : Hid (ps.length = p) := hp
              rw [hp] at hpk
              have hown : wa.ownsRow W.heap.size 3 1 u12 p (cellsI ps) := by have h := hOa.out; unfold Own at h; rw [hp] at h; exact h
              have hob : ∀ k', u12.ownBlock = some k' → W.heap.size ≤ k' := own_block_ge hOa.out
              clear hp
              go_wp2_with (at_builtin; refine wpList_append_own _ rfl _ _ 23 rfl W.heap.size 3 i0 (.int .i64 0) 1 8 Try.underlying23 hi hz0 hz1 hz2 rfl (by decide) _ _ _ rfl (hown.alloc _) ⟨wa.heap.size, 0, none⟩ 1 1 [.int .i64 pv] rfl rfl (cell_new1 _ _ _) (ints_oneCell .i64 [pv]) (by unfold maxLen; omega) (by omega) (by have := HBa.out.size; simp; omega) ?_; intro v' wb hown' hgrow _; have HO' : Hid (Own wb W.heap.size v' (ps ++ [pv])) := own_push (w := wa) (v := u12) (by simpa [HP.out] using hown'); have HB' : Hid (Below W.heap.size W wb) := (HBa.out.alloc HBa.out.size _).grown hgrow (by have := HBa.out.size; simp; omega) (fun k' e => hob k' e); clear hown' hgrow)
              go_roundw
              case rel => exact ⟨k + 1, ps ++ [pv], by omega, by go_num, by rw [List.length_append, HP.out]; simp; omega, HO', HB'⟩
              case measure => simp [intOf]; omega
          · obtain rfl : k = q := by omega
            obtain ⟨a', c', hv⟩ := hO.out.shape
            obtain ⟨p, hp⟩ : ∃ p, ps.length = p := ⟨_, rfl⟩
            rw [hp] at hv
            subst hv
            have HP : Hid (ps.length = p) := hp
            rw [hp] at hpk
            clear hp
            have CR : Hid (Cur wr g ao n c 1000) := CW.out.later hB.out
            have RR : Hid (C2 wr w.heap.size 0 0) := RW.out.keep hB.out
            have XR : Hid (C2 wr g7 (vx) (vy)) := XW.out.keep hB.out
            have BR : Hid (Below w.heap.size w wr) := BW.out.trans (hB.out.mono BW.out.size)
            have hWr := hB.out.size
            have hcl := CR.out.lt
            have hxl := XR.out.lt
            have hrl := RR.out.lt
            have hgW : g < W.heap.size := CW.out.lt
            have hrW : w.heap.size < W.heap.size := RW.out.lt
            clear hB CW RW XW SW BW
            have hlit : ∀ j, j < 5 → ∃ y, (wr.alloc (.cells #[.int .i64 (-1), .int .i64 0, .int .i64 3, .int .i64 100, .int .i64 101] 3)).cell? ⟨wr.heap.size, j, none⟩ = some (.int .i64 y) ∧ True := lit_cells (fun _ => True) wr #[.int .i64 (-1), .int .i64 0, .int .i64 3, .int .i64 100, .int .i64 101] 3 5 rfl ⟨trivial, trivial, trivial, trivial, trivial, trivial⟩
            have HLIT : Hid (∀ j, j < 5 → ∃ y, (wr.alloc (.cells #[.int .i64 (-1), .int .i64 0, .int .i64 3, .int .i64 100, .int .i64 101] 3)).drew.cell? ⟨wr.heap.size, j, none⟩ = some (.int .i64 y) ∧ True) := hlit
            clear hlit
            obtain ⟨e0, e1, e2, e3⟩ := XR.out
            go_wp2_with fail
            go_region_held3 (fun w' => w'.cell? ⟨g7, 0, none⟩ = some (.int .i64 (vx)) ∧ w'.cell? ⟨g7, 1, none⟩ = some (.int .i64 (vy))) (first | exact ⟨f0, f1⟩ | exact ⟨calloc e0, calloc e1⟩ | exact ⟨((XC.out.other (by omega) _ _).other (by omega) _ _).1, ((XC.out.other (by omega) _ _).other (by omega) _ _).2.1⟩ | go_keep) (first
              | (go_at_call 51; refine (among_p (fun _ => True) g ao n c 1000 wr.heap.size 5 _ (by omega) (by omega) HLIT.out (by omega) ((CR.out.alloc _).later (Below.refl _ _).drew)).mono ?_; rintro e wc ⟨zz, rfl, _, hc1, hg1⟩; have RC : Hid (C2 wc w.heap.size 0 0) := (C2.drew (RR.out.alloc _)).gb hg1 (by omega); have XC : Hid (C2 wc g7 (vx) (vy)) := (C2.drew (XR.out.alloc _)).gb hg1 (by omega); have BC : Hid (Below w.heap.size w wc) := (BR.out.alloc BR.out.size _).drew.trans (hg1.below (by have := BR.out.size; simp; omega) (by omega)); have OC : Hid (Own wc W.heap.size (.slice a' p c') ps) := ((hO.out.later (balloc wr _)).later (Below.refl _ _).drew).kept hg1 (sep_own hO.out (by omega)); obtain ⟨f0, f1, f2, f3⟩ := XC.out; obtain ⟨r0, r1, r2, r3⟩ := RC.out; have rl := RC.out.lt; clear hc1 hg1))
            all_goals go_wp2
            all_goals have hg1 := grown_set wc w.heap.size 0 (.int .i64 (vx))
            all_goals have hg2 := grown_set (wc.setCell ⟨w.heap.size, 0, none⟩ (.int .i64 (vx))) w.heap.size 1 (.int .i64 (vy))
            all_goals have O3 := OC.out.kept hg1 (sep_own OC.out (by omega))
            all_goals have O4 := O3.kept hg2 (sep_own O3 (by omega))
            all_goals refine bodyPost_ret (v := .tuple #[.agg #[.int .i64 (vx), .int .i64 (vy)], .slice a' p c', .int .i64 zz]) (by simp [results, Try.results13, go_sem, r0, r1]; try rfl) rfl ?_
            all_goals exact ⟨(vx), (vy), a', p, c', ps, zz, rfl, by omega, HP.out, O4.rd'.2, (BC.out.setCell (p := ⟨w.heap.size, 0, none⟩) (Nat.le_refl _) _).setCell (p := ⟨w.heap.size, 1, none⟩) (Nat.le_refl _) _⟩

end Go.Proofs.Ytobomcmjilcnaaa

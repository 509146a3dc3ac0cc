/- What chapter 6 draws: numbers to be opened, logs, votes, parts. -/
import Derived.Test.YtobomcmjilcnaaaD6
import Derived.Test.YtobomcmjilcnaaaD2T
import Derived.Test.YtobomcmjilcnaaaS6O
namespace Go.Proofs.Ytobomcmjilcnaaa
set_option linter.unusedVariables false
set_option maxRecDepth 1000000
set_option linter.unusedSimpArgs false
open Go.RowKit

theorem C2.grown {w w' : World} {r : Nat} {x y : Int} {row : Option Nat} (h : C2 w r x y) (hg : w.grownBy w' row) (hne : some r ≠ row) : C2 w' r x y := by
  obtain ⟨c0, c1, f0, f1⟩ := h
  have hlt : r < w.heap.size := World.block_lt_of_cell? w _ c0
  refine ⟨hg.cell (a := ⟨r, 0, none⟩) c0 hne, hg.cell (a := ⟨r, 1, none⟩) c1 hne, ?_, ?_⟩
  · rw [World.frozen?_of_block (w := w) (hg.block r hlt hne)]; exact f0
  · rw [World.frozen?_of_block (w := w) (hg.block r hlt hne)]; exact f1
theorem C2.gb {w w' : World} {r g : Nat} {x y : Int} (h : C2 w r x y) (hg : GB g w w') (hne : r ≠ g) : C2 w' r x y := h.grown hg (by simpa using hne)
theorem sep_ownP {w : World} {base g : Nat} {v : Value} {xs : List (Int × Int)} (h : OwnP w base v xs) (hg : g < base) : v.ownBlock = none ∨ v.ownBlock ≠ some g := by
  rcases hb : v.ownBlock with _ | b
  · exact Or.inl rfl
  · exact Or.inr (fun e => by have := own_block_geP h b hb; simp at e; omega)
theorem own_someP {w : World} {base n c : Nat} {ao : Option Addr} {xs : List (Int × Int)} (h : OwnP w base (.slice ao n c) xs) (h0 : 0 < n) : ∃ g, ao = some ⟨g, 0, none⟩ ∧ base ≤ g := by
  have hl := h.rd'.1
  rcases h.form with ⟨_, h2⟩ | ⟨g, cap, h1, h2, _⟩
  · rw [h2] at hl; simp at hl; omega
  · simp only [Value.slice.injEq] at h1
    exact ⟨g, h1.1, h2⟩
theorem own_setP {w : World} {base g r cap : Nat} {l : List (Int × Int)} (h : OwnP w base (.slice (some ⟨g, 0, none⟩) r cap) l) (x y : Int) : OwnP ((w.setCell ⟨g, 0, none⟩ (.int .i64 x)).setCell ⟨g, 1, none⟩ (.int .i64 y)) base (.slice (some ⟨g, 0, none⟩) r cap) (l.set 0 (x, y)) := by
  have hr := h.rd'.1
  have hst := World.ownsRow.stored (World.ownsRow.stored (by have h' := h; unfold OwnP at h'; rw [hr] at h'; exact h' : w.ownsRow base 25 2 (.slice (some ⟨g, 0, none⟩) r cap) r (cellsP l)) (0 * 2) (.int .i64 x)).1 (0 * 2 + 1) (.int .i64 y)
  rw [cellsP_set] at hst
  unfold OwnP
  rw [List.length_set, hr]
  exact hst.1

set_option maxHeartbeats 2000000 in
theorem drawOpenPart_c (ao : Option Addr) (n c : Nat) (w : World) (hn : n ≤ 9223372036854775807) (h : CodeOk w w.heap.size ao n) :
    Calls Try.prog 22 #[.slice ao n c] w fun e w' => ∃ x1 x2 x3 : Int, e = .returned (.tuple #[.int .i64 x1, .agg #[.int .i64 x2, .int .i64 x3]]) ∧ Below w.heap.size w w' := by
  have hd := drawOpenNumber_c ao n c (w.alloc (Obj.cells #[Value.int .i64 0, Value.int .i64 0] 25)) hn (h.later (below_one _ _) (by simp))
  clear h
  go_enter Try.func22, Try.ntmps22
  go_wp2_with fail
  refine hd.mono ?_
  clear hd
  rintro e w1 ⟨x1, x2, x3, rfl, hb⟩
  have HB1 : Hid (Below w.heap.size w w1) := (below_one w _).trans (hb.mono (by simp))
  obtain ⟨c1, c2, c3, c4⟩ := (c2_new w 0 0 25 w.heap.size rfl).keep hb
  clear hb
  go_wp2
  refine bodyPost_ret (v := .tuple #[.int .i64 x1, .agg #[.int .i64 x2, .int .i64 x3]]) (by simp [results, Try.results22, go_sem, c1, c2]; try rfl) rfl ?_
  exact ⟨x1, x2, x3, rfl, (HB1.out.setCell (p := ⟨w.heap.size, 0, none⟩) (Nat.le_refl _) _).setCell (p := ⟨w.heap.size, 1, none⟩) (Nat.le_refl _) _⟩

set_option maxHeartbeats 2000000 in
theorem drawOpenAll_c (ao : Option Addr) (n c : Nat) (w : World) (hn : n ≤ 9223372036854775807) (h : CodeOk w w.heap.size ao n) :
    Calls Try.prog 9 #[.slice ao n c] w fun e w' => ∃ a' q c' zs x y, e = .returned (.tuple #[.slice a' q c', .agg #[.int .i64 x, .int .i64 y]]) ∧ q ≤ 6 ∧ zs.length = q ∧ Rd w' a' zs ∧ Below w.heap.size w w' := by
  have HC : Hid (Cur ((w.alloc (.cells #[.int .i64 0, .int .i64 0] 25)).alloc (.cells #[.slice ao n c, .int .i64 0, .int .u64 0] 61)) (w.heap.size + 1) ao n c 0) := by
    have h1 := cur_new (w := (w.alloc (.cells #[.int .i64 0, .int .i64 0] 25))) (c := c) 61 hn (h.later (below_one _ _) (by simp))
    show Cur _ _ _ _ _ _
    simpa using h1
  have HR : Hid (C2 ((w.alloc (.cells #[.int .i64 0, .int .i64 0] 25)).alloc (.cells #[.slice ao n c, .int .i64 0, .int .u64 0] 61)) w.heap.size 0 0) := (c2_new w 0 0 25 w.heap.size rfl).alloc _
  have HB : Hid (Below w.heap.size w ((w.alloc (.cells #[.int .i64 0, .int .i64 0] 25)).alloc (.cells #[.slice ao n c, .int .i64 0, .int .u64 0] 61))) := below_two _ _ _
  clear h
  go_enter Try.func9, Try.ntmps9
  go_wp2_with fail
  refine (secrets_c (w.heap.size + 1) ao n c 0 _ (by omega) HC.out).mono ?_
  rintro e w1 ⟨a', q, c', zs, rfl, hq, hl, ho, hc, hg⟩
  have HL : Hid (zs.length = q) := hl
  have C1 : Hid (Cur w1 (w.heap.size + 1) ao n c 100) := hc.mono (by omega)
  have R1 : Hid (C2 w1 w.heap.size 0 0) := HR.out.gb hg (by omega)
  have B1 : Hid (Below w.heap.size w w1) := HB.out.trans (hg.below (by simp; omega) (by omega))
  have O1 : Hid (Own w1 (w.heap.size + 2) (.slice a' q c') zs) := ho.mono (by simp)
  clear hl ho hc hg HC HR HB
  go_wp2_with fail
  refine (sealed_c (w.heap.size + 1) ao n c 100 _ (by omega) C1.out).mono ?_
  rintro e w2 ⟨x, y, rfl, hc, hg⟩
  have B2 : Hid (Below w.heap.size w w2) := B1.out.trans (hg.below B1.out.size (by omega))
  have O2 : Hid (Own w2 (w.heap.size + 2) (.slice a' q c') zs) := O1.out.kept hg (sep_own O1.out (by omega))
  have R2 : Hid (C2 w2 w.heap.size 0 0) := R1.out.gb hg (by omega)
  obtain ⟨c1, c2, c3, c4⟩ := R2.out
  clear hc hg C1 R1 B1 O1
  go_wp2
  have hg1 : w2.grownBy (w2.setCell ⟨w.heap.size, 0, none⟩ (.int .i64 x)) (some w.heap.size) := grown_set _ _ _ _
  have hg2 : (w2.setCell ⟨w.heap.size, 0, none⟩ (.int .i64 x)).grownBy ((w2.setCell ⟨w.heap.size, 0, none⟩ (.int .i64 x)).setCell ⟨w.heap.size, 1, none⟩ (.int .i64 y)) (some w.heap.size) := grown_set _ _ _ _
  have O3 := O2.out.kept hg1 (sep_own O2.out (by omega))
  have O4 := O3.kept hg2 (sep_own O3 (by omega))
  refine bodyPost_ret (v := .tuple #[.slice a' q c', .agg #[.int .i64 x, .int .i64 y]]) (by simp [results, Try.results9, go_sem, c1, c2]; try rfl) rfl ?_
  exact ⟨a', q, c', zs, x, y, rfl, hq, HL.out, O4.rd'.2, (B2.out.setCell (p := ⟨w.heap.size, 0, none⟩) (Nat.le_refl _) _).setCell (p := ⟨w.heap.size, 1, none⟩) (Nat.le_refl _) _⟩

set_option maxHeartbeats 2000000 in
theorem drawLogOf_c (ao : Option Addr) (n c : Nat) (w : World) (hn : n ≤ 9223372036854775807) (h : CodeOk w w.heap.size ao n) :
    Calls Try.prog 16 #[.slice ao n c] w fun e w' => ∃ x1 x2 : Int, e = .returned (.tuple #[.int .i64 x1, .int .i64 x2]) ∧ Below w.heap.size w w' := by
  have HC : Hid (Cur (w.alloc (.cells #[.slice ao n c, .int .i64 0, .int .u64 0] 61)) w.heap.size ao n c 0) := cur_new _ hn h
  have HG : Hid (GB w.heap.size w (w.alloc (.cells #[.slice ao n c, .int .i64 0, .int .u64 0] 61))) := (GB.refl _ _).alloc _
  clear h
  go_enter Try.func16, Try.ntmps16
  go_wp2_with fail
  refine (pick_c w.heap.size ao n c 0 130 _ (by omega) (by omega) HC.out).mono ?_
  rintro e w1 ⟨z, rfl, hz0, hz1, hc, hg⟩
  have C1 : Hid (Cur w1 w.heap.size ao n c 2) := hc.mono (by omega)
  have G1 : Hid (GB w.heap.size w w1) := HG.out.trans hg
  clear hc hg HC HG
  obtain ⟨q, rfl⟩ : ∃ q : Nat, z = q := ⟨z.toNat, by omega⟩
  have p0 := pw_lo 4 q
  have p1 := pw_hi 4 q
  go_wp2_with fail
  refine (l2Power_c 4 q _ (by omega) (by omega) (by omega)).mono ?_
  rintro e w' ⟨rfl, hw⟩
  subst w'
  generalize pw 4 q = p at p0 p1
  go_wp2_with fail
  refine (pick_c w.heap.size ao n c 2 9 _ (by omega) (by omega) C1.out).mono ?_
  rintro e w2 ⟨y, rfl, hy0, hy1, hc, hg⟩
  have C2' : Hid (Cur w2 w.heap.size ao n c 4) := hc.mono (by omega)
  have G2 : Hid (GB w.heap.size w w2) := G1.out.trans hg
  clear hc hg C1 G1
  have hlit := lit_cells (fun _ => True) w2 #[.int .i64 (-1), .int .i64 0, .int .i64 5, .int .i64 100, .int .i64 101] 3 5 rfl ⟨trivial, trivial, trivial, trivial, trivial, trivial⟩
  have hgd : w.heap.size < w2.heap.size := C2'.out.lt
  go_wp2_with fail
  refine (among_p (fun _ => True) w.heap.size ao n c _ w2.heap.size 5 _ (by omega) (by omega) hlit (by omega) (C2'.out.alloc _)).mono ?_
  rintro e w3 ⟨zz, rfl, _, hc, hg⟩
  have G3 : Hid (GB w.heap.size w w3) := (G2.out.alloc _).trans hg
  clear hc hg C2' G2 hlit
  go_wp2
  refine bodyPost_ret (v := .tuple #[.int .i64 (p - y / 8), .int .i64 zz]) (by simp [results, Try.results16, go_sem]) rfl ⟨p - y / 8, zz, rfl, G3.out.below (Nat.le_refl _) (Nat.le_refl _)⟩

def DrawnV (g : Nat) (ao : Option Addr) (n c : Nat) (M : Int) (w : World) (e : Ending) (w' : World) : Prop := ∃ a' q c' l, e = .returned (.slice a' q c') ∧ q ≤ 13 ∧ l.length = q ∧ RdP w' a' l ∧ GB g w w'

theorem cell_new2v (w : World) (u v : Value) (t : TypeId) (g : Nat) (hg : g = w.heap.size) : ∀ j x, [u, v][j]? = some x → (w.alloc (.cells #[u, v] t)).cell? ((⟨g, 0, none⟩ : Addr).add j) = some x := by
  subst hg
  intro j x hj
  match j with
  | 0 => simp at hj; subst hj; rw [Go.WideShapes.add_plain]; simp
  | 1 => simp at hj; subst hj; rw [Go.WideShapes.add_plain]; simp
  | j + 2 => simp at hj

set_option maxHeartbeats 8000000 in
set_option maxRecDepth 1000000 in
theorem votes_c (g : Nat) (ao : Option Addr) (n c : Nat) (M : Int) (w : World) (hM : M ≤ 100000) (h : Cur w g ao n c M) :
    Calls Try.prog 58 #[.pointer (some ⟨g, 0, none⟩)] w (DrawnV g ao n c M w) := by
  obtain ⟨i0, hi, hz0, hz1, hz2⟩ := info_parts Try.infoSealed
  have HC : Hid (Cur w g ao n c M) := h
  have HOld : Hid (Old ao n w.heap.size) := h.code.old
  have hgl : g < w.heap.size := h.lt
  clear h
  go_enter Try.func58, Try.ntmps58
  go_wp2_with fail
  refine (pick_c g ao n c M 6 _ (by omega) (by omega) HC.out).mono ?_
  rintro e w1 ⟨z, rfl, hz0', hz1', hc1, hg1⟩
  have HC1 : Hid (Cur w1 g ao n c (M + 2)) := hc1
  have HG1 : Hid (GB g w w1) := hg1
  clear hc1 hg1 HC
  go_wp2_with fail
  refine (one_c g ao n c (M + 2) 20 _ (by omega) (by omega) HC1.out).mono ?_
  rintro e w2 ⟨bb, rfl, hc1, hg1⟩
  have C3 : Hid (Cur w2 g ao n c (M + 4)) := hc1.mono (by omega)
  have G3 : Hid (GB g w w2) := HG1.out.trans hg1
  clear hc1 hg1 HC1 HG1
  cases bb
  · have C4 : Hid (Cur w2 g ao n c (M + 6)) := C3.out.mono (by omega)
    obtain ⟨k0, hk0⟩ : ∃ k0 : Nat, z = (k0 : Int) := ⟨z.toNat, by omega⟩
    have hk13 : k0 ≤ 13 := by omega
    subst hk0
    have G4 := G3
    clear C3 G3
    obtain ⟨w4, rfl⟩ : ∃ w4 : World, w4 = w2 := ⟨_, rfl⟩
    go_wp2
    go_loopw [3, 4] (fun v i wr => ∃ (k : Nat) (l : List (Int × Int)), i = .int .i64 k ∧ l.length + k ≤ 13 ∧ Hid (OwnP wr w.heap.size v l) ∧ Hid (Cur wr g ao n c (M + 6 + 6 * (13 - k))) ∧ Hid (GB g w wr)) (fun _ i _ => (intOf i).toNat)
    case atStart => exact ⟨k0, [], by first | rfl | go_num, by simp; omega, World.ownsRow_nil _ _ _ _, C4.out.mono (by omega), G4⟩
    case round =>
      clear C4 G4
      obtain ⟨k, l, rfl, hk, hO, hC, hG⟩ := hrel
      by_cases hlt : 0 < k
      · have k1 : (0 : Int) < (k : Int) := by omega
        obtain ⟨p, hp⟩ : ∃ p, l.length = p := ⟨_, rfl⟩
        have HP : Hid (l.length = p) := hp
        rw [hp] at hk
        have hk14 : k ≤ 13 := by omega
        clear hp
        go_wp2_with fail
        refine (pick_c g ao n c (M + 6 + 6 * (13 - k)) 200 _ (by omega) (by omega) hC.out).mono ?_
        rintro e wa ⟨x, rfl, hx0, hx1, hc1, hg1⟩
        have hCa : Hid (Cur wa g ao n c (M + 6 + 6 * (13 - k) + 2)) := hc1
        have hGa : Hid (GB g w wa) := hG.out.trans hg1
        have hOa : Hid (OwnP wa w.heap.size u3 l) := hO.out.kept hg1 (sep_ownP hO.out hgl)
        clear hc1 hg1 hC hG hO
        obtain ⟨xn, hxn⟩ : ∃ xn : Nat, 1 + x = xn := ⟨(1 + x).toNat, by omega⟩
        have hxe : (1 + x : Int) = (xn : Int) := hxn
        have HXE : Hid ((1 + x : Int) = (xn : Int)) := hxe
        clear hxe hxn
        have hpw := l2Power_c 4 xn wa (by omega) (by omega) (by have := HXE.out; omega)
        rw [← HXE.out] at hpw
        have p0 := pw_lo 4 xn
        have p1 := pw_hi 4 xn
        generalize pw 4 xn = pv at hpw p0 p1
        go_wp2_with fail
        refine hpw.mono ?_
        clear hpw
        rintro e w' ⟨rfl, hw⟩
        subst w'
        go_wp2_with fail
        refine (pick_c g ao n c (M + 6 + 6 * (13 - k) + 2) 200 _ (by omega) (by omega) hCa.out).mono ?_
        rintro e wb ⟨y, rfl, hy0, hy1, hc1, hg1⟩
        have hCb : Hid (Cur wb g ao n c (M + 6 + 6 * (13 - k) + 4)) := hc1.mono (by omega)
        have hGb : Hid (GB g w wb) := hGa.out.trans hg1
        have hOb : Hid (OwnP wb w.heap.size u3 l) := hOa.out.kept hg1 (sep_ownP hOa.out hgl)
        clear hc1 hg1 hCa hGa hOa
        go_wp2_with fail
        refine (pick_c g ao n c (M + 6 + 6 * (13 - k) + 4) 4 _ (by omega) (by omega) hCb.out).mono ?_
        rintro e wd ⟨cz, rfl, hcz0, hcz1, hc1, hg1⟩
        have hCd : Hid (Cur wd g ao n c (M + 6 + 6 * (13 - k) + 6)) := hc1.mono (by omega)
        have hGd : Hid (GB g w wd) := hGb.out.trans hg1
        have hOd : Hid (OwnP wd w.heap.size u3 l) := hOb.out.kept hg1 (sep_ownP hOb.out hgl)
        clear hc1 hg1 hCb hGb hOb
        have hcv := specVote_c pv (1 + y) cz wd
        generalize voteX pv (1 + y) cz = vx at hcv
        generalize voteY pv (1 + y) cz = vy at hcv
        generalize voteB pv (1 + y) cz = vb at hcv
        go_wp2_with fail
        refine hcv.mono ?_
        clear hcv
        rintro e we ⟨rfl, hb⟩
        have hCe : Hid (Cur we g ao n c (M + 6 + 6 * (13 - k) + 6)) := hCd.out.later hb
        have hGe : Hid (GB g w we) := hGd.out.trans (GB.of_below hb (Nat.le_refl _))
        have hOe : Hid (OwnP we w.heap.size u3 l) := hOd.out.later hb
        clear hb hCd hGd hOd
        cases vb
        · go_wp2
          go_roundw
          case rel => exact ⟨k - 1, l, by go_num, by rw [HP.out]; omega, hOe.out.later (below_one _ _), (hCe.out.alloc _).mono (by omega), hGe.out.alloc _⟩
          case measure => simp [intOf]; omega
        · have hown : (we.alloc (Obj.cells #[Value.int .i64 vx, Value.int .i64 vy] 25)).ownsRow w.heap.size 25 2 u3 p (cellsP l) := by have h := hOe.out; unfold OwnP at h; rw [HP.out] at h; exact h.alloc _
          have hob : ∀ k', u3.ownBlock = some k' → w.heap.size ≤ k' := own_block_geP hOe.out
          have hws : w.heap.size ≤ we.heap.size := hGe.out.size
          clear hOe
          go_wp2_with (at_builtin; refine wpList_append_own _ rfl _ _ 37 rfl w.heap.size 25 i0 (.agg #[.int .i64 0, .int .i64 0]) 2 16 Try.underlying37 hi hz0 hz1 hz2 rfl (by decide) _ _ _ rfl (hown.alloc _) ⟨we.heap.size + 1, 0, none⟩ 1 1 [.int .i64 vx, .int .i64 vy] rfl rfl (cell_new2v _ _ _ _ _ (by simp)) (cellsP_one [(vx, vy)]) (by unfold maxLen; omega) (by omega) (by simp; omega) ?_; intro v' wf hown' hgrow _; have HO2 : Hid (OwnP wf w.heap.size v' (l ++ [(vx, vy)])) := own_pushP (by rw [HP.out]; exact hown'); have HC2 : Hid (Cur wf g ao n c (M + 6 + 6 * (13 - k) + 6)) := ((hCe.out.alloc _).alloc _).grown hgrow hob hgl HOld.out; have HG2 : Hid (GB g w wf) := ((hGe.out.alloc _).alloc _).grown hgrow hob; clear hown' hgrow hown hob)
          go_roundw
          case rel => exact ⟨k - 1, l ++ [(vx, vy)], by go_num, by rw [List.length_append, HP.out]; simp; omega, HO2, HC2.out.mono (by omega), HG2⟩
          case measure => simp [intOf]; omega
      · have k1 : (k : Int) ≤ 0 := by omega
        obtain rfl : k = 0 := by omega
        obtain ⟨a1, c1, hv⟩ := hO.out.shape
        obtain ⟨p, hp⟩ : ∃ p, l.length = p := ⟨_, rfl⟩
        rw [hp] at hv
        subst hv
        have hp13 : p ≤ 13 := by omega
        have HC0 : Hid (Cur wr g ao n c (M + 100)) := hC.out.mono (by omega)
        have HP : Hid (l.length = p) := hp
        clear hp hk hC
        by_cases hq0 : p = 0
        · have hq1 : ¬ (0 : Int) < (p : Int) := by omega
          clear hq0
          go_wp2
          go_ret
          exact ⟨_, _, _, l, rfl, by omega, HP.out, hO.out.rd'.2, hG.out⟩
        · have hq1 : (0 : Int) < (p : Int) := by omega
          obtain ⟨gg, hgg, hgb⟩ := own_someP hO.out (by omega)
          subst hgg
          clear hq0
          go_wp2_with fail
          refine (one_c g ao n c (M + 100) 20 _ (by omega) (by omega) HC0.out).mono ?_
          rintro e wd ⟨b2, rfl, hc1, hg1⟩
          have C5 : Hid (Cur wd g ao n c (M + 102)) := hc1.mono (by omega)
          have G5 : Hid (GB g w wd) := hG.out.trans hg1
          have O5 : Hid (OwnP wd w.heap.size (.slice (some ⟨gg, 0, none⟩) p c1) l) := hO.out.kept hg1 (sep_ownP hO.out hgl)
          clear hc1 hg1 HC0 hG hO
          cases b2
          · go_wp2
            go_ret
            exact ⟨_, _, _, l, rfl, by omega, HP.out, O5.out.rd'.2, G5.out⟩
          · go_wp2_with fail
            refine (sealed_c g ao n c (M + 102) _ (by omega) C5.out).mono ?_
            rintro e we ⟨sx, sy, rfl, hc1, hg1⟩
            have G6 : Hid (GB g w we) := G5.out.trans hg1
            have O6 : Hid (OwnP we w.heap.size (.slice (some ⟨gg, 0, none⟩) p c1) l) := O5.out.kept hg1 (sep_ownP O5.out hgl)
            clear hc1 hg1 C5 G5 O5
            have O6' : OwnP we w.heap.size (.slice (some ⟨gg, 0, none⟩) l.length c1) l := by rw [HP.out]; exact O6.out
            have gcs := O6'.cell 0 (by rw [HP.out]; omega)
            have gc : we.cell? ⟨gg, 0, none⟩ = some (.int .i64 (l.getD 0 (0, 0)).1) := by simpa using gcs.1
            have gc1 : we.cell? ⟨gg, 1, none⟩ = some (.int .i64 (l.getD 0 (0, 0)).2) := by simpa using gcs.2
            have gf : we.frozen? ⟨gg, 0, none⟩ = false := World.ownsRow.frozenAt O6' 0
            have gf1 : we.frozen? ⟨gg, 1, none⟩ = false := World.ownsRow.frozenAt O6' 1
            have O7 : Hid (OwnP ((we.setCell ⟨gg, 0, none⟩ (.int .i64 sx)).setCell ⟨gg, 1, none⟩ (.int .i64 sy)) w.heap.size (.slice (some ⟨gg, 0, none⟩) p c1) (l.set 0 (sx, sy))) := own_setP O6.out sx sy
            have G7 : Hid (GB g w ((we.setCell ⟨gg, 0, none⟩ (.int .i64 sx)).setCell ⟨gg, 1, none⟩ (.int .i64 sy))) := (G6.out.grown (grown_set we gg 0 (.int .i64 sx)) (fun k hk => by simp at hk; omega)).grown (grown_set _ gg 1 (.int .i64 sy)) (fun k hk => by simp at hk; omega)
            clear G6 O6 gcs O6'
            generalize (l.getD 0 (0, 0)).1 = y0 at gc
            generalize (l.getD 0 (0, 0)).2 = y1 at gc1
            go_wp2
            go_ret
            exact ⟨_, _, _, l.set 0 (sx, sy), rfl, by omega, by rw [List.length_set]; exact HP.out, O7.out.rd'.2, G7.out⟩
  · go_wp2_with fail
    refine (pick_c g ao n c (M + 4) 2 _ (by omega) (by omega) C3.out).mono ?_
    rintro e w4 ⟨z4, rfl, hz40, hz41, hc1, hg1⟩
    have C4 : Hid (Cur w4 g ao n c (M + 6)) := hc1.mono (by omega)
    have G4 : Hid (GB g w w4) := G3.out.trans hg1
    clear hc1 hg1 C3 G3
    obtain ⟨k0, hk0⟩ : ∃ k0 : Nat, 12 + z4 = (k0 : Int) := ⟨(12 + z4).toNat, by omega⟩
    have hk13 : k0 ≤ 13 := by omega
    go_wp2
    go_loopw [3, 4] (fun v i wr => ∃ (k : Nat) (l : List (Int × Int)), i = .int .i64 k ∧ l.length + k ≤ 13 ∧ Hid (OwnP wr w.heap.size v l) ∧ Hid (Cur wr g ao n c (M + 6 + 6 * (13 - k))) ∧ Hid (GB g w wr)) (fun _ i _ => (intOf i).toNat)
    case atStart => exact ⟨k0, [], by first | rfl | go_num, by simp; omega, World.ownsRow_nil _ _ _ _, C4.out.mono (by omega), G4⟩
    case round =>
      clear C4 G4
      obtain ⟨k, l, rfl, hk, hO, hC, hG⟩ := hrel
      by_cases hlt : 0 < k
      · have k1 : (0 : Int) < (k : Int) := by omega
        obtain ⟨p, hp⟩ : ∃ p, l.length = p := ⟨_, rfl⟩
        have HP : Hid (l.length = p) := hp
        rw [hp] at hk
        have hk14 : k ≤ 13 := by omega
        clear hp
        go_wp2_with fail
        refine (pick_c g ao n c (M + 6 + 6 * (13 - k)) 200 _ (by omega) (by omega) hC.out).mono ?_
        rintro e wa ⟨x, rfl, hx0, hx1, hc1, hg1⟩
        have hCa : Hid (Cur wa g ao n c (M + 6 + 6 * (13 - k) + 2)) := hc1
        have hGa : Hid (GB g w wa) := hG.out.trans hg1
        have hOa : Hid (OwnP wa w.heap.size u3 l) := hO.out.kept hg1 (sep_ownP hO.out hgl)
        clear hc1 hg1 hC hG hO
        obtain ⟨xn, hxn⟩ : ∃ xn : Nat, 1 + x = xn := ⟨(1 + x).toNat, by omega⟩
        have hxe : (1 + x : Int) = (xn : Int) := hxn
        have HXE : Hid ((1 + x : Int) = (xn : Int)) := hxe
        clear hxe hxn
        have hpw := l2Power_c 4 xn wa (by omega) (by omega) (by have := HXE.out; omega)
        rw [← HXE.out] at hpw
        have p0 := pw_lo 4 xn
        have p1 := pw_hi 4 xn
        generalize pw 4 xn = pv at hpw p0 p1
        go_wp2_with fail
        refine hpw.mono ?_
        clear hpw
        rintro e w' ⟨rfl, hw⟩
        subst w'
        go_wp2_with fail
        refine (pick_c g ao n c (M + 6 + 6 * (13 - k) + 2) 200 _ (by omega) (by omega) hCa.out).mono ?_
        rintro e wb ⟨y, rfl, hy0, hy1, hc1, hg1⟩
        have hCb : Hid (Cur wb g ao n c (M + 6 + 6 * (13 - k) + 4)) := hc1.mono (by omega)
        have hGb : Hid (GB g w wb) := hGa.out.trans hg1
        have hOb : Hid (OwnP wb w.heap.size u3 l) := hOa.out.kept hg1 (sep_ownP hOa.out hgl)
        clear hc1 hg1 hCa hGa hOa
        go_wp2_with fail
        refine (pick_c g ao n c (M + 6 + 6 * (13 - k) + 4) 4 _ (by omega) (by omega) hCb.out).mono ?_
        rintro e wd ⟨cz, rfl, hcz0, hcz1, hc1, hg1⟩
        have hCd : Hid (Cur wd g ao n c (M + 6 + 6 * (13 - k) + 6)) := hc1.mono (by omega)
        have hGd : Hid (GB g w wd) := hGb.out.trans hg1
        have hOd : Hid (OwnP wd w.heap.size u3 l) := hOb.out.kept hg1 (sep_ownP hOb.out hgl)
        clear hc1 hg1 hCb hGb hOb
        have hcv := specVote_c pv (1 + y) cz wd
        generalize voteX pv (1 + y) cz = vx at hcv
        generalize voteY pv (1 + y) cz = vy at hcv
        generalize voteB pv (1 + y) cz = vb at hcv
        go_wp2_with fail
        refine hcv.mono ?_
        clear hcv
        rintro e we ⟨rfl, hb⟩
        have hCe : Hid (Cur we g ao n c (M + 6 + 6 * (13 - k) + 6)) := hCd.out.later hb
        have hGe : Hid (GB g w we) := hGd.out.trans (GB.of_below hb (Nat.le_refl _))
        have hOe : Hid (OwnP we w.heap.size u3 l) := hOd.out.later hb
        clear hb hCd hGd hOd
        cases vb
        · go_wp2
          go_roundw
          case rel => exact ⟨k - 1, l, by go_num, by rw [HP.out]; omega, hOe.out.later (below_one _ _), (hCe.out.alloc _).mono (by omega), hGe.out.alloc _⟩
          case measure => simp [intOf]; omega
        · have hown : (we.alloc (Obj.cells #[Value.int .i64 vx, Value.int .i64 vy] 25)).ownsRow w.heap.size 25 2 u3 p (cellsP l) := by have h := hOe.out; unfold OwnP at h; rw [HP.out] at h; exact h.alloc _
          have hob : ∀ k', u3.ownBlock = some k' → w.heap.size ≤ k' := own_block_geP hOe.out
          have hws : w.heap.size ≤ we.heap.size := hGe.out.size
          clear hOe
          go_wp2_with (at_builtin; refine wpList_append_own _ rfl _ _ 37 rfl w.heap.size 25 i0 (.agg #[.int .i64 0, .int .i64 0]) 2 16 Try.underlying37 hi hz0 hz1 hz2 rfl (by decide) _ _ _ rfl (hown.alloc _) ⟨we.heap.size + 1, 0, none⟩ 1 1 [.int .i64 vx, .int .i64 vy] rfl rfl (cell_new2v _ _ _ _ _ (by simp)) (cellsP_one [(vx, vy)]) (by unfold maxLen; omega) (by omega) (by simp; omega) ?_; intro v' wf hown' hgrow _; have HO2 : Hid (OwnP wf w.heap.size v' (l ++ [(vx, vy)])) := own_pushP (by rw [HP.out]; exact hown'); have HC2 : Hid (Cur wf g ao n c (M + 6 + 6 * (13 - k) + 6)) := ((hCe.out.alloc _).alloc _).grown hgrow hob hgl HOld.out; have HG2 : Hid (GB g w wf) := ((hGe.out.alloc _).alloc _).grown hgrow hob; clear hown' hgrow hown hob)
          go_roundw
          case rel => exact ⟨k - 1, l ++ [(vx, vy)], by go_num, by rw [List.length_append, HP.out]; simp; omega, HO2, HC2.out.mono (by omega), HG2⟩
          case measure => simp [intOf]; omega
      · have k1 : (k : Int) ≤ 0 := by omega
        obtain rfl : k = 0 := by omega
        obtain ⟨a1, c1, hv⟩ := hO.out.shape
        obtain ⟨p, hp⟩ : ∃ p, l.length = p := ⟨_, rfl⟩
        rw [hp] at hv
        subst hv
        have hp13 : p ≤ 13 := by omega
        have HC0 : Hid (Cur wr g ao n c (M + 100)) := hC.out.mono (by omega)
        have HP : Hid (l.length = p) := hp
        clear hp hk hC
        by_cases hq0 : p = 0
        · have hq1 : ¬ (0 : Int) < (p : Int) := by omega
          clear hq0
          go_wp2
          go_ret
          exact ⟨_, _, _, l, rfl, by omega, HP.out, hO.out.rd'.2, hG.out⟩
        · have hq1 : (0 : Int) < (p : Int) := by omega
          obtain ⟨gg, hgg, hgb⟩ := own_someP hO.out (by omega)
          subst hgg
          clear hq0
          go_wp2_with fail
          refine (one_c g ao n c (M + 100) 20 _ (by omega) (by omega) HC0.out).mono ?_
          rintro e wd ⟨b2, rfl, hc1, hg1⟩
          have C5 : Hid (Cur wd g ao n c (M + 102)) := hc1.mono (by omega)
          have G5 : Hid (GB g w wd) := hG.out.trans hg1
          have O5 : Hid (OwnP wd w.heap.size (.slice (some ⟨gg, 0, none⟩) p c1) l) := hO.out.kept hg1 (sep_ownP hO.out hgl)
          clear hc1 hg1 HC0 hG hO
          cases b2
          · go_wp2
            go_ret
            exact ⟨_, _, _, l, rfl, by omega, HP.out, O5.out.rd'.2, G5.out⟩
          · go_wp2_with fail
            refine (sealed_c g ao n c (M + 102) _ (by omega) C5.out).mono ?_
            rintro e we ⟨sx, sy, rfl, hc1, hg1⟩
            have G6 : Hid (GB g w we) := G5.out.trans hg1
            have O6 : Hid (OwnP we w.heap.size (.slice (some ⟨gg, 0, none⟩) p c1) l) := O5.out.kept hg1 (sep_ownP O5.out hgl)
            clear hc1 hg1 C5 G5 O5
            have O6' : OwnP we w.heap.size (.slice (some ⟨gg, 0, none⟩) l.length c1) l := by rw [HP.out]; exact O6.out
            have gcs := O6'.cell 0 (by rw [HP.out]; omega)
            have gc : we.cell? ⟨gg, 0, none⟩ = some (.int .i64 (l.getD 0 (0, 0)).1) := by simpa using gcs.1
            have gc1 : we.cell? ⟨gg, 1, none⟩ = some (.int .i64 (l.getD 0 (0, 0)).2) := by simpa using gcs.2
            have gf : we.frozen? ⟨gg, 0, none⟩ = false := World.ownsRow.frozenAt O6' 0
            have gf1 : we.frozen? ⟨gg, 1, none⟩ = false := World.ownsRow.frozenAt O6' 1
            have O7 : Hid (OwnP ((we.setCell ⟨gg, 0, none⟩ (.int .i64 sx)).setCell ⟨gg, 1, none⟩ (.int .i64 sy)) w.heap.size (.slice (some ⟨gg, 0, none⟩) p c1) (l.set 0 (sx, sy))) := own_setP O6.out sx sy
            have G7 : Hid (GB g w ((we.setCell ⟨gg, 0, none⟩ (.int .i64 sx)).setCell ⟨gg, 1, none⟩ (.int .i64 sy))) := (G6.out.grown (grown_set we gg 0 (.int .i64 sx)) (fun k hk => by simp at hk; omega)).grown (grown_set _ gg 1 (.int .i64 sy)) (fun k hk => by simp at hk; omega)
            clear G6 O6 gcs O6'
            generalize (l.getD 0 (0, 0)).1 = y0 at gc
            generalize (l.getD 0 (0, 0)).2 = y1 at gc1
            go_wp2
            go_ret
            exact ⟨_, _, _, l.set 0 (sx, sy), rfl, by omega, by rw [List.length_set]; exact HP.out, O7.out.rd'.2, G7.out⟩

set_option maxHeartbeats 2000000 in
theorem drawAddVotes_c (ao : Option Addr) (n c : Nat) (w : World) (hn : n ≤ 9223372036854775807) (h : CodeOk w w.heap.size ao n) :
    Calls Try.prog 19 #[.slice ao n c] w fun e w' => ∃ a' q c' l, e = .returned (.slice a' q c') ∧ q ≤ 13 ∧ l.length = q ∧ RdP w' a' l ∧ Below w.heap.size w w' := by
  have HC : Hid (Cur (w.alloc (.cells #[.slice ao n c, .int .i64 0, .int .u64 0] 61)) w.heap.size ao n c 0) := cur_new _ hn h
  clear h
  go_enter Try.func19, Try.ntmps19
  go_wp2_with fail
  refine (votes_c w.heap.size ao n c 0 _ (by omega) HC.out).mono ?_
  rintro e w1 ⟨a', q, c', zs, rfl, hq, hl, ho, hg⟩
  have HF : Hid (zs.length = q ∧ RdP w1 a' zs ∧ Below w.heap.size w w1) := ⟨hl, ho, (balloc w _).trans ((GB.below hg (B := w.heap.size) (by simp) (Nat.le_refl _)))⟩
  clear hl ho hg
  go_wp2
  go_ret
  exact ⟨a', q, c', zs, rfl, hq, HF.out.1, HF.out.2.1, HF.out.2.2⟩

end Go.Proofs.Ytobomcmjilcnaaa

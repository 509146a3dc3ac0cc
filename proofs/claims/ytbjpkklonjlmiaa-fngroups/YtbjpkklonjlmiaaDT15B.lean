/- Chapter 15: what is drawn: tables. -/
import Derived.Test.YtbjpkklonjlmiaaDT15A
import Derived.Test.YtbjpkklonjlmiaaG15C
import Derived.Test.YtbjpkklonjlmiaaT15
import Derived.Deep.RegionHeld3
import Derived.Deep.DrawnRows
import Derived.Deep.Light
namespace Go.Proofs.Ytbjpkklonjlmiaa
set_option linter.unusedVariables false
set_option maxRecDepth 1000000
set_option linter.unusedSimpArgs false
open Go.RowKit

/-- A table in its box r, beside a cursor; the box of the answer lies at w0.heap.size. -/
structure TSt (w0 wr : World) (g : Nat) (ao : Option Addr) (n c : Nat) (M : Int) (r : Nat) (s : Int) (S L : Value) (ps : List (List Int)) (cs : List Int) : Prop where
  bx : X3 wr r (.int .i64 s) S L
  res : X3 wr w0.heap.size (.int .i64 0) (.slice none 0 0) (.slice none 0 0)
  tb : OwnTb wr (r + 1) wr.heap.size S L ⟨s, ps, cs⟩
  cu : Cur wr g ao n c M
  gb : GB g w0 wr
  sz : r + 1 ≤ wr.heap.size
  gl : g < w0.heap.size
  rl : w0.heap.size < r
  cl : CodeLt ao n w0.heap.size
theorem CodeLt.mono {ao : Option Addr} {n a b : Nat} (h : CodeLt ao n a) (hab : a ≤ b) : CodeLt ao n b := fun x y e => (h x y e).imp id (fun h => by omega)
theorem TSt.turn {w0 wr wr' : World} {g : Nat} {ao : Option Addr} {n c : Nat} {M M' : Int} {r : Nat} {s : Int} {S L : Value} {ps : List (List Int)} {cs : List Int} (h : TSt w0 wr g ao n c M r s S L ps cs) (hc : Cur wr' g ao n c M') (hg : GB g wr wr') : TSt w0 wr' g ao n c M' r s S L ps cs :=
  ⟨x3_gb h.bx hg (by have := h.gl; have := h.rl; omega), x3_gb h.res hg (by have := h.gl; omega), (h.tb.gb hg (by have := h.gl; have := h.rl; omega)).mono (Nat.le_refl _) hg.size, hc, h.gb.trans hg, Nat.le_trans h.sz hg.size, h.gl, h.rl, h.cl⟩
theorem TSt.more {w0 wr : World} {g : Nat} {ao : Option Addr} {n c : Nat} {M M' : Int} {r : Nat} {s : Int} {S L : Value} {ps : List (List Int)} {cs : List Int} (h : TSt w0 wr g ao n c M r s S L ps cs) (hm : M ≤ M') : TSt w0 wr g ao n c M' r s S L ps cs := ⟨h.bx, h.res, h.tb, h.cu.mono hm, h.gb, h.sz, h.gl, h.rl, h.cl⟩
theorem below_set (w : World) (r j : Nat) (v : Value) : Below r w (w.setCell ⟨r, j, none⟩ v) := (Below.refl r w).setCell (p := ⟨r, j, none⟩) (Nat.le_refl r) v
theorem set_hs (w : World) (a : Addr) (v : Value) : (w.setCell a v).heap.size = w.heap.size := by simp [World.setCell]
theorem TSt.seat {w0 wr : World} {g : Nat} {ao : Option Addr} {n c : Nat} {M : Int} {r : Nat} {s : Int} {S L : Value} {ps : List (List Int)} {cs : List Int} (h : TSt w0 wr g ao n c M r s S L ps cs) (s' : Int) : TSt w0 (wr.setCell ⟨r, 0, none⟩ (.int .i64 s')) g ao n c M r s' S L ps cs := by
  have hgl := h.gl
  have hrl := h.rl
  have hb : Below r wr (wr.setCell ⟨r, 0, none⟩ (.int .i64 s')) := below_set _ _ _ _
  exact ⟨h.bx.set0 _, x3_low h.res hb hrl, by rw [set_hs]; exact (h.tb.set (by omega) _).seat, cur_low h.cu hb (h.cl.mono (by omega)) (by omega), gb_low h.gb hb (by omega), by rw [set_hs]; exact h.sz, hgl, hrl, h.cl⟩
theorem TSt.pair {w0 wr : World} {g : Nat} {ao : Option Addr} {n c : Nat} {M : Int} {r : Nat} {s : Int} {S L : Value} {ps : List (List Int)} {cs : List Int} (h : TSt w0 wr g ao n c M r s S L ps cs) (a b : Int) (hl : ps.length ≤ 1000) :
    ∃ gg cap w', (∀ ty, (Builtin.append_ #[23, 23] ty #[S, .slice (some ⟨wr.heap.size + 1, 0, none⟩) 1 1]).run Try.prog ((wr.alloc (.cells #[.int .i64 a, .int .i64 b] 3)).alloc (.cells #[.slice (some ⟨wr.heap.size, 0, none⟩) 2 2] 24)) = .ok (.slice (some ⟨gg, 0, none⟩) (ps.length + 1) cap) w') ∧ X3 w' r (.int .i64 s) S L ∧ TSt w0 (w'.setCell ⟨r, 1, none⟩ (.slice (some ⟨gg, 0, none⟩) (ps.length + 1) cap)) g ao n c M r s (.slice (some ⟨gg, 0, none⟩) (ps.length + 1) cap) L (ps ++ [[a, b]]) cs := by
  have hgl := h.gl
  have hrl := h.rl
  obtain ⟨gg, cap, w', hrun, ho, hb⟩ := pair_run a b h.tb hl h.sz
  have hb2 : Below r w' (w'.setCell ⟨r, 1, none⟩ (.slice (some ⟨gg, 0, none⟩) (ps.length + 1) cap)) := below_set _ _ _ _
  have hx := x3_low h.bx hb (by omega)
  refine ⟨gg, cap, w', hrun, hx, ⟨hx.set1 _, x3_low (x3_low h.res hb (by omega)) hb2 hrl, by rw [set_hs]; exact ho.set (by omega) _, cur_low (cur_low h.cu hb (h.cl.mono (by omega)) (by omega)) hb2 (h.cl.mono (by omega)) (by omega), gb_low (gb_low h.gb hb (by omega)) hb2 (by omega), by rw [set_hs]; exact Nat.le_trans h.sz hb.size, hgl, hrl, h.cl⟩⟩
theorem TSt.coin {w0 wr : World} {g : Nat} {ao : Option Addr} {n c : Nat} {M : Int} {r : Nat} {s : Int} {S L : Value} {ps : List (List Int)} {cs : List Int} (h : TSt w0 wr g ao n c M r s S L ps cs) (x : Int) (hl : cs.length ≤ 1000) :
    ∃ gg cap w', (∀ ty, (Builtin.append_ #[24, 24] ty #[L, .slice (some ⟨wr.heap.size, 0, none⟩) 1 1]).run Try.prog (wr.alloc (.cells #[.int .i64 x] 3)) = .ok (.slice (some ⟨gg, 0, none⟩) (cs.length + 1) cap) w') ∧ X3 w' r (.int .i64 s) S L ∧ TSt w0 (w'.setCell ⟨r, 2, none⟩ (.slice (some ⟨gg, 0, none⟩) (cs.length + 1) cap)) g ao n c M r s S (.slice (some ⟨gg, 0, none⟩) (cs.length + 1) cap) ps (cs ++ [x]) := by
  have hgl := h.gl
  have hrl := h.rl
  obtain ⟨gg, cap, w', hrun, ho, hb⟩ := coin_run x h.tb hl h.sz
  have hb2 : Below r w' (w'.setCell ⟨r, 2, none⟩ (.slice (some ⟨gg, 0, none⟩) (cs.length + 1) cap)) := below_set _ _ _ _
  have hx := x3_low h.bx hb (by omega)
  refine ⟨gg, cap, w', hrun, hx, ⟨hx.set2 _, x3_low (x3_low h.res hb (by omega)) hb2 hrl, by rw [set_hs]; exact ho.set (by omega) _, cur_low (cur_low h.cu hb (h.cl.mono (by omega)) (by omega)) hb2 (h.cl.mono (by omega)) (by omega), gb_low (gb_low h.gb hb (by omega)) hb2 (by omega), by rw [set_hs]; exact Nat.le_trans h.sz hb.size, hgl, hrl, h.cl⟩⟩
/-- The pairs and coins so far. -/
def PrOk (k : Nat) (ps : List (List Int)) (cs : List Int) : Prop := ps.length ≤ k ∧ cs.length ≤ k ∧ ∀ l ∈ ps, l.length = 2
theorem PrOk.mono {k k' : Nat} {ps : List (List Int)} {cs : List Int} (h : PrOk k ps cs) (hk : k ≤ k') : PrOk k' ps cs := ⟨by have := h.1; omega, by have := h.2.1; omega, h.2.2⟩
theorem PrOk.pair {k : Nat} {ps : List (List Int)} {cs : List Int} (h : PrOk k ps cs) (a b x : Int) : PrOk (k + 1) (ps ++ [[a, b]]) (cs ++ [x]) := ⟨by have := h.1; simp; omega, by have := h.2.1; simp; omega, fun l hl => by
  rcases List.mem_append.1 hl with e | e
  · exact h.2.2 l e
  · simp only [List.mem_singleton] at e; subst e; rfl⟩
theorem PrOk.coin {k : Nat} {ps : List (List Int)} {cs : List Int} (h : PrOk k ps cs) (x : Int) : PrOk (k + 1) ps (cs ++ [x]) := ⟨by have := h.1; omega, by have := h.2.1; simp; omega, h.2.2⟩
theorem PrOk.small {k : Nat} {ps : List (List Int)} {cs : List Int} (h : PrOk k ps cs) (hk : k ≤ 100) (s : Int) : SmallTb ⟨s, ps, cs⟩ := ⟨by have := h.1; show ps.length ≤ _; omega, by have := h.2.1; show cs.length ≤ _; omega, fun l hl => by have := h.2.2 l hl; omega⟩

theorem takeDT15 {P : Program} {ops : Array Oper} {Q : Exit → Act → World → Prop} {md : Region.Mode} {S : World → Prop} {i : Nat} {oi : Oper} {v : Value} {d : Option Tmp} {fuel : Nat} {listed : Array Bool} {a : Act} {w : World} (hi : ops[i]? = some oi) (hd : oi.dst = d)
    (hs : Region.noSelect ops = true) (hf : Region.free md ops listed i = true) (hr : (Region.ready md ops listed).contains i = true)
    (hQ : ∀ c a w, Q (.panic c) (a.put d v) w → Q (.panic c) a w) (hy : YieldsIf P ops S oi v a) (hS : S w)
    (h : wpAnyH P md ops Q S fuel (listed.setIfInBounds i true) (a.put d v) w) : wpAnyH P md ops Q S (fuel + 1) listed a w := by
  subst hd
  exact wpAnyH_take hi hs hf hr hQ hy hS h

set_option maxHeartbeats 8000000 in
theorem table_c (g : Nat) (ao : Option Addr) (n c : Nat) (M : Int) (w : World) (hM : M ≤ 1000000000000000000) (h : Cur w g ao n c M) :
    Calls Try.prog 31 #[.pointer (some ⟨g, 0, none⟩)] w fun e w' => ∃ (t : TbV) (sa : Option Addr) (sc : Nat) (la : Option Addr) (lc : Nat), e = .returned (.agg #[.int .i64 t.s, .slice sa t.ps.length sc, .slice la t.cs.length lc]) ∧ (0 ≤ t.s ∧ t.s ≤ 7) ∧ SmallTb t ∧ OwnTb w' w.heap.size w'.heap.size (.slice sa t.ps.length sc) (.slice la t.cs.length lc) t ∧ Cur w' g ao n c (M + 400) ∧ GB g w w' := by
  have HCL : Hid (CodeLt ao n w.heap.size) := h.codeLt
  have hgl := h.lt
  have R0 := x3_new w (.int .i64 0) (.slice none 0 0) (.slice none 0 0) 26 w.heap.size rfl
  have G0 : GB g w (w.alloc (.cells #[.int .i64 0, .slice none 0 0, .slice none 0 0] 26)) := (GB.refl g w).alloc _
  have hs0 : (w.alloc (.cells #[.int .i64 0, .slice none 0 0, .slice none 0 0] 26)).heap.size = w.heap.size + 1 := by simp
  have q1 := pick_c g ao n c M 6 (w.alloc (.cells #[.int .i64 0, .slice none 0 0, .slice none 0 0] 26)) (by omega) (by omega) (h.alloc _)
  clear h
  go_enter Try.func31, Try.ntmps31
  go_wp2_with fail
  refine q1.mono ?_
  clear q1
  rintro e w1 ⟨z, rfl, hz0, hz1, hc, hg⟩
  have R1 := x3_gb R0 hg (by omega)
  have G1 := G0.trans hg
  have hs1 : w.heap.size + 1 ≤ w1.heap.size := by have := hg.size; omega
  obtain ⟨sN, hsN⟩ : ∃ k : Nat, 1 + z = k := ⟨(1 + z).toNat, by omega⟩
  have hsn : 1 ≤ sN ∧ sN ≤ 6 := by omega
  have hw : wrap64 (1 + z) = sN := by unfold wrap64; omega
  have HT0 : Hid (TSt w (w1.alloc (.cells #[.int .i64 sN, .slice none 0 0, .slice none 0 0] 26)) g ao n c (M + 4) w1.heap.size sN (.slice none 0 0) (.slice none 0 0) [] []) := ⟨x3_new w1 _ _ _ _ _ rfl, R1.later (balloc w1 _), ownTb_nil _ _ _, (hc.mono (by omega)).alloc _, G1.alloc _, by simp, hgl, by omega, HCL.out⟩
  clear R0 R1 G0 G1 hg hc hs0
  obtain ⟨⟨f0, f1, f2⟩, fz⟩ := id HT0.out.bx
  go_wp2
  clear f0 f1 f2 fz hsN hw hz0 hz1
  go_loopw [4] (fun av wr => ∃ (a : Nat) (S LL : Value) (ps : List (List Int)) (cs : List Int), a ≤ sN ∧ av = .int .i64 a ∧ Hid (PrOk (6 * a) ps cs) ∧ Hid (TSt w wr g ao n c (M + 4 + 30 * a) w1.heap.size sN S LL ps cs)) (fun av _ => sN - (intOf av).toNat)
  case atStart => exact ⟨0, _, _, [], [], Nat.zero_le _, rfl, ⟨by simp, by simp, fun l hl => absurd hl (by simp)⟩, HT0.out.more (by omega)⟩
  case round =>
    obtain ⟨a, S, LL, ps, cs, ha, rfl, HP, HT⟩ := hrel
    clear HT0
    obtain ⟨wo, hwo⟩ : ∃ X, X = wr := ⟨_, rfl⟩
    subst hwo
    obtain ⟨⟨f0, f1, f2⟩, fz⟩ := id HT.out.bx
    by_cases hlt : a < sN
    · have hai : (a : Int) < (sN : Int) := by omega
      have ha0 : (0 : Int) ≤ (a : Int) := by omega
      go_wp2
      clear f0 f1 f2 fz
      go_loopw [5] (fun bv wr => ∃ (b : Nat) (S LL : Value) (ps : List (List Int)) (cs : List Int), a + 1 ≤ b ∧ b ≤ sN ∧ bv = .int .i64 b ∧ Hid (PrOk (6 * a + b) ps cs) ∧ Hid (TSt w wr g ao n c (M + 4 + 30 * a + 4 * b) w1.heap.size sN S LL ps cs)) (fun bv _ => sN - (intOf bv).toNat)
      case atStart => exact ⟨a + 1, S, LL, ps, cs, Nat.le_refl _, by omega, by go_num, HP.out.mono (by omega), HT.out.more (by omega)⟩
      case round =>
        clear HP HT
        obtain ⟨b, S, LL, ps, cs, hb1, hb2, rfl, HP, HT⟩ := hrel
        obtain ⟨⟨f0, f1, f2⟩, fz⟩ := id HT.out.bx
        by_cases hltb : b < sN
        · have hbi : (b : Int) < (sN : Int) := by omega
          have hb0 : (0 : Int) ≤ (b : Int) := by omega
          have qo := one_c g ao n c _ 2 wr (by omega) (by omega) HT.out.cu
          go_wp2_with fail
          refine qo.mono ?_
          clear qo f0 f1 f2 fz
          rintro e v1 ⟨bo, rfl, hcu, hgb⟩
          have HT1 : Hid (TSt w v1 g ao n c _ w1.heap.size sN S LL ps cs) := HT.out.turn hcu hgb
          clear HT hcu hgb
          cases bo
          · go_wp2
            go_roundw
            case rel => exact ⟨b + 1, S, LL, ps, cs, by omega, by omega, by go_num, HP.out.mono (by omega), HT1.out.more (by omega)⟩
            case measure => simp [intOf]; omega
          · obtain ⟨gg, cap, v2, hrun, hx2, ht2⟩ := HT1.out.pair (a : Int) (b : Int) (by have := HP.out.1; omega)
            have HT2 : Hid (TSt w (v2.setCell ⟨w1.heap.size, 1, none⟩ (.slice (some ⟨gg, 0, none⟩) (ps.length + 1) cap)) g ao n c _ w1.heap.size sN (.slice (some ⟨gg, 0, none⟩) (ps.length + 1) cap) LL (ps ++ [[(a : Int), (b : Int)]]) cs) := ht2
            obtain ⟨⟨f0, f1, f2⟩, fz⟩ := id HT1.out.bx
            obtain ⟨⟨e0, e1, e2⟩, ez⟩ := id hx2
            clear ht2 hx2 HT1
            go_wp2_with (at_builtin; refine Lib.wpList_append_run _ rfl _ _ _ _ rfl _ _ rfl rfl _ _ (hrun _) ?_; clear hrun)
            clear f0 f1 f2 fz e0 e1 e2 ez
            obtain ⟨v3, hv3⟩ : ∃ D, (v2.setCell ⟨w1.heap.size, 1, none⟩ (.slice (some ⟨gg, 0, none⟩) (ps.length + 1) cap)) = D := ⟨_, rfl⟩
            rw [hv3] at HT2
            try rw [hv3]
            clear hv3
            refine wp_region_held_drew (S := (fun _ => True)) (by kernel_rfl) ?_ (fun hHeld => ?_)
            · trivial
            obtain ⟨v4, hv4⟩ : ∃ D, v3.drew = D := ⟨_, rfl⟩
            have ht3 := HT2.out.turn (HT2.out.cu.later (Below.refl _ _).drew) ((GB.refl g v3).drew)
            rw [hv4] at ht3
            have HT3 : Hid (TSt w v4 g ao n c _ w1.heap.size sN (.slice (some ⟨gg, 0, none⟩) (ps.length + 1) cap) LL (ps ++ [[(a : Int), (b : Int)]]) cs) := ht3
            clear ht3
            rw [hv4]
            clear hv4 HT2
            refine takeDT15 (i := 0) (oi := _) (v := ?_) (d := some 34) rfl (by kernel_rfl) (by kernel_rfl) (by kernel_rfl) (by kernel_rfl) (fun _ _ _ h => h) (Or.inl ⟨by rfl, ?_⟩) (by assumption) ?_
            rotate_left
            · (intro w hSw; (try dsimp only at hSw); go_simp <;> with_reducible rfl)
            try simp only [Act.put, List.setIfInBounds_toArray, List.set_cons_zero, List.set_cons_succ]
            refine takeDT15 (i := 2) (oi := _) (v := ?_) (d := some 36) rfl (by kernel_rfl) (by kernel_rfl) (by kernel_rfl) (by kernel_rfl) (fun _ _ _ h => h) (Or.inl ⟨by rfl, ?_⟩) (by assumption) ?_
            rotate_left
            · (intro w hSw; (try dsimp only at hSw); go_simp <;> with_reducible rfl)
            try simp only [Act.put, List.setIfInBounds_toArray, List.set_cons_zero, List.set_cons_succ]
            refine wpAnyH_ready (rs := [1, 3]) (by kernel_rfl) (by simp) ?_
            refine AllReadyH.cons (o := _) rfl (fun K hK => ?dt1) (AllReadyH.cons (o := _) rfl (fun K hK => ?dt2) AllReadyH.nil)
            case' dt1 =>
              obtain ⟨⟨f0, f1, f2⟩, fz⟩ := id (HT3.out.bx)
              go_simp
              refine hK.out _ _ ?_ (fun hHeld => ?_)
              · trivial
              clear hK K f0 f1 f2 fz
              try simp only [Act.put, List.setIfInBounds_toArray, List.set_cons_zero, List.set_cons_succ]
              refine wpAnyH_ready (rs := [3]) (by kernel_rfl) (by simp) ?_
              refine AllReadyH.cons (o := _) rfl (fun K hK => ?dt3) AllReadyH.nil
              case' dt3 =>
                go_simp
                refine (pick_c g ao n c _ 256 v4 (by omega) (by omega) HT3.out.cu).mono ?_
                rintro e v5 ⟨y, rfl, hy0, hy1, hcu, hgb⟩
                have HT4 : Hid (TSt w v5 g ao n c _ w1.heap.size sN (.slice (some ⟨gg, 0, none⟩) (ps.length + 1) cap) LL (ps ++ [[(a : Int), (b : Int)]]) cs) := HT3.out.turn hcu hgb
                clear hcu hgb HT3
                refine hK.out _ _ ?_ (fun hHeld => ?_)
                · trivial
                clear hK K
                try simp only [Act.put, List.setIfInBounds_toArray, List.set_cons_zero, List.set_cons_succ]
                refine wpAnyH_ready (rs := [4]) (by kernel_rfl) (by simp) ?_
                refine AllReadyH.cons (o := _) rfl (fun K hK => ?dt4) AllReadyH.nil
                case' dt4 =>
                  go_simp
                  refine hK.out _ _ ?_ (fun hHeld => ?_)
                  · trivial
                  clear hK K
                  try simp only [Act.put, List.setIfInBounds_toArray, List.set_cons_zero, List.set_cons_succ]
                  obtain ⟨g2, cap2, v6, hrun, hx2, ht2⟩ := HT4.out.coin y (by have := HP.out.2.1; omega)
                  have HT5 : Hid (TSt w (v6.setCell ⟨w1.heap.size, 2, none⟩ (.slice (some ⟨g2, 0, none⟩) (cs.length + 1) cap2)) g ao n c _ w1.heap.size sN (.slice (some ⟨gg, 0, none⟩) (ps.length + 1) cap) (.slice (some ⟨g2, 0, none⟩) (cs.length + 1) cap2) (ps ++ [[(a : Int), (b : Int)]]) (cs ++ [y])) := ht2
                  obtain ⟨⟨e0, e1, e2⟩, ez⟩ := id hx2
                  clear ht2 hx2 HT4
                  refine wpAnyH_ready (rs := [5]) (by kernel_rfl) (by simp) ?_
                  refine AllReadyH.cons (o := _) rfl (fun K hK => ?_) AllReadyH.nil
                  rw [if_pos (by rfl)]
                  refine Lib.wp_append_run _ _ _ _ _ rfl LL (.slice (some ⟨v5.heap.size, 0, none⟩) 1 1) (by rfl) (by rfl) (.slice (some ⟨g2, 0, none⟩) (cs.length + 1) cap2) v6 (hrun _) ?_
                  clear hrun
                  refine hK.out _ _ ?_ (fun hHeld => ?_)
                  · trivial
                  clear hK K
                  try simp only [Act.put, List.setIfInBounds_toArray, List.set_cons_zero, List.set_cons_succ]
                  try simp only [List.getElem_toArray, List.getElem_cons_succ, List.getElem_cons_zero, Act.put, List.setIfInBounds_toArray, List.set_cons_zero, List.set_cons_succ]
                  refine takeDT15 (i := 6) (oi := _) (v := ?_) (d := some 40) rfl (by kernel_rfl) (by kernel_rfl) (by kernel_rfl) (by kernel_rfl) (fun _ _ _ h => h) (Or.inl ⟨by rfl, ?_⟩) (by assumption) ?_
                  rotate_left
                  · (intro w hSw; (try dsimp only at hSw); go_simp <;> with_reducible rfl)
                  try simp only [Act.put, List.setIfInBounds_toArray, List.set_cons_zero, List.set_cons_succ]
                  refine wpAnyH_ready (rs := [7]) (by kernel_rfl) (by simp) ?_
                  refine AllReadyH.cons (o := _) rfl (fun K hK => ?_) AllReadyH.nil
                  go_simp
                  refine hK.out _ _ ?_ (fun hHeld => ?_)
                  · trivial
                  clear hK K
                  try simp only [Act.put, List.setIfInBounds_toArray, List.set_cons_zero, List.set_cons_succ]
                  refine wpAnyH_done (by kernel_rfl) ?_ _
                  clear hHeld e0 e1 e2 ez
                  go_wp2
                  go_roundw
                  case rel => exact ⟨b + 1, (.slice (some ⟨gg, 0, none⟩) (ps.length + 1) cap), (.slice (some ⟨g2, 0, none⟩) (cs.length + 1) cap2), _, _, by omega, by omega, by go_num, by have := HP.out.pair (a : Int) (b : Int) y; exact this.mono (by omega), HT5.out.more (by omega)⟩
                  case measure => simp [intOf]; omega
            case' dt2 =>
              go_simp
              refine (pick_c g ao n c _ 256 v4 (by omega) (by omega) HT3.out.cu).mono ?_
              rintro e v5 ⟨y, rfl, hy0, hy1, hcu, hgb⟩
              have HT4 : Hid (TSt w v5 g ao n c _ w1.heap.size sN (.slice (some ⟨gg, 0, none⟩) (ps.length + 1) cap) LL (ps ++ [[(a : Int), (b : Int)]]) cs) := HT3.out.turn hcu hgb
              clear hcu hgb HT3
              refine hK.out _ _ ?_ (fun hHeld => ?_)
              · trivial
              clear hK K
              try simp only [Act.put, List.setIfInBounds_toArray, List.set_cons_zero, List.set_cons_succ]
              refine wpAnyH_ready (rs := [1, 4]) (by kernel_rfl) (by simp) ?_
              refine AllReadyH.cons (o := _) rfl (fun K hK => ?dt5) (AllReadyH.cons (o := _) rfl (fun K hK => ?dt6) AllReadyH.nil)
              case' dt5 =>
                obtain ⟨⟨f0, f1, f2⟩, fz⟩ := id (HT4.out.bx)
                go_simp
                refine hK.out _ _ ?_ (fun hHeld => ?_)
                · trivial
                clear hK K f0 f1 f2 fz
                try simp only [Act.put, List.setIfInBounds_toArray, List.set_cons_zero, List.set_cons_succ]
                refine wpAnyH_ready (rs := [4]) (by kernel_rfl) (by simp) ?_
                refine AllReadyH.cons (o := _) rfl (fun K hK => ?dt7) AllReadyH.nil
                case' dt7 =>
                  go_simp
                  refine hK.out _ _ ?_ (fun hHeld => ?_)
                  · trivial
                  clear hK K
                  try simp only [Act.put, List.setIfInBounds_toArray, List.set_cons_zero, List.set_cons_succ]
                  obtain ⟨g2, cap2, v6, hrun, hx2, ht2⟩ := HT4.out.coin y (by have := HP.out.2.1; omega)
                  have HT5 : Hid (TSt w (v6.setCell ⟨w1.heap.size, 2, none⟩ (.slice (some ⟨g2, 0, none⟩) (cs.length + 1) cap2)) g ao n c _ w1.heap.size sN (.slice (some ⟨gg, 0, none⟩) (ps.length + 1) cap) (.slice (some ⟨g2, 0, none⟩) (cs.length + 1) cap2) (ps ++ [[(a : Int), (b : Int)]]) (cs ++ [y])) := ht2
                  obtain ⟨⟨e0, e1, e2⟩, ez⟩ := id hx2
                  clear ht2 hx2 HT4
                  refine wpAnyH_ready (rs := [5]) (by kernel_rfl) (by simp) ?_
                  refine AllReadyH.cons (o := _) rfl (fun K hK => ?_) AllReadyH.nil
                  rw [if_pos (by rfl)]
                  refine Lib.wp_append_run _ _ _ _ _ rfl LL (.slice (some ⟨v5.heap.size, 0, none⟩) 1 1) (by rfl) (by rfl) (.slice (some ⟨g2, 0, none⟩) (cs.length + 1) cap2) v6 (hrun _) ?_
                  clear hrun
                  refine hK.out _ _ ?_ (fun hHeld => ?_)
                  · trivial
                  clear hK K
                  try simp only [Act.put, List.setIfInBounds_toArray, List.set_cons_zero, List.set_cons_succ]
                  try simp only [List.getElem_toArray, List.getElem_cons_succ, List.getElem_cons_zero, Act.put, List.setIfInBounds_toArray, List.set_cons_zero, List.set_cons_succ]
                  refine takeDT15 (i := 6) (oi := _) (v := ?_) (d := some 40) rfl (by kernel_rfl) (by kernel_rfl) (by kernel_rfl) (by kernel_rfl) (fun _ _ _ h => h) (Or.inl ⟨by rfl, ?_⟩) (by assumption) ?_
                  rotate_left
                  · (intro w hSw; (try dsimp only at hSw); go_simp <;> with_reducible rfl)
                  try simp only [Act.put, List.setIfInBounds_toArray, List.set_cons_zero, List.set_cons_succ]
                  refine wpAnyH_ready (rs := [7]) (by kernel_rfl) (by simp) ?_
                  refine AllReadyH.cons (o := _) rfl (fun K hK => ?_) AllReadyH.nil
                  go_simp
                  refine hK.out _ _ ?_ (fun hHeld => ?_)
                  · trivial
                  clear hK K
                  try simp only [Act.put, List.setIfInBounds_toArray, List.set_cons_zero, List.set_cons_succ]
                  refine wpAnyH_done (by kernel_rfl) ?_ _
                  clear hHeld e0 e1 e2 ez
                  go_wp2
                  go_roundw
                  case rel => exact ⟨b + 1, (.slice (some ⟨gg, 0, none⟩) (ps.length + 1) cap), (.slice (some ⟨g2, 0, none⟩) (cs.length + 1) cap2), _, _, by omega, by omega, by go_num, by have := HP.out.pair (a : Int) (b : Int) y; exact this.mono (by omega), HT5.out.more (by omega)⟩
                  case measure => simp [intOf]; omega
              case' dt6 =>
                go_simp
                refine hK.out _ _ ?_ (fun hHeld => ?_)
                · trivial
                clear hK K
                try simp only [Act.put, List.setIfInBounds_toArray, List.set_cons_zero, List.set_cons_succ]
                refine wpAnyH_ready (rs := [1]) (by kernel_rfl) (by simp) ?_
                refine AllReadyH.cons (o := _) rfl (fun K hK => ?dt8) AllReadyH.nil
                case' dt8 =>
                  obtain ⟨⟨f0, f1, f2⟩, fz⟩ := id (HT4.out.bx.later (balloc v5 (.cells #[.int .i64 y] 3)))
                  go_simp
                  refine hK.out _ _ ?_ (fun hHeld => ?_)
                  · trivial
                  clear hK K f0 f1 f2 fz
                  try simp only [Act.put, List.setIfInBounds_toArray, List.set_cons_zero, List.set_cons_succ]
                  obtain ⟨g2, cap2, v6, hrun, hx2, ht2⟩ := HT4.out.coin y (by have := HP.out.2.1; omega)
                  have HT5 : Hid (TSt w (v6.setCell ⟨w1.heap.size, 2, none⟩ (.slice (some ⟨g2, 0, none⟩) (cs.length + 1) cap2)) g ao n c _ w1.heap.size sN (.slice (some ⟨gg, 0, none⟩) (ps.length + 1) cap) (.slice (some ⟨g2, 0, none⟩) (cs.length + 1) cap2) (ps ++ [[(a : Int), (b : Int)]]) (cs ++ [y])) := ht2
                  obtain ⟨⟨e0, e1, e2⟩, ez⟩ := id hx2
                  clear ht2 hx2 HT4
                  refine wpAnyH_ready (rs := [5]) (by kernel_rfl) (by simp) ?_
                  refine AllReadyH.cons (o := _) rfl (fun K hK => ?_) AllReadyH.nil
                  rw [if_pos (by rfl)]
                  refine Lib.wp_append_run _ _ _ _ _ rfl LL (.slice (some ⟨v5.heap.size, 0, none⟩) 1 1) (by rfl) (by rfl) (.slice (some ⟨g2, 0, none⟩) (cs.length + 1) cap2) v6 (hrun _) ?_
                  clear hrun
                  refine hK.out _ _ ?_ (fun hHeld => ?_)
                  · trivial
                  clear hK K
                  try simp only [Act.put, List.setIfInBounds_toArray, List.set_cons_zero, List.set_cons_succ]
                  try simp only [List.getElem_toArray, List.getElem_cons_succ, List.getElem_cons_zero, Act.put, List.setIfInBounds_toArray, List.set_cons_zero, List.set_cons_succ]
                  refine takeDT15 (i := 6) (oi := _) (v := ?_) (d := some 40) rfl (by kernel_rfl) (by kernel_rfl) (by kernel_rfl) (by kernel_rfl) (fun _ _ _ h => h) (Or.inl ⟨by rfl, ?_⟩) (by assumption) ?_
                  rotate_left
                  · (intro w hSw; (try dsimp only at hSw); go_simp <;> with_reducible rfl)
                  try simp only [Act.put, List.setIfInBounds_toArray, List.set_cons_zero, List.set_cons_succ]
                  refine wpAnyH_ready (rs := [7]) (by kernel_rfl) (by simp) ?_
                  refine AllReadyH.cons (o := _) rfl (fun K hK => ?_) AllReadyH.nil
                  go_simp
                  refine hK.out _ _ ?_ (fun hHeld => ?_)
                  · trivial
                  clear hK K
                  try simp only [Act.put, List.setIfInBounds_toArray, List.set_cons_zero, List.set_cons_succ]
                  refine wpAnyH_done (by kernel_rfl) ?_ _
                  clear hHeld e0 e1 e2 ez
                  go_wp2
                  go_roundw
                  case rel => exact ⟨b + 1, (.slice (some ⟨gg, 0, none⟩) (ps.length + 1) cap), (.slice (some ⟨g2, 0, none⟩) (cs.length + 1) cap2), _, _, by omega, by omega, by go_num, by have := HP.out.pair (a : Int) (b : Int) y; exact this.mono (by omega), HT5.out.more (by omega)⟩
                  case measure => simp [intOf]; omega
        · obtain rfl : b = sN := by omega
          go_wp2
          go_roundw
          case rel => exact ⟨a + 1, S, LL, ps, cs, by omega, by go_num, HP.out.mono (by omega), HT.out.more (by omega)⟩
          case measure => simp [intOf]; omega
    obtain rfl : a = sN := by omega
    have hai : ¬ (a : Int) < (a : Int) := by omega
    have qp := pick_c g ao n c _ 30 wo (by omega) (by omega) HT.out.cu
    go_wp2_with fail
    refine qp.mono ?_
    clear qp f0 f1 f2 fz
    rintro e v1 ⟨z, rfl, hz0, hz1, hcu, hgb⟩
    have HT1 : Hid (TSt w v1 g ao n c _ w1.heap.size a S LL ps cs) := HT.out.turn hcu hgb
    clear HT hcu hgb
    have hrl := HT1.out.rl
    obtain ⟨sa, sc, la, lc, hS, hL⟩ := HT1.out.tb.form
    have hS9 : S = .slice sa ps.length sc := hS
    have hL9 : LL = .slice la cs.length lc := hL
    clear hS hL
    subst hS9 hL9
    by_cases c0 : z = 0
    · subst c0
      have HL := lit_cells (fun v => 0 ≤ v ∧ v ≤ 7) v1 #[.int .i64 0, .int .i64 6, .int .i64 7] 3 3 rfl (by simp [allP])
      have C5 := HT1.out.cu.alloc (.cells #[.int .i64 0, .int .i64 6, .int .i64 7] 3)
      have hvl : g < v1.heap.size := HT1.out.cu.lt
      have HT2 : Hid (TSt w (v1.alloc (.cells #[.int .i64 0, .int .i64 6, .int .i64 7] 3)) g ao n c _ w1.heap.size a (.slice sa ps.length sc) (.slice la cs.length lc) ps cs) := HT1.out.turn C5 ((GB.refl g v1).alloc _)
      clear HT1
      go_wp2_with fail
      refine (among_p (fun v => 0 ≤ v ∧ v ≤ 7) g ao n c _ v1.heap.size 3 _ (by omega) (by omega) HL (by omega) C5).mono ?_
      clear HL C5
      rintro e v2 ⟨y, rfl, hy, hcu, hgb⟩
      have HT3 : Hid (TSt w v2 g ao n c _ w1.heap.size a (.slice sa ps.length sc) (.slice la cs.length lc) ps cs) := HT2.out.turn hcu hgb
      have HT4 : Hid (TSt w (v2.setCell ⟨w1.heap.size, 0, none⟩ (.int .i64 y)) g ao n c _ w1.heap.size y (.slice sa ps.length sc) (.slice la cs.length lc) ps cs) := HT3.out.seat y
      obtain ⟨⟨b0, b1, b2⟩, bz⟩ := id HT3.out.bx
      clear hcu hgb HT2 HT3
      have hb9 : Below w.heap.size (v2.setCell ⟨w1.heap.size, 0, none⟩ (.int .i64 y)) ((((v2.setCell ⟨w1.heap.size, 0, none⟩ (.int .i64 y)).setCell ⟨w.heap.size, 0, none⟩ (.int .i64 y)).setCell ⟨w.heap.size, 1, none⟩ (.slice sa ps.length sc)).setCell ⟨w.heap.size, 2, none⟩ (.slice la cs.length lc)) := ((below_set _ _ _ _).setCell (p := ⟨w.heap.size, 1, none⟩) (Nat.le_refl _) _).setCell (p := ⟨w.heap.size, 2, none⟩) (Nat.le_refl _) _
      have HTB : Hid (OwnTb ((((v2.setCell ⟨w1.heap.size, 0, none⟩ (.int .i64 y)).setCell ⟨w.heap.size, 0, none⟩ (.int .i64 y)).setCell ⟨w.heap.size, 1, none⟩ (.slice sa ps.length sc)).setCell ⟨w.heap.size, 2, none⟩ (.slice la cs.length lc)) (w1.heap.size + 1) (v2.setCell ⟨w1.heap.size, 0, none⟩ (.int .i64 y)).heap.size (.slice sa ps.length sc) (.slice la cs.length lc) ⟨y, ps, cs⟩) := ((HT4.out.tb.set (by omega) _).set (by omega) _).set (by omega) _
      have HCU : Hid (Cur ((((v2.setCell ⟨w1.heap.size, 0, none⟩ (.int .i64 y)).setCell ⟨w.heap.size, 0, none⟩ (.int .i64 y)).setCell ⟨w.heap.size, 1, none⟩ (.slice sa ps.length sc)).setCell ⟨w.heap.size, 2, none⟩ (.slice la cs.length lc)) g ao n c _) := cur_low HT4.out.cu hb9 HCL.out hgl
      have HGB : Hid (GB g w ((((v2.setCell ⟨w1.heap.size, 0, none⟩ (.int .i64 y)).setCell ⟨w.heap.size, 0, none⟩ (.int .i64 y)).setCell ⟨w.heap.size, 1, none⟩ (.slice sa ps.length sc)).setCell ⟨w.heap.size, 2, none⟩ (.slice la cs.length lc))) := gb_low HT4.out.gb hb9 (Nat.le_refl _)
      obtain ⟨⟨f0, f1, f2⟩, fz⟩ := id HT4.out.bx
      obtain ⟨⟨e0, e1, e2⟩, ez⟩ := id HT4.out.res
      obtain ⟨⟨d0, d1, d2⟩, dz⟩ := id (((HT4.out.res.set0 (.int .i64 y)).set1 (.slice sa ps.length sc)).set2 (.slice la cs.length lc))
      have HSM : Hid (SmallTb ⟨y, ps, cs⟩) := (HP.out).small (by omega) _
      clear hb9 dz
      go_wp2
      refine bodyPost_ret (v := .agg #[.int .i64 y, (.slice sa ps.length sc), (.slice la cs.length lc)]) (by simp [results, Try.results31, go_sem, d0, d1, d2]; try rfl) rfl ?_
      have HTC : OwnTb ((((v2.setCell ⟨w1.heap.size, 0, none⟩ (.int .i64 y)).setCell ⟨w.heap.size, 0, none⟩ (.int .i64 y)).setCell ⟨w.heap.size, 1, none⟩ (.slice sa ps.length sc)).setCell ⟨w.heap.size, 2, none⟩ (.slice la cs.length lc)) w.heap.size ((((v2.setCell ⟨w1.heap.size, 0, none⟩ (.int .i64 y)).setCell ⟨w.heap.size, 0, none⟩ (.int .i64 y)).setCell ⟨w.heap.size, 1, none⟩ (.slice sa ps.length sc)).setCell ⟨w.heap.size, 2, none⟩ (.slice la cs.length lc)).heap.size (.slice sa ps.length sc) (.slice la cs.length lc) ⟨y, ps, cs⟩ := HTB.out.mono (by omega) (by simp only [set_hs, Nat.le_refl])
      refine ⟨⟨y, ps, cs⟩, sa, sc, la, lc, ?_, by show 0 ≤ (y : Int) ∧ (y : Int) ≤ 7; omega, HSM.out, ?_, HCU.out.mono (by omega), HGB.out⟩
      rotate_left
      · show OwnTb _ _ _ (.slice _ (ps).length _) (.slice _ (cs).length _) _
        exact HTC
      · show _ = Ending.returned (.agg #[_, .slice _ (ps).length _, .slice _ (cs).length _])
        rfl
    have c0b : (z == 0) = false := by rw [beq_eq_false_iff_ne]; exact c0
    by_cases c1 : z = 1
    · subst c1
      obtain ⟨g2, cap2, v2, hrun, hx2, ht2⟩ := HT1.out.coin 5 (by have := HP.out.2.1; omega)
      have HT4 : Hid (TSt w (v2.setCell ⟨w1.heap.size, 2, none⟩ (.slice (some ⟨g2, 0, none⟩) (cs.length + 1) cap2)) g ao n c _ w1.heap.size a (.slice sa ps.length sc) (.slice (some ⟨g2, 0, none⟩) (cs.length + 1) cap2) ps (cs ++ [5])) := ht2
      obtain ⟨⟨b0, b1, b2⟩, bz⟩ := id HT1.out.bx
      obtain ⟨⟨k0, k1, k2⟩, kz⟩ := id hx2
      clear hx2 ht2 HT1
      have hb9 : Below w.heap.size (v2.setCell ⟨w1.heap.size, 2, none⟩ (.slice (some ⟨g2, 0, none⟩) (cs.length + 1) cap2)) ((((v2.setCell ⟨w1.heap.size, 2, none⟩ (.slice (some ⟨g2, 0, none⟩) (cs.length + 1) cap2)).setCell ⟨w.heap.size, 0, none⟩ (.int .i64 a)).setCell ⟨w.heap.size, 1, none⟩ (.slice sa ps.length sc)).setCell ⟨w.heap.size, 2, none⟩ (.slice (some ⟨g2, 0, none⟩) (cs.length + 1) cap2)) := ((below_set _ _ _ _).setCell (p := ⟨w.heap.size, 1, none⟩) (Nat.le_refl _) _).setCell (p := ⟨w.heap.size, 2, none⟩) (Nat.le_refl _) _
      have HTB : Hid (OwnTb ((((v2.setCell ⟨w1.heap.size, 2, none⟩ (.slice (some ⟨g2, 0, none⟩) (cs.length + 1) cap2)).setCell ⟨w.heap.size, 0, none⟩ (.int .i64 a)).setCell ⟨w.heap.size, 1, none⟩ (.slice sa ps.length sc)).setCell ⟨w.heap.size, 2, none⟩ (.slice (some ⟨g2, 0, none⟩) (cs.length + 1) cap2)) (w1.heap.size + 1) (v2.setCell ⟨w1.heap.size, 2, none⟩ (.slice (some ⟨g2, 0, none⟩) (cs.length + 1) cap2)).heap.size (.slice sa ps.length sc) (.slice (some ⟨g2, 0, none⟩) (cs.length + 1) cap2) ⟨a, ps, (cs ++ [5])⟩) := ((HT4.out.tb.set (by omega) _).set (by omega) _).set (by omega) _
      have HCU : Hid (Cur ((((v2.setCell ⟨w1.heap.size, 2, none⟩ (.slice (some ⟨g2, 0, none⟩) (cs.length + 1) cap2)).setCell ⟨w.heap.size, 0, none⟩ (.int .i64 a)).setCell ⟨w.heap.size, 1, none⟩ (.slice sa ps.length sc)).setCell ⟨w.heap.size, 2, none⟩ (.slice (some ⟨g2, 0, none⟩) (cs.length + 1) cap2)) g ao n c _) := cur_low HT4.out.cu hb9 HCL.out hgl
      have HGB : Hid (GB g w ((((v2.setCell ⟨w1.heap.size, 2, none⟩ (.slice (some ⟨g2, 0, none⟩) (cs.length + 1) cap2)).setCell ⟨w.heap.size, 0, none⟩ (.int .i64 a)).setCell ⟨w.heap.size, 1, none⟩ (.slice sa ps.length sc)).setCell ⟨w.heap.size, 2, none⟩ (.slice (some ⟨g2, 0, none⟩) (cs.length + 1) cap2))) := gb_low HT4.out.gb hb9 (Nat.le_refl _)
      obtain ⟨⟨f0, f1, f2⟩, fz⟩ := id HT4.out.bx
      obtain ⟨⟨e0, e1, e2⟩, ez⟩ := id HT4.out.res
      obtain ⟨⟨d0, d1, d2⟩, dz⟩ := id (((HT4.out.res.set0 (.int .i64 a)).set1 (.slice sa ps.length sc)).set2 (.slice (some ⟨g2, 0, none⟩) (cs.length + 1) cap2))
      have HSM : Hid (SmallTb ⟨a, ps, (cs ++ [5])⟩) := (HP.out.coin 5).small (by omega) _
      clear hb9 dz
      go_wp2_with (at_builtin; refine Lib.wpList_append_run _ rfl _ _ _ _ rfl _ _ rfl rfl _ _ (hrun _) ?_; clear hrun)
      refine bodyPost_ret (v := .agg #[.int .i64 a, (.slice sa ps.length sc), (.slice (some ⟨g2, 0, none⟩) (cs.length + 1) cap2)]) (by simp [results, Try.results31, go_sem, d0, d1, d2]; try rfl) rfl ?_
      have HTC : OwnTb ((((v2.setCell ⟨w1.heap.size, 2, none⟩ (.slice (some ⟨g2, 0, none⟩) (cs.length + 1) cap2)).setCell ⟨w.heap.size, 0, none⟩ (.int .i64 a)).setCell ⟨w.heap.size, 1, none⟩ (.slice sa ps.length sc)).setCell ⟨w.heap.size, 2, none⟩ (.slice (some ⟨g2, 0, none⟩) (cs.length + 1) cap2)) w.heap.size ((((v2.setCell ⟨w1.heap.size, 2, none⟩ (.slice (some ⟨g2, 0, none⟩) (cs.length + 1) cap2)).setCell ⟨w.heap.size, 0, none⟩ (.int .i64 a)).setCell ⟨w.heap.size, 1, none⟩ (.slice sa ps.length sc)).setCell ⟨w.heap.size, 2, none⟩ (.slice (some ⟨g2, 0, none⟩) (cs.length + 1) cap2)).heap.size (.slice sa ps.length sc) (.slice (some ⟨g2, 0, none⟩) (cs.length + 1) cap2) ⟨a, ps, (cs ++ [5])⟩ := HTB.out.mono (by omega) (by simp only [set_hs, Nat.le_refl])
      refine ⟨⟨a, ps, (cs ++ [5])⟩, sa, sc, (some ⟨g2, 0, none⟩), cap2, ?_, by show 0 ≤ (a : Int) ∧ (a : Int) ≤ 7; omega, HSM.out, ?_, HCU.out.mono (by omega), HGB.out⟩
      rotate_left
      · show OwnTb _ _ _ (.slice _ (ps).length _) (.slice _ ((cs ++ [5])).length _) _
        simp only [List.length_append, List.length_singleton]
        exact HTC
      · show _ = Ending.returned (.agg #[_, .slice _ (ps).length _, .slice _ ((cs ++ [5])).length _])
        simp only [List.length_append, List.length_singleton]
    have c1b : (z == 1) = false := by rw [beq_eq_false_iff_ne]; exact c1
    by_cases c2 : z = 2
    · subst c2
      obtain ⟨gg, cap, v2, hrun, hx2, ht2⟩ := HT1.out.pair 1 0 (by have := HP.out.1; omega)
      obtain ⟨v3, hv3⟩ : ∃ D, v2.setCell ⟨w1.heap.size, 1, none⟩ (.slice (some ⟨gg, 0, none⟩) (ps.length + 1) cap) = D := ⟨_, rfl⟩
      rw [hv3] at ht2
      have HV3 : Hid (v2.setCell ⟨w1.heap.size, 1, none⟩ (.slice (some ⟨gg, 0, none⟩) (ps.length + 1) cap) = v3) := hv3
      obtain ⟨g2, cap2, v4, hrun2, hx4, ht4⟩ := ht2.coin 5 (by have := HP.out.2.1; omega)
      have HT4 : Hid (TSt w (v4.setCell ⟨w1.heap.size, 2, none⟩ (.slice (some ⟨g2, 0, none⟩) (cs.length + 1) cap2)) g ao n c _ w1.heap.size a (.slice (some ⟨gg, 0, none⟩) (ps.length + 1) cap) (.slice (some ⟨g2, 0, none⟩) (cs.length + 1) cap2) (ps ++ [[1, 0]]) (cs ++ [5])) := ht4
      obtain ⟨⟨b0, b1, b2⟩, bz⟩ := id HT1.out.bx
      obtain ⟨⟨k0, k1, k2⟩, kz⟩ := id hx2
      obtain ⟨⟨m0, m1, m2⟩, mz⟩ := id ht2.bx
      obtain ⟨⟨j0, j1, j2⟩, jz⟩ := id hx4
      clear hx2 hx4 ht2 ht4 HT1
      have hb9 : Below w.heap.size (v4.setCell ⟨w1.heap.size, 2, none⟩ (.slice (some ⟨g2, 0, none⟩) (cs.length + 1) cap2)) ((((v4.setCell ⟨w1.heap.size, 2, none⟩ (.slice (some ⟨g2, 0, none⟩) (cs.length + 1) cap2)).setCell ⟨w.heap.size, 0, none⟩ (.int .i64 a)).setCell ⟨w.heap.size, 1, none⟩ (.slice (some ⟨gg, 0, none⟩) (ps.length + 1) cap)).setCell ⟨w.heap.size, 2, none⟩ (.slice (some ⟨g2, 0, none⟩) (cs.length + 1) cap2)) := ((below_set _ _ _ _).setCell (p := ⟨w.heap.size, 1, none⟩) (Nat.le_refl _) _).setCell (p := ⟨w.heap.size, 2, none⟩) (Nat.le_refl _) _
      have HTB : Hid (OwnTb ((((v4.setCell ⟨w1.heap.size, 2, none⟩ (.slice (some ⟨g2, 0, none⟩) (cs.length + 1) cap2)).setCell ⟨w.heap.size, 0, none⟩ (.int .i64 a)).setCell ⟨w.heap.size, 1, none⟩ (.slice (some ⟨gg, 0, none⟩) (ps.length + 1) cap)).setCell ⟨w.heap.size, 2, none⟩ (.slice (some ⟨g2, 0, none⟩) (cs.length + 1) cap2)) (w1.heap.size + 1) (v4.setCell ⟨w1.heap.size, 2, none⟩ (.slice (some ⟨g2, 0, none⟩) (cs.length + 1) cap2)).heap.size (.slice (some ⟨gg, 0, none⟩) (ps.length + 1) cap) (.slice (some ⟨g2, 0, none⟩) (cs.length + 1) cap2) ⟨a, (ps ++ [[1, 0]]), (cs ++ [5])⟩) := ((HT4.out.tb.set (by omega) _).set (by omega) _).set (by omega) _
      have HCU : Hid (Cur ((((v4.setCell ⟨w1.heap.size, 2, none⟩ (.slice (some ⟨g2, 0, none⟩) (cs.length + 1) cap2)).setCell ⟨w.heap.size, 0, none⟩ (.int .i64 a)).setCell ⟨w.heap.size, 1, none⟩ (.slice (some ⟨gg, 0, none⟩) (ps.length + 1) cap)).setCell ⟨w.heap.size, 2, none⟩ (.slice (some ⟨g2, 0, none⟩) (cs.length + 1) cap2)) g ao n c _) := cur_low HT4.out.cu hb9 HCL.out hgl
      have HGB : Hid (GB g w ((((v4.setCell ⟨w1.heap.size, 2, none⟩ (.slice (some ⟨g2, 0, none⟩) (cs.length + 1) cap2)).setCell ⟨w.heap.size, 0, none⟩ (.int .i64 a)).setCell ⟨w.heap.size, 1, none⟩ (.slice (some ⟨gg, 0, none⟩) (ps.length + 1) cap)).setCell ⟨w.heap.size, 2, none⟩ (.slice (some ⟨g2, 0, none⟩) (cs.length + 1) cap2))) := gb_low HT4.out.gb hb9 (Nat.le_refl _)
      obtain ⟨⟨f0, f1, f2⟩, fz⟩ := id HT4.out.bx
      obtain ⟨⟨e0, e1, e2⟩, ez⟩ := id HT4.out.res
      obtain ⟨⟨d0, d1, d2⟩, dz⟩ := id (((HT4.out.res.set0 (.int .i64 a)).set1 (.slice (some ⟨gg, 0, none⟩) (ps.length + 1) cap)).set2 (.slice (some ⟨g2, 0, none⟩) (cs.length + 1) cap2))
      have HSM : Hid (SmallTb ⟨a, (ps ++ [[1, 0]]), (cs ++ [5])⟩) := (HP.out.pair 1 0 5).small (by omega) _
      clear hb9 dz
      go_wp2_with (at_builtin; first | (refine Lib.wpList_append_run _ rfl _ _ _ _ rfl _ _ rfl rfl _ _ (hrun _) ?_; clear hrun) | (refine Lib.wpList_append_run _ rfl _ _ _ _ rfl _ _ rfl rfl _ _ (hrun2 _) ?_; clear hrun2))
      refine bodyPost_ret (v := .agg #[.int .i64 a, (.slice (some ⟨gg, 0, none⟩) (ps.length + 1) cap), (.slice (some ⟨g2, 0, none⟩) (cs.length + 1) cap2)]) (by simp [results, Try.results31, go_sem, d0, d1, d2]; try rfl) rfl ?_
      have HTC : OwnTb ((((v4.setCell ⟨w1.heap.size, 2, none⟩ (.slice (some ⟨g2, 0, none⟩) (cs.length + 1) cap2)).setCell ⟨w.heap.size, 0, none⟩ (.int .i64 a)).setCell ⟨w.heap.size, 1, none⟩ (.slice (some ⟨gg, 0, none⟩) (ps.length + 1) cap)).setCell ⟨w.heap.size, 2, none⟩ (.slice (some ⟨g2, 0, none⟩) (cs.length + 1) cap2)) w.heap.size ((((v4.setCell ⟨w1.heap.size, 2, none⟩ (.slice (some ⟨g2, 0, none⟩) (cs.length + 1) cap2)).setCell ⟨w.heap.size, 0, none⟩ (.int .i64 a)).setCell ⟨w.heap.size, 1, none⟩ (.slice (some ⟨gg, 0, none⟩) (ps.length + 1) cap)).setCell ⟨w.heap.size, 2, none⟩ (.slice (some ⟨g2, 0, none⟩) (cs.length + 1) cap2)).heap.size (.slice (some ⟨gg, 0, none⟩) (ps.length + 1) cap) (.slice (some ⟨g2, 0, none⟩) (cs.length + 1) cap2) ⟨a, (ps ++ [[1, 0]]), (cs ++ [5])⟩ := HTB.out.mono (by omega) (by simp only [set_hs, Nat.le_refl])
      refine ⟨⟨a, (ps ++ [[1, 0]]), (cs ++ [5])⟩, (some ⟨gg, 0, none⟩), cap, (some ⟨g2, 0, none⟩), cap2, ?_, by show 0 ≤ (a : Int) ∧ (a : Int) ≤ 7; omega, HSM.out, ?_, HCU.out.mono (by omega), HGB.out⟩
      rotate_left
      · show OwnTb _ _ _ (.slice _ ((ps ++ [[1, 0]])).length _) (.slice _ ((cs ++ [5])).length _) _
        simp only [List.length_append, List.length_singleton]
        exact HTC
      · show _ = Ending.returned (.agg #[_, .slice _ ((ps ++ [[1, 0]])).length _, .slice _ ((cs ++ [5])).length _])
        simp only [List.length_append, List.length_singleton]
    have c2b : (z == 2) = false := by rw [beq_eq_false_iff_ne]; exact c2
    have hb9 : Below w.heap.size v1 (((v1.setCell ⟨w.heap.size, 0, none⟩ (.int .i64 a)).setCell ⟨w.heap.size, 1, none⟩ (.slice sa ps.length sc)).setCell ⟨w.heap.size, 2, none⟩ (.slice la cs.length lc)) := ((below_set _ _ _ _).setCell (p := ⟨w.heap.size, 1, none⟩) (Nat.le_refl _) _).setCell (p := ⟨w.heap.size, 2, none⟩) (Nat.le_refl _) _
    have HTB : Hid (OwnTb (((v1.setCell ⟨w.heap.size, 0, none⟩ (.int .i64 a)).setCell ⟨w.heap.size, 1, none⟩ (.slice sa ps.length sc)).setCell ⟨w.heap.size, 2, none⟩ (.slice la cs.length lc)) (w1.heap.size + 1) v1.heap.size (.slice sa ps.length sc) (.slice la cs.length lc) ⟨a, ps, cs⟩) := ((HT1.out.tb.set (by omega) _).set (by omega) _).set (by omega) _
    have HCU : Hid (Cur (((v1.setCell ⟨w.heap.size, 0, none⟩ (.int .i64 a)).setCell ⟨w.heap.size, 1, none⟩ (.slice sa ps.length sc)).setCell ⟨w.heap.size, 2, none⟩ (.slice la cs.length lc)) g ao n c _) := cur_low HT1.out.cu hb9 HCL.out hgl
    have HGB : Hid (GB g w (((v1.setCell ⟨w.heap.size, 0, none⟩ (.int .i64 a)).setCell ⟨w.heap.size, 1, none⟩ (.slice sa ps.length sc)).setCell ⟨w.heap.size, 2, none⟩ (.slice la cs.length lc))) := gb_low HT1.out.gb hb9 (Nat.le_refl _)
    obtain ⟨⟨f0, f1, f2⟩, fz⟩ := id HT1.out.bx
    obtain ⟨⟨e0, e1, e2⟩, ez⟩ := id HT1.out.res
    obtain ⟨⟨d0, d1, d2⟩, dz⟩ := id (((HT1.out.res.set0 (.int .i64 a)).set1 (.slice sa ps.length sc)).set2 (.slice la cs.length lc))
    have HSM : Hid (SmallTb ⟨a, ps, cs⟩) := (HP.out).small (by omega) _
    clear hb9 dz
    go_wp2
    refine bodyPost_ret (v := .agg #[.int .i64 a, (.slice sa ps.length sc), (.slice la cs.length lc)]) (by simp [results, Try.results31, go_sem, d0, d1, d2]; try rfl) rfl ?_
    have HTC : OwnTb (((v1.setCell ⟨w.heap.size, 0, none⟩ (.int .i64 a)).setCell ⟨w.heap.size, 1, none⟩ (.slice sa ps.length sc)).setCell ⟨w.heap.size, 2, none⟩ (.slice la cs.length lc)) w.heap.size (((v1.setCell ⟨w.heap.size, 0, none⟩ (.int .i64 a)).setCell ⟨w.heap.size, 1, none⟩ (.slice sa ps.length sc)).setCell ⟨w.heap.size, 2, none⟩ (.slice la cs.length lc)).heap.size (.slice sa ps.length sc) (.slice la cs.length lc) ⟨a, ps, cs⟩ := HTB.out.mono (by omega) (by simp only [set_hs, Nat.le_refl])
    refine ⟨⟨a, ps, cs⟩, sa, sc, la, lc, ?_, by show 0 ≤ (a : Int) ∧ (a : Int) ≤ 7; omega, HSM.out, ?_, HCU.out.mono (by omega), HGB.out⟩
    rotate_left
    · show OwnTb _ _ _ (.slice _ (ps).length _) (.slice _ (cs).length _) _
      exact HTC
    · show _ = Ending.returned (.agg #[_, .slice _ (ps).length _, .slice _ (cs).length _])
      rfl

end Go.Proofs.Ytbjpkklonjlmiaa

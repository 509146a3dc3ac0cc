/- Chapter 9: the cycles of an order, told one by one. -/
import Derived.Test.YtlepejafednlfaaRF9
import Derived.Test.YtlepejafednlfaaB9B
import Derived.Test.YtlepejafednlfaaII9
namespace Go.Proofs.Ytlepejafednlfaa
set_option linter.unusedVariables false
set_option maxRecDepth 1000000
set_option linter.unusedSimpArgs false
open Go.RowKit Go.Shelf

attribute [local go_sem] Oper.semAt_some

theorem row_sepT {w : World} {b1 b2 n1 n2 : Nat} {t1 t2 : TypeId} {u v : Value} {xs vs : List Value} (hne : t1 ≠ t2) (h : w.ownsRow b1 t1 1 u n1 xs) (k : w.ownsRow b2 t2 1 v n2 vs) : u.ownBlock = none ∨ u.ownBlock ≠ v.ownBlock := by
  rcases h.2 with ⟨rfl, _⟩ | ⟨g, cap, cur, rfl, _, hg, _⟩
  · exact Or.inl rfl
  · rcases k.2 with ⟨rfl, _⟩ | ⟨g', cap', cur', rfl, _, hg', _⟩
    · exact Or.inr (by simp [Value.ownBlock])
    · refine Or.inr fun e => ?_
      simp only [Value.ownBlock, Option.some.injEq] at e
      subst e
      rw [hg] at hg'
      simp only [Option.some.injEq, Obj.cells.injEq] at hg'
      exact hne hg'.2.1
/-- What another block than T turns, new since A, leaves A's blocks but T. -/
theorem grownT {A B D : World} {T : Nat} {row : Option Nat} (h : A.grownBy B (some T)) (k : B.grownBy D row) (hr : ∀ g, row = some g → A.heap.size ≤ g ∨ g = T) : A.grownBy D (some T) :=
  ⟨k.os.trans h.os, k.tape.trans h.tape, k.output.trans h.output, Nat.le_trans h.size k.size, fun q hq hne => (k.block q (Nat.lt_of_lt_of_le hq h.size) (fun e => by
    rcases hr q e.symm with h1 | h1
    · omega
    · exact hne (by rw [h1]))).trans (h.block q hq hne)⟩

/-- The slice reads as xs, in a block below n₀. -/
def RdL (n₀ : Nat) (w : World) (ao : Option Addr) (xs : List Int) : Prop := ∀ k, k < xs.length → ∃ b o, ao = some ⟨b, o, none⟩ ∧ b < n₀ ∧ w.cell? ⟨b, o + k, none⟩ = some (.int .i64 (xs.getD k 0))
theorem Rd.toL {w : World} {ao : Option Addr} {xs : List Int} (h : Rd w ao xs) : RdL w.heap.size w ao xs := fun k hk => by
  obtain ⟨b, o, e, hc⟩ := h.get9 hk
  exact ⟨b, o, e, World.block_lt_of_cell? w _ hc, hc⟩
theorem RdL.below {n₀ : Nat} {A B : World} {ao : Option Addr} {xs : List Int} (h : RdL n₀ A ao xs) (hb : Below n₀ A B) : RdL n₀ B ao xs := fun k hk => by
  obtain ⟨b, o, e, hl, hc⟩ := h k hk
  exact ⟨b, o, e, hl, by rw [hb.cell (p := ⟨b, o + k, none⟩) hl]; exact hc⟩
theorem grown_below {A B : World} {T n₀ : Nat} (h : A.grownBy B (some T)) (h1 : n₀ ≤ T) (h2 : n₀ ≤ A.heap.size) : Below n₀ A B := ⟨h.os, h.tape, h.output, h.size, fun k hk => h.block k (by omega) (by simp; omega)⟩

/-- What a round keeps: what lay below n₀, the box of the slice, block T. -/
def KpT (n₀ Bs T : Nat) (A B : World) : Prop := Below n₀ A B ∧ B.heap[Bs]? = A.heap[Bs]? ∧ B.heap[T]? = A.heap[T]?
theorem KpT.trans {n₀ Bs T : Nat} {A B D : World} (h : KpT n₀ Bs T A B) (k : KpT n₀ Bs T B D) : KpT n₀ Bs T A D := ⟨h.1.trans k.1, k.2.1.trans h.2.1, k.2.2.trans h.2.2⟩
theorem KpT.cell {n₀ Bs T : Nat} {A B : World} (h : KpT n₀ Bs T A B) {v : Value} (hv : A.cell? ⟨Bs, 0, none⟩ = some v) : B.cell? ⟨Bs, 0, none⟩ = some v := by
  have e := h.2.1
  unfold World.cell? at hv ⊢
  rw [e]; exact hv
theorem KpT.ownB {n₀ Bs T : Nat} {A B : World} (h : KpT n₀ Bs T A B) {base n c : Nat} {s : List Bool} (hv : OwnB A base (.slice (some ⟨T, 0, none⟩) n c) s) : OwnB B base (.slice (some ⟨T, 0, none⟩) n c) s := by
  refine ⟨hv.1, ?_⟩
  rcases hv.2 with h0 | ⟨g, cap, cur, hg, hb, hh, r⟩
  · exact Or.inl h0
  · refine Or.inr ⟨g, cap, cur, hg, hb, ?_, r⟩
    simp only [Value.slice.injEq, Option.some.injEq, Addr.mk.injEq] at hg
    rw [← hg.1.1, h.2.2, hg.1.1]; exact hh

def lenOf9 : Value → Nat
  | .slice _ n _ => n
  | _ => 0

/-- What is said of a cycle that is handed out. -/
def CycX (T : Nat) (pre : List (Value × List Int)) (x : Value × List Int) (W : World) : Prop :=
  Own W (T + 1) x.1 x.2 ∧ T < W.heap.size ∧ (sumLen (pre.map (·.2)) + x.2.length ≤ 9 ∧ pre.length < 9) ∧ 0 < x.2.length ∧ ∀ y ∈ pre, sepB y.1 x.1

set_option maxRecDepth 100000 in
set_option maxHeartbeats 4000000 in
theorem cyc1_in (F0 : Fence) (n : Nat) (hf : F0.fn 103) (hro : F0.round = none) (hn : 1 ≤ n) (l Bs n₀ m cap : Nat) (ao : Option Addr) (xs : List Int) (hx : xs.length = m) (hox : ordB xs = true) (J : List (Value × List Int) → World → Prop) (W : World)
    (hJ : ∀ s X Y, J s X → X.grownBy Y (some W.heap.size) → J s Y)
    (hY : ∀ pre x W1, J pre W1 → CycX W.heap.size pre x W1 → YieldAt F0 (n - 1) Try.prog l #[x.1] W1 fun e W' => e = .returned (.bool true) ∧ J (pre ++ [x]) W' ∧ KpT n₀ Bs W.heap.size W1 W')
    (hBs : W.cell? ⟨Bs, 0, none⟩ = some (.slice ao m cap)) (hR : RdL n₀ W ao xs) (hn₀ : n₀ ≤ W.heap.size) (h0 : J [] W) :
    CallsIn F0 n Try.prog 103 #[.func (.yield l) #[] #[], .pointer (some ⟨Bs, 0, none⟩)] W fun e W' => (∃ v, e = .returned v) ∧ ∃ ys : List (Value × List Int), ys.map (·.2) = cycL xs ∧ J ys W' := by
  have hm : m ≤ 9 := by rw [← hx]; exact ord_len hox
  obtain ⟨ib, hib, hb0, hb1, hb2⟩ := info_parts Try.infoBool
  obtain ⟨i0, hi, hz0, hz1, hz2⟩ := info_parts Try.infoInt
  obtain ⟨V, hmk, hOV, hGV⟩ := run_make_full (P := Try.prog) W W.heap.size 25 4 ib (.bool false) 1 Try.underlying25 hib hb0 hb1 .i64 .i64 m (by rw [hb2]; omega) (by unfold maxLen; omega) (Nat.le_refl _)
  have hBl : Bs < W.heap.size := World.block_lt_of_cell? W _ hBs
  have hGT : W.grownBy V (some W.heap.size) := ⟨hGV.os, hGV.tape, hGV.output, hGV.size, fun q hq _ => hGV.block q hq (by simp)⟩
  have hO0 : OwnB V W.heap.size (.slice (some ⟨W.heap.size, 0, none⟩) m m) (cycs xs 0).2 := by
    have e : (madeCells (Value.bool false).cells (m * 1)).toList = cellsB (cycs xs 0).2 := by
      rw [Nat.mul_one, cycs, hx]
      exact (toList_madeCells_one _ _).trans (by simp [cellsB])
    unfold OwnB
    rw [cycs_length, hx, ← e]
    exact hOV
  have HJ : Hid (∀ s X Y, J s X → X.grownBy Y (some W.heap.size) → J s Y) := hJ
  have HY : Hid (∀ pre x W1, J pre W1 → CycX W.heap.size pre x W1 → YieldAt F0 (n - 1) Try.prog l #[x.1] W1 fun e W' => e = .returned (.bool true) ∧ J (pre ++ [x]) W' ∧ KpT n₀ Bs W.heap.size W1 W') := hY
  have HX : Hid (xs.length = m) := hx
  have HIN : Hid (∀ k, k < m → 0 ≤ xs.getD k 0 ∧ xs.getD k 0 < (m : Int)) := fun k hk => by rw [← hx]; exact ord_in hox (by rw [hx]; exact hk)
  have hVb := hGT.block Bs hBl (by simp; omega)
  have hBsV : V.cell? ⟨Bs, 0, none⟩ = some (.slice ao m cap) := by
    unfold World.cell? at hBs ⊢
    rw [hVb]; exact hBs
  have HST : Hid (∃ pre : List (Value × List Int), pre.map (·.2) = (cycs xs 0).1 ∧ J pre V ∧ OwnB V W.heap.size (.slice (some ⟨W.heap.size, 0, none⟩) m m) (cycs xs 0).2 ∧ (∀ y ∈ pre, ∀ g, y.1.ownBlock = some g → g < V.heap.size) ∧ V.cell? ⟨Bs, 0, none⟩ = some (.slice ao m cap) ∧ RdL n₀ V ao xs ∧ W.heap.size < V.heap.size) :=
    ⟨[], rfl, hJ _ _ _ h0 hGT, hO0, (fun y hy => by cases hy), hBsV, hR.below (grown_below hGT hn₀ hn₀), (by
      rcases hO0.form with ⟨h, _⟩ | ⟨g, c, h, _, hg, _⟩
      · simp at h
      · simp only [Value.slice.injEq, Option.some.injEq, Addr.mk.injEq] at h
        rw [h.1.1]; exact hg)⟩
  have HN0 : Hid (n₀ ≤ W.heap.size) := hn₀
  have HBL : Hid (Bs < W.heap.size) := hBl
  generalize W.heap.size = T at HJ HY HST HN0 HBL hmk
  clear hJ hY hx hR hGT hO0 hVb hn₀ hOV hGV h0 hBl hox hib hb0 hb1 hb2
  refine callsIn_of_wp Try.func103 rfl hf ?_ hro
  simp only [Try.ntmps103, List.size_toArray, List.length_cons, List.length_nil, Nat.reduceAdd, Nat.reduceSub, Array.replicate_succ, Array.replicate_zero, List.push_toArray, List.append_toArray, List.nil_append, List.cons_append]
  gi_wp2
  gi_loopw [12] (fun i wr => ∃ k : Nat, k ≤ m ∧ i = .int .i64 k ∧ Hid (∃ pre : List (Value × List Int), pre.map (·.2) = (cycs xs k).1 ∧ J pre wr ∧ OwnB wr T (.slice (some ⟨T, 0, none⟩) m m) (cycs xs k).2 ∧ (∀ y ∈ pre, ∀ g, y.1.ownBlock = some g → g < wr.heap.size) ∧ wr.cell? ⟨Bs, 0, none⟩ = some (.slice ao m cap) ∧ RdL n₀ wr ao xs ∧ T < wr.heap.size)) (fun i _ => m - (intOf i).toNat)
  case atStart => exact ⟨0, Nat.zero_le _, rfl, HST⟩
  case round =>
    clear HST
    obtain ⟨k, hk, rfl, hS⟩ := hrel
    by_cases hlt : k < m
    · obtain ⟨pre, hpm, hJp, hOs, hlo, hbs, hRd, hT⟩ := hS.out
      clear hS
      obtain ⟨W0, hW0⟩ : ∃ W0, W0 = wr := ⟨_, rfl⟩
      rw [← hW0] at hJp hOs hlo hbs hRd hT ⊢
      clear hW0
      obtain ⟨S0, hS0⟩ : ∃ S0, S0 = (cycs xs k).2 := ⟨_, rfl⟩
      obtain ⟨C, hC⟩ : ∃ C, C = (cyc xs xs.length S0 k).1 := ⟨_, rfl⟩
      obtain ⟨S1, hS1⟩ : ∃ S1, S1 = (cyc xs xs.length S0 k).2 := ⟨_, rfl⟩
      have HNX : Hid ((cycs xs (k + 1)).1 = (if C = [] then (cycs xs k).1 else (cycs xs k).1 ++ [C]) ∧ (cycs xs (k + 1)).2 = S1) := by
        rw [cycs, hC, hS1, hS0]
        exact ⟨rfl, rfl⟩
      have HA0 : Hid (At xs m C S1 [] S0 k) := by
        show At xs m C S1 [] S0 k
        rw [hC, hS1]
        exact At.start HX.out (by rw [hS0, cycs_length]) (by rw [hS0, ← HX.out]; exact cycs_unseen xs k)
      have HSUM : Hid (sumLen (pre.map (·.2)) + C.length ≤ 9 ∧ pre.length < 9) := by
        have h1 := cycs_room xs k
        have h2 := cycs_few2 xs k
        have h3 : pre.length = (cycs xs k).1.length := by rw [← hpm]; simp
        rw [← hS0, ← hC, HX.out] at h1
        refine ⟨by rw [hpm]; omega, by omega⟩
      rw [← hS0] at hOs
      have HPM : Hid (pre.map (·.2) = (cycs xs k).1) := hpm
      have HJP : Hid (J pre W0) := hJp
      have HLO : Hid (∀ y ∈ pre, ∀ g, y.1.ownBlock = some g → g < W0.heap.size) := hlo
      have HBS : Hid (W0.cell? ⟨Bs, 0, none⟩ = some (.slice ao m cap)) := hbs
      have HRD : Hid (RdL n₀ W0 ao xs) := hRd
      have HT : Hid (T < W0.heap.size) := hT
      have HOS : Hid (OwnB W0 T (.slice (some ⟨T, 0, none⟩) m m) S0) := hOs
      clear hpm hJp hlo hbs hRd hT hOs hS0 hC hS1
      gi_wp2
      gi_loopw [5, 6] (fun cv av wi => ∃ (c : List Int) (s : List Bool) (q : Nat), av = .int .i64 q ∧ q < m ∧ lenOf9 cv = c.length ∧ Hid (At xs m C S1 c s q) ∧ Hid (Own wi W0.heap.size cv c) ∧ Hid (OwnB wi T (.slice (some ⟨T, 0, none⟩) m m) s) ∧ Hid (W0.grownBy wi (some T))) (fun cv _ _ => m - lenOf9 cv)
      case atStart => exact ⟨[], S0, k, rfl, hlt, rfl, HA0, World.ownsRow_nil _ _ _ _, HOS, World.grownBy.refl _ _⟩
      case round =>
        clear HA0 HOS
        obtain ⟨c, s, q, rfl, hq, hlc, hA, hOc, hOs, hG⟩ := hrel
        have hsl : s.length = m := by rw [← HX.out]; exact hA.out.len.1
        have hoo : wr.ownsRow T 4 1 (.slice (some ⟨T, 0, none⟩) m m) m (cellsB s) := by have h := hOs.out; unfold OwnB at h; rw [hsl] at h; exact h
        have g1 : wr.cell? ⟨T, q, none⟩ = some (.bool (s.getD q false)) := by
          have h := World.ownsRow.cellAt hoo q (by omega)
          rw [h]; exact getD_map_bool s q (by omega)
        have g2 : wr.frozen? ⟨T, q, none⟩ = false := World.ownsRow.frozenAt hoo q
        have hbl : wr.cell? ⟨Bs, 0, none⟩ = some (.slice ao m cap) := by
          have e := hG.out.block Bs (by have := HBL.out; have := HT.out; omega) (by have := HBL.out; simp; omega)
          have h := HBS.out
          unfold World.cell? at h ⊢
          rw [e]; exact h
        have q0 : (0 : Int) ≤ (q : Int) := by omega
        have q1 : (q : Int) < (m : Int) := by omega
        have HSL : Hid (s.length = m) := hsl
        cases hsq : s.getD q false with
        | false =>
          rw [hsq] at g1
          have hst := World.ownsRow.stored hoo q (.bool true)
          rw [cellsB_set] at hst
          have hstep := hA.out.step (by rw [HX.out]; exact hq) (by rw [getD_tf (by omega)]; exact hsq)
          have HA' : Hid (At xs m C S1 (c ++ [(q : Int)]) (s.set q true) (xs.getD q 0).toNat) := hstep.1
          have hcl : c.length < m := hstep.2
          have hsep := row_sepT (show (3 : TypeId) ≠ 4 by decide) hOc.out hOs.out
          have hin := HIN.out q hq
          obtain ⟨V1, hV1⟩ : ∃ V1, wr.setCell ⟨T, q, none⟩ (.bool true) = V1 := ⟨_, rfl⟩
          rw [hV1] at hst
          have hOs1 : Hid (OwnB V1 T (.slice (some ⟨T, 0, none⟩) m m) (s.set q true)) := by
            show OwnB _ _ _ _
            unfold OwnB
            rw [List.length_set, hsl]
            exact hst.1
          have hgs : wr.grownBy V1 (some T) := hst.2
          have hOc1 : Own V1 W0.heap.size u5 c := hOc.out.kept hgs hsep
          have hG1 : W0.grownBy V1 (some T) := grownT hG.out hgs (fun g e => Or.inr (by cases e; rfl))
          have hob : ∀ k', u5.ownBlock = some k' → W0.heap.size ≤ k' := own_block_ge hOc1
          have hown : V1.ownsRow W0.heap.size 3 1 u5 c.length (cellsI c) := hOc1
          have HG1 : Hid (W0.grownBy V1 (some T)) := hG1
          have hsz1 : W0.heap.size ≤ V1.heap.size := hG1.size
          have HRX : Hid (∀ wx, W0.grownBy wx (some T) → wx.cell? ⟨Bs, 0, none⟩ = some (.slice ao m cap) ∧ ∃ b o, ao = some ⟨b, o, none⟩ ∧ wx.cell? ⟨b, o + q, none⟩ = some (.int .i64 (xs.getD q 0))) := fun wx hg => by
            refine ⟨?_, ?_⟩
            · have e := hg.block Bs (by have := HBL.out; have := HT.out; omega) (by have := HBL.out; simp; omega)
              have h := HBS.out
              unfold World.cell? at h ⊢
              rw [e]; exact h
            · obtain ⟨b, o, e, _, hc⟩ := (HRD.out.below (grown_below hg HN0.out (by have := HN0.out; have := HT.out; omega))) q (by rw [HX.out]; exact hq)
              exact ⟨b, o, e, hc⟩
          obtain ⟨y, hy⟩ : ∃ y : Nat, xs.getD q 0 = (y : Int) := ⟨(xs.getD q 0).toNat, by omega⟩
          rw [hy] at HA' HRX hin
          rw [Int.toNat_natCast] at HA'
          have hym : y < m := by omega
          clear hst hgs hG1 hOc1 hsep hstep hA hOs hOc hG hin hy hbl hsq hsl HSL hoo
          gi_wp2_with (gi_at_builtin; refine wpListIn_append_own _ rfl _ _ 23 rfl W0.heap.size 3 i0 (.int .i64 0) 1 8 Try.underlying23 hi hz0 hz1 hz2 rfl (by decide) _ _ _ rfl (hown.alloc _) ⟨V1.heap.size, 0, none⟩ 1 1 [.int .i64 (q : Int)] rfl rfl (cell_new1 _ _ _) (ints_oneCell _ [(q : Int)]) (by unfold maxLen; omega) (by omega) (by simp; omega) ?_; intro v' w2 hown' hgrow _; have HO' : Hid (Own w2 W0.heap.size v' (c ++ [(q : Int)])) := own_push (w := V1) (v := u5) (by simpa using hown'); have HG' : Hid (W0.grownBy w2 (some T)) := grownT (grownT HG1.out (World.grownBy_alloc V1 _ none) (fun g e => by cases e)) hgrow (fun g e => Or.inl (hob g e)); have HOs' : Hid (OwnB w2 T (.slice (some ⟨T, 0, none⟩) m m) (s.set q true)) := (hOs1.out.later (balloc V1 _)).kept hgrow (row_sepT (show (4 : TypeId) ≠ 3 by decide) hOs1.out hown); obtain ⟨g5, b, o, rfl, g6⟩ := HRX.out w2 HG'.out; clear HRX hown' hgrow)
          obtain ⟨a9, c9, hv9⟩ := HO'.out.shape
          go_roundw
          case rel => exact ⟨c ++ [(q : Int)], s.set q true, y, rfl, hym, by rw [hv9]; rfl, HA', HO', HOs', HG'⟩
          case measure => rw [hv9, hlc]; simp [lenOf9]; omega
        | true =>
          rw [hsq] at g1
          have hst := hA.out.stop (by rw [getD_tf (by omega)]; exact hsq)
          obtain ⟨rfl, rfl⟩ := hst
          obtain ⟨a9, c9, hv9⟩ := hOc.out.shape
          have hJw : J pre wr := HJ.out _ _ _ HJP.out hG.out
          have hszw : W0.heap.size ≤ wr.heap.size := hG.out.size
          have hRw : RdL n₀ wr ao xs := HRD.out.below (grown_below hG.out HN0.out (by have := HN0.out; have := HT.out; omega))
          have hcm : c.length ≤ m := hA.out.len.2
          by_cases hc0 : c = []
          · have HFIN : Hid (∃ pre : List (Value × List Int), pre.map (·.2) = (cycs xs (k + 1)).1 ∧ J pre wr ∧ OwnB wr T (.slice (some ⟨T, 0, none⟩) m m) (cycs xs (k + 1)).2 ∧ (∀ y ∈ pre, ∀ g, y.1.ownBlock = some g → g < wr.heap.size) ∧ wr.cell? ⟨Bs, 0, none⟩ = some (.slice ao m cap) ∧ RdL n₀ wr ao xs ∧ T < wr.heap.size) :=
              ⟨pre, by rw [HNX.out.1, if_pos hc0]; exact HPM.out, hJw, by rw [HNX.out.2]; exact hOs.out, fun y hy g e => Nat.lt_of_lt_of_le (HLO.out y hy g e) hszw, hbl, hRw, by have := HT.out; omega⟩
            have hu5 : u5 = .slice a9 0 c9 := by rw [hv9, hc0]; rfl
            clear hv9 hJw hRw hA hOc hOs hG hoo hlc HNX hsq hcm hc0
            subst hu5
            gi_wp2
            refine ⟨fun f h => (by cases h), ?_⟩
            gi_wp2
            go_roundw
            case rel => exact ⟨k + 1, by omega, by go_num, HFIN⟩
            case measure => simp [intOf]; omega
          · have hpos : 0 < c.length := List.length_pos_iff.2 hc0
            have hsepx : ∀ y ∈ pre, sepB y.1 u5 := fun y hy => by
              cases hyb : y.1.ownBlock with
              | none => exact Or.inl hyb
              | some g =>
                refine Or.inr fun e => ?_
                have h1 := HLO.out y hy g hyb
                have h2 := own_block_ge hOc.out g (e.symm.trans hyb)
                omega
            have hub : ∀ g, u5.ownBlock = some g → g < wr.heap.size := fun g e => (World.ownsRow.lt hOc.out g e).2
            obtain ⟨fn, tmps, assign, body, hy, hR⟩ := HY.out pre (u5, c) wr hJw ⟨hOc.out.mono (by have := HT.out; omega), by have := HT.out; omega, HSUM.out, hpos, hsepx⟩
            dsimp only at hy
            have HFIN : Hid (∀ W3 : World, J (pre ++ [(u5, c)]) W3 → KpT n₀ Bs T wr W3 → ∃ pre : List (Value × List Int), pre.map (·.2) = (cycs xs (k + 1)).1 ∧ J pre W3 ∧ OwnB W3 T (.slice (some ⟨T, 0, none⟩) m m) (cycs xs (k + 1)).2 ∧ (∀ y ∈ pre, ∀ g, y.1.ownBlock = some g → g < W3.heap.size) ∧ W3.cell? ⟨Bs, 0, none⟩ = some (.slice ao m cap) ∧ RdL n₀ W3 ao xs ∧ T < W3.heap.size) := fun W3 hj hk =>
              ⟨pre ++ [(u5, c)], by rw [HNX.out.1, if_neg hc0, ← HPM.out]; simp, hj, by rw [HNX.out.2]; exact hk.ownB hOs.out, fun y hy g e => by
                have hs3 := hk.1.size
                rcases List.mem_append.1 hy with h | h
                · have := HLO.out y h g e; omega
                · simp at h
                  subst h
                  have := hub g e
                  omega, hk.cell hbl, hRw.below hk.1, by have := hk.1.size; have := HT.out; omega⟩
            have hlenp : (0 : Int) < (c.length : Int) := by omega
            obtain ⟨cn, hcn⟩ : ∃ cn, cn = c.length := ⟨_, rfl⟩
            rw [← hcn] at hv9 hlenp hcm
            clear hJw hRw hA hOc hOs hG hoo hlc HNX hsq hsepx hub hcn hpos hc0
            subst hv9
            gi_wp2
            refine hR.mono ?_
            rintro e W3 ⟨rfl, hJ3, hk3⟩
            have HFI : Hid (∃ pre : List (Value × List Int), pre.map (·.2) = (cycs xs (k + 1)).1 ∧ J pre W3 ∧ OwnB W3 T (.slice (some ⟨T, 0, none⟩) m m) (cycs xs (k + 1)).2 ∧ (∀ y ∈ pre, ∀ g, y.1.ownBlock = some g → g < W3.heap.size) ∧ W3.cell? ⟨Bs, 0, none⟩ = some (.slice ao m cap) ∧ RdL n₀ W3 ao xs ∧ T < W3.heap.size) := HFIN.out W3 hJ3 hk3
            clear hJ3 hk3 HFIN
            gi_wp2
            go_roundw
            case rel => exact ⟨k + 1, by omega, by go_num, HFI⟩
            case measure => simp [intOf]; omega
    · obtain ⟨pre, hpm, hJp, _⟩ := hS.out
      obtain rfl : k = m := by omega
      have HF : Hid (pre.map (·.2) = cycL xs ∧ J pre wr) := ⟨by rw [hpm, cycL, HX.out], hJp⟩
      clear hS hpm hJp
      gi_wp2
      go_end0
      exact ⟨⟨_, rfl⟩, pre, HF.out⟩

end Go.Proofs.Ytlepejafednlfaa

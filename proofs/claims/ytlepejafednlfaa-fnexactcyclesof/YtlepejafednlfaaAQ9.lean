/- Chapter 9: CyclesOf of the program: what is told one by one is put into a list. -/
import Derived.Test.YtlepejafednlfaaCJ9
namespace Go.Proofs.Ytlepejafednlfaa
set_option linter.unusedVariables false
set_option maxRecDepth 1000000
set_option linter.unusedSimpArgs false
open Go.RowKit Go.Shelf

attribute [local go_sem] Oper.semAt_some

theorem Try.infoInts9 : (Try.prog.info? 23).map (fun i => (i.zero, i.size, i.bytes)) = some (some (.slice none 0 0), 1, 24) := by kernel_rfl

/-- The rows that were handed out, in a row of rows. -/
def OwnIP (W : World) (lo : Nat) (v : Value) (pre : List (Value × List Int)) : Prop :=
  W.ownsRow lo 23 1 v pre.length (pre.map (·.1)) ∧ (∀ y ∈ pre, Own W lo y.1 y.2) ∧ pre.Pairwise (fun a b => sepB a.1 b.1)
theorem OwnIP.kept {W W' : World} {lo r : Nat} {v : Value} {pre : List (Value × List Int)} (h : OwnIP W lo v pre) (hg : W.grownBy W' (some r)) (hr : r < lo) : OwnIP W' lo v pre :=
  ⟨World.ownsRow.kept h.1 hg (Or.inr fun e => by have := (World.ownsRow.lt h.1 r e).1; omega), fun y hy => (h.2.1 y hy).kept hg (Or.inr fun e => by have := own_block_ge (h.2.1 y hy) r e; omega), h.2.2⟩
theorem OwnIP.toII {W : World} {lo base : Nat} {v : Value} {pre : List (Value × List Int)} {xss : List (List Int)} (h : OwnIP W lo v pre) (hx : pre.map (·.2) = xss) (hb : base ≤ lo) : OwnII W base v xss := by
  subst hx
  refine ⟨pre.map (·.1), by simp, ?_, fun j hj => ?_, fun i j hij hj => ?_⟩
  · rw [List.length_map]; exact rowMono h.1 hb
  · have hj' : j < pre.length := by simpa using hj
    have e := (h.2.1 _ (List.getElem_mem hj')).mono hb
    simpa [List.getD, hj'] using e
  · have hj' : j < pre.length := by simpa using hj
    have e := List.pairwise_iff_getElem.1 h.2.2 i j (by omega) hj' hij
    simpa [List.getD, hj', show i < pre.length by omega] using e

set_option maxRecDepth 100000 in
set_option maxHeartbeats 4000000 in
theorem appendSeq_c (Bs m cap : Nat) (ao : Option Addr) (xs : List Int) (w : World) (hx : xs.length = m) (hox : ordB xs = true) (hBs : w.cell? ⟨Bs, 0, none⟩ = some (.slice ao m cap)) (hR : Rd w ao xs) :
    Calls Try.prog 104 #[.slice none 0 0, .func (.func 103) #[] #[.pointer (some ⟨Bs, 0, none⟩)]] w fun e w' => ∃ v, e = .returned v ∧ OwnII w' w.heap.size v (cycL xs) ∧ Below w.heap.size w w' := by
  obtain ⟨i0, hi, hz0, hz1, hz2⟩ := info_parts Try.infoInts9
  have hBl : Bs < w.heap.size := World.block_lt_of_cell? w _ hBs
  refine (callsIn_wide (n := 3)).1 ?_
  refine callsIn_of_wp_marks Try.func104 rfl trivial ?_ rfl
  simp only [Try.ntmps104, List.size_toArray, List.length_cons, List.length_nil, Nat.reduceAdd, Nat.reduceSub, Array.replicate_succ, Array.replicate_zero, List.push_toArray, List.append_toArray, List.nil_append, List.cons_append]
  gi_wp2
  have hB0 : Below w.heap.size w (w.alloc (.cells #[.slice none 0 0] 47)) := balloc w _
  have bO := Boxed.new w 47 (.slice none 0 0)
  have hBsV : (w.alloc (.cells #[.slice none 0 0] 47)).cell? ⟨Bs, 0, none⟩ = some (.slice ao m cap) := calloc hBs
  have hR0 : RdL w.heap.size (w.alloc (.cells #[.slice none 0 0] 47)) ao xs := hR.toL.below hB0
  have hsV : (w.alloc (.cells #[.slice none 0 0] 47)).heap.size = w.heap.size + 1 := by simp
  generalize w.alloc (.cells #[.slice none 0 0] 47) = V at hB0 bO hBsV hR0 hsV
  refine wpIn_rangeFunc_T rfl (by omega) (gf := 103) (lb := #[.pointer (some ⟨Bs, 0, none⟩)]) rfl trivial (enters_of Try.func103 (by kernel_rfl) rfl)
    (cycles_seq Fence.wide (3 - 1) trivial rfl (by omega) Bs w.heap.size m cap ao xs hx hox V hBsV hR0 (by omega)) KpT.trans
    (fun W o => KpT_b _ _ _ W _ o (by omega) (by omega) (by omega)) (fun pre x W o h => CycX_b _ pre x W _ o (by omega) h) (Below.refl _ _) (fun _ => rfl)
    (fun pre W => ∃ v, Boxed W w.heap.size 47 v ∧ OwnIP W (w.heap.size + 4) v pre ∧ Below w.heap.size w W)
    ?stab ⟨_, bO, ⟨World.ownsRow_nil _ _ _ _, fun y hy => (by cases hy), List.Pairwise.nil⟩, hB0⟩
    (fun x => { tmps := #[.slice none 0 0, .func (.func 103) #[] #[.pointer (some ⟨Bs, 0, none⟩)], .pointer (some ⟨w.heap.size, 0, none⟩), undef, .slice none 0 0, x.1, .func (.func 103) #[] #[.pointer (some ⟨Bs, 0, none⟩)], x.1, undef, undef, undef, undef, undef], defers := [] }) ?assign ?body ?done
  case stab =>
    rintro s X Y r ⟨v, i1, i2, i3⟩ hg h1 h2
    exact ⟨v, i1.kept hg (by simp; omega), i2.kept hg (by omega), i3.trans (grown_below hg (by omega) i3.size)⟩
  case assign =>
    intro l x W K hK
    gi_wp2
    first | exact hK | simpa using hK
  case body =>
    rintro l pre ⟨xv, xl⟩ W ⟨v, hv, hrow, hB⟩ hC
    try dsimp only
    have hTs : V.heap.size + 2 < W.heap.size := hC.2.1
    have hpl : pre.length < 9 := hC.2.2.1.2
    have hxo : Own W (w.heap.size + 4) xv xl := hC.1.mono (by omega)
    have hsx : ∀ y ∈ pre, sepB y.1 xv := hC.2.2.2.2
    obtain ⟨a9, c9, h9⟩ := hxo.shape
    have HXO : Hid (Own W (w.heap.size + 4) xv xl) := hxo
    have HSX : Hid (∀ y ∈ pre, sepB y.1 xv) := hsx
    have hone : ∀ u ∈ [Value.slice a9 xl.length c9], u.oneCell' = true := fun u hu => by
      simp at hu
      rw [hu]; rfl
    clear hxo hsx
    subst h9
    have hc := hv.cell
    have hrw : W.ownsRow w.heap.size 23 1 v pre.length (pre.map (·.1)) := rowMono hrow.1 (by omega)
    clear hC
    gi_wp2_with (gi_at_builtin; refine wpListIn_append_own _ rfl _ _ 47 rfl (w.heap.size + 4) 23 i0 (.slice none 0 0) 1 24 Try.underlying47 hi hz0 hz1 hz2 rfl (by decide) _ _ _ rfl (hrow.1.alloc _) ⟨W.heap.size, 0, none⟩ 1 1 [.slice a9 xl.length c9] rfl rfl (cell_new1 _ _ _) hone (by unfold maxLen; omega) (by omega) (by simp; omega) ?_; intro v' w1 hown' hgrow _; obtain ⟨g', cap', rfl⟩ := ownsRow_succ hown'; obtain ⟨hv1, hv2, hr2, hk2, hb2⟩ := hv.appended (by decide) hrw hB.size (Nat.le_refl _) (rowMono hown' (by omega)) hgrow; have hc1 := hv1.cell; have hf1 := hv1.frozen)
    have hxo := HXO.out
    have hsx := HSX.out
    have hgs := grownBy_setCell' w1 w.heap.size (.slice (some ⟨g', 0, none⟩) (pre.length + 1) cap')
    have hg0 : ∀ k, k < W.heap.size → v.ownBlock ≠ some k → k ≠ w.heap.size → (w1.setCell ⟨w.heap.size, 0, none⟩ (.slice (some ⟨g', 0, none⟩) (pre.length + 1) cap')).heap[k]? = W.heap[k]? := fun k hk h1 h2 => by
      rw [hgs.block k (by have := hgrow.size; simp at this; omega) (by simp; omega), hgrow.block k (by simp; omega) (fun e => h1 e.symm)]
      exact Below.heap_alloc _ _ _ hk
    have hge : ∀ k, v.ownBlock = some k → w.heap.size + 4 ≤ k := fun k e => (World.ownsRow.lt hrow.1 k e).1
    refine ⟨hk2.from _, ⟨hb2, ?_, ?_⟩, _, hv2, ⟨?_, ?_, ?_⟩, hB.trans hb2⟩
    · exact hb2.block Bs hBl
    · exact hg0 _ hTs (fun e => by have := hge _ e; omega) (by omega)
    · have h3 := World.ownsRow.kept hown' hgs (Or.inr fun e => by have := (World.ownsRow.lt hown' _ e).1; omega)
      simpa using h3
    · intro y hy
      have hy2 : Own W (w.heap.size + 4) y.1 y.2 := by
        rcases List.mem_append.1 hy with h | h
        · exact hrow.2.1 y h
        · simp at h; subst h; exact hxo
      have h4 := (hy2.later (balloc W _)).kept hgrow (row_sep hy2 hrow.1)
      exact h4.kept hgs (Or.inr fun e => by have := own_block_ge h4 _ e; omega)
    · refine List.pairwise_append.2 ⟨hrow.2.2, List.pairwise_singleton _ _, fun a ha b hb => ?_⟩
      simp at hb
      subst hb
      exact hsx a ha
  case done =>
    rintro D ys W hD hS ⟨v, i1, i2, i3⟩ hK
    have hc := i1.cell
    have hDl : D < W.heap.size := (Array.getElem?_eq_some_iff.1 hK).1
    have HBf : Hid (Below w.heap.size w (W.putObj D (.deferred none))) := i3.trans (belowK_b (w := w) (Nat.le_refl _) W D _ _ (by omega) hK rfl rfl)
    have HOw : Hid (OwnII (W.putObj D (.deferred none)) w.heap.size v (cycL xs)) := by
      show OwnII _ _ _ _
      obtain ⟨vs, h1, h2, h3, h4⟩ := i2.toII hS (base := w.heap.size) (by omega)
      exact ⟨vs, h1, ownsRow_putObj h2 _ hK rfl, fun j hj => ownsRow_putObj (h3 j hj) _ hK rfl, h4⟩
    clear i1 i2 i3 hS
    gi_wp2
    refine ⟨by simp, .inl ⟨_, _, rfl, run_takeDeferred hK, ?_⟩⟩
    exact ⟨_, results_tmp rfl _ _ _, v, rfl, HOw.out, HBf.out⟩

end Go.Proofs.Ytlepejafednlfaa

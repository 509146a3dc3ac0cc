/- The specification's PeriodOf. -/
import Derived.Test.YtjdfpjeeipbghaaPD3
import Derived.Test.YtjdfpjeeipbghaaST3S
namespace Go.Proofs.Ytjdfpjeeipbghaa
set_option linter.unusedVariables false
set_option linter.unusedSimpArgs false
open Go.RowKit

theorem getD_take (l : List Bool) (k j : Nat) (h : j < k) : (l.take k).getD j false = l.getD j false := by
  simp [List.getD, List.getElem?_take, h]
theorem getD_drop (l : List Bool) (k j : Nat) : (l.drop k).getD j false = l.getD (k + j) false := by
  simp [List.getD, List.getElem?_drop]
theorem list_ext_getD {a b : List Bool} (hl : a.length = b.length) (h : ∀ j, j < a.length → a.getD j false = b.getD j false) : a = b := by
  refine List.ext_getElem hl fun j h1 h2 => ?_
  have := h j h1
  simpa [List.getD, h1, h2] using this
theorem getD_snocB (l : List Bool) (j : Nat) (v : Bool) : (l ++ [v]).getD j false = if j = l.length then v else l.getD j false := by
  by_cases h : j < l.length
  · rw [if_neg (by omega)]
    simp [List.getD, List.getElem?_append_left h]
  · by_cases h2 : j = l.length
    · subst h2; simp [List.getD]
    · rw [if_neg h2]
      simp [List.getD, List.getElem?_eq_none (show l.length ≤ j by omega), List.getElem?_eq_none (show (l ++ [v]).length ≤ j by simp; omega)]

theorem aheadAt_congr {xs : List Int} {ys zs : List Bool} {a b : Nat} (h : ∀ t ∈ xs, ys.getD (a - t.toNat) false = zs.getD (b - t.toNat) false) : ∀ k, k ≤ xs.length → aheadAt xs ys a k = aheadAt xs zs b k
  | 0, _ => rfl
  | k + 1, hk => by
    simp only [aheadAt]
    rw [aheadAt_congr h k (by omega), h _ (mem_getD (show k < xs.length by omega))]

/-- The m bits of the stream from place p on. -/
def wnd (S : List Bool) (m p : Nat) : List Bool := (S.drop p).take m
theorem wnd_length {S : List Bool} {m p : Nat} (h : p + m ≤ S.length) : (wnd S m p).length = m := by
  simp [wnd]; omega
theorem wnd_getD {S : List Bool} {m p j : Nat} (h : j < m) : (wnd S m p).getD j false = S.getD (p + j) false := by
  rw [wnd, getD_take _ _ _ h, getD_drop]

theorem stream_getD (xs : List Int) (fs : List Bool) (K k : Nat) (h : k < K) (hf : fs.length ≤ k) : (streamL xs fs K).getD k false = nextB xs (streamL xs fs k) k := by
  have h1 : (streamL xs fs K).getD k false = ((streamL xs fs K).take (k + 1)).getD k false := (getD_take _ _ _ (by omega)).symm
  rw [h1, streamL_take xs fs K (k + 1) (by omega)]
  simp only [streamL]
  rw [getD_snocB, if_pos (streamL_length xs fs k).symm, if_neg (by omega)]

theorem stream_next (xs : List Int) (fs : List Bool) (K m p : Nat) (hf : fs.length = m) (hp : p + m < K) (hall : ∀ t ∈ xs, 1 ≤ t ∧ t ≤ (m : Int)) :
    (streamL xs fs K).getD (p + m) false = nextB xs (wnd (streamL xs fs K) m p) m := by
  rw [stream_getD xs fs K (p + m) hp (by omega)]
  unfold nextB
  refine aheadAt_congr (fun t ht => ?_) xs.length (Nat.le_refl _)
  have ht := hall t ht
  rw [wnd_getD (by omega), ← streamL_take xs fs K (p + m) (by omega), getD_take _ _ _ (by omega)]
  congr 1
  omega

theorem wnd_zero (xs : List Int) (fs : List Bool) (K m : Nat) (hf : fs.length = m) (hK : m ≤ K) : wnd (streamL xs fs K) m 0 = fs := by
  have h : (streamL xs fs K).take m = fs := by rw [streamL_take xs fs K m hK, streamL_first xs fs m (by omega)]; exact List.take_of_length_le (by omega)
  simpa [wnd] using h

theorem wnd_succ {S : List Bool} {m p : Nat} {x : Bool} (hm : 0 < m) (hp : p + m < S.length) (hx : S.getD (p + m) false = x) : wnd S m (p + 1) = (wnd S m p).drop 1 ++ [x] := by
  have hl0 : ((wnd S m p).drop 1).length = m - 1 := by rw [List.length_drop, wnd_length (by omega)]
  refine list_ext_getD (by rw [wnd_length (by omega), List.length_append, hl0]; simp; omega) fun j hj => ?_
  rw [wnd_length (by omega)] at hj
  rw [wnd_getD hj, getD_snocB, hl0]
  by_cases e : j = m - 1
  · rw [if_pos e, ← hx]; congr 1; omega
  · rw [if_neg e, getD_drop, wnd_getD (by omega)]; congr 1; omega

theorem again_wnd {S fs : List Bool} {m p : Nat} (hf : fs.length = m) : again S fs p ↔ ∀ i, i < m → (wnd S m p).getD i false = fs.getD i false := by
  unfold again
  rw [hf]
  exact ⟨fun h i hi => by rw [wnd_getD hi]; exact h i hi, fun h i hi => by rw [← wnd_getD hi]; exact h i hi⟩

theorem mem_take_succ {fs : List Bool} {k : Nat} (h : k < fs.length) : (true ∈ fs.take (k + 1)) ↔ (true ∈ fs.take k ∨ fs.getD k false = true) := by
  rw [List.take_succ_eq_append_getElem h, List.mem_append, List.mem_singleton]
  have e : fs.getD k false = fs[k] := by simp [List.getD, h]
  rw [e]
  exact ⟨fun h => h.imp_right Eq.symm, fun h => h.imp_right Eq.symm⟩

theorem cells_tail {w : World} {base g n cap : Nat} {l : List Bool} (h : OwnB w base (.slice (some ⟨g, 0, none⟩) n cap) l) (hl : l.length = n) : ∀ j u, (cellsB (l.drop 1))[j]? = some u → w.cell? ((⟨g, 1, none⟩ : Addr).add j) = some u := by
  intro j u hu
  have hj : j < (l.drop 1).length := by
    have := (List.getElem?_eq_some_iff.1 hu).1
    simpa [cellsB] using this
  rw [getD_map_bool _ j hj] at hu
  rw [List.length_drop] at hj
  have hc := OwnB.cell (g := g) (cap := cap) (xs := l) (by rw [hl]; exact h) (1 + j) (by omega)
  rw [Go.WideShapes.add_plain, hc, ← hu, getD_drop]

set_option maxHeartbeats 8000000 in
set_option maxRecDepth 1000000 in
theorem specPeriod_yes (ao : Option Addr) (n c b' o' m d : Nat) (xs : List Int) (fs : List Bool) (w : World) (hx : xs.length = n) (hy : fs.length = m) (hn : n ≤ 17592186044416) (hr : Rd w ao xs)
    (hcy : ∀ j, j < m → w.cell? ⟨b', o' + j, none⟩ = some (.bool (fs.getD j false))) (hk : okS xs fs = true) (ht : true ∈ fs) (R : Int) (fb : Bool) (hR : (R, fb) = perFrom (streamL xs fs (5000 + m)) fs 5000 1) :
    Calls Try.prog 29 #[.slice ao n c, .slice (some ⟨b', o', none⟩) m d] w fun e w' => e = .returned (.tuple #[.int .i64 R, .bool fb]) ∧ Below w.heap.size w w' := by
  obtain ⟨i0, hi, hz0, hz1, hz2⟩ := info_parts Try.infoBool
  have hm := (okS_taps hk).1
  rw [hy] at hm
  have hm0 : 0 < m := by rw [← hy]; exact List.length_pos_of_mem ht
  have hk' := hk
  simp only [okS, Bool.and_eq_true, decide_eq_true_eq] at hk'
  rw [hy] at hk'
  have HG : Hid (Calls Try.prog 23 #[.slice ao n c] w fun e w' => e = .returned (.bool true) ∧ w' = w) := by
    have h := specGoodT_c ao n c xs w hx hn hr
    rw [hk'.1] at h
    exact h
  have HT : Hid (Calls Try.prog 57 #[.slice ao n c] w fun e w' => e = .returned (.int .i64 m) ∧ w' = w) := by
    have h := l3Top_c ao n c xs w hx hn hr
    rw [← hk'.2] at h
    exact h
  have HA : Hid (∀ t ∈ xs, 1 ≤ t ∧ t ≤ (m : Int)) := (okS_taps hk).2.2 m (by omega)
  have HX : Hid (xs.length = n) := hx
  have HY : Hid (fs.length = m) := hy
  have HRd : Hid (Rd w ao xs) := hr
  have HCY : Hid (∀ j, j < m → w.cell? ⟨b', o' + j, none⟩ = some (.bool (fs.getD j false))) := hcy
  have HM : Hid (true ∈ fs) := ht
  have HSL : Hid ((streamL xs fs (5000 + m)).length = 5000 + m) := streamL_length _ _ _
  have HNX : Hid (∀ p, p < 5000 → (streamL xs fs (5000 + m)).getD (p + m) false = nextB xs (wnd (streamL xs fs (5000 + m)) m p) m) := fun p hp => stream_next xs fs (5000 + m) m p hy (by omega) HA.out
  have HW0 : Hid (wnd (streamL xs fs (5000 + m)) m 0 = fs) := wnd_zero xs fs (5000 + m) m hy (by omega)
  obtain ⟨S, hS⟩ : ∃ S, S = streamL xs fs (5000 + m) := ⟨_, rfl⟩
  rw [← hS] at HSL hR HNX HW0
  have HR : Hid ((R, fb) = perFrom S fs 5000 1) := hR
  have hm12 : (m : Int) ≤ 12 := by omega
  have HN0 : Hid (∀ j u, (cellsB fs)[j]? = some u → (w.alloc (.cells #[] 4)).cell? ((⟨b', o', none⟩ : Addr).add j) = some u) := fun j u hu => by
    have hj : j < fs.length := by
      have := (List.getElem?_eq_some_iff.1 hu).1
      simpa [cellsB] using this
    rw [getD_map_bool fs j hj] at hu
    rw [Go.WideShapes.add_plain, ← hu]
    exact calloc (hcy j (by omega))
  have HCL0 : Hid ((cellsB fs).length = m * 1) := by show (cellsB _).length = _; rw [cellsB_length]; omega
  have hown0 := own_emptyB w w.heap.size (Nat.le_refl _) #[] rfl
  clear hx hy hr hcy hk ht hS hR hk'
  go_enter Try.func29, Try.ntmps29
  go_wp2_with (first | (go_at_call 23; refine HG.out.mono ?_; rintro e w' ⟨rfl, hw⟩; subst w') | (go_at_call 57; refine HT.out.mono ?_; rintro e w' ⟨rfl, hw⟩; subst w'))
  go_loopg [7, 28] m (fun g s7 s28 wx => ∃ (k : Nat) (u : Bool), k + g = m ∧ s28 = .int .i64 k ∧ s7 = .bool u ∧ Hid (u = decide (true ∈ fs.take k)) ∧ wx = w)
  case atStart => exact ⟨0, false, by omega, rfl, rfl, by show false = _; simp, rfl⟩
  case round =>
    obtain ⟨k, u, hkg, rfl, rfl, hu, hw⟩ := hrel
    subst wr
    cases gk with
    | succ g =>
      have k1 : (k : Int) < (m : Int) := by omega
      have k0 : (0 : Int) ≤ (k : Int) := by omega
      have g1 := HCY.out k (by omega)
      have HU : Hid ((true ∈ fs.take (k + 1)) ↔ (true ∈ fs.take k ∨ fs.getD k false = true)) := mem_take_succ (by rw [HY.out]; omega)
      generalize fs.getD k false = y at g1 HU
      cases u
      · have hn2 : ¬ true ∈ fs.take k := of_decide_eq_false hu.out.symm
        have HU2 : Hid (y = decide (true ∈ fs.take (k + 1))) := by
          show y = _
          cases y
          · exact (decide_eq_false (fun h => by rcases HU.out.1 h with h | h; exact hn2 h; cases h)).symm
          · exact (decide_eq_true (HU.out.2 (Or.inr rfl))).symm
        clear hu HU hn2
        go_wp2
        go_roundg g
        case measure => omega
        case rel => exact ⟨k + 1, y, by omega, by go_num, rfl, HU2, rfl⟩
      · have hn2 : true ∈ fs.take k := of_decide_eq_true hu.out.symm
        have HU2 : Hid (true = decide (true ∈ fs.take (k + 1))) := (decide_eq_true (HU.out.2 (Or.inl hn2))).symm
        clear hu HU hn2
        go_wp2
        go_roundg g
        case measure => omega
        case rel => exact ⟨k + 1, true, by omega, by go_num, rfl, HU2, rfl⟩
    | zero =>
      have hu2 : u = true := by
        rw [hu.out]
        refine decide_eq_true ?_
        rw [List.take_of_length_le (by rw [HY.out]; omega)]
        exact HM.out
      subst hu2
      have k1 : ¬ (k : Int) < (m : Int) := by omega
      clear hu
      go_wp2_with (at_builtin; refine wpList_append_lies _ rfl _ _ 23 rfl w.heap.size 4 i0 (.bool false) 1 1 Try.underlying23 hi hz0 hz1 hz2 rfl (by decide) _ _ _ rfl hown0 ⟨b', o', none⟩ m d (cellsB fs) rfl HCL0.out HN0.out (cellsB_oneCell _) (by omega) (by unfold maxLen; omega) (by omega) (by simp) _ rfl ?_; intro g0 cap0 w0 hown' hgrow _ hlg; have HO0 : Hid (OwnB w0 w.heap.size (.slice (some ⟨g0, 0, none⟩) m cap0) fs) := (by show World.ownsRow _ _ _ _ _ _ _; rw [HY.out]; simpa using hown'); have hg2 : (w.alloc (.cells #[] 4)).grownBy w0 (some w.heap.size) := hgrow; have HB0 : Hid (Below w.heap.size w w0) := (balloc w _).grown hg2 (by simp) (fun k' e => by simp at e; omega); simp only [Nat.zero_add]; clear hown' hgrow hlg hown0 hg2 HN0 HCL0)
      go_loopg [10, 11] 5000 (fun g s10 s11 wx => ∃ (p gb cap : Nat), p + g = 5000 ∧ s11 = .int .i64 ((p : Int) + 1) ∧ s10 = .slice (some ⟨gb, 0, none⟩) m cap ∧ Hid (OwnB wx w.heap.size (.slice (some ⟨gb, 0, none⟩) m cap) (wnd S m p)) ∧ Hid (Below w.heap.size w wx) ∧ Hid ((R, fb) = perFrom S fs g (p + 1)))
      case atStart => exact ⟨0, g0, cap0, rfl, rfl, rfl, by show OwnB _ _ _ _; rw [HW0.out]; exact HO0.out, HB0, HR⟩
      case round =>
        clear HR HO0 HB0 HG HT HM
        obtain ⟨p, gb, cap, hpg, rfl, rfl, hO, hB, hR⟩ := hrel
        cases gk with
        | zero =>
          have hp : ¬ (p : Int) + 1 ≤ 5000 := by omega
          have he := hR.out
          simp only [perFrom, Prod.mk.injEq] at he
          obtain ⟨rfl, rfl⟩ := he
          clear hR
          go_wp2
          refine bodyPost_ret (v := .tuple #[.int .i64 0, .bool false]) (by simp [results, Try.results29, go_sem]) rfl ⟨rfl, hB.out⟩
        | succ g =>
          have hp : (p : Int) + 1 ≤ 5000 := by omega
          have hcl := hO.out.capLe
          have hgl : gb < wr.heap.size := (World.ownsRow.lt hO.out gb rfl).2
          have hgb : w.heap.size ≤ gb := own_block_geB hO.out gb rfl
          have hbs : w.heap.size ≤ wr.heap.size := hB.out.size
          have c1 : (1 : Int) ≤ (m : Int) := by omega
          have c2 : (m : Int) ≤ (cap : Int) := by omega
          have hwl : (wnd S m p).length = m := wnd_length (by rw [HSL.out]; omega)
          have hownE := own_emptyB wr w.heap.size hB.out.size #[] rfl
          have hct := cells_tail hO.out hwl
          obtain ⟨A, hA1, hA2⟩ : ∃ A : Addr, (if cap = 1 then (some ⟨gb, 0, none⟩ : Option Addr) else some ⟨gb, 1, none⟩) = some A ∧ ∀ j u, (cellsB ((wnd S m p).drop 1))[j]? = some u → (wr.alloc (.cells #[] 4)).cell? (A.add j) = some u := by
            by_cases e : cap = 1
            · refine ⟨⟨gb, 0, none⟩, by rw [if_pos e], fun j u h => ?_⟩
              have hj : j < ((wnd S m p).drop 1).length := by
                have := (List.getElem?_eq_some_iff.1 h).1
                simpa [cellsB] using this
              rw [List.length_drop, hwl] at hj
              have := hcl.1
              omega
            · exact ⟨⟨gb, 1, none⟩, by rw [if_neg e], fun j u h => calloc (hct j u h)⟩
          have HNt : Hid (∀ j u, (cellsB ((wnd S m p).drop 1))[j]? = some u → (wr.alloc (.cells #[] 4)).cell? (A.add j) = some u) := hA2
          clear hA2
          have HCLt : Hid ((cellsB ((wnd S m p).drop 1)).length = (m - 1) * 1) := by show (cellsB _).length = _; rw [cellsB_length, List.length_drop, hwl]; omega
          have HWS : Hid (wnd S m (p + 1) = (wnd S m p).drop 1 ++ [nextB xs (wnd S m p) m]) := wnd_succ hm0 (by rw [HSL.out]; omega) (HNX.out p (by omega))
          have HWL : Hid ((wnd S m p).length = m) := hwl
          have HP : Hid ((R, fb) = if again S fs (p + 1) then (((p + 1 : Nat) : Int), true) else perFrom S fs g (p + 1 + 1)) := hR.out
          have HL1 : Hid (((wnd S m p).drop 1).length = m - 1) := by show List.length _ = _; rw [List.length_drop, hwl]
          unfold maxLen at hcl
          obtain ⟨hcl1, hcl2⟩ := hcl
          generalize wnd S m p = old at hO HNt HCLt HWS HWL HL1
          clear hct hwl hR
          go_wp2_with (first | (at_builtin; refine wpList_append_own _ rfl _ _ 23 rfl w.heap.size 4 i0 (.bool false) 1 1 Try.underlying23 hi hz0 hz1 hz2 rfl (by decide) _ _ _ rfl hownE A (m - 1) (cap - 1) (cellsB (old.drop 1)) rfl HCLt.out HNt.out (cellsB_oneCell _) (by unfold maxLen; omega) (by omega) (by simp; omega) ?_; intro v1 w1 hown1 hgrow1 _; have HO1 : Hid (w1.ownsRow w.heap.size 4 1 v1 (m - 1) (cellsB (old.drop 1))) := (by show World.ownsRow _ _ _ _ _ _ _; simpa using hown1); have hg1 : (wr.alloc (.cells #[] 4)).grownBy w1 (some wr.heap.size) := hgrow1; have HB1 : Hid (Below w.heap.size w w1) := (hB.out.alloc hB.out.size _).grown hg1 (by simp; omega) (fun k' e => by simp at e; omega); have HOb : Hid (OwnB w1 w.heap.size (.slice (some ⟨gb, 0, none⟩) m cap) old) := OwnB.kept (hO.out.later (balloc wr _)) hg1 (Or.inr (fun e => by simp [Value.ownBlock] at e; omega)); have hbs1 : w.heap.size ≤ w1.heap.size := HB1.out.size; clear hown1 hgrow1 hg1 hownE HNt HCLt hA1) | (go_at_call 55; have hq := l3Next_c ao (some ⟨gb, 0, none⟩) n c m cap m xs old w1 HX.out HWL.out hn (by omega) (Nat.le_refl _) (HRd.out.later HB1.out) HOb.out.rd'.2 HA.out; generalize nextB xs old m = x at hq HWS; refine hq.mono ?_; clear hq; rintro e w' ⟨rfl, hw⟩; subst w') | (at_builtin; refine wpList_append_lies _ rfl _ _ 23 rfl w.heap.size 4 i0 (.bool false) 1 1 Try.underlying23 hi hz0 hz1 hz2 rfl (by decide) _ _ _ rfl (HO1.out.alloc _) ⟨w1.heap.size, 0, none⟩ 1 1 [.bool x] rfl rfl (cell_new1 _ _ _) (bools_oneCell [x]) (by omega) (by unfold maxLen; omega) (by omega) (by simp; omega) _ rfl ?_; intro g2 cap2 w2 hown2 hgrow2 _ hlg; have hmm : m - 1 + 1 = m := (by omega); rw [hmm] at hown2; simp only [hmm]; have HO2 : Hid (OwnB w2 w.heap.size (.slice (some ⟨g2, 0, none⟩) m cap2) (wnd S m (p + 1))) := (by show World.ownsRow _ _ _ _ _ _ _; rw [HWS.out, List.length_append, HL1.out]; simpa [hmm, cellsB] using hown2); have HB2 : Hid (Below w.heap.size w w2) := (HB1.out.alloc HB1.out.size _).grown hgrow2 (by simp; omega) (fun k' e => (World.ownsRow.lt HO1.out k' e).1); clear hown2 hgrow2 hlg hmm HO1 HOb HB1 hbs1))
          have hwl2 : (wnd S m (p + 1)).length = m := wnd_length (by rw [HSL.out]; omega)
          have HC2 : Hid (∀ j, j < m → w2.cell? ⟨g2, j, none⟩ = some (.bool ((wnd S m (p + 1)).getD j false))) := fun j hj => OwnB.cell (g := g2) (cap := cap2) (xs := wnd S m (p + 1)) (by rw [hwl2]; exact HO2.out) j (by rw [hwl2]; exact hj)
          have HF2 : Hid (∀ j, j < m → w2.cell? ⟨b', o' + j, none⟩ = some (.bool (fs.getD j false))) := fun j hj => by
            rw [HB2.out.cell (p := ⟨b', o' + j, none⟩) (World.block_lt_of_cell? w _ (HCY.out j hj))]
            exact HCY.out j hj
          have HAG : Hid (again S fs (p + 1) ↔ ∀ i, i < m → (wnd S m (p + 1)).getD i false = fs.getD i false) := again_wnd HY.out
          obtain ⟨B, hBd⟩ : ∃ B, B = wnd S m (p + 1) := ⟨_, rfl⟩
          rw [← hBd] at HC2 HAG
          clear hwl2 hB hO hBd HWS HL1 HWL hcl1 hcl2 hgl hgb hbs c1 c2
          go_loopg [12, 58] m (fun g2 s12 s58 wy => ∃ (j : Nat) (u : Bool), j + g2 = m ∧ s58 = .int .i64 j ∧ s12 = .bool u ∧ Hid (u = true ↔ ∀ i, i < j → B.getD i false = fs.getD i false) ∧ wy = w2)
          case atStart => exact ⟨0, true, by omega, rfl, rfl, ⟨fun _ i h => absurd h (by omega), fun _ => rfl⟩, rfl⟩
          case round =>
            obtain ⟨j, u, hjg, rfl, rfl, hu, hw⟩ := hrel
            subst wr
            cases gk with
            | zero =>
              have hj : ¬ (j : Int) < (m : Int) := by omega
              obtain rfl : j = m := by omega
              cases u
              · have HN : Hid ((R, fb) = perFrom S fs g (p + 1 + 1)) := by
                  have he := HP.out
                  rw [if_neg (fun h => by have := hu.out.2 (HAG.out.1 h); cases this)] at he
                  exact he
                clear hu HP
                go_wp2
                go_roundg g
                case measure => omega
                case rel => exact ⟨p + 1, g2, cap2, by omega, by go_num, rfl, HO2, HB2, HN⟩
              · have he := HP.out
                rw [if_pos (HAG.out.2 (hu.out.1 rfl))] at he
                simp only [Prod.mk.injEq] at he
                obtain ⟨rfl, rfl⟩ := he
                clear hu HP
                go_wp2
                refine bodyPost_ret (v := .tuple #[.int .i64 ((p : Int) + 1), .bool true]) (by simp [results, Try.results29, go_sem]) rfl ⟨by first | rfl | simp, HB2.out⟩
            | succ g3 =>
              have hj : (j : Int) < (m : Int) := by omega
              have j0 : (0 : Int) ≤ (j : Int) := by omega
              have q1 := HC2.out j (by omega)
              have q2 := HF2.out j (by omega)
              cases u
              · have HU : Hid (false = true ↔ ∀ i, i < j + 1 → B.getD i false = fs.getD i false) := ⟨fun h => (by cases h), fun h => hu.out.2 (fun i hi => h i (by omega))⟩
                clear hu
                go_wp2
                go_roundg g3
                case measure => omega
                case rel => exact ⟨j + 1, false, by omega, by go_num, rfl, HU, rfl⟩
              · have HU : Hid ((B.getD j false == fs.getD j false) = true ↔ ∀ i, i < j + 1 → B.getD i false = fs.getD i false) := ⟨fun h i hi => by
                  by_cases e : i = j
                  · subst e; exact beq_iff_eq.1 h
                  · exact hu.out.1 rfl i (by omega), fun h => beq_iff_eq.2 (h j (by omega))⟩
                generalize B.getD j false = x1 at q1 HU
                generalize fs.getD j false = x2 at q2 HU
                clear hu
                go_wp2
                go_roundg g3
                case measure => omega
                case rel => exact ⟨j + 1, (x1 == x2), by omega, by go_num, rfl, HU, rfl⟩

theorem specPeriod_no (ao bo : Option Addr) (n c m d : Nat) (xs : List Int) (fs : List Bool) (w : World) (hx : xs.length = n) (hy : fs.length = m) (hn : n ≤ 17592186044416) (hm : m ≤ 17592186044416) (hr : Rd w ao xs) (hs : RdB w bo fs) (h : ¬ (okS xs fs = true ∧ true ∈ fs)) :
    Calls Try.prog 29 #[.slice ao n c, .slice bo m d] w fun e w' => e = .returned (.tuple #[.int .i64 0, .bool false]) ∧ w' = w := by
  have HG : Hid (Calls Try.prog 23 #[.slice ao n c] w fun e w' => e = .returned (.bool (goodT 0 xs)) ∧ w' = w) := specGoodT_c ao n c xs w hx hn hr
  have HT : Hid (Calls Try.prog 57 #[.slice ao n c] w fun e w' => e = .returned (.int .i64 (topT xs)) ∧ w' = w) := l3Top_c ao n c xs w hx hn hr
  have hk : goodT 0 xs = true → (m : Int) = topT xs → ¬ true ∈ fs := fun h1 h2 h3 => h ⟨by simp [okS, h1, hy, h2], h3⟩
  have HY : Hid (fs.length = m) := hy
  have HS : Hid (RdB w bo fs) := hs
  generalize topT xs = t at HT hk
  cases hG : goodT 0 xs
  · rw [hG] at HG
    clear hG h hk hr hx hy hs
    go_enter Try.func29, Try.ntmps29
    go_wp2_with (first | (go_at_call 23; refine HG.out.mono ?_; rintro e w' ⟨rfl, hw⟩; subst w') | (go_at_call 57; refine HT.out.mono ?_; rintro e w' ⟨rfl, hw⟩; subst w'))
    refine bodyPost_ret (v := .tuple #[.int .i64 0, .bool false]) (by simp [results, Try.results29, go_sem]) rfl ⟨rfl, rfl⟩
  · have hk := hk hG
    rw [hG] at HG
    clear hG h hr hx hy hs
    by_cases h1 : (m : Int) = t
    · have HM : Hid (¬ true ∈ fs) := hk h1
      subst h1
      clear hk
      by_cases h0 : m = 0
      · subst h0
        go_enter Try.func29, Try.ntmps29
        go_wp2_with (first | (go_at_call 23; refine HG.out.mono ?_; rintro e w' ⟨rfl, hw⟩; subst w') | (go_at_call 57; refine HT.out.mono ?_; rintro e w' ⟨rfl, hw⟩; subst w'))
        refine wp_loop_rounds 1 ?_
        rw [rounds_succ]
        go_wp2
        refine bodyPost_ret (v := .tuple #[.int .i64 0, .bool false]) (by simp [results, Try.results29, go_sem]) rfl ⟨rfl, rfl⟩
      · obtain ⟨b', o', rfl, hcy⟩ := HS.out.at HY.out (by omega)
        have HCY : Hid (∀ j, j < m → w.cell? ⟨b', o' + j, none⟩ = some (.bool (fs.getD j false))) := hcy
        clear hcy h0
        go_enter Try.func29, Try.ntmps29
        go_wp2_with (first | (go_at_call 23; refine HG.out.mono ?_; rintro e w' ⟨rfl, hw⟩; subst w') | (go_at_call 57; refine HT.out.mono ?_; rintro e w' ⟨rfl, hw⟩; subst w'))
        go_loopg [7, 28] m (fun g s7 s28 wx => ∃ (k : Nat), k + g = m ∧ s28 = .int .i64 k ∧ s7 = .bool false ∧ wx = w)
        case atStart => exact ⟨0, by omega, rfl, rfl, rfl⟩
        case round =>
          obtain ⟨k, hkg, rfl, rfl, hw⟩ := hrel
          subst wr
          cases gk with
          | succ g =>
            have k1 : (k : Int) < (m : Int) := by omega
            have k0 : (0 : Int) ≤ (k : Int) := by omega
            have g1 := HCY.out k (by omega)
            have hf : fs.getD k false = false := by
              cases e : fs.getD k false
              · rfl
              · refine absurd ?_ HM.out
                rw [← e]
                exact Bool_getD_mem (by rw [HY.out]; omega)
            rw [hf] at g1
            clear hf
            go_wp2
            go_roundg g
            case measure => omega
            case rel => exact ⟨k + 1, by omega, by go_num, rfl, rfl⟩
          | zero =>
            have k1 : ¬ (k : Int) < (m : Int) := by omega
            go_wp2
            refine bodyPost_ret (v := .tuple #[.int .i64 0, .bool false]) (by simp [results, Try.results29, go_sem]) rfl ⟨rfl, rfl⟩
    · have h2 : ((m : Int) != t) = true := by rw [bne_iff_ne]; exact h1
      clear hk h1
      go_enter Try.func29, Try.ntmps29
      go_wp2_with (first | (go_at_call 23; refine HG.out.mono ?_; rintro e w' ⟨rfl, hw⟩; subst w') | (go_at_call 57; refine HT.out.mono ?_; rintro e w' ⟨rfl, hw⟩; subst w'))
      refine bodyPost_ret (v := .tuple #[.int .i64 0, .bool false]) (by simp [results, Try.results29, go_sem]) rfl ⟨rfl, rfl⟩

theorem specPeriod_c (ao : Option Addr) (n c : Nat) (bo : Option Addr) (m d : Nat) (xs : List Int) (fs : List Bool) (w : World) (hx : xs.length = n) (hy : fs.length = m) (hn : n ≤ 17592186044416) (hm : m ≤ 17592186044416) (hr : Rd w ao xs) (hs : RdB w bo fs) (R : Int) (fb : Bool) (hF : perF xs fs = (R, fb)) :
    Calls Try.prog 29 #[.slice ao n c, .slice bo m d] w fun e w' => e = .returned (.tuple #[.int .i64 R, .bool fb]) ∧ Below w.heap.size w w' := by
  unfold perF at hF
  by_cases h : okS xs fs = true ∧ true ∈ fs
  · rw [if_pos h, hy] at hF
    have hp : 0 < m := by rw [← hy]; exact List.length_pos_of_mem h.2
    obtain ⟨b', o', rfl, hcy⟩ := hs.at hy hp
    exact specPeriod_yes ao n c b' o' m d xs fs w hx hy hn hr hcy h.1 h.2 R fb hF.symm
  · rw [if_neg h] at hF
    simp only [Prod.mk.injEq] at hF
    obtain ⟨rfl, rfl⟩ := hF
    refine (specPeriod_no ao bo n c m d xs fs w hx hy hn hm hr hs h).mono ?_
    rintro e w' ⟨rfl, hw⟩
    subst w'
    exact ⟨rfl, Below.refl _ _⟩

end Go.Proofs.Ytjdfpjeeipbghaa

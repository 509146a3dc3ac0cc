/- Chapter 15: GroupsOf of the specification. -/
import Derived.Test.YtbjpkklonjlmiaaGI15
import Derived.Test.YtbjpkklonjlmiaaSFF15
import Derived.Test.YtbjpkklonjlmiaaB3B
namespace Go.Proofs.Ytbjpkklonjlmiaa
set_option linter.unusedVariables false
set_option maxRecDepth 1000000
set_option linter.unusedSimpArgs false
open Go.RowKit Go.Sort

/-- Which seats have been told ahead of seat s; and, within its round, of those up to k. -/
def seenL (t : TbV) (n s : Nat) : List Bool := (List.range n).map (seenB t s)
def seenI (t : TbV) (n s k : Nat) : List Bool := (List.range n).map fun i => seenB t s i || (decide (i < k) && rch t s i)
theorem seenI_zero (t : TbV) (n s : Nat) : seenI t n s 0 = seenL t n s := by unfold seenI seenL; simp
theorem seenL_zero (t : TbV) (n : Nat) : seenL t n 0 = List.replicate n false := by
  unfold seenL
  exact List.ext_getElem (by simp) (fun i h1 h2 => by simp [seenB])
theorem seenL_length (t : TbV) (n s : Nat) : (seenL t n s).length = n := by simp [seenL]
theorem seenI_length (t : TbV) (n s k : Nat) : (seenI t n s k).length = n := by simp [seenI]
theorem seenL_get {t : TbV} {n s k : Nat} (h : k < n) : (seenL t n s).getD k false = seenB t s k := by simp [seenL, List.getD, h]
theorem seenL_skip {t : TbV} (hg : GoodT t) {n s : Nat} (hn : n = t.s.toNat) (hs : s < n) (h : seenB t s s = true) : seenL t n (s + 1) = seenL t n s := by
  unfold seenL
  refine List.map_congr_left (fun k hk => ?_)
  rw [seenB_succ hg hn hs (List.mem_range.1 hk), if_pos h]
theorem seenL_done {t : TbV} (hg : GoodT t) {n s : Nat} (hn : n = t.s.toNat) (hs : s < n) (h : seenB t s s = false) : seenI t n s n = seenL t n (s + 1) := by
  unfold seenL seenI
  refine List.map_congr_left (fun k hk => ?_)
  rw [seenB_succ hg hn hs (List.mem_range.1 hk), if_neg (by rw [h]; simp), decide_eq_true (List.mem_range.1 hk), Bool.true_and]
theorem seenI_succ {t : TbV} {n s k : Nat} (hk : k < n) : seenI t n s (k + 1) = if rch t s k = true then (seenI t n s k).set k true else seenI t n s k := by
  refine List.ext_getElem (by split <;> simp [seenI]) (fun i h1 h2 => ?_)
  have hi : i < n := by simpa [seenI] using h1
  split
  · rename_i h
    rw [List.getElem_set]
    split
    · rename_i e; subst e; simp [seenI, h]
    · rename_i e
      have : (i < k + 1) = (i < k) := by rw [eq_iff_iff]; omega
      simp [seenI, this]
  · rename_i h
    by_cases e : i = k
    · subst e; simp [seenI, h]
    · have : (i < k + 1) = (i < k) := by rw [eq_iff_iff]; omega
      simp [seenI, this]
theorem OwnB.set15 {w : World} {base g n c : Nat} {xs : List Bool} (hl : xs.length = n) (h : OwnB w base (.slice (some ⟨g, 0, none⟩) n c) xs) (j : Nat) (x : Bool) : OwnB (w.setCell ⟨g, j, none⟩ (.bool x)) base (.slice (some ⟨g, 0, none⟩) n c) (xs.set j x) := by
  subst hl
  have h1 := World.ownsRow.stored h j (.bool x)
  have e : (cellsB xs).set j (.bool x) = cellsB (xs.set j x) := by unfold cellsB; rw [List.map_set]
  rw [e] at h1
  unfold OwnB
  rw [List.length_set]
  exact h1.1

set_option maxHeartbeats 2000000 in
theorem specGroups_c (sa : Option Addr) (sn sc : Nat) (la : Option Addr) (ln lc : Nat) (t : TbV) (w : World) (h : RdT w sa sn sc la ln lc t) :
    Calls Try.prog 26 #[.agg #[.int .i64 t.s, .slice sa sn sc, .slice la ln lc]] w fun e w' => TellII e w w' (grpV t) (goodTb t) := by
  have HX0 : Hid (X3 (w.alloc (.cells #[.int .i64 t.s, .slice sa sn sc, .slice la ln lc] 26)) w.heap.size (.int .i64 t.s) (.slice sa sn sc) (.slice la ln lc)) := x3_new w _ _ _ _ _ rfl
  have HB0 : Hid (Below w.heap.size w (w.alloc (.cells #[.int .i64 t.s, .slice sa sn sc, .slice la ln lc] 26))) := balloc w _
  have HR : Hid (∀ wx, Below w.heap.size w wx → RdT wx sa sn sc la ln lc t) := fun wx hb => h.later hb
  unfold grpV
  obtain ⟨V, hV⟩ : ∃ V, w.alloc (.cells #[.int .i64 t.s, .slice sa sn sc, .slice la ln lc] 26) = V := ⟨_, rfl⟩
  rw [hV] at HX0 HB0
  have q := specGoodTb_c sa sn sc la ln lc t V (HR.out V HB0.out)
  obtain ⟨⟨f0, f1, f2⟩, _⟩ := HX0.out
  cases hgd : goodTb t
  · rw [if_neg (by simp)]
    rw [hgd] at q
    generalize t.s = s at hV f0 q ⊢
    clear h hgd HX0 HR
    go_enter Try.func26, Try.ntmps26
    go_wp2_with fail
    refine q.mono ?_
    clear q f0 f1 f2 hV
    rintro e w1 ⟨rfl, hb⟩
    have HB1 : Hid (Below w.heap.size w w1) := HB0.out.trans (hb.mono HB0.out.size)
    clear hb
    go_wp2
    refine bodyPost_ret (v := .tuple #[.slice none 0 0, .bool false]) (by simp [results, Try.results26, go_sem]; try rfl) rfl ?_
    exact tellII_none HB1.out
  rw [if_pos rfl]
  rw [hgd] at q
  have hg := goodTb_iff t hgd
  have HG : Hid (GoodT t) := hg
  obtain ⟨n, hn⟩ : ∃ n : Nat, t.s = (n : Int) := ⟨t.s.toNat, by have := hg.s1; omega⟩
  have hn1 : 1 ≤ n := by have := hg.s1; omega
  have hn6 : n ≤ 6 := by have := hg.s6; omega
  have htn : t.s.toNat = n := by omega
  have HN : Hid (t.s.toNat = n) := htn
  have HQF : Hid (∀ wx (g0 : Nat), Below w.heap.size w wx → g0 < n → Calls Try.prog 55 #[.agg #[.int .i64 n, .slice sa sn sc, .slice la ln lc], .int .i64 g0] wx fun e w' => ∃ a' c', e = .returned (.slice a' n c') ∧ Own w' wx.heap.size (.slice a' n c') (farT t g0) ∧ Below wx.heap.size wx w') := fun wx g0 hb h0 => by
    have := l15Far_c sa sn sc la ln lc t g0 n wx (HR.out wx hb) hg hn h0
    rw [hn] at this; exact this
  have HFL : Hid (∀ s, s < n → (farT t s).length = n) := fun s hs => by unfold farT; rw [htn, farL_length]
  rw [htn]
  have HXN : Hid (X3 V w.heap.size (.int .i64 n) (.slice sa sn sc) (.slice la ln lc)) := by rw [← hn]; exact HX0.out
  rw [hn] at hV f0 q ⊢
  obtain ⟨GG, hGG⟩ : ∃ G, grpsL t n n = G := ⟨_, rfl⟩
  have HGG : Hid (grpsL t n n = GG) := hGG
  rw [hGG]
  obtain ⟨i0, hi, hz0, hz1, hz2⟩ := info_parts Try.infoBool
  clear h hgd HX0 HR hg hn htn hGG
  go_enter Try.func26, Try.ntmps26
  go_wp2_with fail
  refine q.mono ?_
  clear q f0 f1 f2 hV
  rintro e w1 ⟨rfl, hb⟩
  have HB1 : Hid (Below w.heap.size w w1) := HB0.out.trans (hb.mono HB0.out.size)
  have HX1 : Hid (X3 w1 w.heap.size (.int .i64 n) (.slice sa sn sc) (.slice la ln lc)) := HXN.out.later hb
  obtain ⟨⟨f0, f1, f2⟩, _⟩ := HX1.out
  clear hb HXN
  go_wp2_with (
    at_make
    refine wpList_make_full _ rfl _ _ 73 rfl w1.heap.size 4 i0 (.bool false) 1 Try.underlying73 hi hz0 hz1 _ _ _ _ n rfl rfl rfl rfl (by rw [hz2]; omega) (by unfold maxLen; omega) (Nat.le_refl _) ?_
    intro w2 hown0 hgrow0
    have hb2 : Below w1.heap.size w1 w2 := (Below.refl _ _).grown hgrow0 (Nat.le_refl _) (fun k h => by cases h)
    have HS2 : Hid (OwnB w2 w1.heap.size (.slice (some ⟨w1.heap.size, 0, none⟩) n n) (seenL t n 0)) := by
      have e : (madeCells (Value.bool false).cells (n * 1)).toList = cellsB (seenL t n 0) := by
        rw [Nat.mul_one]
        exact (toList_madeCells_one _ _).trans (by simp [cellsB, seenL_zero])
      show OwnB _ _ _ _
      unfold OwnB
      rw [seenL_length, ← e]; exact hown0
    have HB2 : Hid (Below w.heap.size w w2) := HB1.out.trans (hb2.mono HB1.out.size)
    have HX2 : Hid (X3 w2 w.heap.size (.int .i64 n) (.slice sa sn sc) (.slice la ln lc)) := HX1.out.later hb2
    have hlt4 : w.heap.size < w1.heap.size := HX1.out.lt
    have hsz2 : w1.heap.size < w2.heap.size := by
      have := (World.ownsRow.lt hown0 w1.heap.size rfl).2
      exact this
    clear hown0 hgrow0 hb2 f0 f1 f2 HB1 HX1
    obtain ⟨⟨f0, f1, f2⟩, _⟩ := HX2.out)
  obtain ⟨sg, hsg⟩ : ∃ r, w1.heap.size = r := ⟨_, rfl⟩
  rw [hsg] at HS2 hlt4 hsz2 ⊢
  clear f0 f1 f2
  go_loopw [5, 6] (fun ov iv wr => ∃ (s q : Nat) (a' : Option Addr) (c' : Nat), s ≤ n ∧ iv = .int .i64 s ∧ ov = .slice a' q c' ∧ Hid ((grpsL t n s).length = q) ∧ Hid (OwnIP wr w2.heap.size (fun q => w2.heap.size ≤ q ∧ q < wr.heap.size) (.slice a' q c') (grpsL t n s)) ∧ Hid (OwnB wr sg (.slice (some ⟨sg, 0, none⟩) n n) (seenL t n s)) ∧ Hid (X3 wr w.heap.size (.int .i64 n) (.slice sa sn sc) (.slice la ln lc)) ∧ Hid (Below w.heap.size w wr) ∧ w2.heap.size ≤ wr.heap.size) (fun _ iv _ => n - (intOf iv).toNat)
  case atStart => exact ⟨0, 0, none, 0, Nat.zero_le _, rfl, rfl, rfl, nilIP _ _ _, HS2, HX2, HB2, Nat.le_refl _⟩
  case round =>
    clear HS2 HX2 HB2
    obtain ⟨s, q, a', c', hk, rfl, rfl, HQ, HO, HS, HX, HB, hsz⟩ := hrel
    obtain ⟨wo, hwo⟩ : ∃ X, X = wr := ⟨_, rfl⟩
    subst hwo
    obtain ⟨⟨f0, f1, f2⟩, _⟩ := HX.out
    by_cases hlt : s < n
    case neg =>
      have hkn := Nat.le_antisymm (Nat.not_lt.1 hlt) hk
      have HQ3 : Hid (GG.length = q) := by
        have := HQ.out
        rw [← hkn, HGG.out] at this
        exact this
      have HE : Hid (OwnIP wo w.heap.size (fun q => w.heap.size ≤ q ∧ q < wo.heap.size) (.slice a' q c') GG) := by
        have := HO.out.mono (lo' := w.heap.size) (qq := fun q => w.heap.size ≤ q ∧ q < wo.heap.size) (by omega) (fun x hx => by omega)
        rw [← hkn, HGG.out] at this
        exact this
      have hge : ¬ (s : Int) < (n : Int) := by omega
      clear HO HQ hkn HS
      go_wp2
      refine bodyPost_ret (v := .tuple #[.slice a' q c', .bool true]) (by simp [results, Try.results26, go_sem]; try rfl) rfl ?_
      exact ⟨a', c', by rw [HQ3.out], by rw [HQ3.out]; exact HE.out, HB.out⟩
    have hsc := OwnB.cell (g := sg) (cap := n) (xs := seenL t n s) (by rw [seenL_length]; exact HS.out) s (by rw [seenL_length]; exact hlt)
    rw [seenL_get hlt] at hsc
    have HGS : Hid (grpsL t n (s + 1) = if seenB t s s = true then grpsL t n s else grpsL t n s ++ [grpL t n s]) := grpsL_succ t n s
    have hql : q ≤ s := by have := grpsL_length t n s; have := HQ.out; omega
    have s0 : (0 : Int) ≤ (s : Int) := by omega
    have s1 : (s : Int) < (n : Int) := by omega
    cases hse : seenB t s s
    case true =>
      rw [hse] at hsc
      have HGT : Hid (grpsL t n (s + 1) = grpsL t n s) := by show _ = _; rw [HGS.out, if_pos hse]
      have HO4 : Hid (OwnIP wo w2.heap.size (fun q => w2.heap.size ≤ q ∧ q < wo.heap.size) (.slice a' q c') (grpsL t n (s + 1))) := by rw [HGT.out]; exact HO.out
      have HQ4 : Hid ((grpsL t n (s + 1)).length = q) := by show _ = _; rw [HGT.out]; exact HQ.out
      have HS4 : Hid (OwnB wo sg (.slice (some ⟨sg, 0, none⟩) n n) (seenL t n (s + 1))) := by rw [seenL_skip HG.out HN.out.symm hlt hse]; exact HS.out
      clear HO HQ HGS HGT HS hse
      go_wp2
      go_roundw
      case rel => exact ⟨s + 1, q, a', c', by omega, by go_num, rfl, HQ4, HO4, HS4, HX, HB, hsz⟩
      case measure => simp [intOf]; omega
    rw [hse] at hsc
    have HGT : Hid (grpsL t n (s + 1) = grpsL t n s ++ [grpL t n s]) := by show _ = _; rw [HGS.out, if_neg (by rw [hse]; simp)]
    have HSD : Hid (seenI t n s n = seenL t n (s + 1)) := seenL_done HG.out HN.out.symm hlt hse
    have HS0 : Hid (OwnB wo sg (.slice (some ⟨sg, 0, none⟩) n n) (seenI t n s 0)) := by rw [seenI_zero]; exact HS.out
    have HFLs : Hid ((farT t s).length = n) := HFL.out s hlt
    have HRC : Hid (∀ k, k < n → rch t s k = decide (0 ≤ (farT t s).getD k 0)) := fun k _ => rfl
    have HGL : Hid (grpL t n s = gL (farT t s) n) := rfl
    have hqf := HQF.out wo s HB.out hlt
    generalize farT t s = far at HFLs HRC HGL hqf
    clear HS HGS hse
    go_wp2_with fail
    refine hqf.mono ?_
    clear hqf hsc f0 f1 f2
    rintro e w3 ⟨fa, fc, rfl, ho, hb⟩
    have HB3 : Hid (Below wo.heap.size wo w3) := hb
    have HF3 : Hid (Own w3 wo.heap.size (.slice fa n fc) far) := ho
    have HS3 : Hid (OwnB w3 sg (.slice (some ⟨sg, 0, none⟩) n n) (seenI t n s 0)) := HS0.out.later hb
    have HO3 : Hid (OwnIP w3 w2.heap.size (fun q => w2.heap.size ≤ q ∧ q < wo.heap.size) (.slice a' q c') (grpsL t n s)) := HO.out.later hb
    have HX3 : Hid (X3 w3 w.heap.size (.int .i64 n) (.slice sa sn sc) (.slice la ln lc)) := HX.out.later hb
    have HBw : Hid (Below w.heap.size w w3) := HB.out.trans (hb.mono HB.out.size)
    have hs3 : wo.heap.size ≤ w3.heap.size := hb.size
    rcases ho.addr with ⟨_, h0, _⟩ | ⟨fg, rfl, hfg1, hfg2⟩
    · exfalso; omega
    clear ho hb HS0 HO HX HB
    go_wp2_with fail
    go_loopw [7, 30] (fun gv iv wr => ∃ (k r : Nat) (ua : Option Addr) (uc : Nat), k ≤ n ∧ iv = .int .i64 k ∧ gv = .slice ua r uc ∧ Hid ((gL far k).length = r) ∧ Hid (Own wr w3.heap.size (.slice ua r uc) (gL far k)) ∧ Hid (OwnB wr sg (.slice (some ⟨sg, 0, none⟩) n n) (seenI t n s k)) ∧ Hid (OwnIP wr w2.heap.size (fun q => w2.heap.size ≤ q ∧ q < wo.heap.size) (.slice a' q c') (grpsL t n s)) ∧ Hid (Own wr wo.heap.size (.slice (some ⟨fg, 0, none⟩) n fc) far) ∧ Hid (X3 wr w.heap.size (.int .i64 n) (.slice sa sn sc) (.slice la ln lc)) ∧ Hid (Below w.heap.size w wr) ∧ w3.heap.size ≤ wr.heap.size) (fun _ iv _ => n - (intOf iv).toNat)
    case atStart => exact ⟨0, 0, none, 0, Nat.zero_le _, rfl, rfl, rfl, World.ownsRow_nil _ _ _ _, HS3, HO3, HF3, HX3, HBw, Nat.le_refl _⟩
    case round =>
      clear HS3 HO3 HF3 HX3 HBw
      obtain ⟨k, r, ua, uc, hkn, rfl, rfl, HR1, HU, HS, HO, HF, HX, HB, hsx⟩ := hrel
      by_cases hlk : k < n
      case neg =>
        have hke := Nat.le_antisymm (Nat.not_lt.1 hlk) hkn
        have HU2 : Hid (Own wr w3.heap.size (.slice ua r uc) (grpL t n s)) := by have := HU.out; rw [← hke, ← HGL.out] at this; exact this
        have hbl : ∀ x, (Value.slice ua r uc).ownBlock = some x → w3.heap.size ≤ x ∧ x < wr.heap.size := World.ownsRow.lt HU2.out
        obtain ⟨gg, cap, w4, r1, o1, rg⟩ := pushIP_run wr w2.heap.size (fun q => w2.heap.size ≤ q ∧ q < wo.heap.size) (.slice a' q c') (grpsL t n s) ua r uc (grpL t n s) HO.out (HU2.out.mono (by omega)) (fun x hx => by have := hbl x hx; omega) (by rw [HQ.out]; omega) (by omega) (fun x hx => by omega)
        rw [HQ.out] at r1 o1
        rw [← HGT.out] at o1
        have hs4 : wr.heap.size ≤ w4.heap.size := rg.size
        have HB4 : Hid (Below w.heap.size w w4) := HB.out.trans (rg.below (fun x hx => by omega) (by omega))
        have HO4 : Hid (OwnIP w4 w2.heap.size (fun q => w2.heap.size ≤ q ∧ q < w4.heap.size) (.slice (some ⟨gg, 0, none⟩) (q + 1) cap) (grpsL t n (s + 1))) := by
          obtain ⟨vs, h1, h2, h3, h4, h5, h6⟩ := o1
          exact ⟨vs, h1, h2, h3, h4, fun q hq => World.ownsRow.lt h2 q hq, fun j hj q hq => World.ownsRow.lt (h3 j hj) q hq⟩
        have HQ4 : Hid ((grpsL t n (s + 1)).length = q + 1) := by show _ = _; rw [HGT.out, List.length_append, HQ.out]; rfl
        have HX4 : Hid (X3 w4 w.heap.size (.int .i64 n) (.slice sa sn sc) (.slice la ln lc)) := HX.out.rngP rg (fun h => by omega)
        have HS4 : Hid (OwnB w4 sg (.slice (some ⟨sg, 0, none⟩) n n) (seenL t n (s + 1))) := by
          have := HS.out
          rw [← hke, HSD.out] at this
          exact row_rngP this rg (fun x hx h => by simp only [Value.ownBlock, Option.some.injEq] at hx; omega)
        have hge : ¬ (k : Int) < (n : Int) := by omega
        clear o1 rg hbl HO HB HQ HGT HU HU2 HS HX HF HR1 HSD hke
        go_wp2_with (first | (at_builtin; refine Lib.wpList_append_run _ rfl _ _ _ _ rfl _ _ rfl rfl _ _ (r1 _) ?_; clear r1) | fail)
        go_roundw
        case rel => exact ⟨s + 1, q + 1, _, cap, by omega, by go_num, rfl, HQ4, HO4, HS4, HX4, HB4, by omega⟩
        case measure => simp [intOf]; omega
      have gs := Own.cell (g := fg) (cap := fc) (xs := far) (by rw [HFLs.out]; exact HF.out) k (by rw [HFLs.out]; exact hlk)
      have HGS : Hid (gL far (k + 1) = if 0 ≤ far.getD k 0 then gL far k ++ [(k : Int)] else gL far k) := gL_succ far k
      have HSS : Hid (seenI t n s (k + 1) = if 0 ≤ far.getD k 0 then (seenI t n s k).set k true else seenI t n s k) := by
        show _ = _
        rw [seenI_succ hlk, HRC.out k hlk]
        simp only [decide_eq_true_eq]
      have hrl : r ≤ k := by have := gL_length far k; have := HR1.out; omega
      generalize far.getD k 0 = v at gs HGS HSS
      have k0 : (0 : Int) ≤ (k : Int) := by omega
      have k1 : (k : Int) < (n : Int) := by omega
      by_cases hv : 0 ≤ v
      case neg =>
        have hvg : v < 0 := by omega
        have HU2 : Hid (Own wr w3.heap.size (.slice ua r uc) (gL far (k + 1))) := by show Own _ _ _ _; rw [HGS.out, if_neg hv]; exact HU.out
        have HR2 : Hid ((gL far (k + 1)).length = r) := by show _ = _; rw [HGS.out, if_neg hv]; exact HR1.out
        have HS2 : Hid (OwnB wr sg (.slice (some ⟨sg, 0, none⟩) n n) (seenI t n s (k + 1))) := by rw [HSS.out, if_neg hv]; exact HS.out
        clear hv HU HR1 HS HGS HSS
        go_wp2
        go_roundw
        case rel => exact ⟨k + 1, r, ua, uc, by omega, by go_num, rfl, HR2, HU2, HS2, HO, HF, HX, HB, hsx⟩
        case measure => simp [intOf]; omega
      -- told: the seat is marked, then put behind the group
      have hz := OwnB.free (g := sg) (cap := n) (xs := seenI t n s k) (by rw [seenI_length]; exact HS.out) k
      have hc := OwnB.cell (g := sg) (cap := n) (xs := seenI t n s k) (by rw [seenI_length]; exact HS.out) k (by rw [seenI_length]; exact hlk)
      have hgr : wr.grownBy (wr.setCell ⟨sg, k, none⟩ (.bool true)) (some sg) := grown_setCell _ _ _ _
      have hS5 : OwnB (wr.setCell ⟨sg, k, none⟩ (.bool true)) sg (.slice (some ⟨sg, 0, none⟩) n n) (seenI t n s (k + 1)) := by rw [HSS.out, if_pos hv]; exact OwnB.set15 (seenI_length _ _ _ _) HS.out k true
      have hU5 := HU.out.setBox (r := sg) (j := k) (by omega) (.bool true)
      have hF5 := HF.out.setBox (r := sg) (j := k) (by omega) (.bool true)
      have hO5 := HO.out.setBox (r := sg) (j := k) (by omega) (.bool true)
      have hX5 : X3 (wr.setCell ⟨sg, k, none⟩ (.bool true)) w.heap.size (.int .i64 n) (.slice sa sn sc) (.slice la ln lc) := HX.out.other (by omega)
      have hB5 := HB.out.setCell (p := ⟨sg, k, none⟩) (by show w.heap.size ≤ sg; omega) (.bool true)
      have hs5 : (wr.setCell ⟨sg, k, none⟩ (.bool true)).heap.size = wr.heap.size := World.size_setCell ..
      obtain ⟨Y, hY⟩ : ∃ X, wr.setCell ⟨sg, k, none⟩ (.bool true) = X := ⟨_, rfl⟩
      rw [hY] at hS5 hU5 hF5 hO5 hX5 hB5 hs5
      have hlit := litI Y (k : Int)
      have hbl := balloc Y (.cells #[.int .i64 k] 3)
      obtain ⟨U, hU⟩ : ∃ X, Y.alloc (.cells #[.int .i64 k] 3) = X := ⟨_, rfl⟩
      rw [hU] at hlit hbl
      obtain ⟨v', w5, r1, o1, gg, b1⟩ := appendI_run U w3.heap.size (.slice ua r uc) (gL far k) [(k : Int)] (some ⟨Y.heap.size, 0, none⟩) 1 1 (hU5.later hbl) hlit rfl (by intro h; cases h) (by rw [HR1.out]; simp; omega) (by have := hbl.size; omega)
      obtain ⟨a3, c3, hv3⟩ := o1.shape
      rw [List.length_append, HR1.out] at hv3
      simp only [List.length_cons, List.length_nil, Nat.zero_add] at hv3
      subst hv3
      have hbY : Below w3.heap.size Y w5 := (hbl.mono (by omega)).trans b1
      have HU6 : Hid (Own w5 w3.heap.size (.slice a3 (r + 1) c3) (gL far (k + 1))) := by show Own _ _ _ _; rw [HGS.out, if_pos hv]; exact o1
      have HR6 : Hid ((gL far (k + 1)).length = r + 1) := by show _ = _; rw [HGS.out, if_pos hv, List.length_append, HR1.out]; rfl
      have hown : ∀ x, (Value.slice ua r uc).ownBlock = some x → w3.heap.size ≤ x := own_block_ge hU5
      have HS6 : Hid (OwnB w5 sg (.slice (some ⟨sg, 0, none⟩) n n) (seenI t n s (k + 1))) := (hS5.later hbl).kept gg (Or.inr (fun e => by have := hown sg e.symm; omega))
      have HF6 : Hid (Own w5 wo.heap.size (.slice (some ⟨fg, 0, none⟩) n fc) far) := (hF5.later hbl).kept gg (Or.inr (fun e => by have := hown fg e.symm; omega))
      have HO6 : Hid (OwnIP w5 w2.heap.size (fun q => w2.heap.size ≤ q ∧ q < wo.heap.size) (.slice a' q c') (grpsL t n s)) := (hO5.later hbl).rng (RngP.ofGrown gg (pp := fun x => w3.heap.size ≤ x) (fun x hx => hown x hx)) (fun x hx h => by omega)
      have HX6 : Hid (X3 w5 w.heap.size (.int .i64 n) (.slice sa sn sc) (.slice la ln lc)) := (hX5.later hbl).grown gg (fun e => by have := hown _ e.symm; omega)
      have HB6 : Hid (Below w.heap.size w w5) := hB5.trans (hbY.mono (by omega))
      have hs6 : w3.heap.size ≤ w5.heap.size := by have := hbl.size; have := b1.size; omega
      clear o1 gg b1 hbl hlit hbY hown hS5 hU5 hF5 hO5 hX5 hB5 hs5 hgr HU HR1 HS HO HF HX HB HGS HSS
      go_wp2_with (first | (at_builtin; refine Lib.wpList_append_run _ rfl _ _ _ _ rfl _ _ rfl rfl _ _ (r1 _) ?_; clear r1))
      go_roundw
      case rel => exact ⟨k + 1, r + 1, a3, c3, by omega, by go_num, rfl, HR6, HU6, HS6, HO6, HF6, HX6, HB6, hs6⟩
      case measure => simp [intOf]; omega

end Go.Proofs.Ytbjpkklonjlmiaa

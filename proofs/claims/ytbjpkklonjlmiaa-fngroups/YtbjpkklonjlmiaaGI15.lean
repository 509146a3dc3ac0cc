/- Chapter 15: GroupsOf of the program. -/
import Derived.Test.YtbjpkklonjlmiaaGA15
namespace Go.Proofs.Ytbjpkklonjlmiaa
set_option linter.unusedVariables false
set_option maxRecDepth 1000000
set_option linter.unusedSimpArgs false
open Go.RowKit Go.Sort

/-- What a call that tells a list of lists and a bool tells. -/
def TellII (r : Ending) (w w' : World) (xs : List (List Int)) (fb : Bool) : Prop := ∃ a' c', r = .returned (.tuple #[.slice a' xs.length c', .bool fb]) ∧ OwnIP w' w.heap.size (fun q => w.heap.size ≤ q ∧ q < w'.heap.size) (.slice a' xs.length c') xs ∧ Below w.heap.size w w'
theorem tellII_none {w w' : World} (hb : Below w.heap.size w w') : TellII (.returned (.tuple #[.slice none 0 0, .bool false])) w w' [] false := ⟨none, 0, rfl, nilIP _ _ _, hb⟩
/-- What GroupsOf tells. -/
def grpV (t : TbV) : List (List Int) := if goodTb t = true then grpsL t t.s.toNat t.s.toNat else []

set_option maxHeartbeats 2000000 in
theorem implGroups_c (sa : Option Addr) (sn sc : Nat) (la : Option Addr) (ln lc : Nat) (t : TbV) (w : World) (h : RdT w sa sn sc la ln lc t) :
    Calls Try.prog 25 #[.agg #[.int .i64 t.s, .slice sa sn sc, .slice la ln lc]] w fun e w' => TellII e w w' (grpV t) (goodTb t) := by
  have HX0 : Hid (X3 (w.alloc (.cells #[.int .i64 t.s, .slice sa sn sc, .slice la ln lc] 26)) w.heap.size (.int .i64 t.s) (.slice sa sn sc) (.slice la ln lc)) := x3_new w _ _ _ _ _ rfl
  have HB0 : Hid (Below w.heap.size w (w.alloc (.cells #[.int .i64 t.s, .slice sa sn sc, .slice la ln lc] 26))) := balloc w _
  have HR : Hid (∀ wx, Below w.heap.size w wx → RdT wx sa sn sc la ln lc t) := fun wx hb => h.later hb
  have HQO : Hid (∀ wx, Below w.heap.size w wx → GoodT t → Calls Try.prog 47 #[.agg #[.int .i64 t.s, .slice sa sn sc, .slice la ln lc]] wx fun e w' => ∃ a' c' ys, e = .returned (.slice a' (2 * sn) c') ∧ OwnQ w' wx.heap.size (.slice a' (2 * sn) c') ys ∧ ys.Perm (stT t.ps sn) ∧ RisT ys ∧ Below wx.heap.size wx w') := fun wx hb hg => stepsOver_c sa sn sc la ln lc t wx (HR.out wx hb) hg
  have HPL : Hid (t.ps.length = sn) := h.rd.sl
  unfold grpV
  obtain ⟨V, hV⟩ : ∃ V, w.alloc (.cells #[.int .i64 t.s, .slice sa sn sc, .slice la ln lc] 26) = V := ⟨_, rfl⟩
  rw [hV] at HX0 HB0
  have q := implGoodTb_c sa sn sc la ln lc t V (HR.out V HB0.out)
  obtain ⟨⟨f0, f1, f2⟩, _⟩ := HX0.out
  cases hgd : goodTb t
  · rw [if_neg (by simp)]
    rw [hgd] at q
    generalize t.s = s at hV f0 q ⊢
    clear h hgd HX0 HQO HR
    go_enter Try.func25, Try.ntmps25
    go_wp2_with fail
    refine q.mono ?_
    clear q f0 f1 f2 hV
    rintro e w1 ⟨rfl, hb⟩
    have HB1 : Hid (Below w.heap.size w w1) := HB0.out.trans (hb.mono HB0.out.size)
    clear hb
    go_wp2
    refine bodyPost_ret (v := .tuple #[.slice none 0 0, .bool false]) (by simp [results, Try.results25, go_sem]; try rfl) rfl ?_
    exact tellII_none HB1.out
  rw [if_pos rfl]
  rw [hgd] at q
  have hg := goodTb_iff t hgd
  have HG : Hid (GoodT t) := hg
  obtain ⟨n, hn⟩ : ∃ n : Nat, t.s = (n : Int) := ⟨t.s.toNat, by have := hg.s1; omega⟩
  have hn6 : n ≤ 6 := by have := hg.s6; omega
  have htn : t.s.toNat = n := by omega
  have HN : Hid (t.s.toNat = n) := htn
  have HSN : Hid (2 * sn ≤ 30) := by have := hg.pl; rw [HPL.out] at this; show _ ≤ _; omega
  have HFE : Hid (∀ ys k, ys.Perm (stT t.ps sn) → gL (farL ys n k) n = grpL t n k) := fun ys k hp => by
    rw [grpL_gL]
    unfold farT
    rw [htn, HPL.out, farL_congr (fun y => hp.mem_iff) n k]
  have HSB : Hid (StB n t.ps.length (stT t.ps sn)) := by have := hg.stB (m := sn) (by rw [HPL.out]; exact Nat.le_refl _); rw [htn] at this; exact this
  rw [htn]
  have HXN : Hid (X3 V w.heap.size (.int .i64 n) (.slice sa sn sc) (.slice la ln lc)) := by rw [← hn]; exact HX0.out
  rw [hn] at hV f0 q HQO ⊢
  obtain ⟨GG, hGG⟩ : ∃ G, grpsL t n n = G := ⟨_, rfl⟩
  have HGG : Hid (grpsL t n n = GG) := hGG
  rw [hGG]
  obtain ⟨m2, hm2⟩ : ∃ m2, 2 * sn = m2 := ⟨_, rfl⟩
  rw [hm2] at HQO HSN
  have HM2 : Hid (2 * sn = m2) := hm2
  clear h hgd HX0 HR hg hn htn hGG hm2
  go_enter Try.func25, Try.ntmps25
  go_wp2_with fail
  refine q.mono ?_
  clear q f0 f1 f2 hV
  rintro e w1 ⟨rfl, hb⟩
  have HB1 : Hid (Below w.heap.size w w1) := HB0.out.trans (hb.mono HB0.out.size)
  have HX1 : Hid (X3 w1 w.heap.size (.int .i64 n) (.slice sa sn sc) (.slice la ln lc)) := HXN.out.later hb
  obtain ⟨⟨f0, f1, f2⟩, _⟩ := HX1.out
  clear hb HXN
  go_wp2_with fail
  refine (HQO.out w1 HB1.out HG.out).mono ?_
  clear f0 f1 f2 HQO
  rintro e w2 ⟨a4, c4, ys, rfl, ho, hperm, _, hb⟩
  have HB2 : Hid (Below w.heap.size w w2) := HB1.out.trans (hb.mono HB1.out.size)
  have HX2 : Hid (X3 w2 w.heap.size (.int .i64 n) (.slice sa sn sc) (.slice la ln lc)) := HX1.out.later hb
  have HQ2 : Hid (RdQ w2 a4 ys) := ho.rd'.2
  have HYL : Hid (ys.length = m2) := by show _ = _; rw [hperm.length_eq, stT_length, HM2.out]
  have HSY : Hid (StB n t.ps.length ys) := HSB.out.perm hperm
  have HFE2 : Hid (∀ k, gL (farL ys n k) n = grpL t n k) := fun k => HFE.out ys k hperm
  obtain ⟨⟨f0, f1, f2⟩, _⟩ := HX2.out
  clear ho hperm hb HX1
  go_wp2_with fail
  clear f0 f1 f2
  go_loopw [5, 15] (fun ov iv wr => ∃ (k q : Nat) (a' : Option Addr) (c' : Nat), k ≤ n ∧ iv = .int .i64 k ∧ ov = .slice a' q c' ∧ Hid ((grpsL t n k).length = q) ∧ Hid (OwnIP wr w2.heap.size (fun q => w2.heap.size ≤ q ∧ q < wr.heap.size) (.slice a' q c') (grpsL t n k)) ∧ Hid (Below w2.heap.size w2 wr)) (fun _ iv _ => n - (intOf iv).toNat)
  case atStart => exact ⟨0, 0, none, 0, Nat.zero_le _, rfl, rfl, rfl, nilIP _ _ _, Below.refl _ _⟩
  case round =>
    obtain ⟨k, q, a', c', hk, rfl, rfl, HQ, HO, HB⟩ := hrel
    by_cases hlt : k < n
    case neg =>
      have hkn := Nat.le_antisymm (Nat.not_lt.1 hlt) hk
      have HQ3 : Hid (GG.length = q) := by
        have := HQ.out
        rw [← hkn, HGG.out] at this
        exact this
      have HE : Hid (OwnIP wr w.heap.size (fun q => w.heap.size ≤ q ∧ q < wr.heap.size) (.slice a' q c') GG) := by
        have := HO.out.mono (lo' := w.heap.size) (qq := fun q => w.heap.size ≤ q ∧ q < wr.heap.size) HB2.out.size (fun x hx => by have := HB2.out.size; omega)
        rw [← hkn, HGG.out] at this
        exact this
      have hge : ¬ (k : Int) < (n : Int) := by omega
      clear HO HQ hkn
      go_wp2
      refine bodyPost_ret (v := .tuple #[.slice a' q c', .bool true]) (by simp [results, Try.results25, go_sem]; try rfl) rfl ?_
      exact ⟨a', c', by rw [HQ3.out], by rw [HQ3.out]; exact HE.out, HB2.out.trans (HB.out.mono HB2.out.size)⟩
    have hqg := groupAround_c k n t.ps.length a4 m2 c4 ys wr hlt hn6 HYL.out HSN.out HSY.out (HQ2.out.later HB.out)
    rw [HFE2.out k] at hqg
    obtain ⟨hgl, hgh⟩ := grp_head HG.out HN.out.symm hlt
    have HGS : Hid (grpsL t n (k + 1) = if seenB t k k = true then grpsL t n k else grpsL t n k ++ [grpL t n k]) := grpsL_succ t n k
    have hql : q ≤ k := by have := grpsL_length t n k; have := HQ.out; omega
    generalize grpL t n k = g at hqg hgl hgh HGS
    obtain ⟨gn, hgn⟩ : ∃ gn, g.length = gn := ⟨_, rfl⟩
    rw [hgn] at hqg hgl
    have HGN : Hid (g.length = gn) := hgn
    obtain ⟨v, hv⟩ : ∃ v, g.getD 0 0 = v := ⟨_, rfl⟩
    rw [hv] at hgh
    have HV : Hid (g.getD 0 0 = v) := hv
    have HGH : Hid (v = (k : Int) ↔ seenB t k k = false) := hgh
    have k0 : (0 : Int) ≤ (k : Int) := by omega
    have k1 : (k : Int) < (n : Int) := by omega
    have g0l : (0 : Int) < (gn : Int) := by omega
    have h0r := cell_keep (S := 0) HB.out HX2.out.1.1
    clear hgn hv hgh
    go_wp2_with fail
    refine hqg.mono ?_
    clear hqg h0r
    rintro e w3 ⟨ua, uc, rfl, ho, hb⟩
    have HU : Hid (Own w3 wr.heap.size (.slice ua gn uc) g) := ho
    have HB3 : Hid (Below wr.heap.size wr w3) := hb
    obtain ⟨gb, go, rfl, gc⟩ := ho.rd'.2.get (k := 0) (by rw [HGN.out]; exact hgl)
    rw [HV.out, Nat.add_zero] at gc
    have hsz2 : wr.heap.size ≤ w3.heap.size := hb.size
    have hwr : w2.heap.size ≤ wr.heap.size := HB.out.size
    clear ho hb
    by_cases hvk : v = (k : Int)
    · have hve : (v == (k : Int)) = true := by rw [hvk]; simp
      have hsf := HGH.out.1 hvk
      have HGT : Hid (grpsL t n (k + 1) = grpsL t n k ++ [g]) := by show _ = _; rw [HGS.out, if_neg (by rw [hsf]; simp)]
      have hbl : ∀ q, (Value.slice (some ⟨gb, go, none⟩) gn uc).ownBlock = some q → wr.heap.size ≤ q ∧ q < w3.heap.size := World.ownsRow.lt HU.out
      obtain ⟨gg, cap, w4, r1, o1, rg⟩ := pushIP_run w3 w2.heap.size (fun q => w2.heap.size ≤ q ∧ q < wr.heap.size) (.slice a' q c') (grpsL t n k) (some ⟨gb, go, none⟩) gn uc g (by have := HO.out.later HB3.out; exact this) (HU.out.mono hwr) (fun q hq => by have := hbl q hq; omega) (by rw [HQ.out]; omega) (by omega) (fun q hq => by omega)
      rw [HQ.out] at r1 o1
      rw [← HGT.out] at o1
      have HB4 : Hid (Below w2.heap.size w2 w4) := (HB.out.trans (HB3.out.mono hwr)).trans (rg.below (fun q hq => hq.1) (by omega))
      have HO4 : Hid (OwnIP w4 w2.heap.size (fun q => w2.heap.size ≤ q ∧ q < w4.heap.size) (.slice (some ⟨gg, 0, none⟩) (q + 1) cap) (grpsL t n (k + 1))) := by
        obtain ⟨vs, h1, h2, h3, h4, h5, h6⟩ := o1
        exact ⟨vs, h1, h2, h3, h4, fun q hq => World.ownsRow.lt h2 q hq, fun j hj q hq => World.ownsRow.lt (h3 j hj) q hq⟩
      have HQ4 : Hid ((grpsL t n (k + 1)).length = q + 1) := by show _ = _; rw [HGT.out, List.length_append, HQ.out]; rfl
      clear o1 rg hbl HO HB HQ HGS HGT HU HB3 hsf hvk HV HGH
      go_wp2_with (first | (at_builtin; refine Lib.wpList_append_run _ rfl _ _ _ _ rfl _ _ rfl rfl _ _ (r1 _) ?_; clear r1) | fail)
      go_roundw
      case rel => exact ⟨k + 1, q + 1, _, cap, by omega, by go_num, rfl, HQ4, HO4, HB4⟩
      case measure => simp [intOf]; omega
    · have hve : (v == (k : Int)) = false := by rw [beq_eq_false_iff_ne]; exact hvk
      have hst : seenB t k k = true := by
        cases hs : seenB t k k
        · exact absurd (HGH.out.2 hs) hvk
        · rfl
      have HGT : Hid (grpsL t n (k + 1) = grpsL t n k) := by show _ = _; rw [HGS.out, if_pos hst]
      have HB4 : Hid (Below w2.heap.size w2 w3) := HB.out.trans (HB3.out.mono hwr)
      have HO4 : Hid (OwnIP w3 w2.heap.size (fun q => w2.heap.size ≤ q ∧ q < w3.heap.size) (.slice a' q c') (grpsL t n (k + 1))) := by
        rw [HGT.out]
        exact (HO.out.later HB3.out).mono (Nat.le_refl _) (fun x hx => by omega)
      have HQ4 : Hid ((grpsL t n (k + 1)).length = q) := by show _ = _; rw [HGT.out]; exact HQ.out
      clear HO HB HQ HGS HGT HU HB3 hst hvk HV HGH
      go_wp2
      go_roundw
      case rel => exact ⟨k + 1, q, a', c', by omega, by go_num, rfl, HQ4, HO4, HB4⟩
      case measure => simp [intOf]; omega

end Go.Proofs.Ytbjpkklonjlmiaa

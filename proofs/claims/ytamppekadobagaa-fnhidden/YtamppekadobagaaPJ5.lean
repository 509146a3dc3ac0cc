/- Chapter 5: PolyThrough, the program's side: its loops. -/
import Derived.Test.YtamppekadobagaaPI5
namespace Go.Proofs.Ytamppekadobagaa
set_option linter.unusedVariables false
set_option linter.unusedSimpArgs false
open Go.RowKit

theorem off_if {cap g off : Nat} : (if cap = 1 then (some ⟨g, off, none⟩ : Option Addr) else some ⟨g, off + 2, none⟩) = (some ⟨g, if cap = 1 then off else off + 2, none⟩) := by split <;> rfl

theorem grown_set (W : World) (g o : Nat) (u : Value) : W.grownBy (W.setCell ⟨g, o, none⟩ u) (some g) :=
  ⟨rfl, rfl, rfl, by simp, fun k _ hk => heap_setCell_other W ⟨g, o, none⟩ k u (fun e => hk (by simp [e]))⟩

set_option maxHeartbeats 8000000 in
set_option maxRecDepth 1000000 in
theorem implPoly_yes (b o n c : Nat) (fl : List (F × F)) (w : World) (hx : fl.length = n) (hg : GoodP fl) (hr : RdP w (some ⟨b, o, none⟩) (pIs fl)) :
    Calls Try.prog 19 #[.slice (some ⟨b, o, none⟩) n c] w fun e w' => ∃ a' c', e = .returned (.tuple #[.slice a' n c', .bool true]) ∧ Own w' w.heap.size (.slice a' n c') (vIs (peelF n fl)) ∧ Below w.heap.size w w' := by
  obtain ⟨i0, hi, hz0, hz1, hz2⟩ := info_parts Try.infoInt
  have n1 : 1 ≤ n := by have := hg.2.2.1; omega
  have n8 : n ≤ 8 := by have := hg.2.2.2; omega
  have HXP : Hid ((pIs fl).length = n) := by show _ = _; rw [pIs_length]; exact hx
  have HX : Hid (fl.length = n) := hx
  have HR : Hid (RdP w (some ⟨b, o, none⟩) (pIs fl)) := hr
  have q1 := areParts_c (some ⟨b, o, none⟩) n c (pIs fl) w HXP.out (by omega) hr
  rw [partsB_good hg] at q1
  obtain ⟨R, hR⟩ : ∃ R, R = peelF n fl := ⟨_, rfl⟩
  rw [← hR]
  have HRR : Hid (R = peelF n fl) := hR
  have HRL : Hid (R.length = n) := by
    show _ = _
    rw [hR]
    have : ∀ (m : Nat) (l : List (F × F)), (peelF m l).length = m := fun m => by
      induction m with
      | zero => intro l; rfl
      | succ m ih => intro l; rw [peelF, List.length_cons, ih]
    exact this n fl
  clear hx hr hg hR
  go_enter Try.func19, Try.ntmps19
  go_wp2_with fail
  refine q1.mono ?_
  clear q1
  rintro e w1 ⟨rfl, hb⟩
  have HB1 : Hid (Below w.heap.size w w1) := hb
  obtain ⟨bb, oo, e1, hcx⟩ := (HR.out.later HB1.out).at HXP.out (by omega)
  cases e1
  have q2 := cloneP_c b o n c (pIs fl) w1 HXP.out n1 (by omega) hcx
  clear hb hcx
  go_wp2_with fail
  refine q2.mono ?_
  clear q2
  rintro e w2 ⟨a2, c2, rfl, ho, hb⟩
  have HB2 : Hid (Below w.heap.size w w2) := HB1.out.trans (hb.mono HB1.out.size)
  obtain ⟨g, rfl, hcap, hcm, hL⟩ := ho.left (by omega)
  have HL : Hid (LeftP w2 w.heap.size g 0 fl) := ⟨Nat.le_trans HB1.out.size hL.1, hL.2⟩
  have hgl : g < w2.heap.size := hL.2.1
  have hgw : w.heap.size ≤ g := HL.out.1
  unfold maxLen at hcm
  clear hb ho hL HB1
  go_wp2
  go_loopw [4, 5] (fun v u wr => ∃ (q off cp : Nat) (cur : List (F × F)) (pre : List F), u = .slice (some ⟨g, off, none⟩) q cp ∧ q ≤ n ∧ q ≤ cp ∧ cp ≤ 9223372036854775807 ∧ Hid (cur.length = q) ∧ Hid (pre.length + q = n) ∧ Hid (R = pre ++ peelF q cur) ∧ Hid (LeftP wr w.heap.size g off cur) ∧ Hid (Own wr w2.heap.size v (vIs pre)) ∧ Hid (Below w.heap.size w wr) ∧ w2.heap.size ≤ wr.heap.size) (fun _ u _ => match u with | .slice _ q _ => q | _ => 0)
  case atStart => exact ⟨n, 0, c2, fl, [], rfl, Nat.le_refl _, hcap, hcm, HX, by show _ = _; simp, HRR, HL, World.ownsRow_nil _ _ _ _, HB2, Nat.le_refl _⟩
  case round =>
    clear HL HRR
    obtain ⟨q, off, cp, cur, pre, rfl, hq, hqc, hcp, hcl, hpl, hRR, hL, hO, hB, hws⟩ := hrel
    by_cases hq0 : q = 0
    · subst hq0
      have HE : Hid (R = pre) := by show _ = _; rw [hRR.out, peelF, List.append_nil]
      have hng : ¬ (0 : Int) < ((0 : Nat) : Int) := by omega
      obtain ⟨a', c', hv⟩ := hO.out.shape
      have hpn : pre.length = n := by have := hpl.out; omega
      rw [vIs_length, hpn] at hv
      subst hv
      clear hpn
      go_wp2
      refine bodyPost_ret (v := .tuple #[.slice a' n c', .bool true]) (by simp [results, Try.results19, go_sem]; try rfl) rfl ?_
      exact ⟨a', c', rfl, by rw [HE.out]; exact hO.out.mono HB2.out.size, hB.out⟩
    · obtain ⟨m, rfl⟩ : ∃ m, q = m + 1 := ⟨q - 1, by omega⟩
      have hng : (0 : Int) < ((m + 1 : Nat) : Int) := by omega
      match cur, hcl, hRR, hL with
      | p :: rest, hcl, hRR, hL =>
      have hrl : rest.length = m := by have := hcl.out; simpa using this
      have HRL2 : Hid (rest.length = m) := hrl
      have hth := curveThrough_c (some ⟨g, off, none⟩) (m + 1) cp (pIs (p :: rest)) wr (by rw [pIs_length]; exact hcl.out) (by omega) hL.out.rd
      obtain ⟨f, hf⟩ : ∃ f, f = thF (p :: rest) 0 := ⟨_, rfl⟩
      have HRN : Hid (R = (pre ++ [f]) ++ peelF m (peelStep rest f)) := by
        show _ = _
        rw [hRR.out, peelF, ← hf, List.tail_cons]; simp
      have HFF : Hid (f = thF (p :: rest) 0) := hf
      have hplen : (vIs pre).length = pre.length := vIs_length pre
      have hpm : pre.length + (m + 1) = n := hpl.out
      clear hrl hf hq0 hRR
      go_wp2_with fail
      refine hth.mono ?_
      clear hth
      rintro e w3 ⟨Bp, a3, c3, rfl, g1, g2, hr3, hb⟩
      have HB3 : Hid (Below w.heap.size w w3) := hB.out.trans (hb.mono hB.out.size)
      have L3 : Hid (LeftP w3 w.heap.size g off (p :: rest)) := hL.out.later hb
      have O3 : Hid (Own w3 w2.heap.size u4 (vIs pre)) := hO.out.later hb
      have hcv := curveThrough1_c Bp wr.heap.size (some ⟨g, off, none⟩) a3 (m + 1) cp c3 (p :: rest) 0 w3 hcl.out (by omega) (by omega) g1 hr3 g2 L3.out.rd
      rw [← HFF.out, vI_zero] at hcv
      have hws3 : w2.heap.size ≤ w3.heap.size := Nat.le_trans hws hb.size
      clear hb g1 g2 hr3 hL hO hB hws hcl HFF
      go_wp2_with fail
      refine hcv.mono ?_
      clear hcv
      rintro e w4 ⟨rfl, hb⟩
      have HB4 : Hid (Below w.heap.size w w4) := HB3.out.trans (hb.mono HB3.out.size)
      have L4 : Hid (LeftP w4 w.heap.size g off (p :: rest)) := L3.out.later hb
      have O4 : Hid (Own w4 w2.heap.size u4 (vIs pre)) := O3.out.later hb
      have hws4 : w2.heap.size ≤ w4.heap.size := Nat.le_trans hws3 hb.size
      have hown : w4.ownsRow w2.heap.size 3 1 u4 pre.length (cellsI (vIs pre)) := by have h := O4.out; unfold Own at h; rw [hplen] at h; exact h
      have hob : ∀ k', u4.ownBlock = some k' → w2.heap.size ≤ k' := own_block_ge O4.out
      have HLp : Hid ((vIs pre).length = pre.length) := hplen
      have HVA : Hid (vIs (pre ++ [f]) = vIs pre ++ [vI f]) := vIs_app pre f
      have HPS : Hid ((pre ++ [f]).length + m = n) := by show _ = _; simp; omega
      have hlen8 : pre.length ≤ 8 := by omega
      obtain ⟨A5, hA5⟩ : ∃ A5 : Nat, A5 = (if cp = 1 then off else off + 2) := ⟨_, rfl⟩
      have hsl : (if cp = 1 then (some ⟨g, off, none⟩ : Option Addr) else some ⟨g, off + 2, none⟩) = some ⟨g, A5, none⟩ := by rw [off_if, hA5]
      have HA5 : Hid (m = 0 ∨ A5 = off + 2) := by
        by_cases e : cp = 1
        · exact Or.inl (by omega)
        · exact Or.inr (by rw [hA5, if_neg e])
      generalize vIs pre = out at *
      generalize pre.length = pn at *
      clear hb L3 O3 HB3 hws3 hA5
      go_wp2_with (at_builtin; refine wpList_append_own _ rfl _ _ 23 rfl w2.heap.size 3 i0 (.int .i64 0) 1 8 Try.underlying23 hi hz0 hz1 hz2 rfl (by decide) _ _ _ rfl (hown.alloc _) ⟨w4.heap.size, 0, none⟩ 1 1 [.int .i64 (vI f)] rfl rfl (cell_new1 _ _ _) (ints_oneCell .i64 [vI f]) (by unfold maxLen; omega) (by omega) (by simp; omega) ?_; intro v' w5 hown' hgrow _; have HO5 : Hid (Own w5 w2.heap.size v' (out ++ [vI f])) := own_push (w := w4) (v := u4) (by simpa [HLp.out] using hown'); have HB5 : Hid (Below w.heap.size w w5) := (HB4.out.alloc HB4.out.size _).grown hgrow (by have := HB4.out.size; simp; omega) (fun k' e => Nat.le_trans HB2.out.size (hob k' e)); have L5 : Hid (LeftP w5 w.heap.size g off (p :: rest)) := LeftP.kept (L4.out.later (balloc _ _)) hgrow (fun e => by have := hob g e.symm; omega); have hws5 : w2.heap.size ≤ w5.heap.size := (by have h := hgrow.size; simp at h; omega); clear hown' hgrow)
      have LA : Hid (LeftP w5 w.heap.size g A5 (halfway rest f 0)) := by
        rw [halfway_zero]
        rcases HA5.out with e | e
        · exact ⟨L5.out.1, L5.out.2.1, fun j hj => absurd hj (by rw [HRL2.out]; omega)⟩
        · rw [e]; exact L5.out.tail
      clear L5 L4 O4 HB4 hws4 hown hob hsl
      have HOB : Hid (∀ k', v'.ownBlock = some k' → w2.heap.size ≤ k') := own_block_ge HO5.out
      go_loopw [28] (fun i wx => ∃ (k : Nat), k ≤ m ∧ i = .int .i64 k ∧ Hid (LeftP wx w.heap.size g A5 (halfway rest f k)) ∧ Hid (Own wx w2.heap.size v' (out ++ [vI f])) ∧ Hid (Below w.heap.size w wx) ∧ w2.heap.size ≤ wx.heap.size) (fun i _ => m - (intOf i).toNat)
      case atStart => exact ⟨0, Nat.zero_le _, rfl, LA, HO5, HB5, hws5⟩
      case round =>
        clear LA HO5 HB5 hws5
        obtain ⟨k, hk, rfl, hLk, hOk, hBk, hwk⟩ := hrel
        by_cases hlt : k < m
        · have hkr : k < rest.length := by rw [HRL2.out]; exact hlt
          have hkl : k < (halfway rest f k).length := by rw [halfway_length rest f (by omega)]; exact hkr
          have hcell := hLk.out.2.2 k hkl
          rw [halfway_at rest f hkr] at hcell
          obtain ⟨⟨g1, g2⟩, g3⟩ := hcell
          have HSET : Hid (∀ (W : World), LeftP W w.heap.size g A5 (halfway rest f k) → LeftP (W.setCell ⟨g, A5 + k * 2 + 1, none⟩ (.int .i64 (vI (((rest.getD k (0, 0)).2 - f) * finv (rest.getD k (0, 0)).1)))) w.heap.size g A5 (halfway rest f (k + 1))) := fun W hW => by
            rw [halfway_set rest f hkr]
            have := hW.set hkl (((rest.getD k (0, 0)).2 - f) * finv (rest.getD k (0, 0)).1)
            rw [halfway_at rest f hkr] at this
            exact this
          have c1 := lessBy_c (rest.getD k (0, 0)).2 f
          have c2' := dividedBy_c ((rest.getD k (0, 0)).2 - f) (rest.getD k (0, 0)).1
          have hk0 : (0 : Int) ≤ (k : Int) := by omega
          have hkm : (k : Int) < (m : Int) := by omega
          have hgx : g < wr.heap.size := hLk.out.2.1
          obtain ⟨V, hV⟩ : ∃ V, wr.alloc (.cells #[.int .i64 (vI (rest.getD k (0, 0)).1), .int .i64 (vI (rest.getD k (0, 0)).2)] 46) = V := ⟨_, rfl⟩
          have gV0 : V.cell? ⟨wr.heap.size, 0, none⟩ = some (.int .i64 (vI (rest.getD k (0, 0)).1)) := by rw [← hV]; simp
          have gV1 : V.cell? ⟨wr.heap.size, 1, none⟩ = some (.int .i64 (vI (rest.getD k (0, 0)).2)) := by rw [← hV]; simp
          have gV2 : V.cell? ⟨g, A5 + k * 2 + 1, none⟩ = some (.int .i64 (vI (rest.getD k (0, 0)).2)) := by rw [← hV]; exact calloc g2
          have gV3 : V.frozen? ⟨g, A5 + k * 2 + 1, none⟩ = false := by rw [← hV, (balloc wr _).frozen (p := ⟨g, A5 + k * 2 + 1, none⟩) hgx]; exact g3
          have HLV : Hid (LeftP V w.heap.size g A5 (halfway rest f k)) := by rw [← hV]; exact hLk.out.later (balloc _ _)
          have HOV : Hid (Own V w2.heap.size v' (out ++ [vI f])) := by rw [← hV]; exact hOk.out.later (balloc _ _)
          have HBV : Hid (Below w.heap.size w V) := by rw [← hV]; exact hBk.out.alloc hBk.out.size _
          have hVw : wr.heap.size < V.heap.size := by rw [← hV]; simp
          have keepS : ∀ (W : World) (u : Value), W.cell? ⟨wr.heap.size, 0, none⟩ = some (.int .i64 (vI (rest.getD k (0, 0)).1)) → W.cell? ⟨wr.heap.size, 1, none⟩ = some (.int .i64 (vI (rest.getD k (0, 0)).2)) → (W.setCell ⟨g, A5 + k * 2 + 1, none⟩ u).cell? ⟨wr.heap.size, 0, none⟩ = some (.int .i64 (vI (rest.getD k (0, 0)).1)) ∧ (W.setCell ⟨g, A5 + k * 2 + 1, none⟩ u).cell? ⟨wr.heap.size, 1, none⟩ = some (.int .i64 (vI (rest.getD k (0, 0)).2)) := fun W u h1 h2 => by
            have hne : g ≠ wr.heap.size := by omega
            exact ⟨by rw [World.cell?_setCell_other _ _ _ _ (by simp [hne])]; exact h1, by rw [World.cell?_setCell_other _ _ _ _ (by simp [hne])]; exact h2⟩
          have HK : Hid (∀ (W : World) (u : Value), W.cell? ⟨wr.heap.size, 0, none⟩ = some (.int .i64 (vI (rest.getD k (0, 0)).1)) → W.cell? ⟨wr.heap.size, 1, none⟩ = some (.int .i64 (vI (rest.getD k (0, 0)).2)) → (W.setCell ⟨g, A5 + k * 2 + 1, none⟩ u).cell? ⟨wr.heap.size, 0, none⟩ = some (.int .i64 (vI (rest.getD k (0, 0)).1)) ∧ (W.setCell ⟨g, A5 + k * 2 + 1, none⟩ u).cell? ⟨wr.heap.size, 1, none⟩ = some (.int .i64 (vI (rest.getD k (0, 0)).2))) := keepS
          clear keepS
          generalize vI (((rest.getD k (0, 0)).2 - f) * finv (rest.getD k (0, 0)).1) = z at *
          generalize vI ((rest.getD k (0, 0)).2 - f) = t at *
          generalize vI (rest.getD k (0, 0)).1 = x at *
          generalize vI (rest.getD k (0, 0)).2 = y at *
          clear hLk hOk hBk
          go_wp2_with fail
          clear hV g1 g2 g3
          go_region_held3 (fun w' => w'.cell? ⟨wr.heap.size, 0, none⟩ = some (.int .i64 x) ∧ w'.cell? ⟨wr.heap.size, 1, none⟩ = some (.int .i64 y)) (first | exact HK.out V (.int .i64 z) gV0 gV1 | go_keep) (first
            | (go_at_call 61; refine (c1 _).mono ?_; rintro e w' ⟨rfl, hw⟩; subst w')
            | (go_at_call 60; refine (c2' _).mono ?_; rintro e w' ⟨rfl, hw⟩; subst w'))
          all_goals go_wp2
          all_goals go_roundw
          case rel => exact ⟨k + 1, by omega, by go_num, HSET.out V HLV.out, by show Own (V.setCell ⟨g, A5 + k * 2 + 1, none⟩ (.int .i64 z)) _ _ _; exact Own.kept HOV.out (grown_set V g _ _) (Or.inr fun e => by have := HOB.out g e; omega), (HBV.out.setCell (p := ⟨g, A5 + k * 2 + 1, none⟩) hgw _).drew, by show w2.heap.size ≤ (V.setCell _ _).heap.size; simp; omega⟩
          case measure => simp [intOf]; omega
        · obtain rfl : k = m := by omega
          have LE : Hid (LeftP wr w.heap.size g A5 (peelStep rest f)) := by
            have h := hLk.out
            rw [show k = rest.length from HRL2.out.symm, halfway_all] at h
            exact h
          clear hLk
          go_wp2
          go_roundw
          case rel => exact ⟨k, A5, cp - 1, peelStep rest f, pre ++ [f], rfl, by omega, by omega, by omega, by show _ = _; rw [peelStep_length]; exact HRL2.out, HPS, HRN, LE, by show Own _ _ _ _; rw [HVA.out]; exact hOk.out, hBk, hwk⟩
          case measure => simp

end Go.Proofs.Ytamppekadobagaa

/- Chapter 14: DebitsFor of both sides. -/
import Derived.Test.YtleddlfojogdiaaGreatCI14
import Derived.Test.YtleddlfojogdiaaGreatP14B
import Derived.Test.YtleddlfojogdiaaGreatA14
import Derived.Test.YtleddlfojogdiaaGreatRF12
namespace Go.Proofs.YtleddlfojogdiaaGreat
set_option linter.unusedVariables false
set_option maxRecDepth 1000000
set_option linter.unusedSimpArgs false
open Go.RowKit

def debP (f : Int) (l : List St) (h : Int) (c : Cl) : Bool := decide (c.1 = h) && decide (f < (refL l c).length)

def debTo (f : Int) (l : List St) (h : Int) (k : Nat) : List Cl := ((claimsL l).take k).filter (debP f l h)

theorem debTo_succ {f : Int} {l : List St} {h : Int} {k : Nat} (hk : k < (claimsL l).length) : debTo f l h (k + 1) = if debP f l h ((claimsL l).getD k (0, 0, 0)) = true then debTo f l h k ++ [(claimsL l).getD k (0, 0, 0)] else debTo f l h k := by
  unfold debTo
  rw [take_snocT (d := (0, 0, 0)) hk, List.filter_append]
  generalize (claimsL l).getD k (0, 0, 0) = c0
  by_cases g : debP f l h c0 = true
  · simp [g]
  · simp [g]

theorem debTo_all {f : Int} {l : List St} {h : Int} {k : Nat} (hk : (claimsL l).length ≤ k) : debTo f l h k = debL f l h := by
  unfold debTo
  rw [List.take_of_length_le hk]
  rfl

theorem debTo_len (f : Int) (l : List St) (h : Int) (k : Nat) : (debTo f l h k).length ≤ k := by
  unfold debTo
  exact Nat.le_trans (List.length_filter_le _ _) (by rw [List.length_take]; omega)

theorem claims_good {l : List St} (h : stsB l = true) {k : Nat} (hk : k < (claimsL l).length) : clB ((claimsL l).getD k (0, 0, 0)) = true := by
  have hm := (claimsL_all l).2.1 ((claimsL l).getD k (0, 0, 0))
  have h1 := hm.1 (mem_getD _ hk)
  rw [List.mem_map] at h1
  obtain ⟨s, hs, e⟩ := h1
  rw [← e]
  unfold stsB at h
  rw [Bool.and_eq_true, List.all_eq_true] at h
  have := h.1 s hs
  unfold stB at this
  rw [Bool.and_eq_true] at this
  exact this.2

set_option maxHeartbeats 8000000 in
theorem l14Debits_c (f : Int) (ao : Option Addr) (n c : Nat) (xs : List St) (h : Int) (w : World) (hx : xs.length = n) (hn : n ≤ 60) (hr : RdS w ao xs) :
    Calls Tryz.prog 41 #[.int .i64 f, .slice ao n c, .int .i64 h] w fun e w' => ∃ a' q c', e = .returned (.slice a' q c') ∧ OwnC w' w.heap.size (.slice a' q c') (debL f xs h) ∧ Below w.heap.size w w' := by
  have HX : Hid (xs.length = n) := hx
  have HR : Hid (RdS w ao xs) := hr
  clear hx hr
  go_enter Tryz.func41, Tryz.ntmps41
  go_wp2_with fail
  refine (l12Claims_c ao n c xs _ HX.out hn HR.out).mono ?_
  rintro e w1 ⟨a1, m, c1, rfl, ho, hb⟩
  have HO1 : Hid (OwnC w1 w.heap.size (.slice a1 m c1) (claimsL xs)) := ho
  have HB1 : Hid (Below w.heap.size w w1) := hb
  have HM : Hid ((claimsL xs).length = m) := ho.rd'.1
  have hm60 : m ≤ 60 := by have h1 := (claimsL_all xs).2.2; have h2 := HX.out; have h3 := HM.out; omega
  clear ho hb
  go_wp2
  go_loopw [7, 13] (fun ov iv wq => ∃ k : Nat, k ≤ m ∧ iv = .int .i64 k ∧ Hid (OwnC wq w1.heap.size ov (debTo f xs h k)) ∧ Hid (Below w1.heap.size w1 wq)) (fun _ iv _ => m - (intOf iv).toNat)
  case atStart => exact ⟨0, Nat.zero_le _, rfl, own_nilC _ _, Below.refl _ _⟩
  case round =>
    obtain ⟨k, hk, rfl, hO, hB⟩ := hrel
    by_cases hlt : k < m
    · have hkl : k < (claimsL xs).length := by rw [HM.out]; exact hlt
      obtain ⟨b, o, rfl, g0, g1, g2⟩ := (RdC.later HO1.out.rd'.2 hB.out).get hkl
      have HS : Hid (debTo f xs h (k + 1) = if debP f xs h ((claimsL xs).getD k (0, 0, 0)) = true then debTo f xs h k ++ [(claimsL xs).getD k (0, 0, 0)] else debTo f xs h k) := debTo_succ hkl
      have hlen := debTo_len f xs h k
      obtain ⟨y, hy⟩ : ∃ y, (claimsL xs).getD k (0, 0, 0) = y := ⟨_, rfl⟩
      rw [hy] at g0 g1 g2 HS
      obtain ⟨x0, x1, x2⟩ := y
      simp only at g0 g1 g2
      clear hy hkl
      generalize debTo f xs h k = out at hO HS hlen
      obtain ⟨a9, c9, hv⟩ := hO.out.shape
      obtain ⟨p, hp⟩ : ∃ p, out.length = p := ⟨_, rfl⟩
      have HP : Hid (out.length = p) := hp
      rw [hp] at hv hlen
      subst hv
      have bX := balloc wr (.cells #[.int .i64 x0, .int .i64 x1, .int .i64 x2] 32)
      have aX := x3_new wr (.int .i64 x0) (.int .i64 x1) (.int .i64 x2) 32 wr.heap.size rfl
      have oX := hO.out.later bX
      have BX := hB.out.trans (bX.mono hB.out.size)
      obtain ⟨V, hV⟩ : ∃ V, wr.alloc (.cells #[.int .i64 x0, .int .i64 x1, .int .i64 x2] 32) = V := ⟨_, rfl⟩
      rw [hV] at bX aX oX BX
      have HAX : Hid (X3 V wr.heap.size (.int .i64 x0) (.int .i64 x1) (.int .i64 x2)) := aX
      have HOX : Hid (OwnC V w1.heap.size (.slice a9 p c9) out) := oX
      have HBX : Hid (Below w1.heap.size w1 V) := BX
      obtain ⟨⟨d0, d1, d2⟩, _⟩ := aX
      clear bX oX BX hO hB hp
      by_cases hh : x0 = h
      · have hhb : (x0 == h) = true := by simpa using hh
        obtain ⟨z, hz⟩ : ∃ z, (refL xs (x0, x1, x2)).length = z := ⟨_, rfl⟩
        have hz7 : z ≤ 7 := by rw [← hz]; exact refTo_length _ _ 7
        have HDP : Hid (debP f xs h (x0, x1, x2) = decide (f < (z : Int))) := by show _ = _; unfold debP; rw [hz, decide_eq_true hh, Bool.true_and]
        have q5 := fun wx hr => l12Refused_c ao n c xs x0 x1 x2 wx HX.out (by omega) hr z hz
        have HQ5 : Hid (∀ wx, RdS wx ao xs → Calls Tryz.prog 68 #[.slice ao n c, .agg #[.int .i64 x0, .int .i64 x1, .int .i64 x2]] wx fun e w' => ∃ a' c', e = .returned (.slice a' z c') ∧ Below wx.heap.size wx w') := fun wx hr => (q5 wx hr).mono (fun e w' hh => by obtain ⟨a', c', h1, h2, h3⟩ := hh; exact ⟨a', c', h1, h3⟩)
        clear hh hz q5
        go_wp2_with fail
        clear hV
        refine (HQ5.out _ (HR.out.later (HB1.out.trans (HBX.out.mono HB1.out.size)))).mono ?_
        rintro e w2 ⟨a5, c5, rfl, hb⟩
        have HO2 : Hid (OwnC w2 w1.heap.size (.slice a9 p c9) out) := HOX.out.later hb
        have HB2 : Hid (Below w1.heap.size w1 w2) := HBX.out.trans (hb.mono HBX.out.size)
        obtain ⟨⟨e0, e1, e2⟩, _⟩ := HAX.out.later hb
        clear hb d0 d1 d2 g0 g1 g2
        by_cases hf : f < (z : Int)
        · have hgt : (z : Int) > f := by omega
          have HS2 : Hid (debTo f xs h (k + 1) = out ++ [(x0, x1, x2)]) := by show _ = _; rw [HS.out, HDP.out, decide_eq_true hf, if_pos rfl]
          clear HS HDP hf
          have bA := balloc w2 (.cells #[.int .i64 x0, .int .i64 x1, .int .i64 x2] 32)
          obtain ⟨v5, w5, r1, o5, g5, b5⟩ := appendC_run (w2.alloc (.cells #[.int .i64 x0, .int .i64 x1, .int .i64 x2] 32)) w1.heap.size (.slice a9 p c9) out [(x0, x1, x2)] (some ⟨w2.heap.size, 0, none⟩) 1 1 (HO2.out.later bA) (litC w2 _ _ _) rfl (fun h => by cases h) (by rw [HP.out]; omega) (by have := HB2.out.size; have := bA.size; omega)
          have HO5 : Hid (OwnC w5 w1.heap.size v5 (out ++ [(x0, x1, x2)])) := o5
          have HB5 : Hid (Below w1.heap.size w1 w5) := (HB2.out.trans (bA.mono HB2.out.size)).trans b5
          clear bA o5 g5 b5
          go_wp2_with (at_builtin; refine Lib.wpList_append_run _ rfl _ _ _ _ rfl _ _ rfl rfl _ _ (r1 _) ?_; clear r1)
          go_roundw
          case rel => exact ⟨k + 1, by omega, by go_num, by show OwnC _ _ _ _; rw [HS2.out]; exact HO5.out, HB5⟩
          case measure => simp [intOf]; omega
        · have hgt : ¬ (z : Int) > f := by omega
          have HS2 : Hid (debTo f xs h (k + 1) = out) := by show _ = _; rw [HS.out, HDP.out, decide_eq_false hf]; rfl
          clear HS HDP hf
          go_wp2
          go_roundw
          case rel => exact ⟨k + 1, by omega, by go_num, by show OwnC _ _ _ _; rw [HS2.out]; exact HO2.out, HB2⟩
          case measure => simp [intOf]; omega
      · have hhb : (x0 == h) = false := by simpa using hh
        have HS2 : Hid (debTo f xs h (k + 1) = out) := by show _ = _; rw [HS.out]; unfold debP; rw [decide_eq_false hh]; rfl
        clear HS hh
        go_wp2_with fail
        clear hV
        go_wp2
        go_roundw
        case rel => exact ⟨k + 1, by omega, by go_num, by show OwnC _ _ _ _; rw [HS2.out]; exact HOX.out, HBX⟩
        case measure => simp [intOf]; omega
    · obtain rfl : m = k := by omega
      have hx : ¬ (m : Int) < (m : Int) := by omega
      rw [debTo_all (by rw [HM.out]; exact Nat.le_refl _)] at hO
      obtain ⟨a9, c9, hv⟩ := hO.out.shape
      obtain ⟨p, hp⟩ : ∃ p, (debL f xs h).length = p := ⟨_, rfl⟩
      rw [hp] at hv
      subst hv
      clear hp
      go_wp2
      go_ret
      exact ⟨a9, p, c9, rfl, hO.out.mono HB1.out.size, HB1.out.trans (hB.out.mono HB1.out.size)⟩

theorem debV_no {f : Int} {l : List St} {h : Int} (g : ¬ (stsB l = true ∧ inB f 0 2 = true ∧ inB h 0 20 = true)) : debOk f l h = false ∧ debV f l h = [] := by
  have e : debOk f l h = false := by
    rw [Bool.eq_false_iff]; intro g2; unfold debOk at g2; rw [Bool.and_eq_true, Bool.and_eq_true] at g2; exact g g2
  exact ⟨e, by unfold debV; rw [e]; rfl⟩

theorem debV_yes {f : Int} {l : List St} {h : Int} (g1 : stsB l = true) (g2 : inB f 0 2 = true) (g3 : inB h 0 20 = true) : debOk f l h = true ∧ debV f l h = debL f l h := by
  have e : debOk f l h = true := by unfold debOk; rw [g1, g2, g3]; rfl
  exact ⟨e, by unfold debV; rw [if_pos e]⟩

set_option maxHeartbeats 4000000 in
theorem specDebits_c (f : Int) (ao : Option Addr) (n c : Nat) (xs : List St) (h : Int) (w : World) (hx : xs.length = n) (hn : n ≤ 17592186044416) (hr : RdS w ao xs) (q : Nat) (hq : (debV f xs h).length = q) :
    Calls Tryz.prog 16 #[.int .i64 f, .slice ao n c, .int .i64 h] w fun e w' => ∃ a' c', e = .returned (.tuple #[.slice a' q c', .bool (debOk f xs h)]) ∧ OwnC w' w.heap.size (.slice a' q c') (debV f xs h) ∧ Below w.heap.size w w' := by
  have q1 := l12Good_c ao n c xs w hx hn hr
  have q2 := fun wx => l1In_c f 0 2 wx
  have q3 := fun wx => l1In_c h 0 20 wx
  by_cases g : stsB xs = true ∧ inB f 0 2 = true ∧ inB h 0 20 = true
  case neg =>
    obtain ⟨e1, e2⟩ := debV_no g
    rw [e2] at hq ⊢
    obtain rfl : q = 0 := hq.symm
    rw [e1]
    have hno : inB f 0 2 = false ∨ (inB f 0 2 = true ∧ (stsB xs = false ∨ (stsB xs = true ∧ inB h 0 20 = false))) := by
      revert g
      cases inB f 0 2 <;> cases stsB xs <;> cases inB h 0 20 <;> simp
    clear g e1 e2 hq hx hr
    generalize inB f 0 2 = bf at q2 hno
    generalize stsB xs = bs at q1 hno
    generalize inB h 0 20 = bh at q3 hno
    rcases hno with rfl | ⟨rfl, rfl | ⟨rfl, rfl⟩⟩
    · go_enter Tryz.func16, Tryz.ntmps16
      go_wp2_with fail
      refine (q2 _).mono ?_
      rintro e w' ⟨rfl, hw⟩
      subst w'
      go_wp2
      refine bodyPost_ret (v := .tuple #[.slice none 0 0, .bool false]) (by simp [results, Tryz.results16, go_sem]; try rfl) rfl ?_
      exact ⟨none, 0, rfl, own_nilC _ _, Below.refl _ _⟩
    · go_enter Tryz.func16, Tryz.ntmps16
      go_wp2_with fail
      refine (q2 _).mono ?_
      rintro e w' ⟨rfl, hw⟩
      subst w'
      go_wp2_with fail
      refine q1.mono ?_
      clear q1
      rintro e w1 ⟨rfl, hb⟩
      go_wp2
      refine bodyPost_ret (v := .tuple #[.slice none 0 0, .bool false]) (by simp [results, Tryz.results16, go_sem]; try rfl) rfl ?_
      exact ⟨none, 0, rfl, own_nilC _ _, hb⟩
    · go_enter Tryz.func16, Tryz.ntmps16
      go_wp2_with fail
      refine (q2 _).mono ?_
      rintro e w' ⟨rfl, hw⟩
      subst w'
      go_wp2_with fail
      refine q1.mono ?_
      clear q1
      rintro e w1 ⟨rfl, hb⟩
      go_wp2_with fail
      refine (q3 _).mono ?_
      rintro e w' ⟨rfl, hw⟩
      subst w'
      go_wp2
      refine bodyPost_ret (v := .tuple #[.slice none 0 0, .bool false]) (by simp [results, Tryz.results16, go_sem]; try rfl) rfl ?_
      exact ⟨none, 0, rfl, own_nilC _ _, hb⟩
  obtain ⟨g1, g2, g3⟩ := g
  obtain ⟨e1, e2⟩ := debV_yes g1 g2 g3
  have hn60 : n ≤ 60 := by rw [← hx]; exact stsB_few g1
  rw [e2] at hq ⊢
  rw [e1]
  rw [g1] at q1
  rw [g2] at q2
  rw [g3] at q3
  have HR : Hid (RdS w ao xs) := hr
  have HX : Hid (xs.length = n) := hx
  have HQ : Hid ((debL f xs h).length = q) := hq
  obtain ⟨dl, hdl⟩ : ∃ dl, debL f xs h = dl := ⟨_, rfl⟩
  have HDL : Hid (debL f xs h = dl) := hdl
  rw [hdl]
  clear g1 g2 g3 e1 e2 hq hx hr hdl
  go_enter Tryz.func16, Tryz.ntmps16
  go_wp2_with fail
  refine (q2 _).mono ?_
  rintro e w' ⟨rfl, hw⟩
  subst w'
  go_wp2_with fail
  refine q1.mono ?_
  clear q1
  rintro e w1 ⟨rfl, hb⟩
  have HB1 : Hid (Below w.heap.size w w1) := hb
  clear hb
  go_wp2_with fail
  refine (q3 _).mono ?_
  rintro e w' ⟨rfl, hw⟩
  subst w'
  go_wp2_with fail
  refine (l14Debits_c f ao n c xs h _ HX.out hn60 (HR.out.later HB1.out)).mono ?_
  rintro e w4 ⟨a4, m, c4, rfl, ho, hb⟩
  have hm : m = q := by have h1 := ho.rd'.1; have h2 := HQ.out; omega
  subst hm
  rw [HDL.out] at ho
  have HO4 : Hid (OwnC w4 w.heap.size (.slice a4 m c4) dl) := ho.mono HB1.out.size
  have HB4 : Hid (Below w.heap.size w w4) := HB1.out.trans (hb.mono HB1.out.size)
  clear ho hb
  go_wp2
  refine bodyPost_ret (v := .tuple #[.slice a4 m c4, .bool true]) (by simp [results, Tryz.results16, go_sem]; try rfl) rfl ?_
  exact ⟨a4, c4, rfl, HO4.out, HB4.out⟩

set_option maxHeartbeats 8000000 in
theorem implDebits_no (f : Int) (ao : Option Addr) (n c : Nat) (xs : List St) (h : Int) (w : World) (hx : xs.length = n) (hn : n ≤ 17592186044416) (hr : RdS w ao xs) (q : Nat) (hq : (debV f xs h).length = q) (g : ¬ (stsB xs = true ∧ inB f 0 2 = true ∧ inB h 0 20 = true)) :
    Calls Tryz.prog 10 #[.int .i64 f, .slice ao n c, .int .i64 h] w fun e w' => ∃ a' c', e = .returned (.tuple #[.slice a' q c', .bool (debOk f xs h)]) ∧ OwnC w' w.heap.size (.slice a' q c') (debV f xs h) ∧ Below w.heap.size w w' := by
  obtain ⟨e1, e2⟩ := debV_no g
  rw [e2] at hq ⊢
  obtain rfl : q = 0 := hq.symm
  rw [e1]
  obtain ⟨z, hz⟩ : ∃ z, (claimsV xs).length = z := ⟨_, rfl⟩
  have q1 := implClaims_c ao n c xs w hx hn hr z hz
  have q2 := fun wx => isFaults_c f wx
  have hno : stsB xs = false ∨ (stsB xs = true ∧ (inB f 0 2 = false ∨ (inB f 0 2 = true ∧ (h < 0 ∨ (¬ h < 0 ∧ h > 20))))) := by
    have hh : inB h 0 20 = false → h < 0 ∨ (¬ h < 0 ∧ h > 20) := fun e => by
      unfold inB at e
      rw [decide_eq_false_iff_not] at e
      omega
    revert g hh
    cases inB f 0 2 <;> cases stsB xs <;> cases inB h 0 20 <;> simp
  clear g e1 e2 hq hx hr hz
  generalize claimsV xs = cv at q1
  generalize inB f 0 2 = bf at q2 hno
  generalize stsB xs = bs at q1 hno
  rcases hno with rfl | ⟨rfl, rfl | ⟨rfl, hh | ⟨hh1, hh2⟩⟩⟩
  · go_enter Tryz.func10, Tryz.ntmps10
    go_wp2_with fail
    refine q1.mono ?_
    clear q1
    rintro e w1 ⟨a1, c1, rfl, _, hb⟩
    go_wp2
    refine bodyPost_ret (v := .tuple #[.slice none 0 0, .bool false]) (by simp [results, Tryz.results10, go_sem]; try rfl) rfl ?_
    exact ⟨none, 0, rfl, own_nilC _ _, hb⟩
  · go_enter Tryz.func10, Tryz.ntmps10
    go_wp2_with fail
    refine q1.mono ?_
    clear q1
    rintro e w1 ⟨a1, c1, rfl, _, hb⟩
    go_wp2_with fail
    refine (q2 _).mono ?_
    rintro e w' ⟨rfl, hw⟩
    subst w'
    go_wp2
    refine bodyPost_ret (v := .tuple #[.slice none 0 0, .bool false]) (by simp [results, Tryz.results10, go_sem]; try rfl) rfl ?_
    exact ⟨none, 0, rfl, own_nilC _ _, hb⟩
  · go_enter Tryz.func10, Tryz.ntmps10
    go_wp2_with fail
    refine q1.mono ?_
    clear q1
    rintro e w1 ⟨a1, c1, rfl, _, hb⟩
    go_wp2_with fail
    refine (q2 _).mono ?_
    rintro e w' ⟨rfl, hw⟩
    subst w'
    go_wp2
    refine bodyPost_ret (v := .tuple #[.slice none 0 0, .bool false]) (by simp [results, Tryz.results10, go_sem]; try rfl) rfl ?_
    exact ⟨none, 0, rfl, own_nilC _ _, hb⟩
  · go_enter Tryz.func10, Tryz.ntmps10
    go_wp2_with fail
    refine q1.mono ?_
    clear q1
    rintro e w1 ⟨a1, c1, rfl, _, hb⟩
    go_wp2_with fail
    refine (q2 _).mono ?_
    rintro e w' ⟨rfl, hw⟩
    subst w'
    go_wp2
    refine bodyPost_ret (v := .tuple #[.slice none 0 0, .bool false]) (by simp [results, Tryz.results10, go_sem]; try rfl) rfl ?_
    exact ⟨none, 0, rfl, own_nilC _ _, hb⟩

set_option maxHeartbeats 8000000 in
theorem implDebits_c (f : Int) (ao : Option Addr) (n c : Nat) (xs : List St) (h : Int) (w : World) (hx : xs.length = n) (hn : n ≤ 17592186044416) (hr : RdS w ao xs) (q : Nat) (hq : (debV f xs h).length = q) :
    Calls Tryz.prog 10 #[.int .i64 f, .slice ao n c, .int .i64 h] w fun e w' => ∃ a' c', e = .returned (.tuple #[.slice a' q c', .bool (debOk f xs h)]) ∧ OwnC w' w.heap.size (.slice a' q c') (debV f xs h) ∧ Below w.heap.size w w' := by
  by_cases g : stsB xs = true ∧ inB f 0 2 = true ∧ inB h 0 20 = true
  case neg => exact implDebits_no f ao n c xs h w hx hn hr q hq g
  obtain ⟨g1, g2, g3⟩ := g
  obtain ⟨e1, e2⟩ := debV_yes g1 g2 g3
  have hn60 : n ≤ 60 := by rw [← hx]; exact stsB_few g1
  have hh : 0 ≤ h ∧ h ≤ 20 := of_decide_eq_true g3
  rw [e2] at hq ⊢
  rw [e1]
  obtain ⟨m, hm⟩ : ∃ m, (claimsV xs).length = m := ⟨_, rfl⟩
  have q1 := implClaims_c ao n c xs w hx hn hr m hm
  have q2 := fun wx => isFaults_c f wx
  have ecv : claimsV xs = claimsL xs := by unfold claimsV; rw [if_pos g1]
  rw [g1, ecv] at q1
  rw [g2] at q2
  rw [ecv] at hm
  have HM : Hid ((claimsL xs).length = m) := hm
  have hm60 : m ≤ 60 := by have h1 := (claimsL_all xs).2.2; omega
  have HR : Hid (RdS w ao xs) := hr
  have HX : Hid (xs.length = n) := hx
  have HQ : Hid ((debL f xs h).length = q) := hq
  have HG1 : Hid (stsB xs = true) := g1
  have HG2 : Hid (inB f 0 2 = true) := g2
  have hh1 : ¬ h < 0 := by omega
  have hh2 : ¬ h > 20 := by omega
  obtain ⟨dl, hdl⟩ : ∃ dl, debL f xs h = dl := ⟨_, rfl⟩
  have HDL : Hid (debL f xs h = dl) := hdl
  rw [hdl]
  clear g1 g2 g3 e1 e2 hq hx hr hdl ecv hm hh
  go_enter Tryz.func10, Tryz.ntmps10
  go_wp2_with fail
  refine q1.mono ?_
  clear q1
  rintro e w1 ⟨a1, c1, rfl, ho, hb⟩
  have HO1 : Hid (OwnC w1 w.heap.size (.slice a1 m c1) (claimsL xs)) := ho
  have HB1 : Hid (Below w.heap.size w w1) := hb
  clear ho hb
  go_wp2_with fail
  refine (q2 _).mono ?_
  rintro e w' ⟨rfl, hw⟩
  subst w'
  clear q2
  go_wp2
  go_loopw [10, 37] (fun ov iv wq => ∃ k : Nat, k ≤ m ∧ iv = .int .i64 k ∧ Hid (OwnC wq w1.heap.size ov (debTo f xs h k)) ∧ Hid (Below w1.heap.size w1 wq)) (fun _ iv _ => m - (intOf iv).toNat)
  case atStart => exact ⟨0, Nat.zero_le _, rfl, own_nilC _ _, Below.refl _ _⟩
  case round =>
    obtain ⟨k, hk, rfl, hO, hB⟩ := hrel
    by_cases hlt : k < m
    · have hkl : k < (claimsL xs).length := by rw [HM.out]; exact hlt
      obtain ⟨b, o, rfl, g0, g1, g2⟩ := (RdC.later HO1.out.rd'.2 hB.out).get hkl
      have HS : Hid (debTo f xs h (k + 1) = if debP f xs h ((claimsL xs).getD k (0, 0, 0)) = true then debTo f xs h k ++ [(claimsL xs).getD k (0, 0, 0)] else debTo f xs h k) := debTo_succ hkl
      have hgood := claims_good HG1.out hkl
      have hlen := debTo_len f xs h k
      obtain ⟨y, hy⟩ : ∃ y, (claimsL xs).getD k (0, 0, 0) = y := ⟨_, rfl⟩
      rw [hy] at g0 g1 g2 HS hgood
      obtain ⟨x0, x1, x2⟩ := y
      simp only at g0 g1 g2
      clear hy hkl
      generalize debTo f xs h k = out at hO HS hlen
      obtain ⟨a9, c9, hv⟩ := hO.out.shape
      obtain ⟨p, hp⟩ : ∃ p, out.length = p := ⟨_, rfl⟩
      have HP : Hid (out.length = p) := hp
      rw [hp] at hv hlen
      subst hv
      have bX := balloc wr (.cells #[.int .i64 x0, .int .i64 x1, .int .i64 x2] 32)
      have aX := x3_new wr (.int .i64 x0) (.int .i64 x1) (.int .i64 x2) 32 wr.heap.size rfl
      have oX := hO.out.later bX
      have BX := hB.out.trans (bX.mono hB.out.size)
      obtain ⟨V, hV⟩ : ∃ V, wr.alloc (.cells #[.int .i64 x0, .int .i64 x1, .int .i64 x2] 32) = V := ⟨_, rfl⟩
      rw [hV] at bX aX oX BX
      have HAX : Hid (X3 V wr.heap.size (.int .i64 x0) (.int .i64 x1) (.int .i64 x2)) := aX
      have HOX : Hid (OwnC V w1.heap.size (.slice a9 p c9) out) := oX
      have HBX : Hid (Below w1.heap.size w1 V) := BX
      obtain ⟨⟨d0, d1, d2⟩, _⟩ := aX
      clear bX oX BX hO hB hp
      by_cases hh : x0 = h
      · have hhb : (x0 != h) = false := by simpa using hh
        obtain ⟨bp, hbp⟩ : ∃ bp, provedV f xs (x0, x1, x2) = bp := ⟨_, rfl⟩
        have HDP : Hid (debP f xs h (x0, x1, x2) = bp) := by
          show _ = _
          rw [← hbp]
          have hok : provedOk f xs (x0, x1, x2) = true := by unfold provedOk; rw [HG1.out, hgood, HG2.out]; rfl
          unfold provedV provedB debP
          rw [if_pos hok, decide_eq_true hh, Bool.true_and]
        have HQ5 : Hid (∀ wx, RdS wx ao xs → Calls Tryz.prog 11 #[.int .i64 f, .slice ao n c, .agg #[.int .i64 x0, .int .i64 x1, .int .i64 x2]] wx fun e w' => e = .returned (.tuple #[.bool bp, .bool (provedOk f xs (x0, x1, x2))]) ∧ Below wx.heap.size wx w') := fun wx hr => by have := implProved_c f ao n c xs x0 x1 x2 wx HX.out (by omega) hr; rw [hbp] at this; exact this
        generalize provedOk f xs (x0, x1, x2) = ob at HQ5
        clear hh hbp hgood
        go_wp2_with fail
        clear hV
        refine (HQ5.out _ (HR.out.later (HB1.out.trans (HBX.out.mono HB1.out.size)))).mono ?_
        rintro e w2 ⟨rfl, hb⟩
        have HO2 : Hid (OwnC w2 w1.heap.size (.slice a9 p c9) out) := HOX.out.later hb
        have HB2 : Hid (Below w1.heap.size w1 w2) := HBX.out.trans (hb.mono HBX.out.size)
        obtain ⟨⟨e0, e1, e2⟩, _⟩ := HAX.out.later hb
        clear hb d0 d1 d2 g0 g1 g2 HQ5
        cases bp
        · have HS2 : Hid (debTo f xs h (k + 1) = out) := by show _ = _; rw [HS.out, HDP.out]; rfl
          clear HS HDP
          go_wp2
          go_roundw
          case rel => exact ⟨k + 1, by omega, by go_num, by show OwnC _ _ _ _; rw [HS2.out]; exact HO2.out, HB2⟩
          case measure => simp [intOf]; omega
        · have HS2 : Hid (debTo f xs h (k + 1) = out ++ [(x0, x1, x2)]) := by show _ = _; rw [HS.out, HDP.out, if_pos rfl]
          clear HS HDP
          have bA := balloc w2 (.cells #[.int .i64 x0, .int .i64 x1, .int .i64 x2] 32)
          obtain ⟨v5, w5, r1, o5, g5, b5⟩ := appendC_run (w2.alloc (.cells #[.int .i64 x0, .int .i64 x1, .int .i64 x2] 32)) w1.heap.size (.slice a9 p c9) out [(x0, x1, x2)] (some ⟨w2.heap.size, 0, none⟩) 1 1 (HO2.out.later bA) (litC w2 _ _ _) rfl (fun h => by cases h) (by rw [HP.out]; omega) (by have := HB2.out.size; have := bA.size; omega)
          have HO5 : Hid (OwnC w5 w1.heap.size v5 (out ++ [(x0, x1, x2)])) := o5
          have HB5 : Hid (Below w1.heap.size w1 w5) := (HB2.out.trans (bA.mono HB2.out.size)).trans b5
          clear bA o5 g5 b5
          go_wp2_with (at_builtin; refine Lib.wpList_append_run _ rfl _ _ _ _ rfl _ _ rfl rfl _ _ (r1 _) ?_; clear r1)
          go_roundw
          case rel => exact ⟨k + 1, by omega, by go_num, by show OwnC _ _ _ _; rw [HS2.out]; exact HO5.out, HB5⟩
          case measure => simp [intOf]; omega
      · have hhb : (x0 != h) = true := by simpa using hh
        have HS2 : Hid (debTo f xs h (k + 1) = out) := by show _ = _; rw [HS.out]; unfold debP; rw [decide_eq_false hh]; rfl
        clear HS hh hgood
        go_wp2_with fail
        clear hV
        go_wp2
        go_roundw
        case rel => exact ⟨k + 1, by omega, by go_num, by show OwnC _ _ _ _; rw [HS2.out]; exact HOX.out, HBX⟩
        case measure => simp [intOf]; omega
    · obtain rfl : m = k := by omega
      have hx : ¬ (m : Int) < (m : Int) := by omega
      rw [debTo_all (by rw [HM.out]; exact Nat.le_refl _)] at hO
      obtain ⟨a9, c9, hv⟩ := hO.out.shape
      rw [HQ.out] at hv
      subst hv
      have HO9 : Hid (OwnC wr w.heap.size (.slice a9 q c9) dl) := by show OwnC _ _ _ _; rw [← HDL.out]; exact hO.out.mono HB1.out.size
      go_wp2
      refine bodyPost_ret (v := .tuple #[.slice a9 q c9, .bool true]) (by simp [results, Tryz.results10, go_sem]; try rfl) rfl ?_
      exact ⟨a9, c9, rfl, HO9.out, HB1.out.trans (hB.out.mono HB1.out.size)⟩

end Go.Proofs.YtleddlfojogdiaaGreat

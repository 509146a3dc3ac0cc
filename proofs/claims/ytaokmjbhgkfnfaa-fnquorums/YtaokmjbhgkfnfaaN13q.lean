/- Chapter 13: NewBoard of both sides. -/
import Derived.Test.YtaokmjbhgkfnfaaSG13q
import Derived.Test.YtaokmjbhgkfnfaaM13q
namespace Go.Proofs.Ytaokmjbhgkfnfaa
set_option linter.unusedVariables false
set_option maxRecDepth 1000000
set_option linter.unusedSimpArgs false
open Go.RowKit

theorem appendI_big (w : World) (base : Nat) (v : Value) (xs ys : List Int) (ao : Option Addr) (m c : Nat) (hown : Own w base v xs) (hr : Rd w ao ys) (hm : ys.length = m) (hnil : ao = none → m = 0 ∧ c = 0) (hb : xs.length + m ≤ 2000000) (hbase : base ≤ w.heap.size) :
  ∃ v' w', (∀ ty, (Builtin.append_ #[23, 23] ty #[v, .slice ao m c]).run Try.prog w = .ok v' w') ∧ Own w' base v' (xs ++ ys) ∧ w.grownBy w' v.ownBlock ∧ Below base w w' := by
 obtain ⟨i0, hi, hz0, hz1, hz2⟩ := info_parts Try.infoInt
 have hge : ∀ k, v.ownBlock = some k → base ≤ k := own_block_ge hown
 cases ao with
 | none =>
  obtain ⟨rfl, rfl⟩ := hnil rfl
  obtain rfl := List.length_eq_zero_iff.1 hm
  refine ⟨v, w, fun ty => run_append_owned_none (P := Try.prog) (w := w) base 23 ty 3 i0 1 Try.underlying23 hi v xs.length (cellsI xs) hown, by rw [List.append_nil]; exact hown, World.grownBy.refl _ _, Below.refl _ _⟩
 | some a =>
  have hnews : ∀ j u, (cellsI ys)[j]? = some u → w.cell? (a.add j) = some u := fun j u hj => by
   rcases hr with rfl | ⟨b', o', he, hc⟩
   ·simp [cellsI] at hj
   ·simp only [Option.some.injEq] at he
    subst he
    have hjl : j < ys.length := by have := (List.getElem?_eq_some_iff.1 hj).1; simpa [cellsI] using this
    rw [getD_map_int ys j hjl] at hj
    simp only [Option.some.injEq] at hj
    subst hj
    rw [Go.WideShapes.add_plain]
    exact hc j hjl
  obtain ⟨v', w', hrun, hown', hgrow, _⟩ := run_append_own (P := Try.prog) w base 23 23 3 i0 (.int .i64 0) 1 8 Try.underlying23 hi hz0 hz1 hz2 rfl (by decide) v xs.length (cellsI xs) hown a m c (cellsI ys) (by rw [cellsI_length, hm, Nat.mul_one]) hnews (cellsI_oneCell _) (by unfold maxLen; omega) (by omega) hbase
  refine ⟨v', w', fun ty => hrun, ?_, hgrow, (Below.refl _ _).grown hgrow hbase hge⟩
  unfold Own
  rw [List.length_append, hm]
  simpa [cellsI] using hown'

def zeroBd : BdV := ⟨0, 0, [], [], []⟩
theorem nilIP (w : World) (lo : Nat) (pp : Nat → Prop) : OwnIP w lo pp (.slice none 0 0) [] := ⟨[], rfl, World.ownsRow_nil _ _ _ _, fun j h => absurd h (by simp), fun i j _ h => absurd h (by simp), (fun k h => by cases h), fun j h => absurd h (by simp)⟩
theorem zeroOwn (w : World) (lo hi : Nat) : OwnBd w lo hi (.slice none 0 0) (.slice none 0 0) (.slice none 0 0) zeroBd := ⟨⟨fun _ => False, nilIP _ _ _, fun k h => h.elim, fun k h => (by cases h), fun k h => (by cases h)⟩, World.ownsRow_nil _ _ _ _, World.ownsRow_nil _ _ _ _, Or.inl rfl⟩
theorem newOwn {w : World} {lo hi : Nat} {L : Value} {f e : Int} {li : List Int} (h : Own w lo L li) (hk : ∀ k, L.ownBlock = some k → k < hi) : OwnBd w lo hi (.slice none 0 0) L (.slice none 0 0) ⟨f, e, [], li, []⟩ := ⟨⟨fun _ => False, nilIP _ _ _, fun k h => h.elim, fun k h => ⟨fun h => h, hk k h⟩, fun k h => (by cases h)⟩, h, World.ownsRow_nil _ _ _ _, by cases hb : L.ownBlock with | none => exact Or.inl rfl | some k => exact Or.inr (by simp [Value.ownBlock])⟩

theorem copyOfInts_c (ao : Option Addr) (n c : Nat) (xs : List Int) (w : World) (hx : xs.length = n) (hn : n ≤ 1000000) (hr : Rd w ao xs) (hz : ao = none → n = 0 ∧ c = 0) :
  Calls Try.prog 83 #[.slice ao n c] w fun e w' => ∃ a' c', e = .returned (.slice a' n c') ∧ Own w' w.heap.size (.slice a' n c') xs ∧ Below w.heap.size w w' := by
 obtain ⟨v', w1, r1, o1, gg, b1⟩ := appendI_run w w.heap.size (.slice none 0 0) [] xs ao n c (World.ownsRow_nil _ _ _ _) hr hx hz (by simpa using hn) (Nat.le_refl _)
 rw [List.nil_append] at o1
 obtain ⟨a6, c6, hv6⟩ := o1.shape
 rw [hx] at hv6
 subst hv6
 have HO : Hid (Own w1 w.heap.size (.slice a6 n c6) xs) := o1
 have HB : Hid (Below w.heap.size w w1) := b1
 clear o1 gg b1 hr hx hz
 go_enter Try.func83, Try.ntmps83
 go_wp2_with (first | (at_builtin; refine Lib.wpList_append_run _ rfl _ _ _ _ rfl _ _ rfl rfl _ _ (r1 _) ?_; clear r1))
 go_ret
 exact ⟨a6, c6, rfl, HO.out, HB.out⟩

def newV (f : Int) (li : List Int) : BdV := if couB f li = true then ⟨f, 0, [], li, []⟩ else zeroBd
def NewOk (r : Ending) (w w' : World) (f : Int) (li : List Int) : Prop := ∃ sa sc la lc ta tc, r = .returned (.tuple #[.agg #[.int .i64 (newV f li).f, .int .i64 (newV f li).e, .slice sa (newV f li).sg.length sc, .slice la (newV f li).li.length lc, .slice ta (newV f li).ls.length tc], .bool (couB f li)]) ∧ OwnBd w' w.heap.size w'.heap.size (.slice sa (newV f li).sg.length sc) (.slice la (newV f li).li.length lc) (.slice ta (newV f li).ls.length tc) (newV f li) ∧ Below w.heap.size w w'

set_option maxHeartbeats 2000000 in
theorem implNew_c (f : Int) (la : Option Addr) (ln lc : Nat) (li : List Int) (w : World) (hl : li.length = ln) (hln : ln ≤ 1048576) (hr : Rd w la li) (hz : la = none → ln = 0 ∧ lc = 0) :
  Calls Try.prog 33 #[.int .i64 f, .slice la ln lc] w fun r w' => NewOk r w w' f li := by
 have HB1 : Hid (Below w.heap.size w ((w.alloc (.cells #[.int .i64 0, .int .i64 0, .slice none 0 0, .slice none 0 0, .slice none 0 0] 29)).alloc (.cells #[.int .i64 f, .slice la ln lc] 89))) := (balloc w _).alloc (balloc w _).size _
 have q1 := isCouncil_c f la ln lc li ((w.alloc (.cells #[.int .i64 0, .int .i64 0, .slice none 0 0, .slice none 0 0, .slice none 0 0] 29)).alloc (.cells #[.int .i64 f, .slice la ln lc] 89)) hl (by omega) (hr.later HB1.out)
 have HZ1 : Hid (X5 ((w.alloc (.cells #[.int .i64 0, .int .i64 0, .slice none 0 0, .slice none 0 0, .slice none 0 0] 29)).alloc (.cells #[.int .i64 f, .slice la ln lc] 89)) w.heap.size (.int .i64 0) (.int .i64 0) (.slice none 0 0) (.slice none 0 0) (.slice none 0 0)) := (x5_new w _ _ _ _ _ 29 w.heap.size rfl).later (balloc _ _)
 cases hc : couB f li
 ·have HN : Hid (newV f li = zeroBd) := by show _ = _; unfold newV; rw [hc]; rfl
  have HC : Hid (couB f li = false) := hc
  rw [hc] at q1
  clear hl hr hz hc
  go_enter Try.func33, Try.ntmps33
  go_wp2_with fail
  refine q1.mono ?_
  clear q1
  rintro x w1 ⟨rfl, hb⟩
  obtain ⟨⟨y0, y1, y2, y3, y4⟩, yf⟩ := HZ1.out.later hb
  have HB2 : Hid (Below w.heap.size w w1) := HB1.out.trans (hb.mono HB1.out.size)
  have hZF := ((((((HZ1.out.later hb).set0 (.int .i64 0)).set1 (.int .i64 0)).set2 (.slice none 0 0)).set3 (.slice none 0 0)).set4 (.slice none 0 0))
  have hBF : Below w.heap.size w (((((w1.setCell ⟨w.heap.size, 0, none⟩ (.int .i64 0)).setCell ⟨w.heap.size, 1, none⟩ (.int .i64 0)).setCell ⟨w.heap.size, 2, none⟩ (.slice none 0 0)).setCell ⟨w.heap.size, 3, none⟩ (.slice none 0 0)).setCell ⟨w.heap.size, 4, none⟩ (.slice none 0 0)) := (((((HB2.out.setCell (by show w.heap.size ≤ w.heap.size; omega) _).setCell (by show w.heap.size ≤ w.heap.size; omega) _).setCell (by show w.heap.size ≤ w.heap.size; omega) _).setCell (by show w.heap.size ≤ w.heap.size; omega) _).setCell (by show w.heap.size ≤ w.heap.size; omega) _)
  have yf0 := yf 0
  have yf1 := yf 1
  have yf2 := yf 2
  have yf3 := yf 3
  have yf4 := yf 4
  obtain ⟨FW, hFW⟩ : ∃ F, (((((w1.setCell ⟨w.heap.size, 0, none⟩ (.int .i64 0)).setCell ⟨w.heap.size, 1, none⟩ (.int .i64 0)).setCell ⟨w.heap.size, 2, none⟩ (.slice none 0 0)).setCell ⟨w.heap.size, 3, none⟩ (.slice none 0 0)).setCell ⟨w.heap.size, 4, none⟩ (.slice none 0 0)) = F := ⟨_, rfl⟩
  rw [hFW] at hZF hBF
  obtain ⟨⟨t0, t1, t2, t3, t4⟩, _⟩ := hZF
  have HBF : Hid (Below w.heap.size w FW) := hBF
  clear hBF yf hb HB2 HZ1 HB1
  go_wp2
  refine bodyPost_ret (v := .tuple #[.agg #[.int .i64 0, .int .i64 0, .slice none 0 0, .slice none 0 0, .slice none 0 0], .bool false]) (by simp [results, Try.results33, go_sem, t0, t1, t2, t3, t4]; try rfl) rfl ?_
  refine ⟨none, 0, none, 0, none, 0, by rw [HN.out, HC.out]; rfl, ?_, HBF.out⟩
  rw [HN.out]
  exact zeroOwn _ _ _
 ·have HN : Hid (newV f li = ⟨f, 0, [], li, []⟩) := by show _ = _; unfold newV; rw [hc]; rfl
  have HC : Hid (couB f li = true) := hc
  have hln2 : ln ≤ 2 := by
   unfold couB at hc
   rw [Bool.and_eq_true, Bool.and_eq_true, Bool.and_eq_true, inB_iff] at hc
   have := of_decide_eq_true hc.2.1.1
   omega
  have HCP : Hid (∀ wx, Below w.heap.size w wx → Calls Try.prog 83 #[.slice la ln lc] wx fun e w' => ∃ a' c', e = .returned (.slice a' ln c') ∧ Own w' wx.heap.size (.slice a' ln c') li ∧ Below wx.heap.size wx w') := fun wx h => copyOfInts_c la ln lc li wx hl (by omega) (hr.later h) hz
  have HL : Hid (li.length = ln) := hl
  rw [hc] at q1
  clear hl hr hz hc
  go_enter Try.func33, Try.ntmps33
  go_wp2_with fail
  refine q1.mono ?_
  clear q1
  rintro x w1 ⟨rfl, hb⟩
  have HB2 : Hid (Below w.heap.size w w1) := HB1.out.trans (hb.mono HB1.out.size)
  have HZ2 : Hid (X5 w1 w.heap.size (.int .i64 0) (.int .i64 0) (.slice none 0 0) (.slice none 0 0) (.slice none 0 0)) := HZ1.out.later hb
  have hlt2 : w.heap.size < w1.heap.size := HZ2.out.lt
  clear hb
  go_wp2_with fail
  refine (HCP.out _ HB2.out).mono ?_
  clear HCP
  rintro x w2 ⟨a2, c2, rfl, ho, hb⟩
  have HB3 : Hid (Below w.heap.size w w2) := HB2.out.trans (hb.mono HB2.out.size)
  have HO2 : Hid (Own w2 w1.heap.size (.slice a2 ln c2) li) := ho
  obtain ⟨⟨y0, y1, y2, y3, y4⟩, yf⟩ := HZ2.out.later hb
  have hb2 := hb
  clear ho
  have hZF := ((((((HZ2.out.later hb2).set0 (.int .i64 f)).set1 (.int .i64 0)).set2 (.slice none 0 0)).set3 (.slice a2 ln c2)).set4 (.slice none 0 0))
  have hBF : Below w.heap.size w (((((w2.setCell ⟨w.heap.size, 0, none⟩ (.int .i64 f)).setCell ⟨w.heap.size, 1, none⟩ (.int .i64 0)).setCell ⟨w.heap.size, 2, none⟩ (.slice none 0 0)).setCell ⟨w.heap.size, 3, none⟩ (.slice a2 ln c2)).setCell ⟨w.heap.size, 4, none⟩ (.slice none 0 0)) := (((((HB3.out.setCell (by show w.heap.size ≤ w.heap.size; omega) _).setCell (by show w.heap.size ≤ w.heap.size; omega) _).setCell (by show w.heap.size ≤ w.heap.size; omega) _).setCell (by show w.heap.size ≤ w.heap.size; omega) _).setCell (by show w.heap.size ≤ w.heap.size; omega) _)
  have hOF := (((((HO2.out.setBox (r := w.heap.size) (j := 0) (by omega) (.int .i64 f)).setBox (r := w.heap.size) (j := 1) (by omega) (.int .i64 0)).setBox (r := w.heap.size) (j := 2) (by omega) (.slice none 0 0)).setBox (r := w.heap.size) (j := 3) (by omega) (.slice a2 ln c2)).setBox (r := w.heap.size) (j := 4) (by omega) (.slice none 0 0))
  have hszF : (((((w2.setCell ⟨w.heap.size, 0, none⟩ (.int .i64 f)).setCell ⟨w.heap.size, 1, none⟩ (.int .i64 0)).setCell ⟨w.heap.size, 2, none⟩ (.slice none 0 0)).setCell ⟨w.heap.size, 3, none⟩ (.slice a2 ln c2)).setCell ⟨w.heap.size, 4, none⟩ (.slice none 0 0)).heap.size = w2.heap.size := by simp
  have yf0 := yf 0
  have yf1 := yf 1
  have yf2 := yf 2
  have yf3 := yf 3
  have yf4 := yf 4
  obtain ⟨FW, hFW⟩ : ∃ F, (((((w2.setCell ⟨w.heap.size, 0, none⟩ (.int .i64 f)).setCell ⟨w.heap.size, 1, none⟩ (.int .i64 0)).setCell ⟨w.heap.size, 2, none⟩ (.slice none 0 0)).setCell ⟨w.heap.size, 3, none⟩ (.slice a2 ln c2)).setCell ⟨w.heap.size, 4, none⟩ (.slice none 0 0)) = F := ⟨_, rfl⟩
  rw [hFW] at hZF hBF hOF hszF
  obtain ⟨⟨t0, t1, t2, t3, t4⟩, _⟩ := hZF
  have HBF : Hid (Below w.heap.size w FW) := hBF
  have HOF : Hid (OwnBd FW w.heap.size FW.heap.size (.slice none 0 0) (.slice a2 ln c2) (.slice none 0 0) ⟨f, 0, [], li, []⟩) := newOwn (hOF.mono (by omega)) (fun k h => (World.ownsRow.lt hOF k h).2)
  clear hBF hOF yf HZ2 HZ1 HB1
  go_wp2
  refine bodyPost_ret (v := .tuple #[.agg #[.int .i64 f, .int .i64 0, .slice none 0 0, .slice a2 ln c2, .slice none 0 0], .bool true]) (by simp [results, Try.results33, go_sem, t0, t1, t2, t3, t4]; try rfl) rfl ?_
  refine ⟨none, 0, a2, c2, none, 0, by rw [HN.out, HC.out]; simp only [List.length_nil, HL.out], ?_, HBF.out⟩
  rw [HN.out]
  simp only [List.length_nil, HL.out]
  exact HOF.out

theorem good_newB (f : Int) (li : List Int) : goodBd ⟨f, 0, [], li, []⟩ = couB f li := by
 have h1 : inB 0 0 20 = true := by decide
 have h2 : lstB [] = true := by decide
 have h3 : sgsB f [] = true := by simp [sgsB]
 have h4 : keptB li [] = true := by simp [keptB]
 simp only [goodBd, h1, h2, h3, h4, Bool.and_true]

set_option maxHeartbeats 2000000 in
theorem specNew_c (f : Int) (la : Option Addr) (ln lc : Nat) (li : List Int) (w : World) (hl : li.length = ln) (hln : ln ≤ 1048576) (hr : Rd w la li) (hz : la = none → ln = 0 ∧ lc = 0) :
  Calls Try.prog 34 #[.int .i64 f, .slice la ln lc] w fun r w' => NewOk r w w' f li := by
 have hb1 : Below w.heap.size w ((w.alloc (.cells #[.int .i64 0, .int .i64 0, .slice none 0 0, .slice none 0 0, .slice none 0 0] 29)).alloc (.cells #[] 3)) := (balloc w _).alloc (balloc w _).size _
 have hsz1 : (w.alloc (.cells #[.int .i64 0, .int .i64 0, .slice none 0 0, .slice none 0 0, .slice none 0 0] 29)).heap.size = w.heap.size + 1 := by simp
 have hE := emptyI (w.alloc (.cells #[.int .i64 0, .int .i64 0, .slice none 0 0, .slice none 0 0, .slice none 0 0] 29))
 rw [hsz1] at hE
 obtain ⟨v', w3, r1, o1, gg, b1⟩ := appendI_big ((w.alloc (.cells #[.int .i64 0, .int .i64 0, .slice none 0 0, .slice none 0 0, .slice none 0 0] 29)).alloc (.cells #[] 3)) (w.heap.size + 1) _ [] li la ln lc hE (hr.later hb1) hl hz (by simp; omega) (by simp)
 rw [List.nil_append] at o1
 obtain ⟨a3, c3, hv3⟩ := o1.shape
 rw [hl] at hv3
 subst hv3
 have HZ3 : Hid (X5 w3 w.heap.size (.int .i64 0) (.int .i64 0) (.slice none 0 0) (.slice none 0 0) (.slice none 0 0)) := ((x5_new w _ _ _ _ _ 29 w.heap.size rfl).later (balloc _ _)).grown gg (by simp [Value.ownBlock])
 have HB3 : Hid (Below w.heap.size w w3) := hb1.trans (b1.mono (by omega))
 have HO3 : Hid (Own w3 (w.heap.size + 1) (.slice a3 ln c3) li) := o1
 have hsz3 : w.heap.size < w3.heap.size := HZ3.out.lt
 have hB4 := balloc w3 (.cells #[.int .i64 f, .int .i64 0, .slice none 0 0, .slice a3 ln c3, .slice none 0 0] 29)
 have hX4 := x5_new w3 (.int .i64 f) (.int .i64 0) (.slice none 0 0) (.slice a3 ln c3) (.slice none 0 0) 29 w3.heap.size rfl
 have HZ4 : Hid (X5 (w3.alloc (.cells #[.int .i64 f, .int .i64 0, .slice none 0 0, .slice a3 ln c3, .slice none 0 0] 29)) w.heap.size (.int .i64 0) (.int .i64 0) (.slice none 0 0) (.slice none 0 0) (.slice none 0 0)) := HZ3.out.later hB4
 have HX4 : Hid (X5 (w3.alloc (.cells #[.int .i64 f, .int .i64 0, .slice none 0 0, .slice a3 ln c3, .slice none 0 0] 29)) w3.heap.size (.int .i64 f) (.int .i64 0) (.slice none 0 0) (.slice a3 ln c3) (.slice none 0 0)) := hX4
 have HB4 : Hid (Below w.heap.size w (w3.alloc (.cells #[.int .i64 f, .int .i64 0, .slice none 0 0, .slice a3 ln c3, .slice none 0 0] 29))) := HB3.out.trans (hB4.mono HB3.out.size)
 have HO4 : Hid (Own (w3.alloc (.cells #[.int .i64 f, .int .i64 0, .slice none 0 0, .slice a3 ln c3, .slice none 0 0] 29)) (w.heap.size + 1) (.slice a3 ln c3) li) := HO3.out.later hB4
 have q1 := specGood_c f 0 none 0 0 a3 ln c3 none 0 0 [] li [] (w3.alloc (.cells #[.int .i64 f, .int .i64 0, .slice none 0 0, .slice a3 ln c3, .slice none 0 0] 29)) (Nat.le_refl _) rfl (by omega) hl hln rfl (by omega) (Or.inl rfl) HO4.out.rd'.2 (Or.inl rfl)
 rw [good_newB] at q1
 have HL : Hid (li.length = ln) := hl
 clear hb1 hsz1 hE o1 gg b1 hB4 hX4 hr hz hl HZ3 HO3
 cases hc : couB f li
 ·have HN : Hid (newV f li = zeroBd) := by show _ = _; unfold newV; rw [hc]; rfl
  have HC : Hid (couB f li = false) := hc
  rw [hc] at q1
  clear hc
  go_enter Try.func34, Try.ntmps34
  go_wp2_with (first | (at_builtin; refine Lib.wpList_append_run _ rfl _ _ _ _ rfl _ _ rfl rfl _ _ (r1 _) ?_; clear r1) | fail)
  refine q1.mono ?_
  clear q1
  rintro x w5 ⟨rfl, hb⟩
  obtain ⟨⟨y0, y1, y2, y3, y4⟩, yf⟩ := HZ4.out.later hb
  have HB5 : Hid (Below w.heap.size w w5) := HB4.out.trans (hb.mono HB4.out.size)
  have hZF := ((((((HZ4.out.later hb).set0 (.int .i64 0)).set1 (.int .i64 0)).set2 (.slice none 0 0)).set3 (.slice none 0 0)).set4 (.slice none 0 0))
  have hBF : Below w.heap.size w (((((w5.setCell ⟨w.heap.size, 0, none⟩ (.int .i64 0)).setCell ⟨w.heap.size, 1, none⟩ (.int .i64 0)).setCell ⟨w.heap.size, 2, none⟩ (.slice none 0 0)).setCell ⟨w.heap.size, 3, none⟩ (.slice none 0 0)).setCell ⟨w.heap.size, 4, none⟩ (.slice none 0 0)) := (((((HB5.out.setCell (by show w.heap.size ≤ w.heap.size; omega) _).setCell (by show w.heap.size ≤ w.heap.size; omega) _).setCell (by show w.heap.size ≤ w.heap.size; omega) _).setCell (by show w.heap.size ≤ w.heap.size; omega) _).setCell (by show w.heap.size ≤ w.heap.size; omega) _)
  have yf0 := yf 0
  have yf1 := yf 1
  have yf2 := yf 2
  have yf3 := yf 3
  have yf4 := yf 4
  obtain ⟨FW, hFW⟩ : ∃ F, (((((w5.setCell ⟨w.heap.size, 0, none⟩ (.int .i64 0)).setCell ⟨w.heap.size, 1, none⟩ (.int .i64 0)).setCell ⟨w.heap.size, 2, none⟩ (.slice none 0 0)).setCell ⟨w.heap.size, 3, none⟩ (.slice none 0 0)).setCell ⟨w.heap.size, 4, none⟩ (.slice none 0 0)) = F := ⟨_, rfl⟩
  rw [hFW] at hZF hBF
  obtain ⟨⟨t0, t1, t2, t3, t4⟩, _⟩ := hZF
  have HBF : Hid (Below w.heap.size w FW) := hBF
  clear hBF yf hb HB5 HZ4 HB4 HX4 HO4
  go_wp2
  refine bodyPost_ret (v := .tuple #[.agg #[.int .i64 0, .int .i64 0, .slice none 0 0, .slice none 0 0, .slice none 0 0], .bool false]) (by simp [results, Try.results34, go_sem, t0, t1, t2, t3, t4]; try rfl) rfl ?_
  refine ⟨none, 0, none, 0, none, 0, by rw [HN.out, HC.out]; rfl, ?_, HBF.out⟩
  rw [HN.out]
  exact zeroOwn _ _ _
 ·have HN : Hid (newV f li = ⟨f, 0, [], li, []⟩) := by show _ = _; unfold newV; rw [hc]; rfl
  have HC : Hid (couB f li = true) := hc
  rw [hc] at q1
  clear hc
  go_enter Try.func34, Try.ntmps34
  go_wp2_with (first | (at_builtin; refine Lib.wpList_append_run _ rfl _ _ _ _ rfl _ _ rfl rfl _ _ (r1 _) ?_; clear r1) | fail)
  refine q1.mono ?_
  clear q1
  rintro x w5 ⟨rfl, hb⟩
  obtain ⟨⟨y0, y1, y2, y3, y4⟩, yf⟩ := HZ4.out.later hb
  obtain ⟨⟨x0, x1, x2, x3, x4⟩, _⟩ := HX4.out.later hb
  have HO5 : Hid (Own w5 (w.heap.size + 1) (.slice a3 ln c3) li) := HO4.out.later hb
  have HB5 : Hid (Below w.heap.size w w5) := HB4.out.trans (hb.mono HB4.out.size)
  have hZF := ((((((HZ4.out.later hb).set0 (.int .i64 f)).set1 (.int .i64 0)).set2 (.slice none 0 0)).set3 (.slice a3 ln c3)).set4 (.slice none 0 0))
  have hBF : Below w.heap.size w (((((w5.setCell ⟨w.heap.size, 0, none⟩ (.int .i64 f)).setCell ⟨w.heap.size, 1, none⟩ (.int .i64 0)).setCell ⟨w.heap.size, 2, none⟩ (.slice none 0 0)).setCell ⟨w.heap.size, 3, none⟩ (.slice a3 ln c3)).setCell ⟨w.heap.size, 4, none⟩ (.slice none 0 0)) := (((((HB5.out.setCell (by show w.heap.size ≤ w.heap.size; omega) _).setCell (by show w.heap.size ≤ w.heap.size; omega) _).setCell (by show w.heap.size ≤ w.heap.size; omega) _).setCell (by show w.heap.size ≤ w.heap.size; omega) _).setCell (by show w.heap.size ≤ w.heap.size; omega) _)
  have hOF := (((((HO5.out.setBox (r := w.heap.size) (j := 0) (by omega) (.int .i64 f)).setBox (r := w.heap.size) (j := 1) (by omega) (.int .i64 0)).setBox (r := w.heap.size) (j := 2) (by omega) (.slice none 0 0)).setBox (r := w.heap.size) (j := 3) (by omega) (.slice a3 ln c3)).setBox (r := w.heap.size) (j := 4) (by omega) (.slice none 0 0))
  have hszF : (((((w5.setCell ⟨w.heap.size, 0, none⟩ (.int .i64 f)).setCell ⟨w.heap.size, 1, none⟩ (.int .i64 0)).setCell ⟨w.heap.size, 2, none⟩ (.slice none 0 0)).setCell ⟨w.heap.size, 3, none⟩ (.slice a3 ln c3)).setCell ⟨w.heap.size, 4, none⟩ (.slice none 0 0)).heap.size = w5.heap.size := by simp
  have yf0 := yf 0
  have yf1 := yf 1
  have yf2 := yf 2
  have yf3 := yf 3
  have yf4 := yf 4
  obtain ⟨FW, hFW⟩ : ∃ F, (((((w5.setCell ⟨w.heap.size, 0, none⟩ (.int .i64 f)).setCell ⟨w.heap.size, 1, none⟩ (.int .i64 0)).setCell ⟨w.heap.size, 2, none⟩ (.slice none 0 0)).setCell ⟨w.heap.size, 3, none⟩ (.slice a3 ln c3)).setCell ⟨w.heap.size, 4, none⟩ (.slice none 0 0)) = F := ⟨_, rfl⟩
  rw [hFW] at hZF hBF hOF hszF
  obtain ⟨⟨t0, t1, t2, t3, t4⟩, _⟩ := hZF
  have HBF : Hid (Below w.heap.size w FW) := hBF
  have HOF : Hid (OwnBd FW w.heap.size FW.heap.size (.slice none 0 0) (.slice a3 ln c3) (.slice none 0 0) ⟨f, 0, [], li, []⟩) := newOwn (hOF.mono (by omega)) (fun k h => (World.ownsRow.lt hOF k h).2)
  clear hBF hOF yf hb HB5 HZ4 HB4 HX4 HO4 HO5
  go_wp2
  refine bodyPost_ret (v := .tuple #[.agg #[.int .i64 f, .int .i64 0, .slice none 0 0, .slice a3 ln c3, .slice none 0 0], .bool true]) (by simp [results, Try.results34, go_sem, t0, t1, t2, t3, t4]; try rfl) rfl ?_
  refine ⟨none, 0, a3, c3, none, 0, by rw [HN.out, HC.out]; simp only [List.length_nil, HL.out], ?_, HBF.out⟩
  rw [HN.out]
  simp only [List.length_nil, HL.out]
  exact HOF.out

end Go.Proofs.Ytaokmjbhgkfnfaa

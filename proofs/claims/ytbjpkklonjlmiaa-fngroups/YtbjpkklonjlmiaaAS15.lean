/- Chapter 15: AllSay, SayAt, TogetherSay of the program. -/
import Derived.Test.YtbjpkklonjlmiaaHB15
import Derived.Test.YtbjpkklonjlmiaaT15
namespace Go.Proofs.Ytbjpkklonjlmiaa
set_option linter.unusedVariables false
set_option maxRecDepth 1000000
set_option linter.unusedSimpArgs false
open Go.RowKit Go.Sort

/-- Whether AllSay answers. -/
def askB (t : TbV) (who word : Int) : Bool := goodTb t && (inB who (-1) (t.s - 1) && byB word)
/-- The words: that of who, else none. -/
def wordsL (t : TbV) (who word : Int) : List Int := if who = -1 then List.replicate t.s.toNat 0 else (List.replicate t.s.toNat 0).set who.toNat word
/-- What AllSay tells. -/
def allV (t : TbV) (who word : Int) : List Int := if askB t who word = true then sayL t (wordsL t who word) else []
theorem wordsL_length (t : TbV) (who word : Int) : (wordsL t who word).length = t.s.toNat := by unfold wordsL; split <;> simp
theorem wordsL_get {t : TbV} {who word : Int} (hw : -1 ≤ who) {i : Nat} (hi : i < t.s.toNat) : (wordsL t who word).getD i 0 = if (i : Int) = who then word else 0 := by
  have h0 : (List.replicate t.s.toNat (0 : Int)).getD i 0 = 0 := by simp [List.getD, hi]
  unfold wordsL
  split
  · rw [if_neg (by omega)]; exact h0
  · by_cases h : who.toNat < t.s.toNat
    · rw [getD_set9 _ _ _ _ (by simpa using h)]
      by_cases e : i = who.toNat
      · rw [if_pos e, if_pos (by omega)]
      · rw [if_neg e, if_neg (by omega)]; exact h0
    · rw [List.set_eq_of_length_le (by simpa using Nat.le_of_not_lt h), if_neg (by omega)]; exact h0
theorem allV_length {t : TbV} {who word : Int} (h : askB t who word = true) : (allV t who word).length = t.s.toNat := by unfold allV; rw [if_pos h, sayL_length]

/- PART TWO -/
/-- What a call that tells a list of ints and a bool tells. -/
def TellI (r : Ending) (w w' : World) (xs : List Int) (fb : Bool) : Prop := ∃ a' c', r = .returned (.tuple #[.slice a' xs.length c', .bool fb]) ∧ Own w' w.heap.size (.slice a' xs.length c') xs ∧ Below w.heap.size w w'
theorem tellI_none {w w' : World} (hb : Below w.heap.size w w') : TellI (.returned (.tuple #[.slice none 0 0, .bool false])) w w' [] false := ⟨none, 0, rfl, World.ownsRow_nil _ _ _ _, hb⟩

theorem inB_seat {s who : Int} : inB who (-1) (s - 1) = (decide (who = -1) || seatB s who) ∨ s < 0 := by
  by_cases h : s < 0
  · exact Or.inr h
  · left
    unfold inB seatB
    rw [Bool.eq_iff_iff]
    simp only [decide_eq_true_eq, Bool.or_eq_true]
    omega

set_option maxHeartbeats 8000000 in
theorem implAll_c (sa : Option Addr) (sn sc : Nat) (la : Option Addr) (ln lc : Nat) (t : TbV) (who word : Int) (w : World) (h : RdT w sa sn sc la ln lc t) :
    Calls Try.prog 6 #[.agg #[.int .i64 t.s, .slice sa sn sc, .slice la ln lc], .int .i64 who, .int .i64 word] w fun e w' => TellI e w w' (allV t who word) (askB t who word) := by
  have HX0 : Hid (X3 (w.alloc (.cells #[.int .i64 t.s, .slice sa sn sc, .slice la ln lc] 26)) w.heap.size (.int .i64 t.s) (.slice sa sn sc) (.slice la ln lc)) := x3_new w _ _ _ _ _ rfl
  have HB0 : Hid (Below w.heap.size w (w.alloc (.cells #[.int .i64 t.s, .slice sa sn sc, .slice la ln lc] 26))) := balloc w _
  have HR : Hid (∀ wx, Below w.heap.size w wx → RdT wx sa sn sc la ln lc t) := fun wx hb => h.later hb
  have HQG : Hid (∀ wx, Below w.heap.size w wx → Calls Try.prog 9 #[.agg #[.int .i64 t.s, .slice sa sn sc, .slice la ln lc]] wx fun e w' => e = .returned (.bool (goodTb t)) ∧ Below wx.heap.size wx w') := fun wx hb => implGoodTb_c sa sn sc la ln lc t wx (HR.out wx hb)
  have HQH : Hid (∀ wx, Calls Try.prog 34 #[.agg #[.int .i64 t.s, .slice sa sn sc, .slice la ln lc], .int .i64 who] wx fun e w' => e = .returned (.bool (seatB t.s who)) ∧ GrW wx w') := fun wx => hasSeat_c t.s sa sn sc la ln lc who wx
  have hin := inB_seat (s := t.s) (who := who)
  have HQS : Hid (∀ (n : Nat) (wx : World) (B : Nat) (p : Option Addr) (k : Nat), GoodT t → t.s = (n : Int) → Below w.heap.size w wx → inB who (-1) (t.s - 1) = true → byB word = true → Own wx B (.slice p n k) (wordsL t who word) → Calls Try.prog 36 #[.agg #[.int .i64 t.s, .slice sa sn sc, .slice la ln lc], .slice p n k] wx fun e w' => ∃ a' c', e = .returned (.slice a' n c') ∧ Own w' wx.heap.size (.slice a' n c') (sayL t (wordsL t who word)) ∧ Below wx.heap.size wx w') := fun n wx B p k hg hn hb hw hy ho => by
    have hl : (wordsL t who word).length = n := by rw [wordsL_length, hn]; simp
    refine hidden_c sa sn sc la ln lc t p n k (wordsL t who word) wx (HR.out wx hb) hg hl (by rw [hn]; simp) ho.rd'.2 ho.nil (fun j hj => ?_)
    rw [wordsL_get (by have := inB_iff.1 hw; omega) (by rw [hn]; simpa using hj)]
    split
    · exact hy
    · rfl
  unfold allV askB
  cases hgd : goodTb t
  · rw [Bool.false_and, if_neg (by simp)]
    obtain ⟨V, hV⟩ : ∃ V, w.alloc (.cells #[.int .i64 t.s, .slice sa sn sc, .slice la ln lc] 26) = V := ⟨_, rfl⟩
    rw [hV] at HX0 HB0
    have q := HQG.out V HB0.out
    rw [hgd] at q
    obtain ⟨⟨f0, f1, f2⟩, _⟩ := HX0.out
    generalize t.s = s at hV f0 q ⊢
    clear h hin hgd
    go_enter Try.func6, Try.ntmps6
    go_wp2_with fail
    refine q.mono ?_
    clear q f0 f1 f2 hV
    rintro e w1 ⟨rfl, hb⟩
    have HB1 : Hid (Below w.heap.size w w1) := HB0.out.trans (hb.mono HB0.out.size)
    clear hb
    go_wp2
    refine bodyPost_ret (v := .tuple #[.slice none 0 0, .bool false]) (by simp [results, Try.results6, go_sem]; try rfl) rfl ?_
    exact tellI_none HB1.out
  rw [Bool.true_and]
  have hg := goodTb_iff t hgd
  have HG : Hid (GoodT t) := hg
  have hin2 : inB who (-1) (t.s - 1) = (decide (who = -1) || seatB t.s who) := hin.resolve_right (by have := hg.s1; omega)
  obtain ⟨n, hn⟩ : ∃ n : Nat, t.s = (n : Int) := ⟨t.s.toNat, by have := hg.s1; omega⟩
  have hn1 : 1 ≤ n := by have := hg.s1; omega
  have hn6 : n ≤ 6 := by have := hg.s6; omega
  have HN : Hid (t.s = (n : Int)) := hn
  have HSL : Hid ((sayL t (wordsL t who word)).length = n) := by show _ = _; rw [sayL_length, hn]; simp
  have HWV : Hid (wordsL t who word = if who = -1 then List.replicate n 0 else (List.replicate n 0).set who.toNat word) := by show _ = _; unfold wordsL; rw [hn]; simp
  obtain ⟨V, hV⟩ : ∃ V, w.alloc (.cells #[.int .i64 t.s, .slice sa sn sc, .slice la ln lc] 26) = V := ⟨_, rfl⟩
  rw [hV] at HX0 HB0
  have q := HQG.out V HB0.out
  rw [hgd] at q
  obtain ⟨⟨f0, f1, f2⟩, _⟩ := HX0.out
  rw [hn] at hV f0 q ⊢
  clear hgd hin hg
  have HIN : Hid (inB who (-1) (t.s - 1) = (decide (who = -1) || seatB t.s who)) := hin2
  rw [hn] at hin2
  rw [hin2]
  have HQH2 : Hid (∀ wx, Calls Try.prog 34 #[.agg #[.int .i64 (n : Int), .slice sa sn sc, .slice la ln lc], .int .i64 who] wx fun e w' => e = .returned (.bool (seatB n who)) ∧ GrW wx w') := fun wx => by have := HQH.out wx; rw [hn] at this; exact this
  have HX1 : Hid (X3 V w.heap.size (.int .i64 (n : Int)) (.slice sa sn sc) (.slice la ln lc)) := by rw [← hn]; exact HX0.out
  clear hin2 h HQG
  by_cases hw1 : who = -1
  · have hwz : (who != -1) = false := by rw [hw1]; rfl
    rw [decide_eq_true hw1, Bool.true_or, Bool.true_and]
    have HIN2 : Hid (inB who (-1) (t.s - 1) = true) := by show _ = _; rw [HIN.out, decide_eq_true hw1]; rfl
    have HWV2 : Hid (wordsL t who word = List.replicate n 0) := by show _ = _; rw [HWV.out, if_pos hw1]
    clear hw1 hn
    cases hby : byB word
    · rw [if_neg (by simp)]
      go_enter Try.func6, Try.ntmps6
      go_wp2_with fail
      refine q.mono ?_
      clear q f0 f1 f2 hV
      rintro e w1 ⟨rfl, hb⟩
      have HB1 : Hid (Below w.heap.size w w1) := HB0.out.trans (hb.mono HB0.out.size)
      have HX2 : Hid (X3 w1 w.heap.size (.int .i64 (n : Int)) (.slice sa sn sc) (.slice la ln lc)) := HX1.out.later hb
      obtain ⟨⟨f0, f1, f2⟩, _⟩ := HX2.out
      clear hb HX1 HX0
      have q3 := isWord_c word w1
      rw [hby] at q3
      clear hby
      go_wp2_with fail
      refine q3.mono ?_
      clear q3
      rintro e w3 ⟨rfl, hw⟩
      have hw2 := hw.symm
      clear hw
      subst hw2
      go_wp2
      refine bodyPost_ret (v := .tuple #[.slice none 0 0, .bool false]) (by simp [results, Try.results6, go_sem]; try rfl) rfl ?_
      exact tellI_none HB1.out
    rw [if_pos rfl]
    have HBY : Hid (byB word = true) := hby
    obtain ⟨i0, hi, hz0, hz1, hz2⟩ := info_parts Try.infoInt
    go_enter Try.func6, Try.ntmps6
    go_wp2_with fail
    refine q.mono ?_
    clear q f0 f1 f2 hV
    rintro e w1 ⟨rfl, hb⟩
    have HB1 : Hid (Below w.heap.size w w1) := HB0.out.trans (hb.mono HB0.out.size)
    have HX2 : Hid (X3 w1 w.heap.size (.int .i64 (n : Int)) (.slice sa sn sc) (.slice la ln lc)) := HX1.out.later hb
    obtain ⟨⟨f0, f1, f2⟩, _⟩ := HX2.out
    clear hb HX1 HX0
    have q3 := isWord_c word w1
    rw [hby] at q3
    clear hby
    go_wp2_with fail
    refine q3.mono ?_
    clear q3
    rintro e w3 ⟨rfl, hw⟩
    have hw2 := hw.symm
    clear hw
    subst hw2
    go_wp2_with (
      at_make
      refine wpList_make_full _ rfl _ _ 24 rfl w1.heap.size 3 i0 (.int .i64 0) 1 Try.underlying24 hi hz0 hz1 _ _ _ _ n rfl rfl rfl rfl (by rw [hz2]; omega) (by unfold maxLen; omega) (Nat.le_refl _) ?_
      intro w4 hown0 hgrow0
      have hb4 : Below w1.heap.size w1 w4 := (Below.refl _ _).grown hgrow0 (Nat.le_refl _) (fun k h => by cases h)
      have HO : Hid (Own w4 w1.heap.size (.slice (some ⟨w1.heap.size, 0, none⟩) n n) (List.replicate n 0)) := by
        have e : (madeCells (Value.int .i64 0).cells (n * 1)).toList = cellsI (List.replicate n 0) := by
          rw [Nat.mul_one]
          exact (toList_madeCells_one _ _).trans (by simp [cellsI])
        show Own _ _ _ _
        unfold Own
        rw [List.length_replicate, ← e]; exact hown0
      have HB4 : Hid (Below w.heap.size w w4) := HB1.out.trans (hb4.mono HB1.out.size)
      have HX4 : Hid (X3 w4 w.heap.size (.int .i64 (n : Int)) (.slice sa sn sc) (.slice la ln lc)) := HX2.out.later hb4
      have hlt4 : w.heap.size < w1.heap.size := HX2.out.lt
      clear hown0 hgrow0 hb4 f0 f1 f2 HB1 HX2
      have HO5 : Hid (Own w4 w1.heap.size (.slice (some ⟨w1.heap.size, 0, none⟩) n n) (wordsL t who word)) := by show Own _ _ _ _; rw [HWV2.out]; exact HO.out
      obtain ⟨⟨f0, f1, f2⟩, _⟩ := HX4.out
      have q5 := HQS.out n w4 _ _ n HG.out HN.out HB4.out HIN2.out HBY.out HO5.out
      rw [HN.out] at q5)
    refine q5.mono ?_
    clear q5 f0 f1 f2
    rintro e w6 ⟨a', c', rfl, ho, hb⟩
    have HO6 : Hid (Own w6 w.heap.size (.slice a' n c') (sayL t (wordsL t who word))) := ho.mono HB4.out.size
    have HB6 : Hid (Below w.heap.size w w6) := HB4.out.trans (hb.mono HB4.out.size)
    clear ho hb
    go_wp2
    refine bodyPost_ret (v := .tuple #[.slice a' n c', .bool true]) (by simp [results, Try.results6, go_sem]; try rfl) rfl ?_
    exact ⟨a', c', by rw [HSL.out], by rw [HSL.out]; exact HO6.out, HB6.out⟩
  · have hwz : (who != -1) = true := by rw [bne_iff_ne]; exact hw1
    rw [decide_eq_false hw1, Bool.false_or]
    cases hse : seatB n who
    · rw [Bool.false_and, if_neg (by simp)]
      have q2 := fun wx => HQH2.out wx
      rw [hse] at q2
      clear hw1 hse hn
      go_enter Try.func6, Try.ntmps6
      go_wp2_with fail
      refine q.mono ?_
      clear q f0 f1 f2 hV
      rintro e w1 ⟨rfl, hb⟩
      have HB1 : Hid (Below w.heap.size w w1) := HB0.out.trans (hb.mono HB0.out.size)
      obtain ⟨⟨f0, f1, f2⟩, _⟩ := HX1.out.later hb
      clear hb
      go_wp2_with fail
      refine (q2 w1).mono ?_
      clear q2 f0 f1 f2
      rintro e w2 ⟨rfl, hgr⟩
      have HB2 : Hid (Below w.heap.size w w2) := HB1.out.trans (hgr.below.mono HB1.out.size)
      clear hgr
      go_wp2
      refine bodyPost_ret (v := .tuple #[.slice none 0 0, .bool false]) (by simp [results, Try.results6, go_sem]; try rfl) rfl ?_
      exact tellI_none HB2.out
    rw [Bool.true_and]
    have q2 := fun wx => HQH2.out wx
    rw [hse] at q2
    have hse2 : 0 ≤ who ∧ who < n := by unfold seatB at hse; exact of_decide_eq_true hse
    have HIN2 : Hid (inB who (-1) (t.s - 1) = true) := by show _ = _; rw [HIN.out, HN.out, hse]; simp
    have HWV2 : Hid (wordsL t who word = (List.replicate n 0).set who.toNat word) := by show _ = _; rw [HWV.out, if_neg hw1]
    clear hw1 hse hn
    cases hby : byB word
    · rw [if_neg (by simp)]
      go_enter Try.func6, Try.ntmps6
      go_wp2_with fail
      refine q.mono ?_
      clear q f0 f1 f2 hV
      rintro e w1 ⟨rfl, hb⟩
      have HB1 : Hid (Below w.heap.size w w1) := HB0.out.trans (hb.mono HB0.out.size)
      have HX2 : Hid (X3 w1 w.heap.size (.int .i64 (n : Int)) (.slice sa sn sc) (.slice la ln lc)) := HX1.out.later hb
      obtain ⟨⟨f0, f1, f2⟩, _⟩ := HX2.out
      clear hb HX1 HX0
      go_wp2_with fail
      refine (q2 w1).mono ?_
      clear q2 f0 f1 f2
      rintro e w2 ⟨rfl, hgr⟩
      have HB2 : Hid (Below w.heap.size w w2) := HB1.out.trans (hgr.below.mono HB1.out.size)
      have HX3 : Hid (X3 w2 w.heap.size (.int .i64 (n : Int)) (.slice sa sn sc) (.slice la ln lc)) := HX2.out.later hgr.below
      obtain ⟨⟨f0, f1, f2⟩, _⟩ := HX3.out
      clear hgr HB1 HX2
      have q3 := isWord_c word w2
      rw [hby] at q3
      clear hby
      go_wp2_with fail
      refine q3.mono ?_
      clear q3
      rintro e w3 ⟨rfl, hw⟩
      have hw2 := hw.symm
      clear hw
      subst hw2
      go_wp2
      refine bodyPost_ret (v := .tuple #[.slice none 0 0, .bool false]) (by simp [results, Try.results6, go_sem]; try rfl) rfl ?_
      exact tellI_none HB2.out
    rw [if_pos rfl]
    have HBY : Hid (byB word = true) := hby
    obtain ⟨i0, hi, hz0, hz1, hz2⟩ := info_parts Try.infoInt
    go_enter Try.func6, Try.ntmps6
    go_wp2_with fail
    refine q.mono ?_
    clear q f0 f1 f2 hV
    rintro e w1 ⟨rfl, hb⟩
    have HB1 : Hid (Below w.heap.size w w1) := HB0.out.trans (hb.mono HB0.out.size)
    have HX2 : Hid (X3 w1 w.heap.size (.int .i64 (n : Int)) (.slice sa sn sc) (.slice la ln lc)) := HX1.out.later hb
    obtain ⟨⟨f0, f1, f2⟩, _⟩ := HX2.out
    clear hb HX1 HX0
    go_wp2_with fail
    refine (q2 w1).mono ?_
    clear q2 f0 f1 f2
    rintro e w2 ⟨rfl, hgr⟩
    have HB2 : Hid (Below w.heap.size w w2) := HB1.out.trans (hgr.below.mono HB1.out.size)
    have HX3 : Hid (X3 w2 w.heap.size (.int .i64 (n : Int)) (.slice sa sn sc) (.slice la ln lc)) := HX2.out.later hgr.below
    obtain ⟨⟨f0, f1, f2⟩, _⟩ := HX3.out
    clear hgr HB1 HX2
    have q3 := isWord_c word w2
    rw [hby] at q3
    clear hby
    go_wp2_with fail
    refine q3.mono ?_
    clear q3
    rintro e w3 ⟨rfl, hw⟩
    have hw2 := hw.symm
    clear hw
    subst hw2
    go_wp2_with (
      at_make
      refine wpList_make_full _ rfl _ _ 24 rfl w2.heap.size 3 i0 (.int .i64 0) 1 Try.underlying24 hi hz0 hz1 _ _ _ _ n rfl rfl rfl rfl (by rw [hz2]; omega) (by unfold maxLen; omega) (Nat.le_refl _) ?_
      intro w4 hown0 hgrow0
      have hb4 : Below w2.heap.size w2 w4 := (Below.refl _ _).grown hgrow0 (Nat.le_refl _) (fun k h => by cases h)
      have HO : Hid (Own w4 w2.heap.size (.slice (some ⟨w2.heap.size, 0, none⟩) n n) (List.replicate n 0)) := by
        have e : (madeCells (Value.int .i64 0).cells (n * 1)).toList = cellsI (List.replicate n 0) := by
          rw [Nat.mul_one]
          exact (toList_madeCells_one _ _).trans (by simp [cellsI])
        show Own _ _ _ _
        unfold Own
        rw [List.length_replicate, ← e]; exact hown0
      have HB4 : Hid (Below w.heap.size w w4) := HB2.out.trans (hb4.mono HB2.out.size)
      have HX4 : Hid (X3 w4 w.heap.size (.int .i64 (n : Int)) (.slice sa sn sc) (.slice la ln lc)) := HX3.out.later hb4
      have hlt4 : w.heap.size < w2.heap.size := HX3.out.lt
      clear hown0 hgrow0 hb4 f0 f1 f2 HB2 HX3
      obtain ⟨k, rfl⟩ : ∃ k : Nat, who = (k : Int) := ⟨who.toNat, by omega⟩
      have hk : k < n := by omega
      have hk0 : (0 : Int) ≤ (k : Int) := by omega
      have hk1 : (k : Int) < (n : Int) := by omega
      have gs := Own.cell (g := w2.heap.size) (cap := n) (xs := List.replicate n 0) (by rw [List.length_replicate]; exact HO.out) k (by rw [List.length_replicate]; exact hk)
      have hfz := Own.free (g := w2.heap.size) (cap := n) (xs := List.replicate n 0) (by rw [List.length_replicate]; exact HO.out) k
      have hst := HO.out.set k word
      have HB5 : Hid (Below w.heap.size w (w4.setCell ⟨w2.heap.size, k, none⟩ (.int .i64 word))) := HB4.out.setCell (by show _ ≤ w2.heap.size; omega) _
      have HX5 : Hid (X3 (w4.setCell ⟨w2.heap.size, k, none⟩ (.int .i64 word)) w.heap.size (.int .i64 (n : Int)) (.slice sa sn sc) (.slice la ln lc)) := HX4.out.other (by omega)
      have HO5 : Hid (Own (w4.setCell ⟨w2.heap.size, k, none⟩ (.int .i64 word)) w2.heap.size (.slice (some ⟨w2.heap.size, 0, none⟩) n n) (wordsL t k word)) := by show Own _ _ _ _; rw [HWV2.out]; simpa using hst.1
      obtain ⟨W5, hW5⟩ : ∃ X, w4.setCell ⟨w2.heap.size, k, none⟩ (.int .i64 word) = X := ⟨_, rfl⟩
      rw [hW5] at HB5 HX5 HO5
      clear hst HO HX4 HB4 hse2
      obtain ⟨⟨f0, f1, f2⟩, _⟩ := HX5.out
      have q5 := HQS.out n W5 _ _ n HG.out HN.out HB5.out HIN2.out HBY.out HO5.out
      rw [HN.out] at q5)
    clear gs hfz hW5
    refine q5.mono ?_
    clear q5 f0 f1 f2
    rintro e w6 ⟨a', c', rfl, ho, hb⟩
    have HO6 : Hid (Own w6 w.heap.size (.slice a' n c') (sayL t (wordsL t k word))) := ho.mono HB5.out.size
    have HB6 : Hid (Below w.heap.size w w6) := HB5.out.trans (hb.mono HB5.out.size)
    clear ho hb
    go_wp2
    refine bodyPost_ret (v := .tuple #[.slice a' n c', .bool true]) (by simp [results, Try.results6, go_sem]; try rfl) rfl ?_
    exact ⟨a', c', by rw [HSL.out], by rw [HSL.out]; exact HO6.out, HB6.out⟩

end Go.Proofs.Ytbjpkklonjlmiaa

/- Chapter 8: the laws' helpers over mixes: compared, marked, held, copied, sized. -/
import Derived.Test.YtnppmgnfignbcaaV8
import Derived.Test.YtnppmgnfignbcaaQ8
namespace Go.Proofs.Ytnppmgnfignbcaa
set_option linter.unusedVariables false
set_option maxRecDepth 1000000
set_option linter.unusedSimpArgs false
open Go.RowKit

theorem szInt_c (ao : Option Addr) (n cap : Nat) (left : Int) (w : World) (hn : n ≤ 9223372036854775807) (h0 : -1 ≤ left) (h1 : left ≤ 1048576) :
    Calls Try.prog 91 #[.slice ao n cap, .int .i64 left] w fun e w' => e = .returned (.int .i64 (if left < (n : Int) then -1 else left - n)) ∧ w' = w := by
  by_cases h : left < (n : Int)
  · rw [if_pos h]
    have hlt : left - (n : Int) < 0 := by omega
    go_enter Try.func91, Try.ntmps91
    go_wp2
    go_ret
    exact ⟨rfl, rfl⟩
  · rw [if_neg h]
    have hge : ¬ left - (n : Int) < 0 := by omega
    go_enter Try.func91, Try.ntmps91
    go_wp2
    go_ret
    exact ⟨rfl, rfl⟩

set_option maxHeartbeats 1000000 in
theorem szMix_c (po so : Option Addr) (n c m d : Nat) (a b t : Int) (xs : List ByteArray) (w : World) (hx : xs.length = n) (hn : n ≤ 9223372036854775807) (hm : m ≤ 9223372036854775807) (hs : ∀ s ∈ xs, s.size ≤ 9223372036854775807) (hr : RdS w po xs) :
    Calls Try.prog 41 #[.agg #[.slice po n c, .int .i64 a, .int .i64 b, .int .i64 t, .slice so m d], .int .i64 1048576] w fun e w' => ∃ r : Int, e = .returned (.int .i64 r) ∧ r ≤ 1048576 ∧ (0 ≤ r → n ≤ 1048576 ∧ m ≤ 1048576) ∧ Below w.heap.size w w' := by
  have hC0 := c5_new w (.slice po n c) a b t (.slice so m d) 58 w.heap.size rfl
  have hB0 : Below w.heap.size w (w.alloc (.cells #[.slice po n c, .int .i64 a, .int .i64 b, .int .i64 t, .slice so m d] 58)) := balloc w _
  obtain ⟨W0, hW0⟩ : ∃ W0, w.alloc (.cells #[.slice po n c, .int .i64 a, .int .i64 b, .int .i64 t, .slice so m d] 58) = W0 := ⟨_, rfl⟩
  rw [hW0] at hC0 hB0
  have HB0 : Hid (Below w.heap.size w W0) := hB0
  have q1 := szStringS_c po n c 1048576 xs W0 hx hn (by omega) hs (hr.later hB0)
  obtain ⟨⟨c0, c1, c2, c3, c4⟩, f⟩ := hC0
  clear hr hs hx hB0 f
  go_enter Try.func41, Try.ntmps41
  go_wp2_with fail
  refine q1.mono ?_
  clear q1
  rintro e w' ⟨r, rfl, hw, hr1, hr2⟩
  subst w'
  by_cases hneg : r < 0
  · go_wp2
    go_ret
    exact ⟨-1, rfl, by omega, fun h => by omega, HB0.out⟩
  · have HR2 : Hid (n ≤ 1048576) := hr2 (by omega)
    have hnn : ¬ r < 0 := hneg
    have q2 := szInt_c so m d r W0 hm (by omega) (by omega)
    clear hr2
    by_cases hlt : r < (m : Int)
    · rw [if_pos hlt] at q2
      clear hlt
      go_wp2_with fail
      refine q2.mono ?_
      clear q2
      rintro e w' ⟨rfl, hw⟩
      subst w'
      go_wp2
      go_ret
      exact ⟨-1, rfl, by omega, fun h => by omega, HB0.out⟩
    · rw [if_neg hlt] at q2
      have hge : ¬ r - (m : Int) < 0 := by omega
      have HM : Hid (m ≤ 1048576) := by show _ ≤ _; omega
      obtain ⟨z, hz⟩ : ∃ z, r - (m : Int) = z := ⟨_, rfl⟩
      rw [hz] at q2 hge
      have hz1 : z ≤ 1048576 := by omega
      clear hlt hz
      go_wp2_with fail
      refine q2.mono ?_
      clear q2
      rintro e w' ⟨rfl, hw⟩
      subst w'
      go_wp2
      go_ret
      exact ⟨z, rfl, hz1, fun _ => ⟨HR2.out, HM.out⟩, HB0.out⟩

set_option maxHeartbeats 1000000 in
theorem eqMix_c (po so po' so' : Option Addr) (n c m d c' d' : Nat) (a b t : Int) (xs : List ByteArray) (ys : List Int) (w : World) (hx : xs.length = n) (hy : ys.length = m) (hn : n ≤ 17592186044416) (hm : m ≤ 17592186044416) (hr : RdS w po xs) (hs : Rd w so ys) (hr' : RdS w po' xs) (hs' : Rd w so' ys) :
    Calls Try.prog 38 #[.agg #[.slice po n c, .int .i64 a, .int .i64 b, .int .i64 t, .slice so m d], .agg #[.slice po' n c', .int .i64 a, .int .i64 b, .int .i64 t, .slice so' m d']] w fun e w' => e = .returned (.bool true) ∧ Below w.heap.size w w' := by
  have hC0 := (c5_new w (.slice po n c) a b t (.slice so m d) 41 w.heap.size rfl).later (balloc _ (.cells #[.slice po' n c', .int .i64 a, .int .i64 b, .int .i64 t, .slice so' m d'] 41))
  have hD0 := c5_new (w.alloc (.cells #[.slice po n c, .int .i64 a, .int .i64 b, .int .i64 t, .slice so m d] 41)) (.slice po' n c') a b t (.slice so' m d') 41 (w.heap.size + 1) (by simp)
  have hB0 : Below w.heap.size w ((w.alloc (.cells #[.slice po n c, .int .i64 a, .int .i64 b, .int .i64 t, .slice so m d] 41)).alloc (.cells #[.slice po' n c', .int .i64 a, .int .i64 b, .int .i64 t, .slice so' m d'] 41)) := (balloc w _).trans ((balloc _ _).mono (by simp))
  obtain ⟨W0, hW0⟩ : ∃ W0, (w.alloc (.cells #[.slice po n c, .int .i64 a, .int .i64 b, .int .i64 t, .slice so m d] 41)).alloc (.cells #[.slice po' n c', .int .i64 a, .int .i64 b, .int .i64 t, .slice so' m d'] 41) = W0 := ⟨_, rfl⟩
  rw [hW0] at hC0 hD0 hB0
  have HB0 : Hid (Below w.heap.size w W0) := hB0
  have HC0 : Hid (C5 W0 w.heap.size (.slice po n c) a b t (.slice so m d)) := hC0
  have HD0 : Hid (C5 W0 (w.heap.size + 1) (.slice po' n c') a b t (.slice so' m d')) := hD0
  have q1 := eqStringS_c po po' n n c c' xs xs W0 hx hx hn hn (hr.later hB0) (hr'.later hB0)
  rw [decide_eq_true rfl] at q1
  have HQ : Hid (∀ wx, Below w.heap.size w wx → Calls Try.prog 88 #[.slice so m d, .slice so' m d'] wx fun e w' => e = .returned (.bool true) ∧ Below wx.heap.size wx w') := fun wx h => by
    have q := eqIntS_c so so' m m d d' ys ys wx hy hy hm hm (hs.later h) (hs'.later h)
    rw [decide_eq_true rfl] at q; exact q
  have na : (a != a) = false := by simp
  have nb : (b != b) = false := by simp
  have nt : (t != t) = false := by simp
  obtain ⟨⟨c0, c1, c2, c3, c4⟩, f⟩ := hC0
  obtain ⟨⟨e0, e1, e2, e3, e4⟩, ef⟩ := hD0
  clear hr hs hr' hs' hx hy hB0 f ef
  go_enter Try.func38, Try.ntmps38
  go_wp2_with fail
  refine q1.mono ?_
  clear q1
  rintro e w1 ⟨rfl, hb1⟩
  have HB1 : Hid (Below w.heap.size w w1) := HB0.out.trans (hb1.mono HB0.out.size)
  have hC1 := HC0.out.later hb1
  have hD1 := HD0.out.later hb1
  clear hb1 c0 c1 c2 c3 c4 e0 e1 e2 e3 e4 hW0 HC0 HD0 HB0
  obtain ⟨⟨c0, c1, c2, c3, c4⟩, f⟩ := hC1
  obtain ⟨⟨e0, e1, e2, e3, e4⟩, ef⟩ := hD1
  clear f ef
  go_wp2_with fail
  refine (HQ.out _ HB1.out).mono ?_
  clear HQ
  rintro e w2 ⟨rfl, hb2⟩
  have HB2 : Hid (Below w.heap.size w w2) := HB1.out.trans (hb2.mono HB1.out.size)
  clear hb2 c0 c1 c2 c3 c4 e0 e1 e2 e3 e4
  go_wp2
  go_ret
  exact ⟨rfl, HB2.out⟩

set_option maxHeartbeats 1000000 in
theorem heldMix_c (po so : Option Addr) (n c m d B : Nat) (a b t : Int) (w : World) (hn : n ≤ 1048576) (hm : m ≤ 1048576) (hO : OwnS w B (.slice po n c) (marksS 1 n)) (hP : Own w B (.slice so m d) (marks (1 + n) m)) :
    Calls Try.prog 40 #[.agg #[.slice po n c, .int .i64 a, .int .i64 b, .int .i64 t, .slice so m d], .int .i64 1] w fun e w' => e = .returned (.int .i64 (1 + n + m)) ∧ Below w.heap.size w w' := by
  have hC0 := c5_new w (.slice po n c) a b t (.slice so m d) 41 w.heap.size rfl
  have hB0 : Below w.heap.size w (w.alloc (.cells #[.slice po n c, .int .i64 a, .int .i64 b, .int .i64 t, .slice so m d] 41)) := balloc w _
  have hO0 := hO.later (balloc w (.cells #[.slice po n c, .int .i64 a, .int .i64 b, .int .i64 t, .slice so m d] 41))
  have hP0 := hP.later (balloc w (.cells #[.slice po n c, .int .i64 a, .int .i64 b, .int .i64 t, .slice so m d] 41))
  obtain ⟨W0, hW0⟩ : ∃ W0, w.alloc (.cells #[.slice po n c, .int .i64 a, .int .i64 b, .int .i64 t, .slice so m d] 41) = W0 := ⟨_, rfl⟩
  rw [hW0] at hC0 hB0 hO0 hP0
  have HB0 : Hid (Below w.heap.size w W0) := hB0
  have HC0 : Hid (C5 W0 w.heap.size (.slice po n c) a b t (.slice so m d)) := hC0
  have HP0 : Hid (Own W0 B (.slice so m d) (marks (1 + n) m)) := hP0
  have q1 := heldStringS_c po n c 1 B W0 (by omega) (by omega) (by omega) hO0
  have hk : ¬ (1 : Int) + (n : Int) < 0 := by omega
  have hk2 : ¬ (1 : Int) + (n : Int) + (m : Int) < 0 := by omega
  obtain ⟨⟨c0, c1, c2, c3, c4⟩, f⟩ := hC0
  clear hO hP hO0 hP0 hB0 f
  go_enter Try.func40, Try.ntmps40
  go_wp2_with fail
  refine q1.mono ?_
  clear q1
  rintro e w1 ⟨rfl, hb1⟩
  have HB1 : Hid (Below w.heap.size w w1) := HB0.out.trans (hb1.mono HB0.out.size)
  have hC1 := HC0.out.later hb1
  have q2 := heldIntS_c so m d (1 + n) B w1 (by omega) (by omega) (by omega) (HP0.out.later hb1)
  clear hb1 c0 c1 c2 c3 c4 hW0 HC0 HB0 HP0
  obtain ⟨⟨c0, c1, c2, c3, c4⟩, f⟩ := hC1
  clear f
  go_wp2_with fail
  refine q2.mono ?_
  clear q2
  rintro e w' ⟨rfl, hw⟩
  subst w'
  clear c0 c1 c2 c3 c4
  go_wp2
  go_ret
  exact ⟨rfl, HB1.out⟩

/-- Nothing but two rows has turned. -/
def Grown2 (w w' : World) (u v : Option Nat) : Prop := ∃ W, w.grownBy W u ∧ W.grownBy w' v

set_option maxHeartbeats 1000000 in
theorem markMix_c (po so : Option Addr) (n c m d B : Nat) (a b t : Int) (xs : List ByteArray) (ys : List Int) (w : World) (hn : n ≤ 1048576) (hm : m ≤ 1048576) (hB : B ≤ w.heap.size) (hO : OwnS w B (.slice po n c) xs) (hP : Own w B (.slice so m d) ys) :
    Calls Try.prog 39 #[.agg #[.slice po n c, .int .i64 a, .int .i64 b, .int .i64 t, .slice so m d], .int .i64 1] w fun e w' => e = .returned (.int .i64 (1 + n + m)) ∧ OwnS w' B (.slice po n c) (marksS 1 n) ∧ Own w' B (.slice so m d) (marks (1 + n) m) ∧ ∃ W1 W2, Below w.heap.size w W1 ∧ W1.grownBy W2 (Value.slice po n c).ownBlock ∧ W2.grownBy w' (Value.slice so m d).ownBlock := by
  have hC0 := c5_new w (.slice po n c) a b t (.slice so m d) 41 w.heap.size rfl
  have hB0 : Below w.heap.size w (w.alloc (.cells #[.slice po n c, .int .i64 a, .int .i64 b, .int .i64 t, .slice so m d] 41)) := balloc w _
  have hO0 := hO.later (balloc w (.cells #[.slice po n c, .int .i64 a, .int .i64 b, .int .i64 t, .slice so m d] 41))
  have hP0 := hP.later (balloc w (.cells #[.slice po n c, .int .i64 a, .int .i64 b, .int .i64 t, .slice so m d] 41))
  have hOl : ∀ k, (Value.slice po n c).ownBlock = some k → k < w.heap.size := fun k e => (World.ownsRow.lt hO k e).2
  obtain ⟨W0, hW0⟩ : ∃ W0, w.alloc (.cells #[.slice po n c, .int .i64 a, .int .i64 b, .int .i64 t, .slice so m d] 41) = W0 := ⟨_, rfl⟩
  rw [hW0] at hC0 hB0 hO0 hP0
  have HB0 : Hid (Below w.heap.size w W0) := hB0
  have HC0 : Hid (C5 W0 w.heap.size (.slice po n c) a b t (.slice so m d)) := hC0
  have HP0 : Hid (Own W0 B (.slice so m d) ys) := hP0
  have HO0 : Hid (OwnS W0 B (.slice po n c) xs) := hO0
  have HOl : Hid (∀ k, (Value.slice po n c).ownBlock = some k → k < w.heap.size) := hOl
  have q1 := markStringS_c po n c 1 B xs W0 (by omega) (by omega) (by omega) hO0
  obtain ⟨⟨c0, c1, c2, c3, c4⟩, f⟩ := hC0
  clear hO hP hO0 hP0 hB0 f hOl
  go_enter Try.func39, Try.ntmps39
  go_wp2_with fail
  refine q1.mono ?_
  clear q1
  rintro e w1 ⟨rfl, ho1, hg1⟩
  have hC1 := HC0.out.grown hg1 (fun e => by have := HOl.out _ e.symm; omega)
  have hP1 := HP0.out.kept hg1 (sep_types HP0.out HO0.out)
  have HO1 : Hid (OwnS w1 B (.slice po n c) (marksS 1 n)) := ho1
  have HG1 : Hid (W0.grownBy w1 (Value.slice po n c).ownBlock) := hg1
  have HP1 : Hid (Own w1 B (.slice so m d) ys) := hP1
  have q2 := markIntS_c so m d (1 + n) B ys w1 (by omega) (by omega) (by omega) hP1
  clear ho1 hg1 hP1 c0 c1 c2 c3 c4 hW0 HC0 HP0
  obtain ⟨⟨c0, c1, c2, c3, c4⟩, f⟩ := hC1
  clear f
  go_wp2_with fail
  refine q2.mono ?_
  clear q2
  rintro e w2 ⟨rfl, ho2, hg2⟩
  have HO2 : Hid (OwnS w2 B (.slice po n c) (marksS 1 n)) := HO1.out.kept hg2 (sep_types' HP1.out HO1.out)
  have HP2 : Hid (Own w2 B (.slice so m d) (marks (1 + n) m)) := ho2
  have HG2 : Hid (w1.grownBy w2 (Value.slice so m d).ownBlock) := hg2
  clear ho2 hg2 c0 c1 c2 c3 c4
  go_wp2
  go_ret
  exact ⟨rfl, HO2.out, HP2.out, W0, w1, HB0.out, HG1.out, HG2.out⟩

/-- Three boxes: an argument's, a result's and a variable's. -/
theorem three_boxes (w : World) (p : Value) (a b o : Int) (s : Value) : ∃ W, ((w.alloc (.cells #[p, .int .i64 a, .int .i64 b, .int .i64 o, s] 58)).alloc (.cells #[.slice none 0 0, .int .i64 0, .int .i64 0, .int .i64 0, .slice none 0 0] 41)).alloc (.cells #[.slice none 0 0, .int .i64 0, .int .i64 0, .int .i64 0, .slice none 0 0] 41) = W ∧ C5 W w.heap.size p a b o s ∧ C5 W (w.heap.size + 1) (.slice none 0 0) 0 0 0 (.slice none 0 0) ∧ C5 W (w.heap.size + 2) (.slice none 0 0) 0 0 0 (.slice none 0 0) ∧ Below w.heap.size w W ∧ W.heap.size = w.heap.size + 3 :=
  ⟨_, rfl, ((c5_new w p a b o s _ _ rfl).later (balloc _ _)).later (balloc _ _), (c5_new _ _ _ _ _ _ _ _ (by simp)).later (balloc _ _), c5_new _ _ _ _ _ _ _ _ (by simp), (balloc w _).trans (((balloc _ _).mono (by simp)).trans ((balloc _ _).mono (by simp; omega))), by simp⟩

set_option maxHeartbeats 2000000 in
theorem toMix_c (po so : Option Addr) (n c m d : Nat) (a b t : Int) (xs : List ByteArray) (ys : List Int) (w : World) (hx : xs.length = n) (hy : ys.length = m) (hn : n ≤ 1048576) (hm : m ≤ 1048576) (hr : RdS w po xs) (hs : Rd w so ys) :
    Calls Try.prog 42 #[.agg #[.slice po n c, .int .i64 a, .int .i64 b, .int .i64 t, .slice so m d]] w fun e w' => ∃ p' c' s' d', e = .returned (.agg #[.slice p' n c', .int .i64 a, .int .i64 b, .int .i64 t, .slice s' m d']) ∧ OwnS w' w.heap.size (.slice p' n c') xs ∧ Own w' w.heap.size (.slice s' m d') ys ∧ Below w.heap.size w w' := by
  obtain ⟨W0, hW0, hC0, hD0, hE0, hB0, hS0⟩ := three_boxes w (.slice po n c) a b t (.slice so m d)
  have HC0 : Hid (C5 W0 w.heap.size (.slice po n c) a b t (.slice so m d)) := hC0
  have HD0 : Hid (C5 W0 (w.heap.size + 1) (.slice none 0 0) 0 0 0 (.slice none 0 0)) := hD0
  have HE0 : Hid (C5 W0 (w.heap.size + 2) (.slice none 0 0) 0 0 0 (.slice none 0 0)) := hE0
  have HB0 : Hid (Below w.heap.size w W0) := hB0
  have HS0 : Hid (W0.heap.size = w.heap.size + 3) := hS0
  have q1 := toStringS_c po n c xs W0 hx (by omega) (hr.later hB0)
  have HQ2 : Hid (∀ wx, Below w.heap.size w wx → Calls Try.prog 92 #[.slice so m d] wx fun e w' => ∃ a' c', e = .returned (.slice a' m c') ∧ Own w' wx.heap.size (.slice a' m c') ys ∧ Below wx.heap.size wx w') := fun wx h => toIntS_c so m d ys wx hy (by omega) (hs.later h)
  obtain ⟨⟨c0, c1, c2, c3, c4⟩, f⟩ := hC0
  clear hr hs hD0 hE0 hB0 hS0 f hx hy
  go_enter Try.func42, Try.ntmps42
  go_wp2_with fail
  refine q1.mono ?_
  clear q1
  rintro e w1 ⟨p1, k1, rfl, ho1, hb1⟩
  have hC1 := HC0.out.later hb1
  have hE1 := HE0.out.later hb1
  have HD1 : Hid (C5 w1 (w.heap.size + 1) (.slice none 0 0) 0 0 0 (.slice none 0 0)) := HD0.out.later hb1
  have HE1 : Hid (C5 w1 (w.heap.size + 2) (.slice none 0 0) 0 0 0 (.slice none 0 0)) := hE1
  have HC1 : Hid (C5 w1 w.heap.size (.slice po n c) a b t (.slice so m d)) := hC1
  have HZ1 : Hid (w.heap.size + 3 ≤ w1.heap.size) := by show _ ≤ _; have := HS0.out; have := hb1.size; omega
  have HB1 : Hid (Below w.heap.size w w1) := HB0.out.trans (hb1.mono HB0.out.size)
  have HO1 : Hid (OwnS w1 (w.heap.size + 3) (.slice p1 n k1) xs) := by have h := ho1; rw [HS0.out] at h; exact h
  clear ho1 hb1 c0 c1 c2 c3 c4 hW0 HC0 HD0 HE0 HB0
  obtain ⟨⟨c0, c1, c2, c3, c4⟩, f⟩ := hC1
  clear f
  obtain ⟨⟨e0, e1, e2, e3, e4⟩, ef⟩ := hE1
  have ef0 := ef 0; have ef1 := ef 1; have ef2 := ef 2; have ef3 := ef 3
  clear ef
  -- behind four stores
  have hg1 := grown_trans (grown_trans (grown_trans (grown_setCell w1 (w.heap.size + 2) 0 (.slice p1 n k1)) (grown_setCell _ (w.heap.size + 2) 1 (.int .i64 a))) (grown_setCell _ (w.heap.size + 2) 2 (.int .i64 b))) (grown_setCell _ (w.heap.size + 2) 3 (.int .i64 t))
  have hE5 : C5 ((((w1.setCell ⟨w.heap.size + 2, 0, none⟩ (.slice p1 n k1)).setCell ⟨w.heap.size + 2, 1, none⟩ (.int .i64 a)).setCell ⟨w.heap.size + 2, 2, none⟩ (.int .i64 b)).setCell ⟨w.heap.size + 2, 3, none⟩ (.int .i64 t)) (w.heap.size + 2) (.slice p1 n k1) a b t (.slice none 0 0) := by
    refine ⟨⟨?_, ?_, ?_, ?_, ?_⟩, fun j => by simp only [World.frozen?_setCell]; exact HE1.out.2 j⟩
    · rw [World.cell?_setCell_other _ _ _ _ (by simp), World.cell?_setCell_other _ _ _ _ (by simp), World.cell?_setCell_other _ _ _ _ (by simp)]
      exact World.cell?_setCell_same _ _ _ e0
    · rw [World.cell?_setCell_other _ _ _ _ (by simp), World.cell?_setCell_other _ _ _ _ (by simp)]
      exact World.cell?_setCell_same _ _ _ (by rw [World.cell?_setCell_other _ _ _ _ (by simp)]; exact e1)
    · rw [World.cell?_setCell_other _ _ _ _ (by simp)]
      exact World.cell?_setCell_same _ _ _ (by rw [World.cell?_setCell_other _ _ _ _ (by simp), World.cell?_setCell_other _ _ _ _ (by simp)]; exact e2)
    · exact World.cell?_setCell_same _ _ _ (by rw [World.cell?_setCell_other _ _ _ _ (by simp), World.cell?_setCell_other _ _ _ _ (by simp), World.cell?_setCell_other _ _ _ _ (by simp)]; exact e3)
    · rw [World.cell?_setCell_other _ _ _ _ (by simp), World.cell?_setCell_other _ _ _ _ (by simp), World.cell?_setCell_other _ _ _ _ (by simp), World.cell?_setCell_other _ _ _ _ (by simp)]
      exact e4
  have HC5 := HC1.out.grown hg1 (by simp)
  have HD5 := HD1.out.grown hg1 (by simp)
  have HO5 := HO1.out.kept hg1 (Or.inr fun e => by have := own_block_geS HO1.out _ e; omega)
  have HB5 := HB1.out.trans (below_grown hg1 (by omega) HB1.out.size)
  obtain ⟨U, hU⟩ : ∃ U, (((w1.setCell ⟨w.heap.size + 2, 0, none⟩ (.slice p1 n k1)).setCell ⟨w.heap.size + 2, 1, none⟩ (.int .i64 a)).setCell ⟨w.heap.size + 2, 2, none⟩ (.int .i64 b)).setCell ⟨w.heap.size + 2, 3, none⟩ (.int .i64 t) = U := ⟨_, rfl⟩
  have hUs := hg1.size
  rw [hU] at hE5 HC5 HD5 HO5 HB5 hUs
  have HE5 : Hid (C5 U (w.heap.size + 2) (.slice p1 n k1) a b t (.slice none 0 0)) := hE5
  have HCU : Hid (C5 U w.heap.size (.slice po n c) a b t (.slice so m d)) := HC5
  have HDU : Hid (C5 U (w.heap.size + 1) (.slice none 0 0) 0 0 0 (.slice none 0 0)) := HD5
  have HOU : Hid (OwnS U (w.heap.size + 3) (.slice p1 n k1) xs) := HO5
  have HBU : Hid (Below w.heap.size w U) := HB5
  have HZU : Hid (w.heap.size + 3 ≤ U.heap.size) := Nat.le_trans HZ1.out hUs
  have q2 := HQ2.out _ HB5
  obtain ⟨⟨_, _, _, _, u4⟩, uf⟩ := HC5
  clear HC1 HD1 HE1 HO1 HB1 hE5 HD5 HO5 HB5 hUs hg1 HQ2 uf
  go_wp2_with fail
  refine q2.mono ?_
  clear q2
  rintro e w3 ⟨s3, d3, rfl, ho3, hb3⟩
  have hE6 := HE5.out.later hb3
  have HD6 : Hid (C5 w3 (w.heap.size + 1) (.slice none 0 0) 0 0 0 (.slice none 0 0)) := HDU.out.later hb3
  have HO6 : Hid (OwnS w3 (w.heap.size + 3) (.slice p1 n k1) xs) := HOU.out.later hb3
  have HP6 : Hid (Own w3 (w.heap.size + 3) (.slice s3 m d3) ys) := ho3.mono HZU.out
  have HB6 : Hid (Below w.heap.size w w3) := HBU.out.trans (hb3.mono HBU.out.size)
  have HE6 : Hid (C5 w3 (w.heap.size + 2) (.slice p1 n k1) a b t (.slice none 0 0)) := hE6
  clear ho3 hb3 HE5 HCU HDU HOU HBU HZU hU c0 c1 c2 c3 c4 e0 e1 e2 e3 e4 ef0 ef1 ef2 ef3 u4
  have hE7 := HE6.out.set4 (.slice s3 m d3)
  have hD7 := HD6.out.setOther (g := w.heap.size + 2) (k := 4) (by omega) (.slice s3 m d3)
  have hO7 := HO6.out.setBox (r := w.heap.size + 2) (k := 4) (by omega) (.slice s3 m d3)
  have hP7 := HP6.out.setBox (r := w.heap.size + 2) (k := 4) (by omega) (.slice s3 m d3)
  have hB7 := HB6.out.setCell (p := ⟨w.heap.size + 2, 4, none⟩) (by show w.heap.size ≤ w.heap.size + 2; omega) (.slice s3 m d3)
  obtain ⟨⟨_, _, _, _, x4⟩, xf⟩ := hE6
  have xf4 := xf 4
  obtain ⟨U2, hU2⟩ : ∃ U2, w3.setCell ⟨w.heap.size + 2, 4, none⟩ (.slice s3 m d3) = U2 := ⟨_, rfl⟩
  rw [hU2] at hE7 hD7 hO7 hP7 hB7
  have HO7 : Hid (OwnS U2 (w.heap.size + 3) (.slice p1 n k1) xs) := hO7
  have HP7 : Hid (Own U2 (w.heap.size + 3) (.slice s3 m d3) ys) := hP7
  have HB7 : Hid (Below w.heap.size w U2) := hB7
  obtain ⟨⟨c0, c1, c2, c3, c4⟩, f⟩ := hE7
  obtain ⟨⟨e0, e1, e2, e3, e4⟩, ef⟩ := hD7
  have ef0 := ef 0; have ef1 := ef 1; have ef2 := ef 2; have ef3 := ef 3; have ef4 := ef 4
  clear f ef xf hO7 hP7 hB7
  go_wp2
  refine bodyPost_ret (v := .agg #[.slice p1 n k1, .int .i64 a, .int .i64 b, .int .i64 t, .slice s3 m d3]) (by simp [results, Try.results42, go_sem, e0, e1, e2, e3, e4]; try rfl) rfl ?_
  exact ⟨p1, k1, s3, d3, rfl, (HO7.out.putBox (r := w.heap.size + 1) (by omega) _ _ _ _ _).mono (by omega), (HP7.out.putBox (r := w.heap.size + 1) (by omega) _ _ _ _ _).mono (by omega), HB7.out.trans (below_grown (put5_grown _ _ _ _ _ _ _) (by omega) HB7.out.size)⟩

end Go.Proofs.Ytnppmgnfignbcaa

/- Chapter 16: the law that joined windows have what either has seen. -/
import Derived.Test.YtjpegbodhpnflaaDoorDX16
import Derived.Test.YtjpegbodhpnflaaDoorHA16
import Derived.Test.YtjpegbodhpnflaaDoorP16B
import Derived.Test.YtjpegbodhpnflaaDoorLT16
namespace Go.Proofs.YtjpegbodhpnflaaDoor
set_option linter.unusedVariables false
set_option maxRecDepth 1000000
set_option linter.unusedSimpArgs false
open Go.RowKit

theorem own_emptyJ (w : World) : Own (w.alloc (.cells #[] 3)) w.heap.size (.slice (some ⟨w.heap.size, 0, none⟩) 0 0) [] := by
  have := World.ownsRow_lit (base := w.heap.size) (e := 3) (size := 1) w #[] 0 (Nat.le_refl _) (by unfold maxLen; omega) (by simp)
  unfold Own
  simpa [cellsI] using this

set_option maxHeartbeats 8000000 in
theorem lawFnJoined_c (ao : Option Addr) (n c : Nat) (bo : Option Addr) (m d : Nat) (w : World) (hn : n ≤ 9223372036854775807) (h1 : CodeOk w w.heap.size ao n) (hm : m ≤ 9223372036854775807) (h2 : CodeOk w w.heap.size bo m) (ht : Tb w) :
    Calls Tryd.prog 4 #[.slice ao n c, .slice bo m d] w fun e w' => e = .returned (.bool true) ∧ Below w.heap.size w w' := by
  by_cases hl : 1048576 < wrap64 ((n : Int) + (m : Int))
  · clear h1 h2 ht
    go_enter Tryd.func4, Tryd.ntmps4
    go_wp2
    go_ret
    exact ⟨rfl, Below.refl _ _⟩
  have HN : Hid (CodeOk w w.heap.size ao n) := h1
  have HM : Hid (CodeOk w w.heap.size bo m) := h2
  have HT0 : Hid (Tb w) := ht
  clear h1 h2 ht
  have B_0 : Hid (Below w.heap.size w w) := Below.refl _ _
  go_enter Tryd.func4, Tryd.ntmps4
  go_wp2_with fail
  refine (drawJoin_c ao n c _ hn HN.out).mono ?_
  rintro e w1 ⟨t, x, u, y, rfl, htb, hxb, hub, hyb, hb⟩
  have z0 : w.heap.size ≤ w1.heap.size := hb.size
  have B_1 : Hid (Below w.heap.size w w1) := B_0.out.trans (hb.mono B_0.out.size)
  clear B_0 hb
  have hjt := fun h => join_told (t := t) (x := x) (u := u) (y := y) h
  have hQ64 : -9223372036854775808 ≤ (joinT t x u y).2 ∧ (joinT t x u y).2 ≤ 9223372036854775807 := by
    cases h9 : joinOk t x u y
    · unfold joinT; rw [if_neg (by rw [h9]; decide)]; decide
    · have h8 := (goodWn_of (join_told h9).1)
      have := h8.2.2.2.1
      omega
  obtain ⟨P, hP⟩ : ∃ P, (joinT t x u y).1 = P := ⟨_, rfl⟩
  obtain ⟨Q, hQ⟩ : ∃ Q, (joinT t x u y).2 = Q := ⟨_, rfl⟩
  have hPQ : joinT t x u y = (P, Q) := by rw [← hP, ← hQ]
  rw [hQ] at hQ64
  rw [hPQ] at hjt
  cases hok : joinOk t x u y
  · have QJI : Hid (∀ wx, Below w.heap.size w wx → Calls Tryd.prog 23 #[.agg #[.int .i64 t, .int .i64 x], .agg #[.int .i64 u, .int .i64 y]] wx fun e w' => e = .returned (.tuple #[.agg #[.int .i64 P, .int .i64 Q], .bool false]) ∧ Below wx.heap.size wx w') := fun wx h => by
      have q := implJoin_c t x u y wx (HT0.out.later h) (by omega) (by omega)
      rw [hPQ, hok] at q
      exact q
    have QJS : Hid (∀ wx, Calls Tryd.prog 24 #[.agg #[.int .i64 t, .int .i64 x], .agg #[.int .i64 u, .int .i64 y]] wx fun e w' => e = .returned (.tuple #[.agg #[.int .i64 P, .int .i64 Q], .bool false]) ∧ Below wx.heap.size wx w') := fun wx => by
      have q := specJoin_c t x u y wx (by omega) (by omega) (by omega) (by omega)
      rw [hPQ, hok] at q
      exact q
    clear hjt hok hP hQ hPQ
    have heq := fun wx => run_neq_win P Q wx
    obtain ⟨w2, hA1⟩ : ∃ X, (w1.alloc (.cells #[.int .i64 t, .int .i64 x] 26)).alloc (.cells #[.int .i64 u, .int .i64 y] 26) = X := ⟨_, rfl⟩
    have hb : Below w1.heap.size w1 w2 := by rw [← hA1]; exact (balloc w1 _).alloc (by simp) _
    have B_2 : Hid (Below w.heap.size w w2) := B_1.out.trans (hb.mono B_1.out.size)
    have z1 : w1.heap.size ≤ w2.heap.size := hb.size
    clear B_1
    have X5_2 : Hid (Bx w2 w1.heap.size t x) := by rw [← hA1]; exact (bx_new w1 t x 26).later (balloc _ _)
    have X6_2 : Hid (Bx w2 (w1.heap.size + 1) u y) := by
      have h9 := bx_new (w1.alloc (.cells #[.int .i64 t, .int .i64 x] 26)) u y 26
      rw [show (w1.alloc (.cells #[.int .i64 t, .int .i64 x] 26)).heap.size = w1.heap.size + 1 by simp] at h9
      rw [← hA1]; exact h9
    clear hb
    obtain ⟨uX50, uX51, uX52⟩ := id X5_2.out
    obtain ⟨uX60, uX61, uX62⟩ := id X6_2.out
    go_wp2_with fail
    clear uX50 uX51 uX52
    clear uX60 uX61 uX62
    clear hA1
    refine (QJI.out _ B_2.out).mono ?_
    rintro e w3 ⟨rfl, hb⟩
    have z2 : w2.heap.size ≤ w3.heap.size := hb.size
    have B_3 : Hid (Below w.heap.size w w3) := B_2.out.trans (hb.mono B_2.out.size)
    have X5_3 : Hid (Bx w3 w1.heap.size t x) := X5_2.out.later hb
    have X6_3 : Hid (Bx w3 (w1.heap.size + 1) u y) := X6_2.out.later hb
    clear B_2 X5_2 X6_2 hb
    obtain ⟨w4, hA3⟩ : ∃ X, w3.alloc (.cells #[.int .i64 P, .int .i64 Q] 26) = X := ⟨_, rfl⟩
    have hb : Below w3.heap.size w3 w4 := by rw [← hA3]; exact balloc w3 _
    have z3 : w3.heap.size < w4.heap.size := by rw [← hA3]; simp
    have B_4 : Hid (Below w.heap.size w w4) := B_3.out.trans (hb.mono B_3.out.size)
    have X5_4 : Hid (Bx w4 w1.heap.size t x) := X5_3.out.later hb
    have X6_4 : Hid (Bx w4 (w1.heap.size + 1) u y) := X6_3.out.later hb
    have X7_4 : Hid (Bx w4 w3.heap.size P Q) := by rw [← hA3]; exact bx_new w3 P Q 26
    clear B_3 X5_3 X6_3 hb
    obtain ⟨uX50, uX51, uX52⟩ := id X5_4.out
    obtain ⟨uX60, uX61, uX62⟩ := id X6_4.out
    go_wp2_with fail
    clear uX50 uX51 uX52
    clear uX60 uX61 uX62
    clear hA3
    refine (QJS.out _).mono ?_
    rintro e w5 ⟨rfl, hb⟩
    have z4 : w4.heap.size ≤ w5.heap.size := hb.size
    have B_5 : Hid (Below w.heap.size w w5) := B_4.out.trans (hb.mono B_4.out.size)
    have X5_5 : Hid (Bx w5 w1.heap.size t x) := X5_4.out.later hb
    have X6_5 : Hid (Bx w5 (w1.heap.size + 1) u y) := X6_4.out.later hb
    have X7_5 : Hid (Bx w5 w3.heap.size P Q) := X7_4.out.later hb
    clear B_4 X5_4 X6_4 X7_4 hb
    obtain ⟨w6, hA5⟩ : ∃ X, w5.alloc (.cells #[.int .i64 P, .int .i64 Q] 26) = X := ⟨_, rfl⟩
    have hb : Below w5.heap.size w5 w6 := by rw [← hA5]; exact balloc w5 _
    have z5 : w5.heap.size < w6.heap.size := by rw [← hA5]; simp
    have B_6 : Hid (Below w.heap.size w w6) := B_5.out.trans (hb.mono B_5.out.size)
    have X5_6 : Hid (Bx w6 w1.heap.size t x) := X5_5.out.later hb
    have X6_6 : Hid (Bx w6 (w1.heap.size + 1) u y) := X6_5.out.later hb
    have X7_6 : Hid (Bx w6 w3.heap.size P Q) := X7_5.out.later hb
    have X9_6 : Hid (Bx w6 w5.heap.size P Q) := by rw [← hA5]; exact bx_new w5 P Q 26
    clear B_5 X5_5 X6_5 X7_5 hb
    obtain ⟨uX70, uX71, uX72⟩ := id X7_6.out
    obtain ⟨uX90, uX91, uX92⟩ := id X9_6.out
    clear X5_6
    clear X6_6
    go_wp2_with fail
    clear hA5
    refine (drawSeen_c bo m d _ hm (HM.out.later B_6.out B_6.out.size)).mono ?_
    rintro e w7 ⟨f, g, rfl, hfb, hgb, hb⟩
    have z6 : w6.heap.size ≤ w7.heap.size := hb.size
    have B_7 : Hid (Below w.heap.size w w7) := B_6.out.trans (hb.mono B_6.out.size)
    have X7_7 : Hid (Bx w7 w3.heap.size P Q) := X7_6.out.later hb
    have X9_7 : Hid (Bx w7 w5.heap.size P Q) := X9_6.out.later hb
    clear B_6 X7_6 X9_6 hb
    clear uX70 uX71 uX72 X7_7
    clear uX90 uX91 uX92 X9_7
    obtain ⟨SF, hSF⟩ : ∃ l, seenV f g = l := ⟨_, rfl⟩
    obtain ⟨lf, hlf⟩ : ∃ l, lowV f g = l := ⟨_, rfl⟩
    obtain ⟨gf, hgf⟩ : ∃ l, goodWn f g = l := ⟨_, rfl⟩
    obtain ⟨nf, hnf⟩ : ∃ k, SF.length = k := ⟨_, rfl⟩
    have hnf16 : nf ≤ 16 := by rw [← hnf, ← hSF]; exact seenV_len _ _
    have RSI : Hid (∀ wx, Below w.heap.size w wx → Calls Tryd.prog 25 #[.agg #[.int .i64 f, .int .i64 g]] wx fun e w' => ∃ a k, e = .returned (.tuple #[.slice a nf k, .bool gf]) ∧ Own w' wx.heap.size (.slice a nf k) SF ∧ (a = none → k = 0) ∧ Below wx.heap.size wx w') := fun wx h => by
      have q := implSeen_c f g wx (HT0.out.later h) (by omega)
      rw [hSF, hnf, hgf] at q
      exact q
    have RSS : Hid (∀ wx, Calls Tryd.prog 29 #[.agg #[.int .i64 f, .int .i64 g]] wx fun e w' => ∃ a k, e = .returned (.tuple #[.slice a nf k, .bool gf]) ∧ Own w' wx.heap.size (.slice a nf k) SF ∧ (a = none → k = 0) ∧ Below wx.heap.size wx w') := fun wx => by
      have q := specSeen_c f g wx (by omega) (by omega)
      rw [hSF, hnf, hgf] at q
      exact q
    have RLI : Hid (∀ wx, Below w.heap.size w wx → Calls Tryd.prog 26 #[.agg #[.int .i64 f, .int .i64 g]] wx fun e w' => e = .returned (.tuple #[.int .i64 lf, .bool gf]) ∧ Below wx.heap.size wx w') := fun wx h => by
      have q := implLow_c f g wx (HT0.out.later h) (by omega)
      rw [hlf, hgf] at q
      exact q
    have RLS : Hid (∀ wx, Calls Tryd.prog 30 #[.agg #[.int .i64 f, .int .i64 g]] wx fun e w' => e = .returned (.tuple #[.int .i64 lf, .bool gf]) ∧ Below wx.heap.size wx w') := fun wx => by
      have q := specLow_c f g wx (by omega) (by omega)
      rw [hlf, hgf] at q
      exact q
    have HSF : Hid (SF.length = nf) := hnf
    clear hSF hlf hgf hnf
    have hgg : (gf == gf) = true := by simp
    obtain ⟨w8, hA7⟩ : ∃ X, w7.alloc (.cells #[.int .i64 f, .int .i64 g] 26) = X := ⟨_, rfl⟩
    have hb : Below w7.heap.size w7 w8 := by rw [← hA7]; exact balloc w7 _
    have z7 : w7.heap.size < w8.heap.size := by rw [← hA7]; simp
    have B_8 : Hid (Below w.heap.size w w8) := B_7.out.trans (hb.mono B_7.out.size)
    have X27_8 : Hid (Bx w8 w7.heap.size f g) := by rw [← hA7]; exact bx_new w7 f g 26
    clear B_7 hb
    obtain ⟨uX270, uX271, uX272⟩ := id X27_8.out
    go_wp2_with fail
    clear uX270 uX271 uX272
    clear hA7
    refine (RSI.out _ B_8.out).mono ?_
    rintro e w9 ⟨a5, k5, rfl, ho, hnn, hb⟩
    have z8 : w8.heap.size ≤ w9.heap.size := hb.size
    have B_9 : Hid (Below w.heap.size w w9) := B_8.out.trans (hb.mono B_8.out.size)
    have X27_9 : Hid (Bx w9 w7.heap.size f g) := X27_8.out.later hb
    have S5_9 : Hid (Rd w9 a5 SF) := ho.rd'.2
    clear B_8 X27_8 hb
    clear ho hnn
    obtain ⟨uX270, uX271, uX272⟩ := id X27_9.out
    go_wp2_with fail
    clear uX270 uX271 uX272
    refine (RSS.out _).mono ?_
    rintro e w10 ⟨a6, k6, rfl, ho, hnn, hb⟩
    have z9 : w9.heap.size ≤ w10.heap.size := hb.size
    have B_10 : Hid (Below w.heap.size w w10) := B_9.out.trans (hb.mono B_9.out.size)
    have X27_10 : Hid (Bx w10 w7.heap.size f g) := X27_9.out.later hb
    have S5_10 : Hid (Rd w10 a5 SF) := S5_9.out.later hb
    have S6_10 : Hid (Rd w10 a6 SF) := ho.rd'.2
    clear B_9 X27_9 S5_9 hb
    clear ho hnn
    obtain ⟨uX270, uX271, uX272⟩ := id X27_10.out
    go_wp2_with fail
    clear uX270 uX271 uX272
    refine (RLI.out _ B_10.out).mono ?_
    rintro e w11 ⟨rfl, hb⟩
    have z10 : w10.heap.size ≤ w11.heap.size := hb.size
    have B_11 : Hid (Below w.heap.size w w11) := B_10.out.trans (hb.mono B_10.out.size)
    have X27_11 : Hid (Bx w11 w7.heap.size f g) := X27_10.out.later hb
    have S5_11 : Hid (Rd w11 a5 SF) := S5_10.out.later hb
    have S6_11 : Hid (Rd w11 a6 SF) := S6_10.out.later hb
    clear B_10 X27_10 S5_10 S6_10 hb
    obtain ⟨uX270, uX271, uX272⟩ := id X27_11.out
    go_wp2_with fail
    clear uX270 uX271 uX272
    refine (RLS.out _).mono ?_
    rintro e w12 ⟨rfl, hb⟩
    have z11 : w11.heap.size ≤ w12.heap.size := hb.size
    have B_12 : Hid (Below w.heap.size w w12) := B_11.out.trans (hb.mono B_11.out.size)
    have X27_12 : Hid (Bx w12 w7.heap.size f g) := X27_11.out.later hb
    have S5_12 : Hid (Rd w12 a5 SF) := S5_11.out.later hb
    have S6_12 : Hid (Rd w12 a6 SF) := S6_11.out.later hb
    clear B_11 X27_11 S5_11 S6_11 hb
    go_wp2_with fail
    refine (sameInts_c a5 a6 nf nf k5 k6 SF SF _ HSF.out HSF.out (by omega) (by omega) S5_12.out S6_12.out).mono ?_
    rw [decide_eq_true rfl]
    rintro e w13 ⟨rfl, hb⟩
    have z12 : w12.heap.size ≤ w13.heap.size := hb.size
    have B_13 : Hid (Below w.heap.size w w13) := B_12.out.trans (hb.mono B_12.out.size)
    have X27_13 : Hid (Bx w13 w7.heap.size f g) := X27_12.out.later hb
    clear B_12 X27_12 S5_12 S6_12 hb
    go_wp2
    go_ret
    exact ⟨rfl, B_13.out⟩
  · have QJI : Hid (∀ wx, Below w.heap.size w wx → Calls Tryd.prog 23 #[.agg #[.int .i64 t, .int .i64 x], .agg #[.int .i64 u, .int .i64 y]] wx fun e w' => e = .returned (.tuple #[.agg #[.int .i64 P, .int .i64 Q], .bool true]) ∧ Below wx.heap.size wx w') := fun wx h => by
      have q := implJoin_c t x u y wx (HT0.out.later h) (by omega) (by omega)
      rw [hPQ, hok] at q
      exact q
    have QJS : Hid (∀ wx, Calls Tryd.prog 24 #[.agg #[.int .i64 t, .int .i64 x], .agg #[.int .i64 u, .int .i64 y]] wx fun e w' => e = .returned (.tuple #[.agg #[.int .i64 P, .int .i64 Q], .bool true]) ∧ Below wx.heap.size wx w') := fun wx => by
      have q := specJoin_c t x u y wx (by omega) (by omega) (by omega) (by omega)
      rw [hPQ, hok] at q
      exact q
    obtain ⟨j1, j2, j3, j4, j5, j6, j7⟩ := hjt hok
    obtain ⟨SJ, hSJ⟩ : ∃ l, seenV P Q = l := ⟨_, rfl⟩
    obtain ⟨SA, hSA⟩ : ∃ l, seenV t x = l := ⟨_, rfl⟩
    obtain ⟨SB, hSB⟩ : ∃ l, seenV u y = l := ⟨_, rfl⟩
    obtain ⟨low, hlow⟩ : ∃ l, lowV P Q = l := ⟨_, rfl⟩
    obtain ⟨ns, hns⟩ : ∃ k, SJ.length = k := ⟨_, rfl⟩
    obtain ⟨na, hna⟩ : ∃ k, SA.length = k := ⟨_, rfl⟩
    obtain ⟨nb, hnb⟩ : ∃ k, SB.length = k := ⟨_, rfl⟩
    have hns16 : ns ≤ 16 := by rw [← hns, ← hSJ]; exact seenV_len _ _
    have hna16 : na ≤ 16 := by rw [← hna, ← hSA]; exact seenV_len _ _
    have hnb16 : nb ≤ 16 := by rw [← hnb, ← hSB]; exact seenV_len _ _
    simp only [] at j1 j2 j3 j4 j5 j6 j7
    rw [hSJ, hlow] at j6
    rw [hSA, hSB] at j6
    rw [hSA, hSB, hlow, hSJ] at j7
    have hok1 := hok
    unfold joinOk at hok1
    rw [Bool.and_eq_true] at hok1
    obtain ⟨g1, g2⟩ := hok1
    have QJ2 : Hid (∀ wx, Below w.heap.size w wx → Calls Tryd.prog 23 #[.agg #[.int .i64 u, .int .i64 y], .agg #[.int .i64 t, .int .i64 x]] wx fun e w' => e = .returned (.tuple #[.agg #[.int .i64 P, .int .i64 Q], .bool true]) ∧ Below wx.heap.size wx w') := fun wx h => by
      have q := implJoin_c u y t x wx (HT0.out.later h) (by omega) (by omega)
      rw [j3, j2] at q
      exact q
    have QJ3 : Hid (∀ wx, Below w.heap.size w wx → Calls Tryd.prog 23 #[.agg #[.int .i64 P, .int .i64 Q], .agg #[.int .i64 t, .int .i64 x]] wx fun e w' => e = .returned (.tuple #[.agg #[.int .i64 P, .int .i64 Q], .bool true]) ∧ Below wx.heap.size wx w') := fun wx h => by
      have q := implJoin_c P Q t x wx (HT0.out.later h) hQ64 (by omega)
      rw [j5, j4] at q
      exact q
    have QS1 : Hid (∀ wx, Below w.heap.size w wx → Calls Tryd.prog 25 #[.agg #[.int .i64 P, .int .i64 Q]] wx fun e w' => ∃ a k, e = .returned (.tuple #[.slice a ns k, .bool true]) ∧ Own w' wx.heap.size (.slice a ns k) SJ ∧ (a = none → k = 0) ∧ Below wx.heap.size wx w') := fun wx h => by
      have q := implSeen_c P Q wx (HT0.out.later h) hQ64
      rw [hSJ, hns, j1] at q
      exact q
    have QS2 : Hid (∀ wx, Below w.heap.size w wx → Calls Tryd.prog 25 #[.agg #[.int .i64 t, .int .i64 x]] wx fun e w' => ∃ a k, e = .returned (.tuple #[.slice a na k, .bool true]) ∧ Own w' wx.heap.size (.slice a na k) SA ∧ (a = none → k = 0) ∧ Below wx.heap.size wx w') := fun wx h => by
      have q := implSeen_c t x wx (HT0.out.later h) (by omega)
      rw [hSA, hna, g1] at q
      exact q
    have QS3 : Hid (∀ wx, Below w.heap.size w wx → Calls Tryd.prog 25 #[.agg #[.int .i64 u, .int .i64 y]] wx fun e w' => ∃ a k, e = .returned (.tuple #[.slice a nb k, .bool true]) ∧ Own w' wx.heap.size (.slice a nb k) SB ∧ (a = none → k = 0) ∧ Below wx.heap.size wx w') := fun wx h => by
      have q := implSeen_c u y wx (HT0.out.later h) (by omega)
      rw [hSB, hnb, g2] at q
      exact q
    have QLO : Hid (∀ wx, Below w.heap.size w wx → Calls Tryd.prog 26 #[.agg #[.int .i64 P, .int .i64 Q]] wx fun e w' => e = .returned (.tuple #[.int .i64 low, .bool true]) ∧ Below wx.heap.size wx w') := fun wx h => by
      have q := implLow_c P Q wx (HT0.out.later h) hQ64
      rw [hlow, j1] at q
      exact q
    have QGW : Hid (∀ wx, Below w.heap.size w wx → Calls Tryd.prog 17 #[.agg #[.int .i64 P, .int .i64 Q]] wx fun e w' => e = .returned (.bool true) ∧ Below wx.heap.size wx w') := fun wx h => by
      have q := goodWindow_c P Q wx (HT0.out.later h) hQ64
      rw [j1] at q
      exact q
    have HSJ : Hid (SJ.length = ns) := hns
    have HSA : Hid (SA.length = na) := hna
    have HSB : Hid (SB.length = nb) := hnb
    have H6 : Hid (∀ k, k < ns → (SJ.getD k 0 ∈ SA ∨ SJ.getD k 0 ∈ SB) ∧ low ≤ SJ.getD k 0) := fun k hk => j6 _ (mem_getD 0 (by omega))
    have H7 : Hid (∀ z, z ∈ SA ++ SB → low ≤ z → z ∈ SJ) := j7
    clear j1 j2 j3 j4 j5 j6 j7 g1 g2 hns hna hnb hSJ hSA hSB hlow
    clear hjt hok hP hQ hPQ
    have heq := fun wx => run_neq_win P Q wx
    obtain ⟨w2, hA1⟩ : ∃ X, (w1.alloc (.cells #[.int .i64 t, .int .i64 x] 26)).alloc (.cells #[.int .i64 u, .int .i64 y] 26) = X := ⟨_, rfl⟩
    have hb : Below w1.heap.size w1 w2 := by rw [← hA1]; exact (balloc w1 _).alloc (by simp) _
    have B_2 : Hid (Below w.heap.size w w2) := B_1.out.trans (hb.mono B_1.out.size)
    have z1 : w1.heap.size ≤ w2.heap.size := hb.size
    clear B_1
    have X5_2 : Hid (Bx w2 w1.heap.size t x) := by rw [← hA1]; exact (bx_new w1 t x 26).later (balloc _ _)
    have X6_2 : Hid (Bx w2 (w1.heap.size + 1) u y) := by
      have h9 := bx_new (w1.alloc (.cells #[.int .i64 t, .int .i64 x] 26)) u y 26
      rw [show (w1.alloc (.cells #[.int .i64 t, .int .i64 x] 26)).heap.size = w1.heap.size + 1 by simp] at h9
      rw [← hA1]; exact h9
    clear hb
    obtain ⟨uX50, uX51, uX52⟩ := id X5_2.out
    obtain ⟨uX60, uX61, uX62⟩ := id X6_2.out
    go_wp2_with fail
    clear uX50 uX51 uX52
    clear uX60 uX61 uX62
    clear hA1
    refine (QJI.out _ B_2.out).mono ?_
    rintro e w3 ⟨rfl, hb⟩
    have z2 : w2.heap.size ≤ w3.heap.size := hb.size
    have B_3 : Hid (Below w.heap.size w w3) := B_2.out.trans (hb.mono B_2.out.size)
    have X5_3 : Hid (Bx w3 w1.heap.size t x) := X5_2.out.later hb
    have X6_3 : Hid (Bx w3 (w1.heap.size + 1) u y) := X6_2.out.later hb
    clear B_2 X5_2 X6_2 hb
    obtain ⟨w4, hA3⟩ : ∃ X, w3.alloc (.cells #[.int .i64 P, .int .i64 Q] 26) = X := ⟨_, rfl⟩
    have hb : Below w3.heap.size w3 w4 := by rw [← hA3]; exact balloc w3 _
    have z3 : w3.heap.size < w4.heap.size := by rw [← hA3]; simp
    have B_4 : Hid (Below w.heap.size w w4) := B_3.out.trans (hb.mono B_3.out.size)
    have X5_4 : Hid (Bx w4 w1.heap.size t x) := X5_3.out.later hb
    have X6_4 : Hid (Bx w4 (w1.heap.size + 1) u y) := X6_3.out.later hb
    have X7_4 : Hid (Bx w4 w3.heap.size P Q) := by rw [← hA3]; exact bx_new w3 P Q 26
    clear B_3 X5_3 X6_3 hb
    obtain ⟨uX50, uX51, uX52⟩ := id X5_4.out
    obtain ⟨uX60, uX61, uX62⟩ := id X6_4.out
    go_wp2_with fail
    clear uX50 uX51 uX52
    clear uX60 uX61 uX62
    clear hA3
    refine (QJS.out _).mono ?_
    rintro e w5 ⟨rfl, hb⟩
    have z4 : w4.heap.size ≤ w5.heap.size := hb.size
    have B_5 : Hid (Below w.heap.size w w5) := B_4.out.trans (hb.mono B_4.out.size)
    have X5_5 : Hid (Bx w5 w1.heap.size t x) := X5_4.out.later hb
    have X6_5 : Hid (Bx w5 (w1.heap.size + 1) u y) := X6_4.out.later hb
    have X7_5 : Hid (Bx w5 w3.heap.size P Q) := X7_4.out.later hb
    clear B_4 X5_4 X6_4 X7_4 hb
    obtain ⟨w6, hA5⟩ : ∃ X, w5.alloc (.cells #[.int .i64 P, .int .i64 Q] 26) = X := ⟨_, rfl⟩
    have hb : Below w5.heap.size w5 w6 := by rw [← hA5]; exact balloc w5 _
    have z5 : w5.heap.size < w6.heap.size := by rw [← hA5]; simp
    have B_6 : Hid (Below w.heap.size w w6) := B_5.out.trans (hb.mono B_5.out.size)
    have X5_6 : Hid (Bx w6 w1.heap.size t x) := X5_5.out.later hb
    have X6_6 : Hid (Bx w6 (w1.heap.size + 1) u y) := X6_5.out.later hb
    have X7_6 : Hid (Bx w6 w3.heap.size P Q) := X7_5.out.later hb
    have X9_6 : Hid (Bx w6 w5.heap.size P Q) := by rw [← hA5]; exact bx_new w5 P Q 26
    clear B_5 X5_5 X6_5 X7_5 hb
    obtain ⟨uX50, uX51, uX52⟩ := id X5_6.out
    obtain ⟨uX60, uX61, uX62⟩ := id X6_6.out
    obtain ⟨uX70, uX71, uX72⟩ := id X7_6.out
    obtain ⟨uX90, uX91, uX92⟩ := id X9_6.out
    go_wp2_with fail
    clear uX50 uX51 uX52
    clear uX60 uX61 uX62
    clear uX70 uX71 uX72
    clear uX90 uX91 uX92
    clear hA5
    refine (QJ2.out _ B_6.out).mono ?_
    rintro e w7 ⟨rfl, hb⟩
    have z6 : w6.heap.size ≤ w7.heap.size := hb.size
    have B_7 : Hid (Below w.heap.size w w7) := B_6.out.trans (hb.mono B_6.out.size)
    have X5_7 : Hid (Bx w7 w1.heap.size t x) := X5_6.out.later hb
    have X6_7 : Hid (Bx w7 (w1.heap.size + 1) u y) := X6_6.out.later hb
    have X7_7 : Hid (Bx w7 w3.heap.size P Q) := X7_6.out.later hb
    have X9_7 : Hid (Bx w7 w5.heap.size P Q) := X9_6.out.later hb
    clear B_6 X5_6 X6_6 X7_6 X9_6 hb
    clear X9_7
    obtain ⟨w8, hA7⟩ : ∃ X, w7.alloc (.cells #[.int .i64 P, .int .i64 Q] 26) = X := ⟨_, rfl⟩
    have hb : Below w7.heap.size w7 w8 := by rw [← hA7]; exact balloc w7 _
    have z7 : w7.heap.size < w8.heap.size := by rw [← hA7]; simp
    have B_8 : Hid (Below w.heap.size w w8) := B_7.out.trans (hb.mono B_7.out.size)
    have X5_8 : Hid (Bx w8 w1.heap.size t x) := X5_7.out.later hb
    have X6_8 : Hid (Bx w8 (w1.heap.size + 1) u y) := X6_7.out.later hb
    have X7_8 : Hid (Bx w8 w3.heap.size P Q) := X7_7.out.later hb
    have X11_8 : Hid (Bx w8 w7.heap.size P Q) := by rw [← hA7]; exact bx_new w7 P Q 26
    clear B_7 X5_7 X6_7 X7_7 hb
    obtain ⟨uX50, uX51, uX52⟩ := id X5_8.out
    obtain ⟨uX70, uX71, uX72⟩ := id X7_8.out
    go_wp2_with fail
    clear uX50 uX51 uX52
    clear uX70 uX71 uX72
    clear hA7
    refine (QJ3.out _ B_8.out).mono ?_
    rintro e w9 ⟨rfl, hb⟩
    have z8 : w8.heap.size ≤ w9.heap.size := hb.size
    have B_9 : Hid (Below w.heap.size w w9) := B_8.out.trans (hb.mono B_8.out.size)
    have X5_9 : Hid (Bx w9 w1.heap.size t x) := X5_8.out.later hb
    have X6_9 : Hid (Bx w9 (w1.heap.size + 1) u y) := X6_8.out.later hb
    have X7_9 : Hid (Bx w9 w3.heap.size P Q) := X7_8.out.later hb
    have X11_9 : Hid (Bx w9 w7.heap.size P Q) := X11_8.out.later hb
    clear B_8 X5_8 X6_8 X7_8 X11_8 hb
    obtain ⟨w10, hA9⟩ : ∃ X, w9.alloc (.cells #[.int .i64 P, .int .i64 Q] 26) = X := ⟨_, rfl⟩
    have hb : Below w9.heap.size w9 w10 := by rw [← hA9]; exact balloc w9 _
    have z9 : w9.heap.size < w10.heap.size := by rw [← hA9]; simp
    have B_10 : Hid (Below w.heap.size w w10) := B_9.out.trans (hb.mono B_9.out.size)
    have X5_10 : Hid (Bx w10 w1.heap.size t x) := X5_9.out.later hb
    have X6_10 : Hid (Bx w10 (w1.heap.size + 1) u y) := X6_9.out.later hb
    have X7_10 : Hid (Bx w10 w3.heap.size P Q) := X7_9.out.later hb
    have X11_10 : Hid (Bx w10 w7.heap.size P Q) := X11_9.out.later hb
    have X13_10 : Hid (Bx w10 w9.heap.size P Q) := by rw [← hA9]; exact bx_new w9 P Q 26
    clear B_9 X5_9 X6_9 X7_9 X11_9 hb
    obtain ⟨uX70, uX71, uX72⟩ := id X7_10.out
    go_wp2_with fail
    clear uX70 uX71 uX72
    clear hA9
    refine (QS1.out _ B_10.out).mono ?_
    rintro e w11 ⟨a1, k1, rfl, ho, hnn, hb⟩
    have z10 : w10.heap.size ≤ w11.heap.size := hb.size
    have B_11 : Hid (Below w.heap.size w w11) := B_10.out.trans (hb.mono B_10.out.size)
    have X5_11 : Hid (Bx w11 w1.heap.size t x) := X5_10.out.later hb
    have X6_11 : Hid (Bx w11 (w1.heap.size + 1) u y) := X6_10.out.later hb
    have X7_11 : Hid (Bx w11 w3.heap.size P Q) := X7_10.out.later hb
    have X11_11 : Hid (Bx w11 w7.heap.size P Q) := X11_10.out.later hb
    have X13_11 : Hid (Bx w11 w9.heap.size P Q) := X13_10.out.later hb
    have S1_11 : Hid (Rd w11 a1 SJ) := ho.rd'.2
    clear B_10 X5_10 X6_10 X7_10 X11_10 X13_10 hb
    clear ho hnn
    obtain ⟨uX50, uX51, uX52⟩ := id X5_11.out
    go_wp2_with fail
    clear uX50 uX51 uX52
    refine (QS2.out _ B_11.out).mono ?_
    rintro e w12 ⟨a2, k2, rfl, ho, hnn, hb⟩
    have z11 : w11.heap.size ≤ w12.heap.size := hb.size
    have B_12 : Hid (Below w.heap.size w w12) := B_11.out.trans (hb.mono B_11.out.size)
    have X5_12 : Hid (Bx w12 w1.heap.size t x) := X5_11.out.later hb
    have X6_12 : Hid (Bx w12 (w1.heap.size + 1) u y) := X6_11.out.later hb
    have X7_12 : Hid (Bx w12 w3.heap.size P Q) := X7_11.out.later hb
    have X11_12 : Hid (Bx w12 w7.heap.size P Q) := X11_11.out.later hb
    have X13_12 : Hid (Bx w12 w9.heap.size P Q) := X13_11.out.later hb
    have S1_12 : Hid (Rd w12 a1 SJ) := S1_11.out.later hb
    have S2_12 : Hid (Rd w12 a2 SA) := ho.rd'.2
    clear B_11 X5_11 X6_11 X7_11 X11_11 X13_11 S1_11 hb
    have HN2 : Hid (a2 = none → na = 0 ∧ k2 = 0) := own_none ho
    clear ho hnn
    obtain ⟨uX60, uX61, uX62⟩ := id X6_12.out
    go_wp2_with fail
    clear uX60 uX61 uX62
    refine (QS3.out _ B_12.out).mono ?_
    rintro e w13 ⟨a3, k3, rfl, ho, hnn, hb⟩
    have z12 : w12.heap.size ≤ w13.heap.size := hb.size
    have B_13 : Hid (Below w.heap.size w w13) := B_12.out.trans (hb.mono B_12.out.size)
    have X5_13 : Hid (Bx w13 w1.heap.size t x) := X5_12.out.later hb
    have X6_13 : Hid (Bx w13 (w1.heap.size + 1) u y) := X6_12.out.later hb
    have X7_13 : Hid (Bx w13 w3.heap.size P Q) := X7_12.out.later hb
    have X11_13 : Hid (Bx w13 w7.heap.size P Q) := X11_12.out.later hb
    have X13_13 : Hid (Bx w13 w9.heap.size P Q) := X13_12.out.later hb
    have S1_13 : Hid (Rd w13 a1 SJ) := S1_12.out.later hb
    have S2_13 : Hid (Rd w13 a2 SA) := S2_12.out.later hb
    have S3_13 : Hid (Rd w13 a3 SB) := ho.rd'.2
    clear B_12 X5_12 X6_12 X7_12 X11_12 X13_12 S1_12 S2_12 hb
    have HN3 : Hid (a3 = none → nb = 0 ∧ k3 = 0) := own_none ho
    clear ho hnn
    obtain ⟨uX70, uX71, uX72⟩ := id X7_13.out
    go_wp2_with fail
    clear uX70 uX71 uX72
    refine (QLO.out _ B_13.out).mono ?_
    rintro e w14 ⟨rfl, hb⟩
    have z13 : w13.heap.size ≤ w14.heap.size := hb.size
    have B_14 : Hid (Below w.heap.size w w14) := B_13.out.trans (hb.mono B_13.out.size)
    have X5_14 : Hid (Bx w14 w1.heap.size t x) := X5_13.out.later hb
    have X6_14 : Hid (Bx w14 (w1.heap.size + 1) u y) := X6_13.out.later hb
    have X7_14 : Hid (Bx w14 w3.heap.size P Q) := X7_13.out.later hb
    have X11_14 : Hid (Bx w14 w7.heap.size P Q) := X11_13.out.later hb
    have X13_14 : Hid (Bx w14 w9.heap.size P Q) := X13_13.out.later hb
    have S1_14 : Hid (Rd w14 a1 SJ) := S1_13.out.later hb
    have S2_14 : Hid (Rd w14 a2 SA) := S2_13.out.later hb
    have S3_14 : Hid (Rd w14 a3 SB) := S3_13.out.later hb
    clear B_13 X5_13 X6_13 X7_13 X11_13 X13_13 S1_13 S2_13 S3_13 hb
    obtain ⟨uX70, uX71, uX72⟩ := id X7_14.out
    go_wp2_with fail
    clear uX70 uX71 uX72
    refine (QGW.out _ B_14.out).mono ?_
    rintro e w15 ⟨rfl, hb⟩
    have z14 : w14.heap.size ≤ w15.heap.size := hb.size
    have B_15 : Hid (Below w.heap.size w w15) := B_14.out.trans (hb.mono B_14.out.size)
    have X5_15 : Hid (Bx w15 w1.heap.size t x) := X5_14.out.later hb
    have X6_15 : Hid (Bx w15 (w1.heap.size + 1) u y) := X6_14.out.later hb
    have X7_15 : Hid (Bx w15 w3.heap.size P Q) := X7_14.out.later hb
    have X11_15 : Hid (Bx w15 w7.heap.size P Q) := X11_14.out.later hb
    have X13_15 : Hid (Bx w15 w9.heap.size P Q) := X13_14.out.later hb
    have S1_15 : Hid (Rd w15 a1 SJ) := S1_14.out.later hb
    have S2_15 : Hid (Rd w15 a2 SA) := S2_14.out.later hb
    have S3_15 : Hid (Rd w15 a3 SB) := S3_14.out.later hb
    clear B_14 X5_14 X6_14 X7_14 X11_14 X13_14 S1_14 S2_14 S3_14 hb
    obtain ⟨uX70, uX71, uX72⟩ := id X7_15.out
    obtain ⟨uX110, uX111, uX112⟩ := id X11_15.out
    obtain ⟨uX130, uX131, uX132⟩ := id X13_15.out
    go_wp2
    clear uX70 uX71 uX72
    clear uX110 uX111 uX112
    clear uX130 uX131 uX132
    clear X5_15
    clear X6_15
    clear X7_15
    clear X11_15
    clear X13_15
    go_loop [139] (fun iv => ∃ k : Nat, k ≤ ns ∧ iv = .int .i64 k) (fun iv => ns - (intOf iv).toNat)
    case atStart => exact ⟨0, Nat.zero_le _, rfl⟩
    case round =>
      obtain ⟨k, hk, rfl⟩ := hrel
      by_cases hlt : k < ns
      · have h0 : (0 : Int) ≤ (k : Int) := by omega
        have hl : (k : Int) < (ns : Int) := by omega
        obtain ⟨b1, o1, rfl, g1⟩ := S1_15.out.get (k := k) (by rw [HSJ.out]; exact hlt)
        obtain ⟨hin, hge⟩ := H6.out k hlt
        generalize SJ.getD k 0 = v at g1 hin hge
        have hge2 : ¬ v < low := by omega
        by_cases hA : v ∈ SA
        · have HI : Hid (v ∈ SA) := hA
          clear hA hin
          go_wp2_with fail
          refine (lhas_c a2 na k2 v SA _ HSA.out (by omega) S2_15.out).mono ?_
          rw [decide_eq_true HI.out]
          rintro e wz ⟨rfl, hz⟩
          subst wz
          go_wp2
          go_round
          case rel => exact ⟨k + 1, by omega, by go_num⟩
          case measure => simp [intOf]; omega
        · have HI : Hid (¬ v ∈ SA) := hA
          have HJ : Hid (v ∈ SB) := hin.resolve_left hA
          clear hA hin
          go_wp2_with fail
          refine (lhas_c a2 na k2 v SA _ HSA.out (by omega) S2_15.out).mono ?_
          rw [decide_eq_false HI.out]
          rintro e wz ⟨rfl, hz⟩
          subst wz
          go_wp2_with fail
          refine (lhas_c a3 nb k3 v SB _ HSB.out (by omega) S3_15.out).mono ?_
          rw [decide_eq_true HJ.out]
          rintro e wz ⟨rfl, hz⟩
          subst wz
          go_wp2
          go_round
          case rel => exact ⟨k + 1, by omega, by go_num⟩
          case measure => simp [intOf]; omega
      · obtain rfl : k = ns := by omega
        have hkk : ¬ (k : Int) < (k : Int) := by omega
        obtain ⟨v1, V1, r1, q1, gg1, bw1⟩ := appendE_run (w15.alloc (.cells #[] 3)) w15.heap.size (.slice (some ⟨w15.heap.size, 0, none⟩) 0 0) [] SA a2 na k2 (own_emptyJ w15) (S2_15.out.later (balloc w15 _)) HSA.out HN2.out (by simp; omega) (by simp)
        have hb1 : Below w15.heap.size w15 V1 := (balloc w15 _).trans bw1
        obtain ⟨v2, V2, r2, q2, gg2, bw2⟩ := appendE_run V1 w15.heap.size v1 ([] ++ SA) SB a3 nb k3 q1 (S3_15.out.later hb1) HSB.out HN3.out (by simp; have := HSA.out; omega) hb1.size
        have hb2 : Below w15.heap.size w15 V2 := hb1.trans bw2
        obtain ⟨ZZ, hZZ⟩ : ∃ l, [] ++ SA ++ SB = l := ⟨_, rfl⟩
        rw [hZZ] at q2
        obtain ⟨a4, k4, hv4⟩ := q2.shape
        subst hv4
        have RZ : Hid (Rd V2 a4 ZZ) := q2.rd'.2
        obtain ⟨nz, hnz⟩ : ∃ k, ZZ.length = k := ⟨_, rfl⟩
        have hnz32 : nz ≤ 32 := by rw [← hnz, ← hZZ]; simp; have := HSA.out; have := HSB.out; omega
        have HNZ : Hid (ZZ.length = nz) := hnz
        have h8 : ∀ z, z ∈ ZZ → z ∈ SA ++ SB := fun z hz => by rw [← hZZ] at hz; simpa using hz
        have h9 : ∀ j, j < nz → ZZ.getD j 0 ∈ ZZ := fun j hj => mem_getD 0 (by omega)
        have H8 : Hid (∀ j, j < nz → low ≤ ZZ.getD j 0 → ZZ.getD j 0 ∈ SJ) := fun j hj hl => H7.out _ (h8 _ (h9 j hj)) hl
        clear h8 h9
        rw [hnz] at r2
        clear q1 q2 gg1 gg2 bw1 bw2 hb1 hnz hZZ H6 H7
        go_wp2_with (at_builtin; first | (refine Lib.wpList_append_run _ rfl _ _ _ _ rfl _ _ rfl rfl _ _ (r1 _) ?_; clear r1) | (refine Lib.wpList_append_run _ rfl _ _ _ _ rfl _ _ rfl rfl _ _ (r2 _) ?_; clear r2))
        have B_16 : Hid (Below w.heap.size w V2) := B_15.out.trans (hb2.mono B_15.out.size)
        have S1_16 : Hid (Rd V2 a1 SJ) := S1_15.out.later hb2
        have S2_16 : Hid (Rd V2 a2 SA) := S2_15.out.later hb2
        have S3_16 : Hid (Rd V2 a3 SB) := S3_15.out.later hb2
        have z15 : w15.heap.size ≤ V2.heap.size := hb2.size
        clear B_15 S1_15 S2_15 S3_15
        clear hb2
        have RZ_16 : Hid (Rd V2 a4 ZZ) := RZ
        clear RZ
        clear S2_16
        clear S3_16
        go_loop [165] (fun iv => ∃ k : Nat, k ≤ nz ∧ iv = .int .i64 k) (fun iv => nz - (intOf iv).toNat)
        case atStart => exact ⟨0, Nat.zero_le _, rfl⟩
        case round =>
          obtain ⟨j, hj, rfl⟩ := hrel
          by_cases hlt2 : j < nz
          · have h0 : (0 : Int) ≤ (j : Int) := by omega
            have hl : (j : Int) < (nz : Int) := by omega
            obtain ⟨b1, o1, rfl, g1⟩ := RZ_16.out.get (k := j) (by rw [HNZ.out]; exact hlt2)
            have hin := H8.out j hlt2
            generalize ZZ.getD j 0 = v at g1 hin
            by_cases hlo : low ≤ v
            · have HI : Hid (v ∈ SJ) := hin hlo
              clear hin
              go_wp2_with fail
              refine (lhas_c a1 k k1 v SJ _ HSJ.out (by omega) S1_16.out).mono ?_
              rw [decide_eq_true HI.out]
              rintro e wz ⟨rfl, hz⟩
              subst wz
              go_wp2
              go_round
              case rel => exact ⟨j + 1, by omega, by go_num⟩
              case measure => simp [intOf]; omega
            · clear hin
              go_wp2
              go_round
              case rel => exact ⟨j + 1, by omega, by go_num⟩
              case measure => simp [intOf]; omega
          · obtain rfl : j = nz := by omega
            have hjj : ¬ (j : Int) < (j : Int) := by omega
            clear S1_16
            clear RZ_16
            go_wp2_with fail
            refine (drawSeen_c bo m d _ hm (HM.out.later B_16.out B_16.out.size)).mono ?_
            rintro e w17 ⟨f, g, rfl, hfb, hgb, hb⟩
            have z16 : V2.heap.size ≤ w17.heap.size := hb.size
            have B_17 : Hid (Below w.heap.size w w17) := B_16.out.trans (hb.mono B_16.out.size)
            clear B_16 hb
            obtain ⟨SF, hSF⟩ : ∃ l, seenV f g = l := ⟨_, rfl⟩
            obtain ⟨lf, hlf⟩ : ∃ l, lowV f g = l := ⟨_, rfl⟩
            obtain ⟨gf, hgf⟩ : ∃ l, goodWn f g = l := ⟨_, rfl⟩
            obtain ⟨nf, hnf⟩ : ∃ k, SF.length = k := ⟨_, rfl⟩
            have hnf16 : nf ≤ 16 := by rw [← hnf, ← hSF]; exact seenV_len _ _
            have RSI : Hid (∀ wx, Below w.heap.size w wx → Calls Tryd.prog 25 #[.agg #[.int .i64 f, .int .i64 g]] wx fun e w' => ∃ a k, e = .returned (.tuple #[.slice a nf k, .bool gf]) ∧ Own w' wx.heap.size (.slice a nf k) SF ∧ (a = none → k = 0) ∧ Below wx.heap.size wx w') := fun wx h => by
              have q := implSeen_c f g wx (HT0.out.later h) (by omega)
              rw [hSF, hnf, hgf] at q
              exact q
            have RSS : Hid (∀ wx, Calls Tryd.prog 29 #[.agg #[.int .i64 f, .int .i64 g]] wx fun e w' => ∃ a k, e = .returned (.tuple #[.slice a nf k, .bool gf]) ∧ Own w' wx.heap.size (.slice a nf k) SF ∧ (a = none → k = 0) ∧ Below wx.heap.size wx w') := fun wx => by
              have q := specSeen_c f g wx (by omega) (by omega)
              rw [hSF, hnf, hgf] at q
              exact q
            have RLI : Hid (∀ wx, Below w.heap.size w wx → Calls Tryd.prog 26 #[.agg #[.int .i64 f, .int .i64 g]] wx fun e w' => e = .returned (.tuple #[.int .i64 lf, .bool gf]) ∧ Below wx.heap.size wx w') := fun wx h => by
              have q := implLow_c f g wx (HT0.out.later h) (by omega)
              rw [hlf, hgf] at q
              exact q
            have RLS : Hid (∀ wx, Calls Tryd.prog 30 #[.agg #[.int .i64 f, .int .i64 g]] wx fun e w' => e = .returned (.tuple #[.int .i64 lf, .bool gf]) ∧ Below wx.heap.size wx w') := fun wx => by
              have q := specLow_c f g wx (by omega) (by omega)
              rw [hlf, hgf] at q
              exact q
            have HSF : Hid (SF.length = nf) := hnf
            clear hSF hlf hgf hnf
            have hgg : (gf == gf) = true := by simp
            obtain ⟨w18, hA17⟩ : ∃ X, w17.alloc (.cells #[.int .i64 f, .int .i64 g] 26) = X := ⟨_, rfl⟩
            have hb : Below w17.heap.size w17 w18 := by rw [← hA17]; exact balloc w17 _
            have z17 : w17.heap.size < w18.heap.size := by rw [← hA17]; simp
            have B_18 : Hid (Below w.heap.size w w18) := B_17.out.trans (hb.mono B_17.out.size)
            have X27_18 : Hid (Bx w18 w17.heap.size f g) := by rw [← hA17]; exact bx_new w17 f g 26
            clear B_17 hb
            obtain ⟨uX270, uX271, uX272⟩ := id X27_18.out
            go_wp2_with fail
            clear uX270 uX271 uX272
            clear hA17
            refine (RSI.out _ B_18.out).mono ?_
            rintro e w19 ⟨a5, k5, rfl, ho, hnn, hb⟩
            have z18 : w18.heap.size ≤ w19.heap.size := hb.size
            have B_19 : Hid (Below w.heap.size w w19) := B_18.out.trans (hb.mono B_18.out.size)
            have X27_19 : Hid (Bx w19 w17.heap.size f g) := X27_18.out.later hb
            have S5_19 : Hid (Rd w19 a5 SF) := ho.rd'.2
            clear B_18 X27_18 hb
            clear ho hnn
            obtain ⟨uX270, uX271, uX272⟩ := id X27_19.out
            go_wp2_with fail
            clear uX270 uX271 uX272
            refine (RSS.out _).mono ?_
            rintro e w20 ⟨a6, k6, rfl, ho, hnn, hb⟩
            have z19 : w19.heap.size ≤ w20.heap.size := hb.size
            have B_20 : Hid (Below w.heap.size w w20) := B_19.out.trans (hb.mono B_19.out.size)
            have X27_20 : Hid (Bx w20 w17.heap.size f g) := X27_19.out.later hb
            have S5_20 : Hid (Rd w20 a5 SF) := S5_19.out.later hb
            have S6_20 : Hid (Rd w20 a6 SF) := ho.rd'.2
            clear B_19 X27_19 S5_19 hb
            clear ho hnn
            obtain ⟨uX270, uX271, uX272⟩ := id X27_20.out
            go_wp2_with fail
            clear uX270 uX271 uX272
            refine (RLI.out _ B_20.out).mono ?_
            rintro e w21 ⟨rfl, hb⟩
            have z20 : w20.heap.size ≤ w21.heap.size := hb.size
            have B_21 : Hid (Below w.heap.size w w21) := B_20.out.trans (hb.mono B_20.out.size)
            have X27_21 : Hid (Bx w21 w17.heap.size f g) := X27_20.out.later hb
            have S5_21 : Hid (Rd w21 a5 SF) := S5_20.out.later hb
            have S6_21 : Hid (Rd w21 a6 SF) := S6_20.out.later hb
            clear B_20 X27_20 S5_20 S6_20 hb
            obtain ⟨uX270, uX271, uX272⟩ := id X27_21.out
            go_wp2_with fail
            clear uX270 uX271 uX272
            refine (RLS.out _).mono ?_
            rintro e w22 ⟨rfl, hb⟩
            have z21 : w21.heap.size ≤ w22.heap.size := hb.size
            have B_22 : Hid (Below w.heap.size w w22) := B_21.out.trans (hb.mono B_21.out.size)
            have X27_22 : Hid (Bx w22 w17.heap.size f g) := X27_21.out.later hb
            have S5_22 : Hid (Rd w22 a5 SF) := S5_21.out.later hb
            have S6_22 : Hid (Rd w22 a6 SF) := S6_21.out.later hb
            clear B_21 X27_21 S5_21 S6_21 hb
            go_wp2_with fail
            refine (sameInts_c a5 a6 nf nf k5 k6 SF SF _ HSF.out HSF.out (by omega) (by omega) S5_22.out S6_22.out).mono ?_
            rw [decide_eq_true rfl]
            rintro e w23 ⟨rfl, hb⟩
            have z22 : w22.heap.size ≤ w23.heap.size := hb.size
            have B_23 : Hid (Below w.heap.size w w23) := B_22.out.trans (hb.mono B_22.out.size)
            have X27_23 : Hid (Bx w23 w17.heap.size f g) := X27_22.out.later hb
            clear B_22 X27_22 S5_22 S6_22 hb
            go_wp2
            go_ret
            exact ⟨rfl, B_23.out⟩

end Go.Proofs.YtjpegbodhpnflaaDoor

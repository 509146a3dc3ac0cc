/- Chapter 11: small functions of both sides. -/
import Derived.Test.YtdhnolafkgkliaaDoorP11
import Derived.Test.YtdhnolafkgkliaaDoorR11
import Derived.Test.YtdhnolafkgkliaaDoorPwImpl2
import Derived.ChangeKeysEq
import Derived.Laws.StructEq
namespace Go.Proofs.YtdhnolafkgkliaaDoor
set_option linter.unusedVariables false
set_option maxRecDepth 1000000
set_option linter.unusedSimpArgs false
open Go.RowKit

theorem Tryd.plainInt : Tryd.prog.plainKey 3 = true := by kernel_rfl

theorem isHand_c (x : Int) (w : World) : Calls Tryd.prog 66 #[.int .i64 x] w fun e w' => e = .returned (.bool (decide (0 ≤ x ∧ x ≤ 5))) ∧ w' = w := by
  by_cases h1 : 0 ≤ x
  · by_cases h2 : x ≤ 5
    · have h3 : x < 6 := by omega
      go_enter Tryd.func66, Tryd.ntmps66
      go_wp2
      go_ret
      exact ⟨ret_bool (by simp [letB, h1, h2]), rfl⟩
    · have h3 : ¬ x < 6 := by omega
      go_enter Tryd.func66, Tryd.ntmps66
      go_wp2
      go_ret
      exact ⟨ret_bool (by simp [letB]; omega), rfl⟩
  · go_enter Tryd.func66, Tryd.ntmps66
    go_wp2
    go_ret
    exact ⟨ret_bool (by simp [letB]; omega), rfl⟩

theorem isLetterNumber_c (x : Int) (w : World) : Calls Tryd.prog 45 #[.int .i64 x] w fun e w' => e = .returned (.bool (letB x)) ∧ w' = w := by
  by_cases h1 : 0 ≤ x
  · by_cases h2 : x ≤ 1000
    · have h3 : x < 1001 := by omega
      go_enter Tryd.func45, Tryd.ntmps45
      go_wp2
      go_ret
      exact ⟨ret_bool (by simp [letB, h1, h2]), rfl⟩
    · have h3 : ¬ x < 1001 := by omega
      go_enter Tryd.func45, Tryd.ntmps45
      go_wp2
      go_ret
      exact ⟨ret_bool (by simp [letB]; omega), rfl⟩
  · go_enter Tryd.func45, Tryd.ntmps45
    go_wp2
    go_ret
    exact ⟨ret_bool (by simp [letB]; omega), rfl⟩

theorem isSmall_c (x : Int) (w : World) : Calls Tryd.prog 84 #[.int .i64 x] w fun e w' => e = .returned (.bool (decide (0 ≤ x ∧ x ≤ 1498))) ∧ w' = w := by
  by_cases h1 : 0 ≤ x
  · by_cases h2 : x ≤ 1498
    · have h3 : x < 1499 := by omega
      go_enter Tryd.func84, Tryd.ntmps84
      go_wp2
      go_ret
      exact ⟨ret_bool (by simp [letB, h1, h2]), rfl⟩
    · have h3 : ¬ x < 1499 := by omega
      go_enter Tryd.func84, Tryd.ntmps84
      go_wp2
      go_ret
      exact ⟨ret_bool (by simp [letB]; omega), rfl⟩
  · go_enter Tryd.func84, Tryd.ntmps84
    go_wp2
    go_ret
    exact ⟨ret_bool (by simp [letB]; omega), rfl⟩

theorem l11Letter_c (x : Int) (w : World) : Calls Tryd.prog 49 #[.int .i64 x] w fun e w' => e = .returned (.bool (letB x)) ∧ w' = w := by
  unfold letB
  generalize hd : decide (0 ≤ x ∧ x ≤ 1000) = b
  go_enter Tryd.func49, Tryd.ntmps49
  go_wp2_with fail
  refine (l1In_c x 0 1000 _).mono ?_
  rw [hd]
  clear hd
  rintro e w' ⟨rfl, rfl⟩
  go_wp2
  go_ret
  exact ⟨rfl, rfl⟩

theorem times_lt {x y : Int} (x0 : 0 ≤ x) (x1 : x < 1499) (y0 : 0 ≤ y) (y1 : y < 1499) : 0 ≤ x * y ∧ x * y < 2247001 := by
  have h1 := Int.mul_nonneg x0 y0
  have h2 : x * y ≤ 1498 * y := Int.mul_le_mul_of_nonneg_right (by omega) y0
  omega

theorem timesSmall_c (x y : Int) (w : World) (x0 : 0 ≤ x) (x1 : x < 1499) (y0 : 0 ≤ y) (y1 : y < 1499) : Calls Tryd.prog 77 #[.int .i64 x, .int .i64 y] w fun e w' => e = .returned (.int .i64 (x * y % 1499)) ∧ w' = w := by
  have h := times_lt x0 x1 y0 y1
  go_enter Tryd.func77, Tryd.ntmps77
  go_wp2
  go_ret
  exact ⟨rfl, rfl⟩

theorem l11Number_c (f l : Int) (w : World) (hf : -1 ≤ f ∧ f ≤ 5) (hl : 0 ≤ l ∧ l ≤ 1000) : Calls Tryd.prog 79 #[.int .i64 f, .int .i64 l] w fun e w' => e = .returned (.int .i64 (numR f l)) ∧ w' = w := by
  have h0 : 0 ≤ l + 1001 * (f + 2) + 7 := by omega
  go_enter Tryd.func79, Tryd.ntmps79
  go_wp2
  go_ret
  exact ⟨rfl, rfl⟩

set_option maxHeartbeats 1000000 in
theorem signedNumber_c (f t l s : Int) (w : World) (hf : -1 ≤ f ∧ f ≤ 5) (hl : 0 ≤ l ∧ l ≤ 1000) : Calls Tryd.prog 61 #[.agg #[.int .i64 f, .int .i64 t, .int .i64 l, .int .i64 s]] w fun e w' => e = .returned (.int .i64 (numR f l)) ∧ Below w.heap.size w w' := by
  have h0 : 0 ≤ l + 1001 * (f + 2) + 7 := by omega
  go_enter Tryd.func61, Tryd.ntmps61
  go_wp2
  go_ret
  exact ⟨rfl, by first | exact Below.refl _ _ | exact balloc w _⟩

set_option maxHeartbeats 1000000 in
theorem unsignedFor_c (h l : Int) (w : World) (hh : -4611686018427387904 ≤ h ∧ h ≤ 4611686018427387904) : Calls Tryd.prog 76 #[.int .i64 h, .int .i64 l] w fun e w' => e = .returned (.agg #[.int .i64 (h - 1), .int .i64 h, .int .i64 l, .int .i64 0]) ∧ Below w.heap.size w w' := by
  go_enter Tryd.func76, Tryd.ntmps76
  go_wp2
  refine bodyPost_ret (v := .agg #[.int .i64 (h - 1), .int .i64 h, .int .i64 l, .int .i64 0]) (by simp [results, Tryd.results76, go_sem]) rfl ⟨rfl, ?_⟩
  first | exact Below.refl _ _ | exact balloc w _ | exact below_two w _ _

theorem run_eql_rc (a b c d p q r s : Int) (w : World) : (binOp .eql 43 (.agg #[.int .i64 a, .int .i64 b, .int .i64 c, .int .i64 d]) (.agg #[.int .i64 p, .int .i64 q, .int .i64 r, .int .i64 s])).run Tryd.prog w = .ok (.bool (a == p && (b == q && (c == r && d == s)))) w := by
  have p0 : ∀ a b c d : Int, (part 3 #[.int .i64 a, .int .i64 b, .int .i64 c, .int .i64 d] 0).run Tryd.prog w = .ok (.int .i64 a) w := fun a b c d => run_part_plain w Tryd.plainInt rfl
  have p1 : ∀ a b c d : Int, (part 3 #[.int .i64 a, .int .i64 b, .int .i64 c, .int .i64 d] 1).run Tryd.prog w = .ok (.int .i64 b) w := fun a b c d => run_part_plain w Tryd.plainInt rfl
  have p2 : ∀ a b c d : Int, (part 3 #[.int .i64 a, .int .i64 b, .int .i64 c, .int .i64 d] 2).run Tryd.prog w = .ok (.int .i64 c) w := fun a b c d => run_part_plain w Tryd.plainInt rfl
  have p3 : ∀ a b c d : Int, (part 3 #[.int .i64 a, .int .i64 b, .int .i64 c, .int .i64 d] 3).run Tryd.prog w = .ok (.int .i64 d) w := fun a b c d => run_part_plain w Tryd.plainInt rfl
  rw [run_eql_struct, run_equalIn_struct w 9999 43 _ _ (by kernel_rfl) (by kernel_rfl)]
  simp only [Program.fieldsOf, Tryd.underlying43, Op.eqFields]
  simp [p0, p1, p2, p3, run_equalIn_int w 9998 3 .i64 .i64 _ _ Tryd.underlying3]
  by_cases h1 : a = p
  · subst h1
    by_cases h2 : b = q
    · subst h2
      by_cases h3 : c = r
      · subst h3
        by_cases h4 : d = s
        · subst h4; simp
        · have : (d == s) = false := by simpa using h4
          simp [this, Result.andThen]
          first | done | exact h4
      · have : (c == r) = false := by simpa using h3
        simp [this, Result.andThen]
        first | done | exact fun e => absurd e h3
    · have : (b == q) = false := by simpa using h2
      simp [this, Result.andThen]
      first | done | exact fun e => absurd e h2
  · have : (a == p) = false := by simpa using h1
    simp [this, Result.andThen]
    first | done | exact fun e => absurd e h1

def forB (a b c h l : Int) : Bool := decide (a = h - 1) && (decide (b = h) && decide (c = l))

set_option maxHeartbeats 1000000 in
theorem isReceiptFor_c (a b c d h l : Int) (w : World) (hh : -4611686018427387904 ≤ h ∧ h ≤ 4611686018427387904) : Calls Tryd.prog 85 #[.agg #[.int .i64 a, .int .i64 b, .int .i64 c, .int .i64 d], .int .i64 h, .int .i64 l] w fun e w' => e = .returned (.bool (forB a b c h l)) ∧ Below w.heap.size w w' := by
  have hq : ∀ wx, (binOp .eql 43 (.agg #[.int .i64 a, .int .i64 b, .int .i64 c, .int .i64 0]) (.agg #[.int .i64 (h - 1), .int .i64 h, .int .i64 l, .int .i64 0])).run Tryd.prog wx = .ok (.bool (forB a b c h l)) wx := fun wx => by
    rw [run_eql_rc]
    unfold forB
    simp only [BEq.rfl, Bool.and_true]
    rfl
  have HU : Hid (∀ wx, Calls Tryd.prog 76 #[.int .i64 h, .int .i64 l] wx fun e w' => e = .returned (.agg #[.int .i64 (h - 1), .int .i64 h, .int .i64 l, .int .i64 0]) ∧ Below wx.heap.size wx w') := fun wx => unsignedFor_c h l wx hh
  generalize forB a b c h l = fb at *
  generalize hz : h - 1 = z at *
  clear hz
  have HX0 : Hid (X4 (w.alloc (.cells #[.int .i64 a, .int .i64 b, .int .i64 c, .int .i64 d] 43)) w.heap.size (.int .i64 a) (.int .i64 b) (.int .i64 c) (.int .i64 d)) := x4_new w _ _ _ _ _ _ rfl
  have HB0 : Hid (Below w.heap.size w (w.alloc (.cells #[.int .i64 a, .int .i64 b, .int .i64 c, .int .i64 d] 43))) := balloc w _
  obtain ⟨V0, hV0⟩ : ∃ V, w.alloc (.cells #[.int .i64 a, .int .i64 b, .int .i64 c, .int .i64 d] 43) = V := ⟨_, rfl⟩
  rw [hV0] at HX0 HB0
  have HX1 : Hid (X4 (V0.setCell ⟨w.heap.size, 3, none⟩ (.int .i64 0)) w.heap.size (.int .i64 a) (.int .i64 b) (.int .i64 c) (.int .i64 0)) := HX0.out.set3 _
  have HB1 : Hid (Below w.heap.size w (V0.setCell ⟨w.heap.size, 3, none⟩ (.int .i64 0))) := HB0.out.setCell (Nat.le_refl _) _
  obtain ⟨V1, hV1⟩ : ∃ V, V0.setCell ⟨w.heap.size, 3, none⟩ (.int .i64 0) = V := ⟨_, rfl⟩
  rw [hV1] at HX1 HB1
  obtain ⟨⟨q0, q1, q2, q3⟩, qf⟩ := id HX0.out
  have qf3 := qf 3
  obtain ⟨⟨r0, r1, r2, r3⟩, rf⟩ := id HX1.out
  clear qf rf
  go_enter Tryd.func85, Tryd.ntmps85
  go_wp2
  clear hV0 hV1 q0 q1 q2 q3 qf3
  go_region_with (go_at_call 76; refine (HU.out _).mono ?_; rintro e w1 ⟨rfl, hb⟩; have hb2 : Below V1.heap.size V1 w1 := (by first | exact hb | exact ((Below.refl V1.heap.size V1).drew).trans hb); obtain ⟨⟨s0, s1, s2, s3⟩, _⟩ := HX1.out.later hb2; have HB2 : Hid (Below w.heap.size w w1) := HB1.out.trans (hb2.mono HB1.out.size); clear hb hb2)
  all_goals go_wp2
  all_goals go_ret
  all_goals exact ⟨rfl, HB2.out⟩

set_option maxHeartbeats 1000000 in
/-- What is a receipt at all, by the program. -/
theorem isReceipt_c (a b c d : Int) (w : World) : Calls Tryd.prog 59 #[.agg #[.int .i64 a, .int .i64 b, .int .i64 c, .int .i64 d]] w fun e w' => e = .returned (.bool (recB (a, b, c, d))) ∧ Below w.heap.size w w' := by
  have he : recB (a, b, c, d) = (decide (0 ≤ b ∧ b ≤ 5) && (letB c && (decide (0 ≤ d ∧ d ≤ 1498) && forB a b c b c))) := by
    rw [Bool.eq_iff_iff]
    simp [recB, forB, letB]
    omega
  generalize hrb : recB (a, b, c, d) = rb at he ⊢
  clear hrb
  have hh : ∀ wx, 0 ≤ b ∧ b ≤ 5 → Calls Tryd.prog 85 #[.agg #[.int .i64 a, .int .i64 b, .int .i64 c, .int .i64 d], .int .i64 b, .int .i64 c] wx fun e w' => e = .returned (.bool (forB a b c b c)) ∧ Below wx.heap.size wx w' := fun wx h => isReceiptFor_c a b c d b c wx (by omega)
  have hb5 : decide (0 ≤ b ∧ b ≤ 5) = true → 0 ≤ b ∧ b ≤ 5 := fun h => by simpa using h
  generalize forB a b c b c = g4 at he hh
  have c1 := fun wx => isHand_c b wx
  have c2 := fun wx => isLetterNumber_c c wx
  have c3 := fun wx => isSmall_c d wx
  generalize decide (0 ≤ b ∧ b ≤ 5) = g1 at he c1 hb5
  generalize letB c = g2 at he c2
  generalize decide (0 ≤ d ∧ d ≤ 1498) = g3 at he c3
  have HE : Hid (rb = (g1 && (g2 && (g3 && g4)))) := he
  clear he
  have HX0 : Hid (X4 (w.alloc (.cells #[.int .i64 a, .int .i64 b, .int .i64 c, .int .i64 d] 43)) w.heap.size (.int .i64 a) (.int .i64 b) (.int .i64 c) (.int .i64 d)) := x4_new w _ _ _ _ _ _ rfl
  have HB0 : Hid (Below w.heap.size w (w.alloc (.cells #[.int .i64 a, .int .i64 b, .int .i64 c, .int .i64 d] 43))) := balloc w _
  obtain ⟨V0, hV0⟩ : ∃ V, w.alloc (.cells #[.int .i64 a, .int .i64 b, .int .i64 c, .int .i64 d] 43) = V := ⟨_, rfl⟩
  rw [hV0] at HX0 HB0
  obtain ⟨⟨q0, q1, q2, q3⟩, qf⟩ := id HX0.out
  clear qf
  go_enter Tryd.func59, Tryd.ntmps59
  go_wp2_with fail
  refine (c1 _).mono ?_
  rintro e w' ⟨rfl, hw⟩
  subst w'
  by_cases hg1 : g1 = true
  case neg =>
    rw [Bool.not_eq_true] at hg1
    subst hg1
    go_wp2
    go_ret
    exact ⟨ret_bool (by rw [HE.out]; rfl), HB0.out⟩
  subst hg1
  go_wp2_with fail
  refine (c2 _).mono ?_
  rintro e w' ⟨rfl, hw⟩
  subst w'
  by_cases hg2 : g2 = true
  case neg =>
    rw [Bool.not_eq_true] at hg2
    subst hg2
    go_wp2
    go_ret
    exact ⟨ret_bool (by rw [HE.out]; rfl), HB0.out⟩
  subst hg2
  go_wp2_with fail
  refine (c3 _).mono ?_
  rintro e w' ⟨rfl, hw⟩
  subst w'
  by_cases hg3 : g3 = true
  case neg =>
    rw [Bool.not_eq_true] at hg3
    subst hg3
    go_wp2
    go_ret
    exact ⟨ret_bool (by rw [HE.out]; rfl), HB0.out⟩
  subst hg3
  go_wp2_with fail
  refine (hh _ (by first | exact hb5 rfl | exact hb5 trivial | exact hb5)).mono ?_
  rintro e w1 ⟨rfl, hb⟩
  have HB1 : Hid (Below w.heap.size w w1) := HB0.out.trans (hb.mono HB0.out.size)
  clear hb
  go_wp2
  go_ret
  exact ⟨ret_bool (by rw [HE.out]; simp), HB1.out⟩

set_option maxHeartbeats 1000000 in
/-- What is a receipt at all, by the specification. -/
theorem l11Receipt_c (a b c d : Int) (w : World) : Calls Tryd.prog 70 #[.agg #[.int .i64 a, .int .i64 b, .int .i64 c, .int .i64 d]] w fun e w' => e = .returned (.bool (recB (a, b, c, d))) ∧ Below w.heap.size w w' := by
  have he : recB (a, b, c, d) = (decide (-1 ≤ a ∧ a ≤ 4) && (decide (b = a + 1) && (letB c && decide (0 ≤ d ∧ d ≤ 1498)))) := rfl
  generalize hrb : recB (a, b, c, d) = rb at he ⊢
  clear hrb
  have c1 := fun wx => l1In_c a (-1) 4 wx
  have c2 := fun wx => l11Letter_c c wx
  have c3 := fun wx => l1In_c d 0 1498 wx
  have hb4 : decide (-1 ≤ a ∧ a ≤ 4) = true → -1 ≤ a ∧ a ≤ 4 := fun h => by simpa using h
  generalize decide (-1 ≤ a ∧ a ≤ 4) = g1 at he c1 hb4
  generalize letB c = g3 at he c2
  generalize decide (0 ≤ d ∧ d ≤ 1498) = g4 at he c3
  have HX0 : Hid (X4 (w.alloc (.cells #[.int .i64 a, .int .i64 b, .int .i64 c, .int .i64 d] 43)) w.heap.size (.int .i64 a) (.int .i64 b) (.int .i64 c) (.int .i64 d)) := x4_new w _ _ _ _ _ _ rfl
  have HB0 : Hid (Below w.heap.size w (w.alloc (.cells #[.int .i64 a, .int .i64 b, .int .i64 c, .int .i64 d] 43))) := balloc w _
  obtain ⟨V0, hV0⟩ : ∃ V, w.alloc (.cells #[.int .i64 a, .int .i64 b, .int .i64 c, .int .i64 d] 43) = V := ⟨_, rfl⟩
  rw [hV0] at HX0 HB0
  obtain ⟨⟨q0, q1, q2, q3⟩, qf⟩ := id HX0.out
  clear qf
  go_enter Tryd.func70, Tryd.ntmps70
  go_wp2_with fail
  refine (c1 _).mono ?_
  rintro e w' ⟨rfl, hw⟩
  subst w'
  by_cases hg1 : g1 = true
  case neg =>
    rw [Bool.not_eq_true] at hg1
    subst hg1
    have HE : Hid (rb = (false && (decide (b = a + 1) && (g3 && g4)))) := he
    clear he
    go_wp2
    go_ret
    exact ⟨ret_bool (by rw [HE.out]; rfl), HB0.out⟩
  have hab := hb4 hg1
  subst hg1
  by_cases hba : b = a + 1
  case neg =>
    have hne : (b == a + 1) = false := by simpa using hba
    have hrf : rb = false := by rw [he, decide_eq_false hba]; simp
    have HE : Hid (rb = false) := hrf
    clear he hba hrf
    go_wp2
    go_ret
    exact ⟨ret_bool HE.out.symm, HB0.out⟩
  have hne : (b == a + 1) = true := by simpa using hba
  have hrf : rb = (g3 && g4) := by rw [he, decide_eq_true hba]; simp
  have HE : Hid (rb = (g3 && g4)) := hrf
  clear he hba hrf
  go_wp2_with fail
  refine (c2 _).mono ?_
  rintro e w' ⟨rfl, hw⟩
  subst w'
  by_cases hg3 : g3 = true
  case neg =>
    rw [Bool.not_eq_true] at hg3
    subst hg3
    go_wp2
    go_ret
    exact ⟨ret_bool (by rw [HE.out]; rfl), HB0.out⟩
  subst hg3
  go_wp2_with fail
  refine (c3 _).mono ?_
  rintro e w' ⟨rfl, hw⟩
  subst w'
  go_wp2
  go_ret
  exact ⟨ret_bool (by rw [HE.out]; simp), HB0.out⟩

set_option maxHeartbeats 1000000 in
/-- Root to the Sign against public to the number, by the specification. -/
theorem l11Check_c (p a b c d : Int) (w : World) (hp : 0 ≤ p ∧ p < 2999) (hr : recB (a, b, c, d) = true) : Calls Tryd.prog 71 #[.int .i64 p, .agg #[.int .i64 a, .int .i64 b, .int .i64 c, .int .i64 d]] w fun e w' => e = .returned (.bool (chkR p (a, b, c, d))) ∧ Below w.heap.size w w' := by
  have hr2 : (-1 ≤ a ∧ a ≤ 4) ∧ b = a + 1 ∧ (0 ≤ c ∧ c ≤ 1000) ∧ 0 ≤ d ∧ d ≤ 1498 := by simpa [recB, letB] using hr
  obtain ⟨ha, _, hc, hd⟩ := hr2
  have hn := numR_bd (f := a) (l := c)
  have c1 := fun wx => l11Number_c a c wx (by omega) hc
  obtain ⟨k, hk⟩ : ∃ k : Nat, numR a c = k := ⟨(numR a c).toNat, by omega⟩
  obtain ⟨m, hm⟩ : ∃ m : Nat, d = m := ⟨d.toNat, by omega⟩
  have hx : chkR p (a, b, c, d) = (pw 4 m == pw p k) := by unfold chkR; rw [hm]; simp only [hk]; simp
  have c2 := fun wx => l2Power_c 4 m wx (by omega) (by omega) (by omega)
  have c3 := fun wx => l2Power_c p k wx hp.1 hp.2 (by omega)
  rw [hk] at c1
  subst hm
  generalize chkR p (a, b, c, (m : Int)) = rb at hx ⊢
  generalize pw 4 m = u at hx c2
  generalize pw p k = v at hx c3
  clear hr hn hk
  have HX0 : Hid (X4 (w.alloc (.cells #[.int .i64 a, .int .i64 b, .int .i64 c, .int .i64 (m : Int)] 43)) w.heap.size (.int .i64 a) (.int .i64 b) (.int .i64 c) (.int .i64 (m : Int))) := x4_new w _ _ _ _ _ _ rfl
  have HB0 : Hid (Below w.heap.size w (w.alloc (.cells #[.int .i64 a, .int .i64 b, .int .i64 c, .int .i64 (m : Int)] 43))) := balloc w _
  obtain ⟨V0, hV0⟩ : ∃ V, w.alloc (.cells #[.int .i64 a, .int .i64 b, .int .i64 c, .int .i64 (m : Int)] 43) = V := ⟨_, rfl⟩
  rw [hV0] at HX0 HB0
  obtain ⟨⟨q0, q1, q2, q3⟩, qf⟩ := id HX0.out
  clear qf
  go_enter Tryd.func71, Tryd.ntmps71
  go_wp2
  go_quiet (first | (go_at_call 79; with_reducible exact Calls.quiet_of_same (c1 _)) | (go_at_call 54; with_reducible exact Calls.quiet_of_same (c2 _)) | (go_at_call 54; with_reducible exact Calls.quiet_of_same (c3 _)))
  go_wp2
  go_ret
  exact ⟨ret_bool hx.symm, by first | exact below_drewN HB0.out _ | exact below_drewN (balloc w _) _⟩

end Go.Proofs.YtdhnolafkgkliaaDoor

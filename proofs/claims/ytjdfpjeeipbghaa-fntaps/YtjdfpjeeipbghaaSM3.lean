/- sameInts, sameBools; plain facts for the law on streams. -/
import Derived.Test.YtjdfpjeeipbghaaDT3
import Derived.Test.YtjdfpjeeipbghaaPD3S
import Derived.Test.YtjdfpjeeipbghaaMK3
import Derived.Test.YtjdfpjeeipbghaaRN3
import Derived.Test.YtjdfpjeeipbghaaBO3
import Derived.Test.YtjdfpjeeipbghaaTX3
namespace Go.Proofs.Ytjdfpjeeipbghaa
set_option linter.unusedVariables false
set_option linter.unusedSimpArgs false
open Go.RowKit

theorem sameInts_ne (ao bo : Option Addr) (n m c d : Nat) (w : World) (hnm : n ≠ m) (hn : n ≤ 140737488355328) (hm : m ≤ 140737488355328) :
    Calls Try.prog 17 #[.slice ao n c, .slice bo m d] w fun e w' => e = .returned (.bool false) ∧ w' = w := by
  have hx : ((n : Int) != (m : Int)) = true := by rw [bne_iff_ne]; omega
  go_enter Try.func17, Try.ntmps17
  go_wp2
  go_ret
  exact ⟨rfl, rfl⟩

theorem sameInts_nil (ao bo : Option Addr) (c d : Nat) (w : World) :
    Calls Try.prog 17 #[.slice ao 0 c, .slice bo 0 d] w fun e w' => e = .returned (.bool true) ∧ w' = w := by
  go_enter Try.func17, Try.ntmps17
  go_wp2
  refine wp_loop_rounds 1 ?_
  rw [rounds_succ]
  go_wp2
  go_ret
  exact ⟨rfl, rfl⟩


set_option maxHeartbeats 400000 in
theorem sameInts_at (b o n c b' o' d : Nat) (xs ys : List Int) (w : World) (hx : xs.length = n) (hy : ys.length = n) (hn : n ≤ 140737488355328)
    (hcx : ∀ j, j < n → w.cell? ⟨b, o + j, none⟩ = some (.int .i64 (xs.getD j 0))) (hcy : ∀ j, j < n → w.cell? ⟨b', o' + j, none⟩ = some (.int .i64 (ys.getD j 0))) :
    Calls Try.prog 17 #[.slice (some ⟨b, o, none⟩) n c, .slice (some ⟨b', o', none⟩) n d] w fun e w' => e = .returned (.bool (decide (xs = ys))) ∧ Below w.heap.size w w' := by
  have HX : Hid (xs.length = n) := hx
  have HY : Hid (ys.length = n) := hy
  clear hx hy
  go_enter Try.func17, Try.ntmps17
  go_wp2
  go_loopw [13] (fun i wr => ∃ k : Nat, k ≤ n ∧ i = .int .i64 k ∧ xs.take k = ys.take k ∧ Below w.heap.size w wr ∧ (∀ j, j < n → wr.cell? ⟨b, o + j, none⟩ = some (.int .i64 (xs.getD j 0))) ∧ (∀ j, j < n → wr.cell? ⟨b', o' + j, none⟩ = some (.int .i64 (ys.getD j 0)))) (fun i _ => n - (intOf i).toNat)
  case atStart => exact ⟨0, Nat.zero_le _, rfl, rfl, Below.refl _ _, hcx, hcy⟩
  case round =>
    obtain ⟨k, hk, rfl, htk, hbel, hc1, hc2⟩ := hrel
    have HT : Hid (xs.take k = ys.take k) := htk
    clear htk hcx hcy
    by_cases hlt : k < n
    · have g1 := hc1 k hlt
      have g2 := hc2 k hlt
      have h0 : (0 : Int) ≤ (k : Int) := by omega
      have hl : (k : Int) < (n : Int) := by omega
      generalize hx : xs.getD k 0 = x at g1
      generalize hy : ys.getD k 0 = y at g2
      have H1 : Hid (xs.getD k 0 = x) := hx
      have H2 : Hid (ys.getD k 0 = y) := hy
      clear hx hy
      by_cases hxy : x = y
      · subst hxy
        have ht : (x != x) = false := by simp
        have HC : Hid ((∀ j, j < n → wr.cell? ⟨b, o + j, none⟩ = some (.int .i64 (xs.getD j 0))) ∧ (∀ j, j < n → wr.cell? ⟨b', o' + j, none⟩ = some (.int .i64 (ys.getD j 0)))) := ⟨hc1, hc2⟩
        clear hc1 hc2
        go_wp2
        go_quiet (fail)
        go_wp2
        go_roundw
        case rel => exact ⟨k + 1, by omega, by go_num, take_eq_succ (by rw [HX.out]; omega) (by rw [HY.out]; omega) HT.out (H1.out.trans H2.out.symm), below_drewN hbel _, HC.out.1, HC.out.2⟩
        case measure => simp [intOf]; omega
      · have ht : (x != y) = true := by simpa using hxy
        clear hc1 hc2
        go_wp2
        go_quiet (fail)
        go_wp2
        go_ret
        refine ⟨?_, below_drewN hbel _⟩
        have : xs ≠ ys := fun e => hxy (by rw [← H1.out, ← H2.out, e])
        simp [this]
    · clear hc1 hc2
      go_wp2
      go_ret
      refine ⟨?_, hbel⟩
      have e : xs = ys := by
        have := HT.out
        rwa [List.take_of_length_le (by rw [HX.out]; omega), List.take_of_length_le (by rw [HY.out]; omega)] at this
      simp [e]

theorem sameInts_c (ao bo : Option Addr) (n m c d : Nat) (xs ys : List Int) (w : World) (hx : xs.length = n) (hy : ys.length = m) (hn : n ≤ 17592186044416) (hm : m ≤ 17592186044416) (hr : Rd w ao xs) (hs : Rd w bo ys) :
    Calls Try.prog 17 #[.slice ao n c, .slice bo m d] w fun e w' => e = .returned (.bool (decide (xs = ys))) ∧ Below w.heap.size w w' := by
  by_cases hnm : n = m
  · subst hnm
    rcases hr with rfl | ⟨b, o, rfl, hc⟩
    · simp at hx; subst hx
      have : ys = [] := List.length_eq_zero_iff.1 hy
      subst this
      refine (sameInts_nil ao bo c d w).mono ?_
      rintro e w' ⟨rfl, rfl⟩
      exact ⟨by simp, Below.refl _ _⟩
    · rcases hs with rfl | ⟨b', o', rfl, hc'⟩
      · simp at hy; subst hy
        have : xs = [] := List.length_eq_zero_iff.1 hx
        subst this
        refine (sameInts_nil _ bo c d w).mono ?_
        rintro e w' ⟨rfl, rfl⟩
        exact ⟨by simp, Below.refl _ _⟩
      · exact sameInts_at b o n c b' o' d xs ys w hx hy (by omega) (by rw [← hx]; exact hc) (by rw [← hy]; exact hc')
  · refine (sameInts_ne ao bo n m c d w hnm (by omega) (by omega)).mono ?_
    rintro e w' ⟨rfl, rfl⟩
    refine ⟨?_, Below.refl _ _⟩
    have : xs ≠ ys := fun e => hnm (by rw [← hx, ← hy, e])
    simp [this]

theorem sameBools_ne (ao bo : Option Addr) (n m c d : Nat) (w : World) (hnm : n ≠ m) (hn : n ≤ 140737488355328) (hm : m ≤ 140737488355328) :
    Calls Try.prog 26 #[.slice ao n c, .slice bo m d] w fun e w' => e = .returned (.bool false) ∧ w' = w := by
  have hx : ((n : Int) != (m : Int)) = true := by rw [bne_iff_ne]; omega
  go_enter Try.func26, Try.ntmps26
  go_wp2
  go_ret
  exact ⟨rfl, rfl⟩

theorem sameBools_nil (ao bo : Option Addr) (c d : Nat) (w : World) :
    Calls Try.prog 26 #[.slice ao 0 c, .slice bo 0 d] w fun e w' => e = .returned (.bool true) ∧ w' = w := by
  go_enter Try.func26, Try.ntmps26
  go_wp2
  refine wp_loop_rounds 1 ?_
  rw [rounds_succ]
  go_wp2
  go_ret
  exact ⟨rfl, rfl⟩


set_option maxHeartbeats 400000 in
theorem sameBools_at (b o n c b' o' d : Nat) (xs ys : List Bool) (w : World) (hx : xs.length = n) (hy : ys.length = n) (hn : n ≤ 140737488355328)
    (hcx : ∀ j, j < n → w.cell? ⟨b, o + j, none⟩ = some (.bool (xs.getD j false))) (hcy : ∀ j, j < n → w.cell? ⟨b', o' + j, none⟩ = some (.bool (ys.getD j false))) :
    Calls Try.prog 26 #[.slice (some ⟨b, o, none⟩) n c, .slice (some ⟨b', o', none⟩) n d] w fun e w' => e = .returned (.bool (decide (xs = ys))) ∧ Below w.heap.size w w' := by
  have HX : Hid (xs.length = n) := hx
  have HY : Hid (ys.length = n) := hy
  clear hx hy
  go_enter Try.func26, Try.ntmps26
  go_wp2
  go_loopw [13] (fun i wr => ∃ k : Nat, k ≤ n ∧ i = .int .i64 k ∧ xs.take k = ys.take k ∧ Below w.heap.size w wr ∧ (∀ j, j < n → wr.cell? ⟨b, o + j, none⟩ = some (.bool (xs.getD j false))) ∧ (∀ j, j < n → wr.cell? ⟨b', o' + j, none⟩ = some (.bool (ys.getD j false)))) (fun i _ => n - (intOf i).toNat)
  case atStart => exact ⟨0, Nat.zero_le _, rfl, rfl, Below.refl _ _, hcx, hcy⟩
  case round =>
    obtain ⟨k, hk, rfl, htk, hbel, hc1, hc2⟩ := hrel
    have HT : Hid (xs.take k = ys.take k) := htk
    clear htk hcx hcy
    by_cases hlt : k < n
    · have g1 := hc1 k hlt
      have g2 := hc2 k hlt
      have h0 : (0 : Int) ≤ (k : Int) := by omega
      have hl : (k : Int) < (n : Int) := by omega
      generalize hx : xs.getD k false = x at g1
      generalize hy : ys.getD k false = y at g2
      have H1 : Hid (xs.getD k false = x) := hx
      have H2 : Hid (ys.getD k false = y) := hy
      clear hx hy
      by_cases hxy : x = y
      · subst hxy
        have ht : (x != x) = false := by simp
        have HC : Hid ((∀ j, j < n → wr.cell? ⟨b, o + j, none⟩ = some (.bool (xs.getD j false))) ∧ (∀ j, j < n → wr.cell? ⟨b', o' + j, none⟩ = some (.bool (ys.getD j false)))) := ⟨hc1, hc2⟩
        clear hc1 hc2
        go_wp2
        go_quiet (fail)
        go_wp2
        go_roundw
        case rel => exact ⟨k + 1, by omega, by go_num, take_eq_succB (by rw [HX.out]; omega) (by rw [HY.out]; omega) HT.out (H1.out.trans H2.out.symm), below_drewN hbel _, HC.out.1, HC.out.2⟩
        case measure => simp [intOf]; omega
      · have ht : (x != y) = true := by simpa using hxy
        clear hc1 hc2
        have hne : xs ≠ ys := fun e => hxy (by rw [← H1.out, ← H2.out, e])
        clear ht
        cases x <;> cases y <;> first | exact absurd rfl hxy | skip
        all_goals go_wp2
        all_goals go_quiet (fail)
        all_goals go_wp2
        all_goals go_ret
        all_goals exact ⟨by simp [hne], below_drewN hbel _⟩
    · clear hc1 hc2
      go_wp2
      go_ret
      refine ⟨?_, hbel⟩
      have e : xs = ys := by
        have := HT.out
        rwa [List.take_of_length_le (by rw [HX.out]; omega), List.take_of_length_le (by rw [HY.out]; omega)] at this
      simp [e]

theorem sameBools_c (ao bo : Option Addr) (n m c d : Nat) (xs ys : List Bool) (w : World) (hx : xs.length = n) (hy : ys.length = m) (hn : n ≤ 17592186044416) (hm : m ≤ 17592186044416) (hr : RdB w ao xs) (hs : RdB w bo ys) :
    Calls Try.prog 26 #[.slice ao n c, .slice bo m d] w fun e w' => e = .returned (.bool (decide (xs = ys))) ∧ Below w.heap.size w w' := by
  by_cases hnm : n = m
  · subst hnm
    rcases hr with rfl | ⟨b, o, rfl, hc⟩
    · simp at hx; subst hx
      have : ys = [] := List.length_eq_zero_iff.1 hy
      subst this
      refine (sameBools_nil ao bo c d w).mono ?_
      rintro e w' ⟨rfl, rfl⟩
      exact ⟨by simp, Below.refl _ _⟩
    · rcases hs with rfl | ⟨b', o', rfl, hc'⟩
      · simp at hy; subst hy
        have : xs = [] := List.length_eq_zero_iff.1 hx
        subst this
        refine (sameBools_nil _ bo c d w).mono ?_
        rintro e w' ⟨rfl, rfl⟩
        exact ⟨by simp, Below.refl _ _⟩
      · exact sameBools_at b o n c b' o' d xs ys w hx hy (by omega) (by rw [← hx]; exact hc) (by rw [← hy]; exact hc')
  · refine (sameBools_ne ao bo n m c d w hnm (by omega) (by omega)).mono ?_
    rintro e w' ⟨rfl, rfl⟩
    refine ⟨?_, Below.refl _ _⟩
    have : xs ≠ ys := fun e => hnm (by rw [← hx, ← hy, e])
    simp [this]


theorem nextB_take (xs : List Int) (ys : List Bool) (k : Nat) (hall : ∀ t ∈ xs, 1 ≤ t ∧ t ≤ (k : Int)) : nextB xs (ys.take k) k = nextB xs ys k := by
  unfold nextB
  refine aheadAt_congr (fun t ht => ?_) xs.length (Nat.le_refl _)
  have := hall t ht
  rw [getD_take _ _ _ (by omega)]

/-- A stream is such as its taps make it. -/
theorem stream_makes {xs : List Int} {fs : List Bool} {K : Nat} (hk : okS xs fs = true) (h1 : fs.length ≤ K) (h2 : K ≤ 40) : makesF xs (fs.length : Int) (streamL xs fs K) = (true, true) := by
  have hA := (okS_taps hk).2.2
  have h12 := (okS_taps hk).1
  have hk' := hk
  simp only [okS, Bool.and_eq_true, decide_eq_true_eq] at hk'
  have hok : okM xs (fs.length : Int) (streamL xs fs K) = true := by
    simp only [okM, Bool.and_eq_true, decide_eq_true_eq, streamL_length]
    exact ⟨hk'.1, by omega, by omega, h2⟩
  unfold makesF
  rw [if_pos hok]
  have e : ((fs.length : Int)).toNat = fs.length := by omega
  rw [e]
  have hm : makesB xs fs.length (streamL xs fs K) = true := by
    unfold makesB
    refine decide_eq_true (fun j hj hl => ?_)
    rw [streamL_length] at hj
    rw [stream_getD xs fs K j hj hl, ← streamL_take xs fs K j (by omega)]
    exact nextB_take xs _ j (hA j hl)
  rw [hm]

theorem perFrom_some {S fs : List Bool} {R : Int} : ∀ {f p : Nat}, perFrom S fs f p = (R, true) → ∃ q : Nat, R = q ∧ p ≤ q ∧ q < p + f ∧ again S fs q
  | 0, p, h => by simp [perFrom] at h
  | f + 1, p, h => by
    simp only [perFrom] at h
    split at h
    · rename_i ha
      simp only [Prod.mk.injEq, and_true] at h
      exact ⟨p, h.symm, Nat.le_refl _, by omega, ha⟩
    · obtain ⟨q, h1, h2, h3, h4⟩ := perFrom_some h
      exact ⟨q, h1, by omega, by omega, h4⟩

theorem perFrom_zero {S fs : List Bool} {R : Int} : ∀ {f p : Nat}, perFrom S fs f p = (R, false) → R = 0
  | 0, p, h => by simp only [perFrom, Prod.mk.injEq, and_true] at h; exact h.symm
  | f + 1, p, h => by
    simp only [perFrom] at h
    split at h
    · simp at h
    · exact perFrom_zero h

theorem own_someB {w : World} {B p c : Nat} {a : Option Addr} {zs : List Bool} (h : OwnB w B (.slice a p c) zs) (hp : 0 < p) : ∃ g, a = some ⟨g, 0, none⟩ ∧ p ≤ c ∧ c ≤ maxLen := by
  have hr := h.rd'.1
  rcases h.form with ⟨h, _⟩ | ⟨g', cap', h, _, _, h1, h2⟩
  · simp only [Value.slice.injEq] at h
    omega
  · simp only [Value.slice.injEq] at h
    obtain ⟨rfl, hq1, rfl⟩ := h
    exact ⟨g', rfl, by omega, h2⟩

theorem own_dropB {w : World} {B p c g P : Nat} {zs : List Bool} (h : OwnB w B (.slice (some ⟨g, 0, none⟩) p c) zs) : RdB w (some ⟨g, P, none⟩) (zs.drop P) := by
  have hr := h.rd'.1
  refine Or.inr ⟨g, P, rfl, fun j hj => ?_⟩
  rw [List.length_drop] at hj
  rw [OwnB.cell (g := g) (cap := c) (xs := zs) (by rw [hr]; exact h) (P + j) (by omega), getD_drop]

/-- At its period a stream comes again. -/
theorem period_back {xs : List Int} {fs : List Bool} {R : Int} (h : perF xs fs = (R, true)) : okS xs fs = true ∧ ∃ p : Nat, R = p ∧ 1 ≤ p ∧ p ≤ 5000 ∧ (streamL xs fs (p + fs.length)).drop p = fs := by
  unfold perF at h
  split at h
  · rename_i hc
    obtain ⟨q, h1, h2, h3, h4⟩ := perFrom_some h
    refine ⟨hc.1, q, h1, h2, by omega, ?_⟩
    refine list_ext_getD (by rw [List.length_drop, streamL_length]; omega) fun j hj => ?_
    rw [List.length_drop, streamL_length] at hj
    have h5 := h4 j (by omega)
    rw [getD_drop, ← h5, ← streamL_take xs fs (5000 + fs.length) (q + fs.length) (by omega), getD_take _ _ _ (by omega)]
  · simp at h

theorem text_back {s : ByteArray} (h : fiveS s) {zs : List Bool} (hb : bitsF s = (zs, true)) : textF zs = (s, true) := by
  rcases h with rfl | rfl | rfl | rfl | rfl
  · have h0 : bitsF ⟨#[]⟩ = (bitsL ⟨#[]⟩, true) := by decide +kernel
    rw [h0] at hb
    simp only [Prod.mk.injEq, and_true] at hb
    rw [← hb]
    decide +kernel
  · have h0 : bitsF ⟨#[97]⟩ = (bitsL ⟨#[97]⟩, true) := by decide +kernel
    rw [h0] at hb
    simp only [Prod.mk.injEq, and_true] at hb
    rw [← hb]
    decide +kernel
  · have h0 : bitsF ⟨#[128, 1]⟩ = (bitsL ⟨#[128, 1]⟩, true) := by decide +kernel
    rw [h0] at hb
    simp only [Prod.mk.injEq, and_true] at hb
    rw [← hb]
    decide +kernel
  · have h0 : bitsF ⟨#[102, 105, 118, 101, 46]⟩ = (bitsL ⟨#[102, 105, 118, 101, 46]⟩, true) := by decide +kernel
    rw [h0] at hb
    simp only [Prod.mk.injEq, and_true] at hb
    rw [← hb]
    decide +kernel
  · have h0 : bitsF ⟨#[115, 105, 120, 115, 105, 120]⟩ = ([], false) := by decide +kernel
    rw [h0] at hb
    simp at hb

/-- The sum of the first k. -/
def sumAt (l : List Int) : Nat → Int
  | 0 => 0
  | k + 1 => sumAt l k + l.getD k 0

theorem sumAt_snoc (l : List Int) (v : Int) : ∀ k, k ≤ l.length → sumAt (l ++ [v]) k = sumAt l k
  | 0, _ => rfl
  | k + 1, h => by
    simp only [sumAt]
    rw [sumAt_snoc l v k (by omega), getD_snoc, if_neg (by omega)]

theorem sumAt_set (l : List Int) (i : Nat) (v : Int) (hi : i < l.length) : ∀ k, sumAt (l.set i v) k = sumAt l k + (if i < k then v - l.getD i 0 else 0)
  | 0 => by simp [sumAt]
  | k + 1 => by
    simp only [sumAt]
    rw [sumAt_set l i v hi k, getD_set_eq]
    by_cases h1 : i = k
    · subst h1
      rw [if_neg (show ¬ i < i by omega), if_pos ⟨rfl, hi⟩, if_pos (show i < i + 1 by omega)]
      omega
    · rw [if_neg (show ¬ (i = k ∧ k < l.length) from fun h => h1 h.1)]
      by_cases h2 : i < k
      · rw [if_pos h2, if_pos (show i < k + 1 by omega)]; omega
      · rw [if_neg h2, if_neg (show ¬ i < k + 1 by omega)]; omega

theorem runs_sum (xs : List Bool) : ∀ k : Nat, sumAt (runsAt xs k) (runsAt xs k).length = k ∧ ∀ j, j < (runsAt xs k).length → 1 ≤ (runsAt xs k).getD j 0
  | 0 => by simp [runsAt, sumAt]
  | k + 1 => by
    obtain ⟨h1, h2⟩ := runs_sum xs k
    by_cases h : 0 < k ∧ xs.getD (k - 1) false = xs.getD k false
    · have hl := (runsAt_ok xs k).2.1 h.1
      rw [runsAt_more h]
      refine ⟨?_, fun j hj => ?_⟩
      · rw [List.length_set, sumAt_set _ _ _ (by omega), if_pos (by omega), h1]
        push_cast
        omega
      · rw [List.length_set] at hj
        rw [getD_set_eq]
        have a := h2 j hj
        have b := h2 ((runsAt xs k).length - 1) (by omega)
        split <;> omega
    · rw [runsAt_new h]
      refine ⟨?_, fun j hj => ?_⟩
      · rw [List.length_append, List.length_singleton]
        simp only [sumAt]
        rw [sumAt_snoc _ _ _ (Nat.le_refl _), h1, getD_snoc, if_pos rfl]
        push_cast
        omega
      · rw [List.length_append, List.length_singleton] at hj
        rw [getD_snoc]
        split
        · omega
        · exact h2 j (by omega)

end Go.Proofs.Ytjdfpjeeipbghaa

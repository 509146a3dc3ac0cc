/- MixBlock and UnmixBlock of the specification. -/
import Derived.Test.YtlmamlhpjakcoaaK4
namespace Go.Proofs.Ytlmamlhpjakcoaa
set_option linter.unusedVariables false
set_option linter.unusedSimpArgs false
open Go.RowKit

theorem blk_end {u l : Nat} (hu : u < 256) (hl : l < 256) : wrap64 (wrap64 (256 * (u : Int)) + l) = ((joinN (u, l) : Nat) : Int) := by
  rw [w64 (n := 256 * (u : Int)) (by omega), w64 (by omega)]; simp [joinN]
theorem blk_end2 {u l : Nat} : 256 * (u : Int) + l = ((joinN (u, l) : Nat) : Int) := by simp [joinN]

set_option maxHeartbeats 400000 in
theorem l4Mix_at (b o n c B : Nat) (xs : List Int) (w : World) (hx : xs.length = n) (hn : n ≤ 8) (hB : B < 65536) (hk : allIn 0 65535 xs = true)
    (hc : ∀ j, j < n → w.cell? ⟨b, o + j, none⟩ = some (.int .i64 (xs.getD j 0))) :
    Calls Try.prog 58 #[.slice (some ⟨b, o, none⟩) n c, .int .i64 B] w fun e w' => e = .returned (.int .i64 (mixN (nums xs) B)) ∧ w' = w := by
  have HX : Hid (xs.length = n) := hx
  have HC : Hid (∀ j, j < n → w.cell? ⟨b, o + j, none⟩ = some (.int .i64 (xs.getD j 0))) := hc
  have HK : Hid (allIn 0 65535 xs = true) := hk
  obtain ⟨R, hR⟩ : ∃ R, R = fwdL (nums xs) (cutN B) := ⟨_, rfl⟩
  unfold mixN
  rw [← hR]
  have HR : Hid (R = fwdL ((nums xs).drop 0) (B / 256, B % 256)) := by show R = _; rw [hR]; rfl
  have hu := cutN_small hB
  have q1 : B / 256 < 256 := hu.1
  have q2 : B % 256 < 256 := hu.2
  clear hx hc hk hR hu
  go_enter Try.func58, Try.ntmps58
  go_wp2
  go_loop [5, 6, 16] (fun uv lv i => ∃ (k u l : Nat), k ≤ n ∧ i = .int .i64 k ∧ uv = .int .i64 u ∧ lv = .int .i64 l ∧ u < 256 ∧ l < 256 ∧ Hid (R = fwdL ((nums xs).drop k) (u, l))) (fun _ _ i => n - (intOf i).toNat)
  case atStart => exact ⟨0, B / 256, B % 256, Nat.zero_le _, rfl, by go_num, by go_num, q1, q2, HR⟩
  case round =>
    clear HR
    obtain ⟨k, u, l, hk, rfl, rfl, rfl, hu, hl, hR⟩ := hrel
    by_cases hlt : k < n
    · have g1 := HC.out k hlt
      obtain ⟨y, e1, e2, hy⟩ := keys_at HK.out (j := k) (by rw [HX.out]; exact hlt)
      rw [e1] at g1
      have HN : Hid (R = fwdL ((nums xs).drop (k + 1)) (l, u ^^^ rndN y l)) := by
        show R = _
        rw [hR.out, dropN_getD (by rw [nums_length, HX.out]; exact hlt), e2]; rfl
      have ht := fun wx => l4Round_c y l wx hy hl
      have hz := rndN_lt y l
      have hzz := xor_lt256 hu hz
      generalize rndN y l = z at ht hz HN hzz
      have hxor := i64_xor (a := u) (b := z) (by omega) (by omega)
      clear hR e1 e2
      go_wp2_with (go_at_call 70; refine (ht _).mono ?_; clear ht; rintro e w' ⟨rfl, rfl⟩)
      go_round
      case rel => exact ⟨k + 1, l, u ^^^ z, by omega, by go_num, rfl, by first | rw [hxor] | rfl, hl, hzz, HN⟩
      case measure => simp [intOf]; omega
    · have HE : Hid (R = (u, l)) := by
        show R = _
        rw [hR.out, List.drop_of_length_le (by rw [nums_length, HX.out]; omega)]; rfl
      clear hR
      go_wp2
      go_ret
      exact ⟨ret_int (by rw [HE.out]; first | exact blk_end hu hl | exact blk_end2), rfl⟩

theorem l4Mix_nil (ao : Option Addr) (c B : Nat) (w : World) (hB : B < 65536) :
    Calls Try.prog 58 #[.slice ao 0 c, .int .i64 B] w fun e w' => e = .returned (.int .i64 B) ∧ w' = w := by
  go_enter Try.func58, Try.ntmps58
  go_wp2
  refine wp_loop_rounds 1 ?_
  rw [rounds_succ]
  go_wp2
  go_ret
  exact ⟨ret_int (by first | omega | (rw [w64 (by omega)]; omega) | (rw [w64 (n := 256 * ((B : Int) / 256)) (by omega), w64 (by omega)]; omega)), rfl⟩

theorem l4Mix_c (ao : Option Addr) (n c B : Nat) (xs : List Int) (w : World) (hx : xs.length = n) (hk : keysB xs = true) (hB : B < 65536) (hr : Rd w ao xs) :
    Calls Try.prog 58 #[.slice ao n c, .int .i64 B] w fun e w' => e = .returned (.int .i64 (mixN (nums xs) B)) ∧ w' = w := by
  obtain ⟨h8, ha⟩ := keysB_parts hk
  rcases hr with rfl | ⟨b, o, rfl, hc⟩
  · simp at hx; subst hx
    have e : mixN (nums []) B = B := join_cut B
    rw [e]
    exact l4Mix_nil ao c B w hB
  · exact l4Mix_at b o n c B xs w hx (by omega) hB ha (by rw [← hx]; exact hc)

set_option maxHeartbeats 400000 in
theorem l4Unmix_at (b o n c B : Nat) (xs : List Int) (w : World) (hx : xs.length = n) (hn : n ≤ 8) (hB : B < 65536) (hk : allIn 0 65535 xs = true)
    (hc : ∀ j, j < n → w.cell? ⟨b, o + j, none⟩ = some (.int .i64 (xs.getD j 0))) :
    Calls Try.prog 60 #[.slice (some ⟨b, o, none⟩) n c, .int .i64 B] w fun e w' => e = .returned (.int .i64 (unmixN (nums xs) B)) ∧ w' = w := by
  have HX : Hid (xs.length = n) := hx
  have HC : Hid (∀ j, j < n → w.cell? ⟨b, o + j, none⟩ = some (.int .i64 (xs.getD j 0))) := hc
  have HK : Hid (allIn 0 65535 xs = true) := hk
  have HS : Hid ((B / 256, B % 256) = bwdL ((nums xs).drop n) (cutN B)) := by
    show _ = _
    rw [List.drop_of_length_le (by rw [nums_length]; omega)]; rfl
  have hu := cutN_small hB
  have q1 : B / 256 < 256 := hu.1
  have q2 : B % 256 < 256 := hu.2
  clear hx hc hk hu
  go_enter Try.func60, Try.ntmps60
  go_wp2
  go_loop [5, 6, 7] (fun uv lv i => ∃ (k u l : Nat) (z : Int), k ≤ n ∧ i = .int .i64 z ∧ z + 1 = k ∧ uv = .int .i64 u ∧ lv = .int .i64 l ∧ u < 256 ∧ l < 256 ∧ Hid ((u, l) = bwdL ((nums xs).drop k) (cutN B))) (fun _ _ i => (intOf i + 1).toNat)
  case atStart => exact ⟨n, B / 256, B % 256, (n : Int) - 1, Nat.le_refl _, by go_num, by omega, by go_num, by go_num, q1, q2, HS⟩
  case round =>
    clear HS
    obtain ⟨k, u, l, z, hk, rfl, hzk, rfl, rfl, hu, hl, hR⟩ := hrel
    by_cases hlt : 0 < k
    · have hzt : z.toNat = k - 1 := by omega
      have g1 := HC.out (k - 1) (by omega)
      obtain ⟨y, e1, e2, hy⟩ := keys_at HK.out (j := k - 1) (by rw [HX.out]; omega)
      rw [e1] at g1
      have z0 : 0 ≤ z := by omega
      have z1 : z < (n : Int) := by omega
      have HN : Hid ((l ^^^ rndN y u, u) = bwdL ((nums xs).drop (k - 1)) (cutN B)) := by
        show _ = _
        rw [dropN_getD (k := k - 1) (by rw [nums_length, HX.out]; omega), e2, show k - 1 + 1 = k by omega]
        show _ = bwd y (bwdL _ _)
        rw [← hR.out]; rfl
      have ht := fun wx => l4Round_c y u wx hy hu
      have hz := rndN_lt y u
      have hzz := xor_lt256 hl hz
      generalize rndN y u = q at ht hz HN hzz
      have hxor := i64_xor (a := l) (b := q) (by omega) (by omega)
      have HZ : Hid (z + 1 = (k : Int)) := hzk
      clear hR e1 e2 hzk
      go_wp2_with (go_at_call 70; refine (ht _).mono ?_; clear ht; rintro e w' ⟨rfl, rfl⟩)
      go_round
      case rel => exact ⟨k - 1, l ^^^ q, u, z - 1, by omega, by go_num, by have := HZ.out; omega, by first | rw [hxor] | rfl, rfl, hzz, hu, HN⟩
      case measure => simp [intOf]; omega
    · obtain rfl : k = 0 := by omega
      have hz0 : z < 0 := by omega
      have HE : Hid (bwdL (nums xs) (cutN B) = (u, l)) := by
        show _ = _
        rw [hR.out]; rfl
      clear hR hzk
      go_wp2
      go_ret
      exact ⟨ret_int (by unfold unmixN; rw [HE.out]; first | exact blk_end hu hl | exact blk_end2), rfl⟩

theorem l4Unmix_nil (ao : Option Addr) (c B : Nat) (w : World) (hB : B < 65536) :
    Calls Try.prog 60 #[.slice ao 0 c, .int .i64 B] w fun e w' => e = .returned (.int .i64 B) ∧ w' = w := by
  go_enter Try.func60, Try.ntmps60
  go_wp2
  refine wp_loop_rounds 1 ?_
  rw [rounds_succ]
  go_wp2
  go_ret
  exact ⟨ret_int (by first | omega | (rw [w64 (by omega)]; omega) | (rw [w64 (n := 256 * ((B : Int) / 256)) (by omega), w64 (by omega)]; omega)), rfl⟩

theorem l4Unmix_c (ao : Option Addr) (n c B : Nat) (xs : List Int) (w : World) (hx : xs.length = n) (hk : keysB xs = true) (hB : B < 65536) (hr : Rd w ao xs) :
    Calls Try.prog 60 #[.slice ao n c, .int .i64 B] w fun e w' => e = .returned (.int .i64 (unmixN (nums xs) B)) ∧ w' = w := by
  obtain ⟨h8, ha⟩ := keysB_parts hk
  rcases hr with rfl | ⟨b, o, rfl, hc⟩
  · simp at hx; subst hx
    have e : unmixN (nums []) B = B := join_cut B
    rw [e]
    exact l4Unmix_nil ao c B w hB
  · exact l4Unmix_at b o n c B xs w hx (by omega) hB ha (by rw [← hx]; exact hc)

def mixF (xs : List Int) (x : Int) : Int × Bool := if keysB xs = true ∧ blockB x = true then ((mixN (nums xs) x.toNat : Nat), true) else (0, false)
def unmixF (xs : List Int) (x : Int) : Int × Bool := if keysB xs = true ∧ blockB x = true then ((unmixN (nums xs) x.toNat : Nat), true) else (0, false)

theorem specMix_c (ao : Option Addr) (n c : Nat) (x : Int) (xs : List Int) (w : World) (hx : xs.length = n) (hn : n ≤ 17592186044416) (hr : Rd w ao xs) (r : Int) (fb : Bool) (hF : mixF xs x = (r, fb)) :
    Calls Try.prog 16 #[.slice ao n c, .int .i64 x] w fun e w' => e = .returned (.tuple #[.int .i64 r, .bool fb]) ∧ Below w.heap.size w w' := by
  unfold mixF at hF
  have hk := fun wx (h : wx = w) => l4Keys_c ao n c xs wx hx hn (by rw [h]; exact hr)
  have hb := l4Key_c x
  by_cases h1 : keysB xs = true
  · rw [h1] at hk
    by_cases h2 : blockB x = true
    · rw [h2] at hb
      rw [if_pos ⟨h1, h2⟩] at hF
      simp only [Prod.mk.injEq] at hF
      obtain ⟨rfl, rfl⟩ := hF
      have hx2 : 0 ≤ x ∧ x ≤ 65535 := by simpa [blockB] using h2
      obtain ⟨B, rfl⟩ : ∃ B : Nat, x = B := ⟨x.toNat, by omega⟩
      simp only [Int.toNat_natCast]
      have ht := fun wx (h : wx = w) => l4Mix_c ao n c B xs wx hx h1 (by omega) (by rw [h]; exact hr)
      generalize mixN (nums xs) B = z at ht
      clear h1 h2 hx2
      go_enter Try.func16, Try.ntmps16
      go_wp2_with (first | (go_at_call 56; refine (hk _ rfl).mono ?_; clear hk; rintro e w' ⟨rfl, rfl⟩) | (go_at_call 57; refine (hb _).mono ?_; clear hb; rintro e w' ⟨rfl, rfl⟩) | (go_at_call 58; refine (ht _ rfl).mono ?_; clear ht; rintro e w' ⟨rfl, rfl⟩))
      refine bodyPost_ret (v := .tuple #[.int .i64 (z : Int), .bool true]) (by simp [results, Try.results16, go_sem]) rfl ?_
      exact ⟨rfl, Below.refl _ _⟩
    · rw [if_neg (fun h => h2 h.2)] at hF
      simp only [Prod.mk.injEq] at hF
      obtain ⟨rfl, rfl⟩ := hF
      rw [Bool.eq_false_iff.2 h2] at hb
      clear h1 h2
      go_enter Try.func16, Try.ntmps16
      go_wp2_with (first | (go_at_call 56; refine (hk _ rfl).mono ?_; clear hk; rintro e w' ⟨rfl, rfl⟩) | (go_at_call 57; refine (hb _).mono ?_; clear hb; rintro e w' ⟨rfl, rfl⟩))
      refine bodyPost_ret (v := .tuple #[.int .i64 0, .bool false]) (by simp [results, Try.results16, go_sem]) rfl ?_
      exact ⟨rfl, Below.refl _ _⟩
  · rw [if_neg (fun h => h1 h.1)] at hF
    simp only [Prod.mk.injEq] at hF
    obtain ⟨rfl, rfl⟩ := hF
    rw [Bool.eq_false_iff.2 h1] at hk
    clear h1 hb
    go_enter Try.func16, Try.ntmps16
    go_wp2_with (go_at_call 56; refine (hk _ rfl).mono ?_; clear hk; rintro e w' ⟨rfl, rfl⟩)
    refine bodyPost_ret (v := .tuple #[.int .i64 0, .bool false]) (by simp [results, Try.results16, go_sem]) rfl ?_
    exact ⟨rfl, Below.refl _ _⟩

theorem specUnmix_c (ao : Option Addr) (n c : Nat) (x : Int) (xs : List Int) (w : World) (hx : xs.length = n) (hn : n ≤ 17592186044416) (hr : Rd w ao xs) (r : Int) (fb : Bool) (hF : unmixF xs x = (r, fb)) :
    Calls Try.prog 18 #[.slice ao n c, .int .i64 x] w fun e w' => e = .returned (.tuple #[.int .i64 r, .bool fb]) ∧ Below w.heap.size w w' := by
  unfold unmixF at hF
  have hk := fun wx (h : wx = w) => l4Keys_c ao n c xs wx hx hn (by rw [h]; exact hr)
  have hb := l4Key_c x
  by_cases h1 : keysB xs = true
  · rw [h1] at hk
    by_cases h2 : blockB x = true
    · rw [h2] at hb
      rw [if_pos ⟨h1, h2⟩] at hF
      simp only [Prod.mk.injEq] at hF
      obtain ⟨rfl, rfl⟩ := hF
      have hx2 : 0 ≤ x ∧ x ≤ 65535 := by simpa [blockB] using h2
      obtain ⟨B, rfl⟩ : ∃ B : Nat, x = B := ⟨x.toNat, by omega⟩
      simp only [Int.toNat_natCast]
      have ht := fun wx (h : wx = w) => l4Unmix_c ao n c B xs wx hx h1 (by omega) (by rw [h]; exact hr)
      generalize unmixN (nums xs) B = z at ht
      clear h1 h2 hx2
      go_enter Try.func18, Try.ntmps18
      go_wp2_with (first | (go_at_call 56; refine (hk _ rfl).mono ?_; clear hk; rintro e w' ⟨rfl, rfl⟩) | (go_at_call 57; refine (hb _).mono ?_; clear hb; rintro e w' ⟨rfl, rfl⟩) | (go_at_call 60; refine (ht _ rfl).mono ?_; clear ht; rintro e w' ⟨rfl, rfl⟩))
      refine bodyPost_ret (v := .tuple #[.int .i64 (z : Int), .bool true]) (by simp [results, Try.results18, go_sem]) rfl ?_
      exact ⟨rfl, Below.refl _ _⟩
    · rw [if_neg (fun h => h2 h.2)] at hF
      simp only [Prod.mk.injEq] at hF
      obtain ⟨rfl, rfl⟩ := hF
      rw [Bool.eq_false_iff.2 h2] at hb
      clear h1 h2
      go_enter Try.func18, Try.ntmps18
      go_wp2_with (first | (go_at_call 56; refine (hk _ rfl).mono ?_; clear hk; rintro e w' ⟨rfl, rfl⟩) | (go_at_call 57; refine (hb _).mono ?_; clear hb; rintro e w' ⟨rfl, rfl⟩))
      refine bodyPost_ret (v := .tuple #[.int .i64 0, .bool false]) (by simp [results, Try.results18, go_sem]) rfl ?_
      exact ⟨rfl, Below.refl _ _⟩
  · rw [if_neg (fun h => h1 h.1)] at hF
    simp only [Prod.mk.injEq] at hF
    obtain ⟨rfl, rfl⟩ := hF
    rw [Bool.eq_false_iff.2 h1] at hk
    clear h1 hb
    go_enter Try.func18, Try.ntmps18
    go_wp2_with (go_at_call 56; refine (hk _ rfl).mono ?_; clear hk; rintro e w' ⟨rfl, rfl⟩)
    refine bodyPost_ret (v := .tuple #[.int .i64 0, .bool false]) (by simp [results, Try.results18, go_sem]) rfl ?_
    exact ⟨rfl, Below.refl _ _⟩

end Go.Proofs.Ytlmamlhpjakcoaa

/- MixBlock and UnmixBlock of the specification. -/
import Derived.Test.YtnfoflijapbkdaaK4
namespace Go.Proofs.Ytnfoflijapbkdaa
set_option linter.unusedVariables false
set_option maxRecDepth 1000000
set_option linter.unusedSimpArgs false
open Go.RowKit

theorem blk_end {u l : Nat} (hu : u < 256) (hl : l < 256) : wrap64 (wrap64 (256 * (u : Int)) + l) = ((joinN (u, l) : Nat) : Int) := by
  rw [w64 (n := 256 * (u : Int)) (by omega), w64 (by omega)]; simp [joinN]
theorem blk_end2 {u l : Nat} : 256 * (u : Int) + l = ((joinN (u, l) : Nat) : Int) := by simp [joinN]

set_option maxHeartbeats 400000 in
theorem l4Mix_at (b o n c B : Nat) (xs : List Int) (w : World) (hx : xs.length = n) (hn : n ≤ 8) (hB : B < 65536) (hk : allIn 0 65535 xs = true)
    (hc : ∀ j, j < n → w.cell? ⟨b, o + j, none⟩ = some (.int .i64 (xs.getD j 0))) :
    Calls Try.prog 83 #[.slice (some ⟨b, o, none⟩) n c, .int .i64 B] w fun e w' => e = .returned (.int .i64 (mixN (nums xs) B)) ∧ w' = w := by
  have HX : Hid (xs.length = n) := hx
  have HC : Hid (∀ j, j < n → w.cell? ⟨b, o + j, none⟩ = some (.int .i64 (xs.getD j 0))) := hc
  have HK : Hid (allIn 0 65535 xs = true) := hk
  obtain ⟨R, hR⟩ : ∃ R, R = fwdL (nums xs) (cutN B) := ⟨_, rfl⟩
  unfold mixN
  rw [← hR]
  have HR : Hid (R = fwdL ((nums xs).drop 0) (B / 256, B % 256)) := by show R = _; rw [hR]; rfl
  have hu := cutN_small hB
  have q1 : B / 256 < 256 := hu.1
  have q2 : B % 256 < 256 := hu.2
  clear hx hc hk hR hu
  go_enter Try.func83, Try.ntmps83
  go_wp2
  go_loop [5, 6, 16] (fun uv lv i => ∃ (k u l : Nat), k ≤ n ∧ i = .int .i64 k ∧ uv = .int .i64 u ∧ lv = .int .i64 l ∧ u < 256 ∧ l < 256 ∧ Hid (R = fwdL ((nums xs).drop k) (u, l))) (fun _ _ i => n - (intOf i).toNat)
  case atStart => exact ⟨0, B / 256, B % 256, Nat.zero_le _, rfl, by go_num, by go_num, q1, q2, HR⟩
  case round =>
    clear HR
    obtain ⟨k, u, l, hk, rfl, rfl, rfl, hu, hl, hR⟩ := hrel
    by_cases hlt : k < n
    · have g1 := HC.out k hlt
      obtain ⟨y, e1, e2, hy⟩ := keys_at HK.out (j := k) (by rw [HX.out]; exact hlt)
      rw [e1] at g1
      have HN : Hid (R = fwdL ((nums xs).drop (k + 1)) (l, u ^^^ rndN y l)) := by
        show R = _
        rw [hR.out, dropN_getD (by rw [nums_length, HX.out]; exact hlt), e2]; rfl
      have ht := fun wx => l4Round_c y l wx hy hl
      have hz := rndN_lt y l
      have hzz := xor_lt256 hu hz
      generalize rndN y l = z at ht hz HN hzz
      have hxor := i64_xor (a := u) (b := z) (by omega) (by omega)
      clear hR e1 e2
      go_wp2_with (go_at_call 86; refine (ht _).mono ?_; clear ht; rintro e w' ⟨rfl, rfl⟩)
      go_round
      case rel => exact ⟨k + 1, l, u ^^^ z, by omega, by go_num, rfl, by first | rw [hxor] | rfl, hl, hzz, HN⟩
      case measure => simp [intOf]; omega
    · have HE : Hid (R = (u, l)) := by
        show R = _
        rw [hR.out, List.drop_of_length_le (by rw [nums_length, HX.out]; omega)]; rfl
      clear hR
      go_wp2
      go_ret
      exact ⟨ret_int (by rw [HE.out]; first | exact blk_end hu hl | exact blk_end2), rfl⟩

theorem l4Mix_nil (ao : Option Addr) (c B : Nat) (w : World) (hB : B < 65536) :
    Calls Try.prog 83 #[.slice ao 0 c, .int .i64 B] w fun e w' => e = .returned (.int .i64 B) ∧ w' = w := by
  go_enter Try.func83, Try.ntmps83
  go_wp2
  refine wp_loop_rounds 1 ?_
  rw [rounds_succ]
  go_wp2
  go_ret
  exact ⟨ret_int (by first | omega | (rw [w64 (by omega)]; omega) | (rw [w64 (n := 256 * ((B : Int) / 256)) (by omega), w64 (by omega)]; omega)), rfl⟩

theorem l4Mix_c (ao : Option Addr) (n c B : Nat) (xs : List Int) (w : World) (hx : xs.length = n) (hk : keysB xs = true) (hB : B < 65536) (hr : Rd w ao xs) :
    Calls Try.prog 83 #[.slice ao n c, .int .i64 B] w fun e w' => e = .returned (.int .i64 (mixN (nums xs) B)) ∧ w' = w := by
  obtain ⟨h8, ha⟩ := keysB_parts hk
  rcases hr with rfl | ⟨b, o, rfl, hc⟩
  · simp at hx; subst hx
    have e : mixN (nums []) B = B := join_cut B
    rw [e]
    exact l4Mix_nil ao c B w hB
  · exact l4Mix_at b o n c B xs w hx (by omega) hB ha (by rw [← hx]; exact hc)

def mixF (xs : List Int) (x : Int) : Int × Bool := if keysB xs = true ∧ blockB x = true then ((mixN (nums xs) x.toNat : Nat), true) else (0, false)
def unmixF (xs : List Int) (x : Int) : Int × Bool := if keysB xs = true ∧ blockB x = true then ((unmixN (nums xs) x.toNat : Nat), true) else (0, false)

end Go.Proofs.Ytnfoflijapbkdaa

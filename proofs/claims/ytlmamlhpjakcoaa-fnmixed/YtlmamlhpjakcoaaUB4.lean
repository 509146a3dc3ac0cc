/- UnmixBlock of the program: the contract. -/
import Derived.Test.YtlmamlhpjakcoaaM4
import Derived.Test.YtlmamlhpjakcoaaRB4
namespace Go.Proofs.Ytlmamlhpjakcoaa
set_option linter.unusedVariables false
set_option linter.unusedSimpArgs false
open Go.RowKit

theorem implUnmix_c (ao : Option Addr) (n c : Nat) (x : Int) (xs : List Int) (w : World) (hx : xs.length = n) (hn : n ≤ 17592186044416) (hr : Rd w ao xs) (r : Int) (fb : Bool) (hF : unmixF xs x = (r, fb)) :
    Calls Try.prog 17 #[.slice ao n c, .int .i64 x] w fun e w' => e = .returned (.tuple #[.int .i64 r, .bool fb]) ∧ Below w.heap.size w w' := by
  unfold unmixF at hF
  have hk := fun wx (h : wx = w) => areKeys_c ao n c xs wx hx hn (by rw [h]; exact hr)
  have hb := isBlock_c x
  by_cases h1 : keysB xs = true
  · rw [h1] at hk
    by_cases h2 : blockB x = true
    · rw [h2] at hb
      rw [if_pos ⟨h1, h2⟩] at hF
      simp only [Prod.mk.injEq] at hF
      obtain ⟨rfl, rfl⟩ := hF
      have hx2 : 0 ≤ x ∧ x ≤ 65535 := by simpa [blockB] using h2
      obtain ⟨B, rfl⟩ : ∃ B : Nat, x = B := ⟨x.toNat, by omega⟩
      simp only [Int.toNat_natCast]
      have hro := fun wx (h : wx = w) => roundsBackOf_c ao n c xs wx hx h1 (by rw [h]; exact hr)
      have HT : Hid (∀ a' c' wx, RdR 82 wx a' (nums xs).reverse → Calls Try.prog 54 #[.slice a' n c', .int .i64 B] wx fun e w' => e = .returned (.int .i64 (unmixN (nums xs) B : Nat)) ∧ Below wx.heap.size wx w') := fun a' c' wx h => by
        have := thruB_c a' n c' B (nums xs).reverse wx (by simp [nums_length, hx]) (by have := (keysB_parts h1).1; omega) (by omega) (by
          intro k hk
          have hk : k ∈ nums xs := by simpa using hk
          obtain ⟨y, hy, rfl⟩ := List.mem_map.1 hk
          have h3 := List.all_eq_true.1 (keysB_parts h1).2 y hy
          simp only [inB, decide_eq_true_eq] at h3
          omega) h
        rw [bckL_reverse] at this
        exact this
      generalize unmixN (nums xs) B = z at HT ⊢
      clear h1 h2 hx2
      go_enter Try.func17, Try.ntmps17
      go_wp2_with (first | (go_at_call 52; refine (hk _ rfl).mono ?_; clear hk; rintro e w' ⟨rfl, hw⟩; subst w') | (go_at_call 53; refine (hb _).mono ?_; clear hb; rintro e w' ⟨rfl, hw⟩; subst w') | (go_at_call 59; refine (hro _ rfl).mono ?_; clear hro; rintro e w1 ⟨a1, c1, rfl, hrd, hb1⟩; have HRD : Hid (RdR 82 w1 a1 (nums xs).reverse) := hrd; have HB1 : Hid (Below w.heap.size w w1) := hb1; clear hrd hb1) | (go_at_call 54; refine (HT.out _ _ _ HRD.out).mono ?_; clear HT; rintro e w2 ⟨rfl, hb2⟩; have HB2 : Hid (Below w.heap.size w w2) := HB1.out.trans (hb2.mono HB1.out.size); clear hb2))
      refine bodyPost_ret (v := .tuple #[.int .i64 (z : Int), .bool true]) (by simp [results, Try.results17, go_sem]) rfl ?_
      exact ⟨rfl, HB2.out⟩
    · rw [if_neg (fun h => h2 h.2)] at hF
      simp only [Prod.mk.injEq] at hF
      obtain ⟨rfl, rfl⟩ := hF
      rw [Bool.eq_false_iff.2 h2] at hb
      clear h1 h2
      go_enter Try.func17, Try.ntmps17
      go_wp2_with (first | (go_at_call 52; refine (hk _ rfl).mono ?_; clear hk; rintro e w' ⟨rfl, hw⟩; subst w') | (go_at_call 53; refine (hb _).mono ?_; clear hb; rintro e w' ⟨rfl, hw⟩; subst w'))
      refine bodyPost_ret (v := .tuple #[.int .i64 0, .bool false]) (by simp [results, Try.results17, go_sem]) rfl ?_
      exact ⟨rfl, Below.refl _ _⟩
  · rw [if_neg (fun h => h1 h.1)] at hF
    simp only [Prod.mk.injEq] at hF
    obtain ⟨rfl, rfl⟩ := hF
    rw [Bool.eq_false_iff.2 h1] at hk
    clear h1 hb
    go_enter Try.func17, Try.ntmps17
    go_wp2_with (go_at_call 52; refine (hk _ rfl).mono ?_; clear hk; rintro e w' ⟨rfl, hw⟩; subst w')
    refine bodyPost_ret (v := .tuple #[.int .i64 0, .bool false]) (by simp [results, Try.results17, go_sem]) rfl ?_
    exact ⟨rfl, Below.refl _ _⟩

end Go.Proofs.Ytlmamlhpjakcoaa

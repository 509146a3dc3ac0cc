/- Chapter 15: small functions; GoodTable of the program. -/
import Derived.Test.YtbjpkklonjlmiaaGW15
import Derived.Test.YtbjpkklonjlmiaaM15
import Derived.Shelf.SlSortCmp.QuietGrown
import Derived.Deep.QuietTactic
namespace Go.Proofs.Ytbjpkklonjlmiaa
set_option linter.unusedVariables false
set_option maxRecDepth 1000000
set_option linter.unusedSimpArgs false
open Go.RowKit Go.Sort

theorem isWord_c (x : Int) (w : World) : Calls Try.prog 35 #[.int .i64 x] w fun e w' => e = .returned (.bool (byB x)) ∧ w' = w := by
  unfold byB inB
  by_cases h1 : 0 ≤ x
  · by_cases h2 : x ≤ 255
    · rw [decide_eq_true ⟨h1, h2⟩]
      go_enter Try.func35, Try.ntmps35
      go_wp2
      go_ret
      exact ⟨rfl, rfl⟩
    · rw [decide_eq_false (by omega)]
      go_enter Try.func35, Try.ntmps35
      go_wp2
      go_ret
      exact ⟨rfl, rfl⟩
  · rw [decide_eq_false (by omega)]
    go_enter Try.func35, Try.ntmps35
    go_wp2
    go_ret
    exact ⟨rfl, rfl⟩

def seatB (s n : Int) : Bool := decide (0 ≤ n ∧ n < s)
theorem hasSeat_c (s : Int) (sa : Option Addr) (sn sc : Nat) (la : Option Addr) (ln lc : Nat) (n : Int) (w : World) : Calls Try.prog 34 #[.agg #[.int .i64 s, .slice sa sn sc, .slice la ln lc], .int .i64 n] w fun e w' => e = .returned (.bool (seatB s n)) ∧ GrW w w' := by
  unfold seatB
  by_cases h1 : 0 ≤ n
  · by_cases h2 : n < s
    · rw [decide_eq_true ⟨h1, h2⟩]
      go_enter Try.func34, Try.ntmps34
      go_wp2
      go_ret
      exact ⟨rfl, (GrW.refl w).alloc _⟩
    · rw [decide_eq_false (by omega)]
      go_enter Try.func34, Try.ntmps34
      go_wp2
      go_ret
      exact ⟨rfl, (GrW.refl w).alloc _⟩
  · rw [decide_eq_false (by omega)]
    go_enter Try.func34, Try.ntmps34
    go_wp2
    go_ret
    exact ⟨rfl, (GrW.refl w).alloc _⟩

theorem pairB_eq (s : Int) (p : List Int) : pairB s p = (decide (p.length = 2) && (seatB s (p.getD 0 0) && (seatB s (p.getD 1 0) && decide (p.getD 0 0 < p.getD 1 0)))) := by
  have h : ∀ x, inB x 0 (s - 1) = seatB s x := fun x => by
    unfold inB seatB
    rw [decide_eq_decide]; omega
  unfold pairB
  rw [h, h]

set_option maxHeartbeats 4000000 in
theorem canPair_c (s : Int) (sa : Option Addr) (sn sc : Nat) (la : Option Addr) (ln lc : Nat) (ro : Option Addr) (n c : Nat) (p : List Int) (w : World) (hp : p.length = n) (hn : n ≤ 9223372036854775807) (hr : Rd w ro p) : Calls Try.prog 40 #[.agg #[.int .i64 s, .slice sa sn sc, .slice la ln lc], .slice ro n c] w fun e w' => e = .returned (.bool (pairB s p)) ∧ GrW w w' := by
  rw [pairB_eq, hp]
  have mixed : Try.prog.follows .mixedOrders = true := by kernel_rfl
  have hX := x3_new w (.int .i64 s) (.slice sa sn sc) (.slice la ln lc) 26 w.heap.size rfl
  have HG : Hid (GrW w (w.alloc (.cells #[.int .i64 s, .slice sa sn sc, .slice la ln lc] 26))) := (GrW.refl w).alloc _
  have HR : Hid (Rd (w.alloc (.cells #[.int .i64 s, .slice sa sn sc, .slice la ln lc] 26)) ro p) := hr.later (balloc w _)
  have hlt : w.heap.size < (w.alloc (.cells #[.int .i64 s, .slice sa sn sc, .slice la ln lc] 26)).heap.size := by simp
  obtain ⟨V, hV⟩ : ∃ V, w.alloc (.cells #[.int .i64 s, .slice sa sn sc, .slice la ln lc] 26) = V := ⟨_, rfl⟩
  rw [hV] at hX HG HR hlt
  obtain ⟨⟨f0, f1, f2⟩, _⟩ := hX
  have k0 := fun n os => cell_grown (w := V) hlt f0 n os
  have k1 := fun n os => cell_grown (w := V) hlt f1 n os
  have k2 := fun n os => cell_grown (w := V) hlt f2 n os
  have q : ∀ (x : Int) (n : Nat) (os : Array Obj), Calls Try.prog 34 #[.agg #[.int .i64 s, .slice sa sn sc, .slice la ln lc], .int .i64 x] (grow (V.drewN n) os) fun e w' => e = .returned (.bool (seatB s x)) ∧ ∃ q os', w' = grow ((grow (V.drewN n) os).drewN q) os' := fun x n os => hasSeat_c s sa sn sc la ln lc x (grow (V.drewN n) os)
  by_cases h2 : n = 2
  case neg =>
    rw [decide_eq_false h2, Bool.false_and]
    have h2z : ((n : Int) == 2) = false := by rw [beq_eq_false_iff_ne]; omega
    clear hr HR hp
    go_enter Try.func40, Try.ntmps40
    go_wp2_with fail
    go_quiet_grown (fail)
    go_wp2
    go_ret
    exact ⟨rfl, HG.out.trans ⟨nq, osq, rfl⟩⟩
  subst h2
  rw [decide_eq_true rfl, Bool.true_and]
  obtain ⟨b, off, rfl, g0⟩ := HR.out.get (k := 0) (by omega)
  obtain ⟨_, _, e, g1⟩ := HR.out.get (k := 1) (by omega)
  simp only [Option.some.injEq, Addr.mk.injEq] at e
  obtain ⟨rfl, rfl, _⟩ := e
  rw [Nat.add_zero] at g0
  have hb : b < V.heap.size := World.block_lt_of_cell? V _ g0
  have k3 := fun n os => cell_grown (w := V) hb g0 n os
  have k4 := fun n os => cell_grown (w := V) hb g1 n os
  generalize p.getD 0 0 = x at k3 ⊢
  generalize p.getD 1 0 = y at k4 ⊢
  have qx := q x
  have qy := q y
  clear q g0 g1 f0 f1 f2 HR hr hp hn
  cases hx : seatB s x
  · rw [hx] at qx
    rw [Bool.false_and]
    go_enter Try.func40, Try.ntmps40
    go_wp2_with fail
    go_quiet_grown (first | (go_at_call 34; refine Calls.grown_of (qx _ _)) | fail)
    go_wp2
    go_ret
    exact ⟨rfl, HG.out.trans ⟨nq, osq, rfl⟩⟩
  rw [hx] at qx
  rw [Bool.true_and]
  cases hy : seatB s y
  · rw [hy] at qy
    rw [Bool.false_and]
    go_enter Try.func40, Try.ntmps40
    go_wp2_with fail
    go_quiet_grown (first | (go_at_call 34; first | (with_reducible refine Calls.grown_of (qx _ _)) | (with_reducible refine Calls.grown_of (qy _ _))) | fail)
    go_wp2
    go_ret
    exact ⟨rfl, HG.out.trans ⟨nq, osq, rfl⟩⟩
  rw [hy] at qy
  rw [Bool.true_and]
  go_enter Try.func40, Try.ntmps40
  go_wp2_with fail
  go_quiet_grown (first | (go_at_call 34; first | (with_reducible refine Calls.grown_of (qx _ _)) | (with_reducible refine Calls.grown_of (qy _ _))) | fail)
  go_wp2
  go_ret
  exact ⟨rfl, HG.out.trans ⟨nq, osq, rfl⟩⟩

set_option maxHeartbeats 1000000 in
theorem fewW_c (m : Nat) (hm : m ≤ 1000) (ao : Option Addr) (n c : Nat) (xs : List Int) (w : World) (hx : xs.length = n) (hn : n ≤ 17592186044416) (hr : Rd w ao xs) :
    Calls Try.prog 42 #[.slice ao n c, .int .i64 m, .func (.func 35) #[] #[]] w fun e w' => e = .returned (.bool (decide (xs.length ≤ m) && xs.all byB)) ∧ w' = w := by
  have HX : Hid (xs.length = n) := hx
  have HR : Hid (Rd w ao xs) := hr
  rw [hx]
  clear hx hr
  by_cases h5 : m < n
  · have h5' : (m : Int) < (n : Int) := by omega
    rw [decide_eq_false (show ¬ n ≤ m by omega), Bool.false_and]
    go_enter Try.func42, Try.ntmps42
    go_wp2
    go_ret
    exact ⟨rfl, rfl⟩
  · have h5' : ¬ (m : Int) < (n : Int) := by omega
    rw [decide_eq_true (show n ≤ m by omega), Bool.true_and]
    have HF : Hid (∀ k, k < n → byB (xs.getD k 0) = false → xs.all byB = false) := fun k hk h => all_out (d := 0) (by rw [HX.out]; exact hk) h
    have HE : Hid ((∀ j, j < n → byB (xs.getD j 0) = true) → xs.all byB = true) := fun h => all_end (d := 0) (fun j hj => h j (by rw [HX.out] at hj; exact hj))
    generalize xs.all byB = zb at HF HE ⊢
    go_enter Try.func42, Try.ntmps42
    go_wp2
    go_loop [15] (fun iv => ∃ (k : Nat), k ≤ n ∧ iv = .int .i64 k ∧ Hid (∀ j, j < k → byB (xs.getD j 0) = true)) (fun iv => n - (intOf iv).toNat)
    case atStart => exact ⟨0, Nat.zero_le _, rfl, fun j h => absurd h (by omega)⟩
    case round =>
      obtain ⟨k, hk, rfl, HS⟩ := hrel
      by_cases hlt : k < n
      · have hkl : k < xs.length := by rw [HX.out]; exact hlt
        obtain ⟨b, o, rfl, g1⟩ := HR.out.get hkl
        cases gm : byB (xs.getD k 0)
        · have HN : Hid (zb = false) := HF.out k hlt gm
          generalize xs.getD k 0 = v at g1 gm
          have q := fun wx => isWord_c v wx
          rw [gm] at q
          clear hkl gm
          go_wp2_with fail
          refine (q _).mono ?_
          clear q
          rintro e w' ⟨rfl, hw⟩
          subst w'
          go_wp2
          go_ret
          exact ⟨ret_bool HN.out.symm, rfl⟩
        · have HS2 : Hid (∀ j, j < k + 1 → byB (xs.getD j 0) = true) := fun j hj => by
            by_cases e : j = k
            · rw [e]; exact gm
            · exact HS.out j (by omega)
          generalize xs.getD k 0 = v at g1 gm
          have q := fun wx => isWord_c v wx
          rw [gm] at q
          clear hkl gm
          go_wp2_with fail
          refine (q _).mono ?_
          clear q
          rintro e w' ⟨rfl, hw⟩
          subst w'
          go_wp2
          go_round
          case rel => exact ⟨k + 1, by omega, by go_num, HS2⟩
          case measure => simp [intOf]; omega
      · obtain rfl : k = n := by omega
        have HM : Hid (zb = true) := HE.out HS.out
        go_wp2
        go_ret
        exact ⟨ret_bool HM.out.symm, rfl⟩

set_option maxHeartbeats 1000000 in
theorem fewP_c (s : Int) (sa : Option Addr) (sn sc : Nat) (la : Option Addr) (ln lc : Nat) (ao : Option Addr) (n c : Nat) (xs : List (List Int)) (w : World) (hx : xs.length = n) (hn : n ≤ 17592186044416) (hr : RdII w ao xs) (hl : ∀ l ∈ xs, l.length ≤ 9223372036854775807) :
    Calls Try.prog 39 #[.slice ao n c, .int .i64 15, .func (.func 40) #[.agg #[.int .i64 s, .slice sa sn sc, .slice la ln lc]] #[]] w fun e w' => e = .returned (.bool (decide (xs.length ≤ 15) && xs.all (pairB s))) ∧ Below w.heap.size w w' := by
  have HX : Hid (xs.length = n) := hx
  have HR : Hid (RdII w ao xs) := hr
  have HL : Hid (∀ l ∈ xs, l.length ≤ 9223372036854775807) := hl
  rw [hx]
  clear hx hr hl
  by_cases h5 : 15 < n
  · have h5' : (15 : Int) < (n : Int) := by omega
    rw [decide_eq_false (show ¬ n ≤ 15 by omega), Bool.false_and]
    go_enter Try.func39, Try.ntmps39
    go_wp2
    go_ret
    exact ⟨rfl, Below.refl _ _⟩
  · have h5' : ¬ (15 : Int) < (n : Int) := by omega
    rw [decide_eq_true (show n ≤ 15 by omega), Bool.true_and]
    have HF : Hid (∀ k, k < n → pairB s (xs.getD k []) = false → xs.all (pairB s) = false) := fun k hk h => all_out (d := []) (by rw [HX.out]; exact hk) h
    have HE : Hid ((∀ j, j < n → pairB s (xs.getD j []) = true) → xs.all (pairB s) = true) := fun h => all_end (d := []) (fun j hj => h j (by rw [HX.out] at hj; exact hj))
    generalize xs.all (pairB s) = zb at HF HE ⊢
    go_enter Try.func39, Try.ntmps39
    go_wp2
    go_loopw [15] (fun iv wr => ∃ (k : Nat), k ≤ n ∧ iv = .int .i64 k ∧ Hid (∀ j, j < k → pairB s (xs.getD j []) = true) ∧ Hid (Below w.heap.size w wr)) (fun iv _ => n - (intOf iv).toNat)
    case atStart => exact ⟨0, Nat.zero_le _, rfl, fun j h => absurd h (by omega), Below.refl _ _⟩
    case round =>
      obtain ⟨k, hk, rfl, HS, HB⟩ := hrel
      by_cases hlt : k < n
      · have hkl : k < xs.length := by rw [HX.out]; exact hlt
        obtain ⟨b, o, ro, rc, rfl, g1, hro⟩ := (HR.out.later HB.out).get hkl
        have hlk := HL.out _ (mem_getD [] hkl)
        cases gm : pairB s (xs.getD k [])
        · have HN : Hid (zb = false) := HF.out k hlt gm
          generalize xs.getD k [] = v at g1 gm hro hlk
          have q := canPair_c s sa sn sc la ln lc ro v.length rc v wr rfl hlk hro
          rw [gm] at q
          generalize v.length = vn at g1 q
          clear hkl gm hro hlk
          go_wp2_with fail
          refine q.mono ?_
          clear q
          rintro e w1 ⟨rfl, hw⟩
          have HB1 : Hid (Below w.heap.size w w1) := HB.out.trans (hw.below.mono HB.out.size)
          clear hw
          go_wp2
          go_ret
          exact ⟨ret_bool HN.out.symm, HB1.out⟩
        · have HS2 : Hid (∀ j, j < k + 1 → pairB s (xs.getD j []) = true) := fun j hj => by
            by_cases e : j = k
            · rw [e]; exact gm
            · exact HS.out j (by omega)
          generalize xs.getD k [] = v at g1 gm hro hlk
          have q := canPair_c s sa sn sc la ln lc ro v.length rc v wr rfl hlk hro
          rw [gm] at q
          generalize v.length = vn at g1 q
          clear hkl gm hro hlk
          go_wp2_with fail
          refine q.mono ?_
          clear q
          rintro e w1 ⟨rfl, hw⟩
          have HB1 : Hid (Below w.heap.size w w1) := HB.out.trans (hw.below.mono HB.out.size)
          clear hw
          go_wp2
          go_roundw
          case rel => exact ⟨k + 1, by omega, by go_num, HS2, HB1⟩
          case measure => simp [intOf]; omega
      · obtain rfl : k = n := by omega
        have HM : Hid (zb = true) := HE.out HS.out
        go_wp2
        go_ret
        exact ⟨ret_bool HM.out.symm, HB.out⟩

end Go.Proofs.Ytbjpkklonjlmiaa

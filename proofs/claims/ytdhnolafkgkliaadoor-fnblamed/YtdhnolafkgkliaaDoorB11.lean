/- Chapter 11: lists of numbers looked at, of both sides; secrets; roots to all secrets. -/
import Derived.Test.YtdhnolafkgkliaaDoorA11
import Derived.Test.YtdhnolafkgkliaaDoorPublic
namespace Go.Proofs.YtdhnolafkgkliaaDoor
set_option linter.unusedVariables false
set_option maxRecDepth 1000000
set_option linter.unusedSimpArgs false
open Go.RowKit

def allB (xs : List Int) (lo hi : Int) : Bool := xs.all (fun x => decide (lo ≤ x ∧ x ≤ hi))

theorem allB_out {xs : List Int} {n k : Nat} {x lo hi : Int} (hx : xs.length = n) (hk : k < n) (e : xs.getD k 0 = x) (h : ¬ (lo ≤ x ∧ x ≤ hi)) : allB xs lo hi = false := by
  have hm : x ∈ xs := by
    rw [← e]; simp only [List.getD, List.getElem?_eq_getElem (show k < xs.length by omega), Option.getD_some]; exact List.getElem_mem _
  rw [Bool.eq_false_iff]; intro g
  simp only [allB, List.all_eq_true, decide_eq_true_eq] at g
  exact h (g x hm)

theorem allB_end {xs : List Int} {n : Nat} {lo hi : Int} (hx : xs.length = n) (hall : ∀ j, j < n → lo ≤ xs.getD j 0 ∧ xs.getD j 0 ≤ hi) : allB xs lo hi = true := by
  simp only [allB, List.all_eq_true, decide_eq_true_eq]
  intro x hxm
  obtain ⟨j, hj, rfl⟩ := List.getElem_of_mem hxm
  have := hall j (by omega)
  simpa [List.getD, hj] using this

theorem l1All_at (b o n c : Nat) (lo hi : Int) (xs : List Int) (w : World) (hx : xs.length = n) (hn : n ≤ 17592186044416)
    (hc : ∀ j, j < n → w.cell? ⟨b, o + j, none⟩ = some (.int .i64 (xs.getD j 0))) :
    Calls Tryd.prog 78 #[.slice (some ⟨b, o, none⟩) n c, .int .i64 lo, .int .i64 hi] w fun e w' => e = .returned (.bool (allB xs lo hi)) ∧ w' = w := by
  have HX : Hid (xs.length = n) := hx
  have HC : Hid (∀ j, j < n → w.cell? ⟨b, o + j, none⟩ = some (.int .i64 (xs.getD j 0))) := hc
  clear hx hc
  go_enter Tryd.func78, Tryd.ntmps78
  go_wp2
  go_loop [11] (fun i => ∃ k : Nat, k ≤ n ∧ i = .int .i64 k ∧ Hid (∀ j, j < k → lo ≤ xs.getD j 0 ∧ xs.getD j 0 ≤ hi)) (fun i => n - (intOf i).toNat)
  case atStart => exact ⟨0, Nat.zero_le _, rfl, fun j h => absurd h (by omega)⟩
  case round =>
    obtain ⟨k, hk, rfl, hall⟩ := hrel
    by_cases hlt : k < n
    · have g1 := HC.out k hlt
      generalize hy : xs.getD k 0 = x at g1
      have H1 : Hid (xs.getD k 0 = x) := hy
      clear hy
      by_cases hin : lo ≤ x ∧ x ≤ hi
      · have hd : decide (lo ≤ x ∧ x ≤ hi) = true := decide_eq_true hin
        have HI : Hid (lo ≤ x ∧ x ≤ hi) := hin
        clear hin
        go_wp2_with (go_at_call 50; refine (l1In_c x lo hi _).mono ?_; rw [hd]; clear hd; rintro e w' ⟨rfl, rfl⟩)
        go_round
        case rel => exact ⟨k + 1, by omega, by go_num, fun j hj => by
          by_cases e : j = k
          · subst e; rw [H1.out]; exact HI.out
          · exact hall.out j (by omega)⟩
        case measure => simp [intOf]; omega
      · have hd : decide (lo ≤ x ∧ x ≤ hi) = false := decide_eq_false hin
        have HI : Hid (¬ (lo ≤ x ∧ x ≤ hi)) := hin
        clear hin
        go_wp2_with (go_at_call 50; refine (l1In_c x lo hi _).mono ?_; rw [hd]; clear hd; rintro e w' ⟨rfl, rfl⟩)
        go_ret
        exact ⟨ret_bool (allB_out HX.out hlt H1.out HI.out).symm, rfl⟩
    · go_wp2
      go_ret
      obtain rfl : k = n := by omega
      exact ⟨ret_bool (allB_end HX.out hall.out).symm, rfl⟩

theorem l1All_nil (ao : Option Addr) (c : Nat) (lo hi : Int) (w : World) :
    Calls Tryd.prog 78 #[.slice ao 0 c, .int .i64 lo, .int .i64 hi] w fun e w' => e = .returned (.bool (allB [] lo hi)) ∧ w' = w := by
  go_enter Tryd.func78, Tryd.ntmps78
  go_wp2
  refine wp_loop_rounds 1 ?_
  rw [rounds_succ]
  go_wp2
  go_ret
  exact ⟨rfl, rfl⟩

theorem l1All_c (ao : Option Addr) (n c : Nat) (lo hi : Int) (xs : List Int) (w : World) (hx : xs.length = n) (hn : n ≤ 17592186044416) (hr : Rd w ao xs) :
    Calls Tryd.prog 78 #[.slice ao n c, .int .i64 lo, .int .i64 hi] w fun e w' => e = .returned (.bool (allB xs lo hi)) ∧ w' = w := by
  rcases hr with rfl | ⟨b, o, rfl, hc⟩
  · simp at hx; subst hx; exact l1All_nil _ _ _ _ _
  · exact l1All_at b o n c lo hi xs w hx hn (by rw [← hx]; exact hc)

theorem allB_getD {xs : List Int} {lo hi : Int} (h : allB xs lo hi = true) : ∀ j, j < xs.length → lo ≤ xs.getD j 0 ∧ xs.getD j 0 ≤ hi := by
  simp only [allB, List.all_eq_true, decide_eq_true_eq] at h
  intro j hj
  have := h (xs[j]) (List.getElem_mem hj)
  simpa [List.getD, hj] using this

theorem Rd.get {w : World} {ao : Option Addr} {xs : List Int} {k : Nat} (h : Rd w ao xs) (hk : k < xs.length) : ∃ b off, ao = some ⟨b, off, none⟩ ∧ w.cell? ⟨b, off + k, none⟩ = some (.int .i64 (xs.getD k 0)) := by
  rcases h with rfl | ⟨b, o, rfl, hc⟩
  · simp at hk
  · exact ⟨b, o, rfl, hc k hk⟩

theorem all_out {α : Type} {d : α} {xs : List α} {P : α → Bool} {k : Nat} (hk : k < xs.length) (h : P (xs.getD k d) = false) : xs.all P = false := by
  rw [Bool.eq_false_iff]
  intro g
  rw [List.all_eq_true] at g
  have := g (xs[k]) (List.getElem_mem hk)
  simp [List.getD, hk] at h
  rw [h] at this
  cases this
theorem all_end {α : Type} {d : α} {xs : List α} {P : α → Bool} (h : ∀ j, j < xs.length → P (xs.getD j d) = true) : xs.all P = true := by
  rw [List.all_eq_true]
  intro x hx
  obtain ⟨j, hj, rfl⟩ := List.getElem_of_mem hx
  have := h j hj
  simpa [List.getD, hj] using this
theorem all_at {α : Type} {d : α} {xs : List α} {P : α → Bool} {k : Nat} (h : xs.all P = true) (hk : k < xs.length) : P (xs.getD k d) = true := by
  rw [List.all_eq_true] at h
  have := h (xs[k]) (List.getElem_mem hk)
  simpa [List.getD, hk] using this
theorem take_snocP {xs : List (Int × Int)} {k : Nat} (h : k < xs.length) : xs.take (k + 1) = xs.take k ++ [xs.getD k (0, 0)] := by
  rw [List.take_succ_eq_append_getElem h]; simp [List.getD, h]

set_option maxHeartbeats 1000000 in
theorem areFewSec_c (ao : Option Addr) (n c : Nat) (xs : List Int) (w : World) (hx : xs.length = n) (hn : n ≤ 17592186044416) (hr : Rd w ao xs) :
    Calls Tryd.prog 75 #[.slice ao n c, .int .i64 6, .func (.func 44) #[] #[]] w fun e w' => e = .returned (.bool (decide (xs.length ≤ 6) && xs.all secB6)) ∧ w' = w := by
  have HX : Hid (xs.length = n) := hx
  have HR : Hid (Rd w ao xs) := hr
  rw [hx]
  clear hx hr
  by_cases h5 : 6 < n
  · have h5' : (6 : Int) < (n : Int) := by omega
    rw [decide_eq_false (show ¬ n ≤ 6 by omega), Bool.false_and]
    go_enter Tryd.func75, Tryd.ntmps75
    go_wp2
    go_ret
    exact ⟨rfl, rfl⟩
  · have h5' : ¬ (6 : Int) < (n : Int) := by omega
    rw [decide_eq_true (show n ≤ 6 by omega), Bool.true_and]
    have HF : Hid (∀ k, k < n → secB6 (xs.getD k 0) = false → xs.all secB6 = false) := fun k hk h => all_out (d := 0) (by rw [HX.out]; exact hk) h
    have HE : Hid ((∀ j, j < n → secB6 (xs.getD j 0) = true) → xs.all secB6 = true) := fun h => all_end (d := 0) (fun j hj => h j (by rw [HX.out] at hj; exact hj))
    generalize xs.all secB6 = zb at HF HE ⊢
    go_enter Tryd.func75, Tryd.ntmps75
    go_wp2
    go_loop [15] (fun iv => ∃ (k : Nat), k ≤ n ∧ iv = .int .i64 k ∧ Hid (∀ j, j < k → secB6 (xs.getD j 0) = true)) (fun iv => n - (intOf iv).toNat)
    case atStart => exact ⟨0, Nat.zero_le _, rfl, fun j h => absurd h (by omega)⟩
    case round =>
      obtain ⟨k, hk, rfl, HS⟩ := hrel
      by_cases hlt : k < n
      · have hkl : k < xs.length := by rw [HX.out]; exact hlt
        obtain ⟨b, o, rfl, g1⟩ := Rd.get HR.out hkl
        cases gm : secB6 (xs.getD k 0)
        · have HN : Hid (zb = false) := HF.out k hlt gm
          generalize xs.getD k 0 = v at g1 gm
          have q := fun wx => isSecret_c v wx
          rw [show decide (1 ≤ v ∧ v ≤ 1498) = secB6 v from rfl] at q
          rw [gm] at q
          clear hkl gm
          go_wp2_with fail
          refine (q _).mono ?_
          clear q
          rintro e w' ⟨rfl, hw⟩
          subst w'
          go_wp2
          go_ret
          exact ⟨ret_bool HN.out.symm, rfl⟩
        · have HS2 : Hid (∀ j, j < k + 1 → secB6 (xs.getD j 0) = true) := fun j hj => by
            by_cases e : j = k
            · rw [e]; exact gm
            · exact HS.out j (by omega)
          generalize xs.getD k 0 = v at g1 gm
          have q := fun wx => isSecret_c v wx
          rw [show decide (1 ≤ v ∧ v ≤ 1498) = secB6 v from rfl] at q
          rw [gm] at q
          clear hkl gm
          go_wp2_with fail
          refine (q _).mono ?_
          clear q
          rintro e w' ⟨rfl, hw⟩
          subst w'
          go_wp2
          go_round
          case rel => exact ⟨k + 1, by omega, by go_num, HS2⟩
          case measure => simp [intOf]; omega
      · obtain rfl : k = n := by omega
        have HM : Hid (zb = true) := HE.out HS.out
        go_wp2
        go_ret
        exact ⟨ret_bool HM.out.symm, rfl⟩

set_option maxHeartbeats 1000000 in
theorem areFewMem_c (ao : Option Addr) (n c : Nat) (xs : List Int) (w : World) (hx : xs.length = n) (hn : n ≤ 17592186044416) (hr : Rd w ao xs) :
    Calls Tryd.prog 75 #[.slice ao n c, .int .i64 6, .func (.func 58) #[] #[]] w fun e w' => e = .returned (.bool (decide (xs.length ≤ 6) && xs.all memB)) ∧ w' = w := by
  have HX : Hid (xs.length = n) := hx
  have HR : Hid (Rd w ao xs) := hr
  rw [hx]
  clear hx hr
  by_cases h5 : 6 < n
  · have h5' : (6 : Int) < (n : Int) := by omega
    rw [decide_eq_false (show ¬ n ≤ 6 by omega), Bool.false_and]
    go_enter Tryd.func75, Tryd.ntmps75
    go_wp2
    go_ret
    exact ⟨rfl, rfl⟩
  · have h5' : ¬ (6 : Int) < (n : Int) := by omega
    rw [decide_eq_true (show n ≤ 6 by omega), Bool.true_and]
    have HF : Hid (∀ k, k < n → memB (xs.getD k 0) = false → xs.all memB = false) := fun k hk h => all_out (d := 0) (by rw [HX.out]; exact hk) h
    have HE : Hid ((∀ j, j < n → memB (xs.getD j 0) = true) → xs.all memB = true) := fun h => all_end (d := 0) (fun j hj => h j (by rw [HX.out] at hj; exact hj))
    generalize xs.all memB = zb at HF HE ⊢
    go_enter Tryd.func75, Tryd.ntmps75
    go_wp2
    go_loop [15] (fun iv => ∃ (k : Nat), k ≤ n ∧ iv = .int .i64 k ∧ Hid (∀ j, j < k → memB (xs.getD j 0) = true)) (fun iv => n - (intOf iv).toNat)
    case atStart => exact ⟨0, Nat.zero_le _, rfl, fun j h => absurd h (by omega)⟩
    case round =>
      obtain ⟨k, hk, rfl, HS⟩ := hrel
      by_cases hlt : k < n
      · have hkl : k < xs.length := by rw [HX.out]; exact hlt
        obtain ⟨b, o, rfl, g1⟩ := Rd.get HR.out hkl
        cases gm : memB (xs.getD k 0)
        · have HN : Hid (zb = false) := HF.out k hlt gm
          generalize xs.getD k 0 = v at g1 gm
          have q := fun wx => implMember_c v wx
          skip
          rw [gm] at q
          clear hkl gm
          go_wp2_with fail
          refine (q _).mono ?_
          clear q
          rintro e w' ⟨rfl, hw⟩
          subst w'
          go_wp2
          go_ret
          exact ⟨ret_bool HN.out.symm, rfl⟩
        · have HS2 : Hid (∀ j, j < k + 1 → memB (xs.getD j 0) = true) := fun j hj => by
            by_cases e : j = k
            · rw [e]; exact gm
            · exact HS.out j (by omega)
          generalize xs.getD k 0 = v at g1 gm
          have q := fun wx => implMember_c v wx
          skip
          rw [gm] at q
          clear hkl gm
          go_wp2_with fail
          refine (q _).mono ?_
          clear q
          rintro e w' ⟨rfl, hw⟩
          subst w'
          go_wp2
          go_round
          case rel => exact ⟨k + 1, by omega, by go_num, HS2⟩
          case measure => simp [intOf]; omega
      · obtain rfl : k = n := by omega
        have HM : Hid (zb = true) := HE.out HS.out
        go_wp2
        go_ret
        exact ⟨ret_bool HM.out.symm, rfl⟩

theorem areSomeSec_c (ao : Option Addr) (n c : Nat) (xs : List Int) (w : World) (hx : xs.length = n) (hn : n ≤ 17592186044416) (hr : Rd w ao xs) :
    Calls Tryd.prog 43 #[.slice ao n c, .int .i64 6, .func (.func 44) #[] #[]] w fun e w' => e = .returned (.bool (decide (1 ≤ xs.length ∧ xs.length ≤ 6) && xs.all secB6)) ∧ w' = w := by
  have q := areFewSec_c ao n c xs w hx hn hr
  have e : (decide (1 ≤ xs.length ∧ xs.length ≤ 6) && xs.all secB6) = (decide (0 < n) && (decide (xs.length ≤ 6) && xs.all secB6)) := by
    rw [← Bool.and_assoc, ← hx]
    congr 1
    rw [← Bool.decide_and]
    exact decide_eq_decide.2 (by omega)
  rw [e]
  clear e
  generalize (decide (xs.length ≤ 6) && xs.all secB6) = b at q ⊢
  clear hx hr
  by_cases h0 : n = 0
  · have h0' : ¬ (0 : Int) < (n : Int) := by omega
    rw [decide_eq_false (show ¬ 0 < n by omega), Bool.false_and]
    clear h0 q
    go_enter Tryd.func43, Tryd.ntmps43
    go_wp2
    go_ret
    exact ⟨rfl, rfl⟩
  · have h0' : (0 : Int) < (n : Int) := by omega
    rw [decide_eq_true (show 0 < n by omega), Bool.true_and]
    clear h0
    go_enter Tryd.func43, Tryd.ntmps43
    go_wp2_with fail
    refine q.mono ?_
    clear q
    rintro e w' ⟨rfl, hw⟩
    subst w'
    go_wp2
    go_ret
    exact ⟨rfl, rfl⟩

theorem areSomeMem_c (ao : Option Addr) (n c : Nat) (xs : List Int) (w : World) (hx : xs.length = n) (hn : n ≤ 17592186044416) (hr : Rd w ao xs) :
    Calls Tryd.prog 43 #[.slice ao n c, .int .i64 6, .func (.func 58) #[] #[]] w fun e w' => e = .returned (.bool (decide (1 ≤ xs.length ∧ xs.length ≤ 6) && xs.all memB)) ∧ w' = w := by
  have q := areFewMem_c ao n c xs w hx hn hr
  have e : (decide (1 ≤ xs.length ∧ xs.length ≤ 6) && xs.all memB) = (decide (0 < n) && (decide (xs.length ≤ 6) && xs.all memB)) := by
    rw [← Bool.and_assoc, ← hx]
    congr 1
    rw [← Bool.decide_and]
    exact decide_eq_decide.2 (by omega)
  rw [e]
  clear e
  generalize (decide (xs.length ≤ 6) && xs.all memB) = b at q ⊢
  clear hx hr
  by_cases h0 : n = 0
  · have h0' : ¬ (0 : Int) < (n : Int) := by omega
    rw [decide_eq_false (show ¬ 0 < n by omega), Bool.false_and]
    clear h0 q
    go_enter Tryd.func43, Tryd.ntmps43
    go_wp2
    go_ret
    exact ⟨rfl, rfl⟩
  · have h0' : (0 : Int) < (n : Int) := by omega
    rw [decide_eq_true (show 0 < n by omega), Bool.true_and]
    clear h0
    go_enter Tryd.func43, Tryd.ntmps43
    go_wp2_with fail
    refine q.mono ?_
    clear q
    rintro e w' ⟨rfl, hw⟩
    subst w'
    go_wp2
    go_ret
    exact ⟨rfl, rfl⟩

theorem l11Secrets_c (ao : Option Addr) (n c : Nat) (xs : List Int) (w : World) (hx : xs.length = n) (hn : n ≤ 17592186044416) (hr : Rd w ao xs) :
    Calls Tryd.prog 48 #[.slice ao n c] w fun e w' => e = .returned (.bool (secsH xs)) ∧ w' = w := by
  have c1 := fun wx => l1In_c (n : Int) 1 6 wx
  have c2 := fun wx hr => l1All_c ao n c 1 1498 xs wx hx hn hr
  have HR : Hid (Rd w ao xs) := hr
  have he : secsH xs = (decide (1 ≤ (n : Int) ∧ (n : Int) ≤ 6) && allB xs 1 1498) := by
    unfold secsH allB
    rw [hx]
    congr 1
    exact decide_eq_decide.2 (by omega)
  generalize secsH xs = rb at he ⊢
  generalize allB xs 1 1498 = g2 at he c2
  generalize decide (1 ≤ (n : Int) ∧ (n : Int) ≤ 6) = g1 at he c1
  clear hx hr
  have HE : Hid (rb = (g1 && g2)) := he
  clear he
  go_enter Tryd.func48, Tryd.ntmps48
  go_wp2_with fail
  refine (c1 _).mono ?_
  rintro e w' ⟨rfl, hw⟩
  subst w'
  by_cases h1 : g1 = true
  case neg =>
    rw [Bool.not_eq_true] at h1
    subst h1
    go_wp2
    go_ret
    exact ⟨ret_bool (by rw [HE.out]; rfl), rfl⟩
  subst h1
  go_wp2_with fail
  refine (c2 _ HR.out).mono ?_
  rintro e w' ⟨rfl, hw⟩
  subst w'
  go_wp2
  go_ret
  exact ⟨ret_bool (by rw [HE.out]; simp), rfl⟩

theorem secsH_all {xs : List Int} (h : secsH xs = true) : allB xs 1 1498 = true := by
  unfold secsH at h
  rw [Bool.and_eq_true] at h
  exact h.2

theorem secsH_len {xs : List Int} (h : secsH xs = true) : 1 ≤ xs.length ∧ xs.length ≤ 6 := by
  unfold secsH at h
  rw [Bool.and_eq_true, decide_eq_true_eq] at h
  exact h.1

theorem rootL_take {xs : List Int} {k : Nat} (h : k < xs.length) : rootL (xs.take (k + 1)) = rootL (xs.take k) ++ [pw 4 (xs.getD k 0).toNat] := by
  rw [take_snoc h, rootL, List.map_append, List.map_singleton]
  rfl

theorem Tab.keep {w w' : World} (ht : Tab w) (hb : Below w.heap.size w w') : Tab w' := by
  have h0 : 0 < w.heap.size := World.block_lt_of_cell? w _ ht.1
  have k : ∀ i v, w.cell? ⟨0, i, none⟩ = some v → w'.cell? ⟨0, i, none⟩ = some v := fun i v h => by rw [hb.cell (p := ⟨0, i, none⟩) h0]; exact h
  obtain ⟨a0, a1, a2, a3, a4, a5, a6, a7, a8, a9, a10⟩ := ht
  exact ⟨k _ _ a0, k _ _ a1, k _ _ a2, k _ _ a3, k _ _ a4, k _ _ a5, k _ _ a6, k _ _ a7, k _ _ a8, k _ _ a9, k _ _ a10⟩

set_option maxHeartbeats 2000000 in
theorem eachRoot_c (ao : Option Addr) (n c : Nat) (xs : List Int)  (w : World) (hx : xs.length = n) (hn : n ≤ 17592186044416) (hr : Rd w ao xs) (ha : allB xs 1 1498 = true) (ht : Tab w) :
    Calls Tryd.prog 52 #[.slice ao n c, .func (.func 53) #[] #[]] w fun e w' => ∃ a' c', e = .returned (.slice a' n c') ∧ Own w' w.heap.size (.slice a' n c') (rootL xs) ∧ Below w.heap.size w w' := by
  obtain ⟨i0, hi, hz0, hz1, hz2⟩ := info_parts Tryd.infoInt
  have HX : Hid (xs.length = n) := hx
  have HR : Hid (Rd w ao xs) := hr
  have HA : Hid (allB xs 1 1498 = true) := ha
  have HT0 : Hid (Tab w) := ht
  clear ht
  clear hx hr ha
  go_enter Tryd.func52, Tryd.ntmps52
  go_wp2
  go_loopw [5, 10] (fun v i wr => ∃ k : Nat, k ≤ n ∧ i = .int .i64 k ∧ Hid (Own wr w.heap.size v (rootL (xs.take k))) ∧ Hid (Below w.heap.size w wr)) (fun _ i _ => n - (intOf i).toNat)
  case atStart => exact ⟨0, Nat.zero_le _, rfl, World.ownsRow_nil _ _ _ _, Below.refl _ _⟩
  case round =>
    obtain ⟨k, hk, rfl, hO, hB⟩ := hrel
    by_cases hlt : k < n
    · have hkl : k < xs.length := by rw [HX.out]; exact hlt
      obtain ⟨b, o, rfl, g1⟩ := Rd.get (HR.out.later hB.out) hkl
      have hxk := allB_getD HA.out k hkl
      have HT : Hid (rootL (xs.take (k + 1)) = rootL (xs.take k) ++ [pw 4 (xs.getD k 0).toNat]) := rootL_take hkl
      have hlen : (rootL (xs.take k)).length = k := by simp only [partL, rootL, List.length_map, List.length_take]; omega
      generalize xs.getD k 0 = v at g1 hxk HT
      obtain ⟨q, rfl⟩ : ∃ q : Nat, v = q := ⟨v.toNat, by omega⟩
      rw [Int.toNat_natCast] at HT
      have hob : ∀ k', u5.ownBlock = some k' → w.heap.size ≤ k' := own_block_ge hO.out
      have hown : wr.ownsRow w.heap.size 3 1 u5 k (cellsI (rootL (xs.take k))) := by have h := hO.out; unfold Own at h; rw [hlen] at h; exact h
      have HL : Hid ((rootL (xs.take k)).length = k) := hlen
      have qw := rootTo_c q wr (by omega) (HT0.out.keep hB.out)
      generalize pw 4 q = x0 at qw HT
      generalize rootL (xs.take k) = out at hown HL HT
      clear hlen hkl
      go_wp2_with fail
      refine qw.mono ?_
      clear qw
      rintro e w' ⟨rfl, hw⟩
      subst w'
      go_wp2_with (at_builtin; refine wpList_append_own _ rfl _ _ 23 rfl w.heap.size 3 i0 (.int .i64 0) 1 8 Tryd.underlying23 hi hz0 hz1 hz2 rfl (by decide) _ _ _ rfl (hown.alloc _) ⟨wr.heap.size, 0, none⟩ 1 1 [.int .i64 x0] rfl rfl (cell_new1 _ _ _) (ints_oneCell .i64 [x0]) (by unfold maxLen; omega) (by omega) (by have := hB.out.size; simp; omega) ?_; intro v' w2 hown' hgrow _; have HO' : Hid (Own w2 w.heap.size v' (out ++ [x0])) := own_push (w := wr) (v := u5) (by simpa [HL.out] using hown'); have HB' : Hid (Below w.heap.size w w2) := (hB.out.alloc hB.out.size _).grown hgrow (by have := hB.out.size; simp; omega) (fun k' e => hob k' e); clear hown' hgrow)
      go_roundw
      case rel => exact ⟨k + 1, by omega, by go_num, by show Own _ _ _ _; rw [HT.out]; exact HO'.out, HB'⟩
      case measure => simp [intOf]; omega
    · obtain rfl : k = n := by omega
      rw [List.take_of_length_le (by rw [HX.out]; exact Nat.le_refl _)] at hO
      obtain ⟨a', c', hv⟩ := hO.out.shape
      rw [show (rootL xs).length = k by simp only [partL, rootL, List.length_map]; exact HX.out] at hv
      subst hv
      go_wp2
      go_ret
      exact ⟨a', c', rfl, hO.out, hB.out⟩

end Go.Proofs.YtdhnolafkgkliaaDoor

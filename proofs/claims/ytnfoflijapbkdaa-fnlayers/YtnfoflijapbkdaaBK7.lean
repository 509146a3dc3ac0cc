/- The library's slices.Backward, over a list of ints: each place comes from the back. -/
import Derived.Test.YtnfoflijapbkdaaBD7
import Derived.RangeFuncNested
import Derived.RangeFuncBound
import Derived.RangeFuncCalls
import Derived.RangeFuncLeaves
import Derived.RangeFuncBox
import Derived.Shelf.Abstract
import Derived.Shelf.RegionOpen
import Derived.WalkKit
import Derived.OwnWalkIn
import Derived.TacticsInMore
import Derived.LoopNIn
import Derived.LoopIn
namespace Go.Proofs.Ytnfoflijapbkdaa
set_option linter.unusedVariables false
set_option maxRecDepth 1000000
set_option linter.unusedSimpArgs false
open Go.RowKit Go.Shelf

attribute [local go_sem] Oper.semAt_some

/-- The places that have come when k rounds are over. -/
def dnF (len : Nat) : Nat → List (Fin len)
  | 0 => []
  | k + 1 => if h : len - 1 - k < len then dnF len k ++ [⟨len - 1 - k, h⟩] else dnF len k
theorem dnF_succ (len k : Nat) (h : len - 1 - k < len) : dnF len (k + 1) = dnF len k ++ [⟨len - 1 - k, h⟩] := by rw [dnF, dif_pos h]
theorem dnF_length (len : Nat) : ∀ k, k ≤ len → (dnF len k).length = k
  | 0, _ => rfl
  | k + 1, h => by rw [dnF_succ len k (by omega), List.length_append, dnF_length len k (by omega)]; rfl
def KpB (n₀ Bs : Nat) (A B : World) : Prop := Below n₀ A B ∧ ∀ v, A.cell? ⟨Bs, 0, none⟩ = some v → B.cell? ⟨Bs, 0, none⟩ = some v
theorem KpB.trans {n₀ Bs : Nat} {A B C : World} (h : KpB n₀ Bs A B) (k : KpB n₀ Bs B C) : KpB n₀ Bs A C := ⟨h.1.trans k.1, fun v hv => k.2 v (h.2 v hv)⟩

set_option maxRecDepth 100000 in
set_option maxHeartbeats 2000000 in
theorem bk7_in (F : Fence) (n : Nat) (h86 : F.fn 71) (hro : F.round = none) (hn : 1 ≤ n) (l Bs n₀ b off len cap : Nat) (xs : List Int) (hlen : len ≤ 8) (hb : b < n₀) (J Jx : List (Fin len) → World → Prop)
    (hY : ∀ pre (x : Fin len) W, J pre W → pre.length < len → YieldAt F (n - 1) Try.prog l #[.int .i64 (x.val : Int), .int .i64 (xs.getD x.val 0)] W fun e W' =>
      (e = .returned (.bool true) ∧ J (pre ++ [x]) W' ∧ KpB n₀ Bs W W') ∨ (e = .returned (.bool false) ∧ Jx (pre ++ [x]) W'))
    (W : World) (hBs : W.cell? ⟨Bs, 0, none⟩ = some (.slice (some ⟨b, off, none⟩) len cap)) (hc : ∀ j, j < len → W.cell? ⟨b, off + j, none⟩ = some (.int .i64 (xs.getD j 0))) (h0 : J [] W) :
    CallsIn F n Try.prog 71 #[.func (.yield l) #[] #[], .pointer (some ⟨Bs, 0, none⟩)] W fun e W' => (∃ v, e = .returned v) ∧
      ((∃ ys, ys = dnF len len ∧ J ys W') ∨ (∃ pre, True ∧ Jx pre W')) := by
  refine callsIn_of_wp Try.func71 rfl h86 ?_ hro
  simp only [Try.ntmps71, List.size_toArray, List.length_cons, List.length_nil, Nat.reduceAdd, Nat.reduceSub, Array.replicate_succ, Array.replicate_zero, List.push_toArray, List.append_toArray, List.nil_append, List.cons_append]
  gi_wp2
  gi_loopw [3] (fun i wr => ∃ (k : Nat) (z : Int), k ≤ len ∧ i = .int .i64 z ∧ z + 1 + k = len ∧ J (dnF len k) wr ∧ KpB n₀ Bs W wr)
    (fun i _ => (intOf i + 1).toNat)
  case atStart => exact ⟨0, (len : Int) - 1, Nat.zero_le _, by go_num, by omega, h0, Below.refl _ _, fun _ h => h⟩
  case round =>
    obtain ⟨k, z, hk, rfl, hz, hJs, hnx⟩ := hrel
    have hbs := hnx.2 _ hBs
    by_cases hlt : k < len
    · have hcx : wr.cell? ⟨b, off + (len - 1 - k), none⟩ = some (.int .i64 (xs.getD (len - 1 - k) 0)) := (hnx.1.cell (p := ⟨b, off + (len - 1 - k), none⟩) hb).trans (hc _ (by omega))
      have hxl : len - 1 - k < len := by omega
      have HT : Hid (dnF len (k + 1) = dnF len k ++ [⟨len - 1 - k, hxl⟩]) := dnF_succ len k hxl
      obtain ⟨fn, tmps, assign, body, hy, hR⟩ := hY _ ⟨len - 1 - k, hxl⟩ wr hJs (by rw [dnF_length len k hk]; exact hlt)
      dsimp only at hy
      rw [show ((len - 1 - k : Nat) : Int) = z by omega] at hy
      generalize xs.getD (len - 1 - k) 0 = q at hcx hy
      have z0 : 0 ≤ z := by omega
      have z1 : z < (len : Int) := by omega
      have hzt : z.toNat = len - 1 - k := by omega
      have HZ : Hid (z + 1 + k = (len : Int)) := hz
      clear hz
      gi_wp2
      refine hR.mono ?_
      rintro e W3 (⟨rfl, hJ3, hk3⟩ | ⟨rfl, hJx3⟩)
      · gi_wp2
        go_roundw
        case rel => exact ⟨k + 1, z - 1, by omega, by go_num, by have := HZ.out; omega, by rw [HT.out]; exact hJ3, hnx.trans hk3⟩
        case measure => simp [intOf]; omega
      · gi_wp2
        refine bodyPost_ret (results_none rfl _ _ _) rfl ?_
        exact ⟨⟨_, rfl⟩, .inr ⟨_, trivial, hJx3⟩⟩
    · obtain rfl : k = len := by omega
      have hz0 : z < 0 := by omega
      clear hz
      gi_wp2
      go_end0
      exact ⟨⟨_, rfl⟩, .inl ⟨_, rfl, hJs⟩⟩

set_option maxHeartbeats 1000000 in
theorem backward_in (F : Fence) (n : Nat) (h81 : F.fn 48) (hro : F.round = none) (a : Option Addr) (len cap : Nat) (w : World) :
    CallsIn F n Try.prog 48 #[.slice a len cap] w fun e w' => e = .returned (.func (.func 71) #[] #[.pointer (some ⟨w.heap.size, 0, none⟩)]) ∧ w' = w.alloc (.cells #[.slice a len cap] 23) := by
  have hmf : ∀ (fn : Fn) (first cap : Array Value) (w : World), (Instr.makeFunc fn first cap).run Try.prog w = .ok (.func fn first cap) w := fun _ _ _ _ => rfl
  refine callsIn_of_wp Try.func48 rfl h81 ?_ hro
  simp only [Try.ntmps48, List.size_toArray, List.length_cons, List.length_nil, Nat.reduceAdd, Nat.reduceSub, Array.replicate_succ, Array.replicate_zero, List.push_toArray, List.append_toArray, List.nil_append, List.cons_append]
  gi_wp2
  go_ret
  exact ⟨rfl, rfl⟩

theorem backward_stops (F : Fence) (n : Nat) (h86 : F.fn 71) (hro : F.round = none) (hn : 1 ≤ n) (Bs n₀ b off len cap : Nat) (xs : List Int) (hlen : len ≤ 8) (w : World) (hBs : Bs < w.heap.size) (hn₀ : n₀ ≤ w.heap.size) (hb : b < n₀)
    (hc : w.cell? ⟨Bs, 0, none⟩ = some (.slice (some ⟨b, off, none⟩) len cap)) (hI : ∀ j, j < len → w.cell? ⟨b, off + j, none⟩ = some (.int .i64 (xs.getD j 0))) :
    SeqStopsK F n Try.prog 71 #[.pointer (some ⟨Bs, 0, none⟩)] (fun x : Fin len => #[Value.int .i64 (x.val : Int), .int .i64 (xs.getD x.val 0)]) (KpB n₀ Bs) (fun ys => ys = dnF len len) (fun _ => True) len w := fun l J Jx W hW _ _ hY h0 => by
  have hc' := (hW.cell (p := ⟨Bs, 0, none⟩) hBs).trans hc
  exact bk7_in F n h86 hro hn l Bs n₀ b off len cap xs hlen hb J Jx hY W hc' (fun j hj => (hW.cell (p := ⟨b, off + j, none⟩) (by show b < _; omega)).trans (hI j hj)) h0

theorem KpB_b {n₀ Bs : Nat} {w : World} (hn : n₀ ≤ w.heap.size) (hBs : Bs < w.heap.size) (W : World) (l : Nat) (o o' : Obj) (hl : w.heap.size ≤ l) (h : W.heap[l]? = some o) (h1 : o.isCells = false) (h2 : o.isWalk = false) : KpB n₀ Bs W (W.putObj l o') := by
  refine ⟨belowK_b hn W l o o' hl h h1 h2, fun v hv => ?_⟩
  have hne : some Bs ≠ some l := by intro e; cases e; omega
  have hg := grownBy_putObj' W l o'
  have hblk := World.block_lt_of_cell? W _ hv
  have e := hg.block Bs hblk hne
  unfold World.cell? at *
  rw [e]; exact hv

theorem all_out {α : Type} {d : α} {xs : List α} {P : α → Bool} {k : Nat} (hk : k < xs.length) (h : P (xs.getD k d) = false) : xs.all P = false := by
  rw [Bool.eq_false_iff]
  intro g
  rw [List.all_eq_true] at g
  have := g (xs[k]) (List.getElem_mem hk)
  simp [List.getD, hk] at h
  rw [h] at this
  cases this
theorem all_end {α : Type} {d : α} {xs : List α} {P : α → Bool} (h : ∀ j, j < xs.length → P (xs.getD j d) = true) : xs.all P = true := by
  rw [List.all_eq_true]
  intro x hx
  obtain ⟨j, hj, rfl⟩ := List.getElem_of_mem hx
  have := h j hj
  simpa [List.getD, hj] using this

set_option maxHeartbeats 1000000 in
theorem areFewBlk_c (ao : Option Addr) (n c : Nat) (xs : List Int) (w : World) (hx : xs.length = n) (hn : n ≤ 17592186044416) (hr : Rd w ao xs) :
    Calls Try.prog 45 #[.slice ao n c, .int .i64 4, .func (.func 46) #[] #[]] w fun e w' => e = .returned (.bool (decide (xs.length ≤ 4) && xs.all (inB 0 65535))) ∧ w' = w := by
  have HX : Hid (xs.length = n) := hx
  have HR : Hid (Rd w ao xs) := hr
  rw [hx]
  clear hx hr
  by_cases h4 : 4 < n
  · have h4' : (4 : Int) < (n : Int) := by omega
    rw [decide_eq_false (show ¬ n ≤ 4 by omega), Bool.false_and]
    go_enter Try.func45, Try.ntmps45
    go_wp2
    go_ret
    exact ⟨rfl, rfl⟩
  · have h4' : ¬ (4 : Int) < (n : Int) := by omega
    rw [decide_eq_true (show n ≤ 4 by omega), Bool.true_and]
    have HF : Hid (∀ k, k < n → (inB 0 65535) (xs.getD k 0) = false → xs.all (inB 0 65535) = false) := fun k hk h => all_out (d := 0) (by rw [HX.out]; exact hk) h
    have HE : Hid ((∀ j, j < n → (inB 0 65535) (xs.getD j 0) = true) → xs.all (inB 0 65535) = true) := fun h => all_end (d := 0) (fun j hj => h j (by rw [HX.out] at hj; exact hj))
    generalize xs.all (inB 0 65535) = zb at HF HE ⊢
    go_enter Try.func45, Try.ntmps45
    go_wp2
    go_loop [15] (fun iv => ∃ (k : Nat), k ≤ n ∧ iv = .int .i64 k ∧ Hid (∀ j, j < k → (inB 0 65535) (xs.getD j 0) = true)) (fun iv => n - (intOf iv).toNat)
    case atStart => exact ⟨0, Nat.zero_le _, rfl, fun j h => absurd h (by omega)⟩
    case round =>
      obtain ⟨k, hk, rfl, HS⟩ := hrel
      by_cases hlt : k < n
      · have hkl : k < xs.length := by rw [HX.out]; exact hlt
        obtain ⟨b, o, rfl, g1⟩ := Rd.get7 HR.out hkl
        cases gm : (inB 0 65535) (xs.getD k 0)
        · have HN : Hid (zb = false) := HF.out k hlt gm
          generalize xs.getD k 0 = v at g1 gm
          have q : ∀ wx, Calls Try.prog 46 #[.int .i64 v] wx fun e w' => e = .returned (.bool ((inB 0 65535) v)) ∧ w' = wx := fun wx => isBlock_c v wx
          rw [gm] at q
          clear hkl gm
          go_wp2_with fail
          refine (q _).mono ?_
          clear q
          rintro e w' ⟨rfl, hw⟩
          subst w'
          go_wp2
          go_ret
          exact ⟨ret_bool HN.out.symm, rfl⟩
        · have HS2 : Hid (∀ j, j < k + 1 → (inB 0 65535) (xs.getD j 0) = true) := fun j hj => by
            by_cases e : j = k
            · rw [e]; exact gm
            · exact HS.out j (by omega)
          generalize xs.getD k 0 = v at g1 gm
          have q : ∀ wx, Calls Try.prog 46 #[.int .i64 v] wx fun e w' => e = .returned (.bool ((inB 0 65535) v)) ∧ w' = wx := fun wx => isBlock_c v wx
          rw [gm] at q
          clear hkl gm
          go_wp2_with fail
          refine (q _).mono ?_
          clear q
          rintro e w' ⟨rfl, hw⟩
          subst w'
          go_wp2
          go_round
          case rel => exact ⟨k + 1, by omega, by go_num, HS2⟩
          case measure => simp [intOf]; omega
      · obtain rfl : k = n := by omega
        have HM : Hid (zb = true) := HE.out HS.out
        go_wp2
        go_ret
        exact ⟨ret_bool HM.out.symm, rfl⟩

set_option maxHeartbeats 1000000 in
theorem areFewHop_c (ao : Option Addr) (n c : Nat) (xs : List Int) (w : World) (hx : xs.length = n) (hn : n ≤ 17592186044416) (hr : Rd w ao xs) :
    Calls Try.prog 45 #[.slice ao n c, .int .i64 4, .func (.func 47) #[] #[]] w fun e w' => e = .returned (.bool (decide (xs.length ≤ 4) && xs.all (inB 1 250))) ∧ w' = w := by
  have HX : Hid (xs.length = n) := hx
  have HR : Hid (Rd w ao xs) := hr
  rw [hx]
  clear hx hr
  by_cases h4 : 4 < n
  · have h4' : (4 : Int) < (n : Int) := by omega
    rw [decide_eq_false (show ¬ n ≤ 4 by omega), Bool.false_and]
    go_enter Try.func45, Try.ntmps45
    go_wp2
    go_ret
    exact ⟨rfl, rfl⟩
  · have h4' : ¬ (4 : Int) < (n : Int) := by omega
    rw [decide_eq_true (show n ≤ 4 by omega), Bool.true_and]
    have HF : Hid (∀ k, k < n → (inB 1 250) (xs.getD k 0) = false → xs.all (inB 1 250) = false) := fun k hk h => all_out (d := 0) (by rw [HX.out]; exact hk) h
    have HE : Hid ((∀ j, j < n → (inB 1 250) (xs.getD j 0) = true) → xs.all (inB 1 250) = true) := fun h => all_end (d := 0) (fun j hj => h j (by rw [HX.out] at hj; exact hj))
    generalize xs.all (inB 1 250) = zb at HF HE ⊢
    go_enter Try.func45, Try.ntmps45
    go_wp2
    go_loop [15] (fun iv => ∃ (k : Nat), k ≤ n ∧ iv = .int .i64 k ∧ Hid (∀ j, j < k → (inB 1 250) (xs.getD j 0) = true)) (fun iv => n - (intOf iv).toNat)
    case atStart => exact ⟨0, Nat.zero_le _, rfl, fun j h => absurd h (by omega)⟩
    case round =>
      obtain ⟨k, hk, rfl, HS⟩ := hrel
      by_cases hlt : k < n
      · have hkl : k < xs.length := by rw [HX.out]; exact hlt
        obtain ⟨b, o, rfl, g1⟩ := Rd.get7 HR.out hkl
        cases gm : (inB 1 250) (xs.getD k 0)
        · have HN : Hid (zb = false) := HF.out k hlt gm
          generalize xs.getD k 0 = v at g1 gm
          have q : ∀ wx, Calls Try.prog 47 #[.int .i64 v] wx fun e w' => e = .returned (.bool ((inB 1 250) v)) ∧ w' = wx := fun wx => isHop_c v wx
          rw [gm] at q
          clear hkl gm
          go_wp2_with fail
          refine (q _).mono ?_
          clear q
          rintro e w' ⟨rfl, hw⟩
          subst w'
          go_wp2
          go_ret
          exact ⟨ret_bool HN.out.symm, rfl⟩
        · have HS2 : Hid (∀ j, j < k + 1 → (inB 1 250) (xs.getD j 0) = true) := fun j hj => by
            by_cases e : j = k
            · rw [e]; exact gm
            · exact HS.out j (by omega)
          generalize xs.getD k 0 = v at g1 gm
          have q : ∀ wx, Calls Try.prog 47 #[.int .i64 v] wx fun e w' => e = .returned (.bool ((inB 1 250) v)) ∧ w' = wx := fun wx => isHop_c v wx
          rw [gm] at q
          clear hkl gm
          go_wp2_with fail
          refine (q _).mono ?_
          clear q
          rintro e w' ⟨rfl, hw⟩
          subst w'
          go_wp2
          go_round
          case rel => exact ⟨k + 1, by omega, by go_num, HS2⟩
          case measure => simp [intOf]; omega
      · obtain rfl : k = n := by omega
        have HM : Hid (zb = true) := HE.out HS.out
        go_wp2
        go_ret
        exact ⟨ret_bool HM.out.symm, rfl⟩

end Go.Proofs.Ytnfoflijapbkdaa

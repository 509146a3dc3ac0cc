/- Chapter 5: slices.Backward over numbers of the field, and the curve of a polynomial: a closure that ranges over a function. -/
import Derived.Test.YtamppekadobagaaV5
import Derived.RangeFuncNested
import Derived.RangeFuncBound
import Derived.RangeFuncCalls
import Derived.RangeFuncLeaves
import Derived.RangeFuncBox
import Derived.Shelf.Abstract
import Derived.Shelf.RegionOpen
import Derived.WalkKit
import Derived.OwnWalkIn
import Derived.TacticsInMore
import Derived.LoopNIn
import Derived.LoopIn
import Derived.Maps.AppendAt
namespace Go.Proofs.Ytamppekadobagaa
set_option linter.unusedVariables false
set_option linter.unusedSimpArgs false
open Go.RowKit Go.Shelf

attribute [local go_sem] Oper.semAt_some

/-- What has come from the back when k rounds are over. -/
def dnL (zs : List F) (len : Nat) : Nat → List (Int × F)
  | 0 => []
  | k + 1 => dnL zs len k ++ [((len : Int) - 1 - k, zs.getD (len - 1 - k) 0)]
theorem dnL_length (zs : List F) (len : Nat) : ∀ k, (dnL zs len k).length = k
  | 0 => rfl
  | k + 1 => by simp [dnL, dnL_length zs len k]
/-- A round keeps what lay below, and the box of the slice. -/
def KpB (n₀ Bs : Nat) (A B : World) : Prop := Below n₀ A B ∧ ∀ v, A.cell? ⟨Bs, 0, none⟩ = some v → B.cell? ⟨Bs, 0, none⟩ = some v
theorem KpB.trans {n₀ Bs : Nat} {A B C : World} (h : KpB n₀ Bs A B) (k : KpB n₀ Bs B C) : KpB n₀ Bs A C := ⟨h.1.trans k.1, fun v hv => k.2 v (h.2 v hv)⟩

set_option maxRecDepth 100000 in
set_option maxHeartbeats 2000000 in
theorem bk1_in (F0 : Fence) (n : Nat) (h86 : F0.fn 89) (hro : F0.round = none) (hn : 1 ≤ n) (l Bs n₀ b off len cap : Nat) (zs : List F) (hlen : len ≤ 8) (hb : b < n₀) (J Jx : List (Int × F) → World → Prop)
    (hY : ∀ pre x W, J pre W → pre.length < len → YieldAt F0 (n - 1) Try.prog l #[.int .i64 x.1, .int .i64 (vI x.2)] W fun e W' =>
      (e = .returned (.bool true) ∧ J (pre ++ [x]) W' ∧ KpB n₀ Bs W W') ∨ (e = .returned (.bool false) ∧ Jx (pre ++ [x]) W'))
    (W : World) (hBs : W.cell? ⟨Bs, 0, none⟩ = some (.slice (some ⟨b, off, none⟩) len cap)) (hc : ∀ j, j < len → W.cell? ⟨b, off + j, none⟩ = some (.int .i64 (vI (zs.getD j 0)))) (h0 : J [] W) :
    CallsIn F0 n Try.prog 89 #[.func (.yield l) #[] #[], .pointer (some ⟨Bs, 0, none⟩)] W fun e W' => (∃ v, e = .returned v) ∧
      ((∃ ys, ys = dnL zs len len ∧ J ys W') ∨ (∃ pre, True ∧ Jx pre W')) := by
  refine callsIn_of_wp Try.func89 rfl h86 ?_ hro
  simp only [Try.ntmps89, List.size_toArray, List.length_cons, List.length_nil, Nat.reduceAdd, Nat.reduceSub, Array.replicate_succ, Array.replicate_zero, List.push_toArray, List.append_toArray, List.nil_append, List.cons_append]
  gi_wp2
  gi_loopw [3] (fun i wr => ∃ (k : Nat) (z : Int), k ≤ len ∧ i = .int .i64 z ∧ z + 1 + k = len ∧ J (dnL zs len k) wr ∧ KpB n₀ Bs W wr)
    (fun i _ => (intOf i + 1).toNat)
  case atStart => exact ⟨0, (len : Int) - 1, Nat.zero_le _, by go_num, by omega, h0, Below.refl _ _, fun _ h => h⟩
  case round =>
    obtain ⟨k, z, hk, rfl, hz, hJs, hnx⟩ := hrel
    have hbs := hnx.2 _ hBs
    by_cases hlt : k < len
    · have hcx : wr.cell? ⟨b, off + (len - 1 - k), none⟩ = some (.int .i64 (vI (zs.getD (len - 1 - k) 0))) := (hnx.1.cell (p := ⟨b, off + (len - 1 - k), none⟩) hb).trans (hc _ (by omega))
      have HT : Hid (dnL zs len (k + 1) = dnL zs len k ++ [(z, zs.getD (len - 1 - k) 0)]) := by
        show _ = _
        rw [dnL, show (len : Int) - 1 - k = z by omega]
      generalize zs.getD (len - 1 - k) 0 = q at hcx HT
      obtain ⟨fn, tmps, assign, body, hy, hR⟩ := hY _ (z, q) wr hJs (by rw [dnL_length]; exact hlt)
      dsimp only at hy
      have z0 : 0 ≤ z := by omega
      have z1 : z < (len : Int) := by omega
      have hzt : z.toNat = len - 1 - k := by omega
      have HZ : Hid (z + 1 + k = (len : Int)) := hz
      clear hz
      gi_wp2
      refine hR.mono ?_
      rintro e W3 (⟨rfl, hJ3, hk3⟩ | ⟨rfl, hJx3⟩)
      · gi_wp2
        go_roundw
        case rel => exact ⟨k + 1, z - 1, by omega, by go_num, by have := HZ.out; omega, by rw [HT.out]; exact hJ3, hnx.trans hk3⟩
        case measure => simp [intOf]; omega
      · gi_wp2
        refine bodyPost_ret (results_none rfl _ _ _) rfl ?_
        exact ⟨⟨_, rfl⟩, .inr ⟨_, trivial, hJx3⟩⟩
    · obtain rfl : k = len := by omega
      have hz0 : z < 0 := by omega
      clear hz
      gi_wp2
      go_end0
      exact ⟨⟨_, rfl⟩, .inl ⟨_, rfl, hJs⟩⟩

set_option maxRecDepth 100000 in
set_option maxHeartbeats 1000000 in
theorem bk1_nil_in (F0 : Fence) (n : Nat) (h86 : F0.fn 89) (hro : F0.round = none) (l Bs : Nat) (ao : Option Addr) (cap : Nat) (J : List (Int × F) → World → Prop) (W : World) (hBs : W.cell? ⟨Bs, 0, none⟩ = some (.slice ao 0 cap)) (h0 : J [] W) :
    CallsIn F0 n Try.prog 89 #[.func (.yield l) #[] #[], .pointer (some ⟨Bs, 0, none⟩)] W fun e W' => (∃ v, e = .returned v) ∧ J [] W' := by
  refine callsIn_of_wp Try.func89 rfl h86 ?_ hro
  simp only [Try.ntmps89, List.size_toArray, List.length_cons, List.length_nil, Nat.reduceAdd, Nat.reduceSub, Array.replicate_succ, Array.replicate_zero, List.push_toArray, List.append_toArray, List.nil_append, List.cons_append]
  gi_wp2
  gi_loopw [3] (fun i wr => i = .int .i64 (-1) ∧ J [] wr) (fun _ _ => 0)
  case atStart => exact ⟨rfl, h0⟩
  case round =>
    obtain ⟨rfl, hJs⟩ := hrel
    gi_wp2
    go_end0
    exact ⟨⟨_, rfl⟩, hJs⟩

set_option maxHeartbeats 1000000 in
theorem backward_in (F0 : Fence) (n : Nat) (h81 : F0.fn 83) (hro : F0.round = none) (a : Option Addr) (len cap : Nat) (w : World) :
    CallsIn F0 n Try.prog 83 #[.slice a len cap] w fun e w' => e = .returned (.func (.func 89) #[] #[.pointer (some ⟨w.heap.size, 0, none⟩)]) ∧ w' = w.alloc (.cells #[.slice a len cap] 23) := by
  have hmf : ∀ (fn : Fn) (first cap : Array Value) (w : World), (Instr.makeFunc fn first cap).run Try.prog w = .ok (.func fn first cap) w := fun _ _ _ _ => rfl
  refine callsIn_of_wp Try.func83 rfl h81 ?_ hro
  simp only [Try.ntmps83, List.size_toArray, List.length_cons, List.length_nil, Nat.reduceAdd, Nat.reduceSub, Array.replicate_succ, Array.replicate_zero, List.push_toArray, List.append_toArray, List.nil_append, List.cons_append]
  gi_wp2
  go_ret
  exact ⟨rfl, rfl⟩

/-- The slice reads as numbers of the field, in a block below n₀. -/
def RdN (n₀ : Nat) (w : World) (ao : Option Addr) (len : Nat) (zs : List F) : Prop :=
  len = 0 ∨ ∃ b off, ao = some ⟨b, off, none⟩ ∧ b < n₀ ∧ ∀ j, j < len → w.cell? ⟨b, off + j, none⟩ = some (.int .i64 (vI (zs.getD j 0)))
theorem RdN.below {n₀ len : Nat} {A B : World} (h : Below n₀ A B) {ao : Option Addr} {zs : List F} : RdN n₀ A ao len zs → RdN n₀ B ao len zs
  | .inl e => .inl e
  | .inr ⟨b, off, e, hb, hc⟩ => .inr ⟨b, off, e, hb, fun j hj => (h.cell (p := ⟨b, off + j, none⟩) hb).trans (hc j hj)⟩

theorem backward_stops (F0 : Fence) (n : Nat) (h86 : F0.fn 89) (hro : F0.round = none) (hn : 1 ≤ n) (Bs n₀ : Nat) (ao : Option Addr) (len cap : Nat) (zs : List F) (hlen : len ≤ 8) (w : World) (hBs : Bs < w.heap.size) (hn₀ : n₀ ≤ w.heap.size)
    (hc : w.cell? ⟨Bs, 0, none⟩ = some (.slice ao len cap)) (hI : RdN n₀ w ao len zs) :
    SeqStopsK F0 n Try.prog 89 #[.pointer (some ⟨Bs, 0, none⟩)] (fun x : Int × F => #[Value.int .i64 x.1, .int .i64 (vI x.2)]) (KpB n₀ Bs) (fun ys => ys = dnL zs len len) (fun _ => True) len w := fun l J Jx W hW _ _ hY h0 => by
  have hc' := (hW.cell (p := ⟨Bs, 0, none⟩) hBs).trans hc
  rcases hI.below (hW.mono hn₀) with rfl | ⟨b, off, rfl, hb, hcs⟩
  · exact (bk1_nil_in F0 n h86 hro l Bs ao cap J W hc' h0).mono fun e W' ⟨he, hj⟩ => ⟨he, .inl ⟨_, rfl, hj⟩⟩
  · exact bk1_in F0 n h86 hro hn l Bs n₀ b off len cap zs hlen hb J Jx hY W hc' hcs h0

theorem KpB_b {n₀ Bs : Nat} {w : World} (hn : n₀ ≤ w.heap.size) (hBs : Bs < w.heap.size) (W : World) (l : Nat) (o o' : Obj) (hl : w.heap.size ≤ l) (h : W.heap[l]? = some o) (h1 : o.isCells = false) (h2 : o.isWalk = false) : KpB n₀ Bs W (W.putObj l o') := by
  refine ⟨belowK_b hn W l o o' hl h h1 h2, fun v hv => ?_⟩
  have hne : some Bs ≠ some l := by intro e; cases e; omega
  have hg := grownBy_putObj' W l o'
  have hblk := World.block_lt_of_cell? W _ hv
  have e := hg.block Bs hblk hne
  unfold World.cell? at *
  rw [e]; exact hv

/-- Horner's way over what has come. -/
def hornF (x : F) (l : List (Int × F)) : F := l.foldl (fun v p => v * x + p.2) 0
theorem hornF_app (x : F) (l : List (Int × F)) (p : Int × F) : hornF x (l ++ [p]) = hornF x l * x + p.2 := by simp [hornF]
theorem hornF_dn (x : F) (zs : List F) : ∀ k, k ≤ zs.length → hornF x (dnL zs zs.length k) = evF (zs.drop (zs.length - k)) x
  | 0, _ => by rw [dnL, Nat.sub_zero, List.drop_length]; rfl
  | k + 1, h => by
    rw [dnL, hornF_app, hornF_dn x zs k (by omega), dropF_getD (k := zs.length - (k + 1)) (by omega), evF_cons, show zs.length - (k + 1) + 1 = zs.length - k by omega, show zs.length - (k + 1) = zs.length - 1 - k by omega]
theorem hornF_all (x : F) (zs : List F) {n : Nat} (h : zs.length = n) : hornF x (dnL zs n n) = evF zs x := by
  subst h
  rw [hornF_dn x zs _ (Nat.le_refl _), Nat.sub_self, List.drop_zero]

set_option maxRecDepth 100000 in
set_option maxHeartbeats 2000000 in
theorem curveOf1_in (F0 : Fence) (n : Nat) (h59 : F0.fn 82) (h81 : F0.fn 83) (h86 : F0.fn 89) (hro : F0.round = none) (hn : 3 ≤ n) (Bp : Nat) (ao : Option Addr) (len cap : Nat) (zs : List F) (x : F) (hlen : len ≤ 8) (w : World) (hp : w.cell? ⟨Bp, 0, none⟩ = some (.slice ao len cap)) (hL : RdN w.heap.size w ao len zs) :
    CallsIn F0 n Try.prog 82 #[.int .i64 (vI x), .pointer (some ⟨Bp, 0, none⟩)] w fun e W' => e = .returned (.int .i64 (vI (hornF x (dnL zs len len)))) ∧ Below w.heap.size w W' := by
  have h1 : 1 ≤ n := by omega
  have hp2 : ((w.alloc (.cells #[.int .i64 (vI x)] 3)).alloc (.cells #[.int .i64 0] 3)).cell? ⟨Bp, 0, none⟩ = some (.slice ao len cap) := calloc (calloc hp)
  refine callsIn_of_wp_marks Try.func82 rfl h59 ?_ hro
  simp only [Try.ntmps82, List.size_toArray, List.length_cons, List.length_nil, Nat.reduceAdd, Nat.reduceSub, Array.replicate_succ, Array.replicate_zero, List.push_toArray, List.append_toArray, List.nil_append, List.cons_append]
  gi_wp2_with (gi_at_call 83; refine (backward_in F0 (n - 1) h81 hro _ _ _ _).mono ?_; rintro e w' ⟨rfl, rfl⟩)
  have bX := Boxed.new w 3 (.int .i64 (vI x))
  have bV := Boxed.new (w.alloc (.cells #[.int .i64 (vI x)] 3)) 3 (.int .i64 0)
  have bN := Boxed.new ((w.alloc (.cells #[.int .i64 (vI x)] 3)).alloc (.cells #[.int .i64 0] 3)) 23 (.slice ao len cap)
  rw [World.size_alloc] at bV bN
  rw [World.size_alloc] at bN
  have hB0 : Below w.heap.size w (((w.alloc (.cells #[.int .i64 (vI x)] 3)).alloc (.cells #[.int .i64 0] 3)).alloc (.cells #[.slice ao len cap] 23)) := (((Below.refl _ w).alloc (Nat.le_refl _) _).alloc (by simp) _).alloc (by simp; omega) _
  refine wpIn_rangeFunc_ownG hro h1 (gf := 89) (lb := #[.pointer (some ⟨w.heap.size + 1 + 1, 0, none⟩)]) rfl h86 (enters_of Try.func89 (by kernel_rfl) rfl)
    (backward_stops F0 (n - 1) h86 hro (by omega) (w.heap.size + 1 + 1) w.heap.size ao len cap zs hlen _ (by simp) (by simp; omega) bN.cell (hL.below hB0)) KpB.trans (KpB_b (by simp; omega) (by simp)) (Below.refl _ _) (fun _ => rfl)
    (fun pre W => Boxed W (w.heap.size + 1) 3 (.int .i64 (vI (hornF x pre))) ∧ (Boxed W w.heap.size 3 (.int .i64 (vI x)) ∧ (Boxed W (w.heap.size + 1 + 1) 23 (.slice ao len cap) ∧ Below w.heap.size w W)))
    (fun _ _ _ => False)
    (OwnFrom.and (Own.from (boxed_own _ _ (fun pre => .int .i64 (vI (hornF x pre)))) _) (OwnFrom.and (Own.from (boxed_own _ _ _) _) (OwnFrom.and (Own.from (boxed_own _ _ _) _) (ownFrom_below (Nat.le_refl _) (by simp; omega)))))
    (fun _ _ _ _ _ hs _ _ => hs)
    ⟨bV.alloc _, (bX.alloc _).alloc _, bN, hB0⟩
    (fun y => { tmps := #[.int .i64 (vI x), .pointer (some ⟨Bp, 0, none⟩), .pointer (some ⟨w.heap.size, 0, none⟩), .int .i64 0, .pointer (some ⟨w.heap.size + 1, 0, none⟩), undef, .int .i64 (vI y.2), .slice ao len cap, .func (.func 89) #[] #[.pointer (some ⟨w.heap.size + 1 + 1, 0, none⟩)], .int .i64 y.1, .int .i64 (vI y.2), undef, undef, undef, undef, undef, undef, undef], defers := [] }) ?assign ?body ?done ?stop
  case assign =>
    intro l y W K hK
    gi_wp2
    exact hK
  case body =>
    rintro l pre ⟨z, q⟩ W ⟨hv, hbx, hbn, hB⟩ hlt
    have hc := hv.cell
    have hf := hv.frozen
    have hcx := hbx.cell
    have hH := vI_horner (hornF x pre) x q
    rw [← hornF_app x pre (z, q)] at hH
    have hp := pr_lt (vI_mem (hornF x pre)) (vI_mem x)
    have hq := vI_mem q
    have HV : Hid (Boxed W (w.heap.size + 1) 3 (.int .i64 (vI (hornF x pre)))) := hv
    have HX : Hid (Boxed W w.heap.size 3 (.int .i64 (vI x))) := hbx
    have HN : Hid (Boxed W (w.heap.size + 1 + 1) 23 (.slice ao len cap)) := hbn
    have HH : Hid ((vI (hornF x pre) * vI x + vI q) % 1499 = vI (hornF x (pre ++ [(z, q)]))) := hH
    clear hv hbx hbn hH
    generalize vI (hornF x pre) = v at *
    generalize hvx : vI x = y at *
    generalize vI q = qq at *
    gi_wp2
    have e := HH.out
    refine ⟨(KeepsOthers.setCell _ _ _).from _, ⟨(Below.refl _ _).setCell (p := ⟨w.heap.size + 1, 0, none⟩) (Nat.le_succ _) _, fun u hu => ?_⟩, ?_, HX.out.other (by omega) _, HN.out.other (by omega) _, hB.setCell (p := ⟨w.heap.size + 1, 0, none⟩) (Nat.le_succ _) _⟩
    · rw [HN.out.cell] at hu; cases hu; exact (HN.out.other (by omega) _).cell
    · rw [← e]; exact HV.out.set _
  case done =>
    rintro D ys W hD rfl ⟨hv, hbx, hbn, hB⟩ hK
    have hc := hv.cell
    gi_wp2
    refine ⟨by simp, .inl ⟨_, _, rfl, run_takeDeferred hK, ?_⟩⟩
    exact ⟨_, results_tmp rfl _ _ _, rfl, hB.trans (belowK_b (w := w) (Nat.le_refl _) W D _ _ (by simp at hD; omega) hK rfl rfl)⟩
  case stop =>
    rintro D c pre W _ _ h _
    exact h.elim

/-- The curve of a polynomial, called. -/
theorem curveOf1_c (Bp : Nat) (ao : Option Addr) (n cap : Nat) (ps : List F) (x : F) (w : World) (hx : ps.length = n) (h8 : n ≤ 8) (hp : w.cell? ⟨Bp, 0, none⟩ = some (.slice ao n cap)) (hr : Rd w ao (vIs ps)) :
    Calls Try.prog 82 #[.int .i64 (vI x), .pointer (some ⟨Bp, 0, none⟩)] w fun e w' => e = .returned (.int .i64 (vI (evF ps x))) ∧ Below w.heap.size w w' := by
  have hR : RdN w.heap.size w ao n ps := by
    by_cases h0 : n = 0
    · exact .inl h0
    · obtain ⟨b, o, rfl, hc⟩ := RdF hr hx h0
      exact .inr ⟨b, o, rfl, World.block_lt_of_cell? w _ (hc 0 (by omega)), hc⟩
  have := callsIn_wide.1 (curveOf1_in Fence.wide 3 trivial trivial trivial rfl (Nat.le_refl _) Bp ao n cap ps x h8 w hp hR)
  rw [hornF_all x ps hx] at this
  exact this

theorem curveOf_c (ao : Option Addr) (n c : Nat) (w : World) :
    Calls Try.prog 53 #[.slice ao n c] w fun e w' => e = .returned (.func (.func 82) #[] #[.pointer (some ⟨w.heap.size, 0, none⟩)]) ∧ w' = w.alloc (.cells #[.slice ao n c] 23) := by
  have hmf : ∀ (fn : Fn) (first cap : Array Value) (w : World), (Instr.makeFunc fn first cap).run Try.prog w = .ok (.func fn first cap) w := fun _ _ _ _ => rfl
  go_enter Try.func53, Try.ntmps53
  go_wp2
  go_ret
  exact ⟨rfl, rfl⟩

end Go.Proofs.Ytamppekadobagaa

/- Chapter 11: RunTrip of the program. -/
import Derived.Test.YtdhnolafkgkliaaDoorU11
import Derived.Deep.RegionWith
import Derived.Deep.RegionLaw
namespace Go.Proofs.YtdhnolafkgkliaaDoor
set_option linter.unusedVariables false
set_option maxRecDepth 1000000
set_option linter.unusedSimpArgs false
open Go.RowKit

structure TripS where
  hands : List Int
  letter : Int
  «at» : Int
  recs : List Rc
  lost : Int

/-- The trip that is told. -/
def tripV (xs : List Int) (l lo : Int) : TripS := if tripOk xs l lo = true then ⟨handsL xs.length, l, atI xs.length lo, recsL xs l ((atI xs.length lo).toNat + 1), lo⟩ else ⟨[], 0, 0, [], 0⟩

theorem trip_no {xs : List Int} {l lo : Int} (h : tripOk xs l lo = false) : tripV xs l lo = ⟨[], 0, 0, [], 0⟩ := by unfold tripV; rw [h]; rfl

theorem trip_yes {xs : List Int} {l lo : Int} (h : tripOk xs l lo = true) : tripV xs l lo = ⟨handsL xs.length, l, atI xs.length lo, recsL xs l ((atI xs.length lo).toNat + 1), lo⟩ := by unfold tripV; rw [h]; rfl

theorem trip_parts {xs : List Int} {l lo : Int} (h : tripOk xs l lo = true) : secsH xs = true ∧ (0 ≤ l ∧ l ≤ 1000) ∧ -1 ≤ lo ∧ lo < (xs.length : Int) := by
  unfold tripOk letB at h
  simp at h
  exact ⟨h.1, h.2.1, h.2.2.1, by omega⟩

theorem grown_trans' {a b c : World} {r : Option Nat} (h : a.grownBy b r) (k : b.grownBy c r) : a.grownBy c r :=
  ⟨k.os.trans h.os, k.tape.trans h.tape, k.output.trans h.output, Nat.le_trans h.size k.size, fun q hq hne => (k.block q (Nat.lt_of_lt_of_le hq h.size) hne).trans (h.block q hq hne)⟩

theorem step_append_run {P : Program} {ops : Array Oper} {o : Oper} {a : Act} {w : World} {K : Act → World → Prop} {Q : Exit → Act → World → Prop} {E : Prop}
    (hg : o.guard = none) (d x : Operand) (dT sT : TypeId) (hop : o.op = Op.call { callee := Callee.builtin Builtin.append, args := #[d, x], argTypes := #[dT, sT] })
    (v u : Value) (hd : a.eval d = v) (hx : a.eval x = u) {v' : Value} {w' : World} (hr : (Builtin.append_ #[dT, sT] o.type #[v, u]).run P w = .ok v' w') (hK : K (a.put o.dst v') w') :
    if Region.wanted o (yielded ops a.tmps) = true then Oper.wp P o a w K Q else E := by
  have hw : Region.wanted o (yielded ops a.tmps) = true := by simp [Region.wanted, hg]
  rw [if_pos hw]
  exact Lib.wp_append_run w d x dT sT hop v u hd hx v' w' hr hK

theorem sep_lt {v : Value} {B g : Nat} (h : ∀ k, v.ownBlock = some k → B ≤ k) (hg : g < B) : v.ownBlock = none ∨ v.ownBlock ≠ some g := by
  cases hv : v.ownBlock with
  | none => exact Or.inl rfl
  | some k => exact Or.inr (fun e => by have := h k hv; simp at e; omega)

theorem ne_lt {v : Value} {B g : Nat} (h : ∀ k, v.ownBlock = some k → B ≤ k) (hg : g < B) : some g ≠ v.ownBlock := fun e => by have := h g e.symm; omega

/-- One hand more: what an append to the hands and the store of the longer row leave. -/
theorem hand_step {wr : World} {gt gz B k : Nat} {v u : Value} {x1 x2 x3 : Value} {z0 z1 z2 z3 z4 : Value} {rs : List Rc} (hX : X5 wr gt v x1 x2 u x3) (hZ : X5 wr gz z0 z1 z2 z3 z4) (hH : Own wr B v (handsL k)) (hR : OwnR wr B u rs) (hgt : gt < B) (hgz : gz < B) (hne : gz ≠ gt) (hB : B ≤ wr.heap.size) (hk : k ≤ 1000) :
    ∃ a1 c1 w1 w2, (∀ ty, (Builtin.append_ #[23, 23] ty #[v, .slice (some ⟨wr.heap.size, 0, none⟩) 1 1]).run Tryd.prog (wr.alloc (.cells #[.int .i64 (k : Int)] 3)) = .ok (.slice a1 (k + 1) c1) w1) ∧ w1.setCell ⟨gt, 0, none⟩ (.slice a1 (k + 1) c1) = w2 ∧ X5 w1 gt v x1 x2 u x3 ∧ X5 w2 gt (.slice a1 (k + 1) c1) x1 x2 u x3 ∧ X5 w2 gz z0 z1 z2 z3 z4 ∧ Own w2 B (.slice a1 (k + 1) c1) (handsL (k + 1)) ∧ OwnR w2 B u rs ∧ Below gt wr w2 ∧ B ≤ w2.heap.size := by
  have ba := balloc wr (.cells #[.int .i64 (k : Int)] 3)
  have hge := own_block_ge hH
  obtain ⟨v1, w1, hrun, hown, hgrow, hbel⟩ := appendI_run (wr.alloc (.cells #[.int .i64 (k : Int)] 3)) B v (handsL k) [(k : Int)] (some ⟨wr.heap.size, 0, none⟩) 1 1 (hH.later ba) (litI wr k) rfl (fun h => by cases h) (by rw [handsL_length]; omega) (by have := ba.size; omega)
  have hX1 := (hX.later ba).grown hgrow (ne_lt hge hgt)
  have hZ1 := (hZ.later ba).grown hgrow (ne_lt hge hgz)
  have hR1 := (hR.later ba).kept hgrow (row_sepT (hR.later ba) (hH.later ba) (by decide))
  rw [← handsL_succ] at hown
  obtain ⟨a1, c1, hv1⟩ := hown.shape
  rw [handsL_length] at hv1
  subst hv1
  refine ⟨a1, c1, w1, _, hrun, rfl, hX1, hX1.set0 _, hZ1.other hne, hown.kept (grown_setCell _ _ _ _) (sep_lt (own_block_ge hown) hgt), hR1.kept (grown_setCell _ _ _ _) (sep_lt (own_block_geR hR1) hgt), ?_, ?_⟩
  · exact (((ba.mono (by omega)).trans (hbel.mono (by omega)))).setCell (by exact Nat.le_refl _) _
  · have h1 := ba.size; have h2 := hgrow.size; have h3 := (grown_setCell w1 gt 0 (.slice a1 (k + 1) c1)).size; omega

/-- One receipt more. -/
theorem rec_step {wr : World} {gt gz B q : Nat} {v u : Value} {x1 x2 x3 : Value} {z0 z1 z2 z3 z4 : Value} {hs : List Int} {xs : List Int} {l : Int} (a0 a1 a2 a3 : Int) (he : (a0, a1, a2, a3) = signR (xs.getD q 0) ((q : Int) - 1) l) (hX : X5 wr gt v x1 x2 u x3) (hZ : X5 wr gz z0 z1 z2 z3 z4) (hH : Own wr B v hs) (hR : OwnR wr B u (recsL xs l q)) (hgt : gt < B) (hgz : gz < B) (hne : gz ≠ gt) (hB : B ≤ wr.heap.size) (hk : q ≤ 1000) :
    ∃ e1 c1 w1 w2, (∀ ty, (Builtin.append_ #[26, 26] ty #[u, .slice (some ⟨wr.heap.size, 0, none⟩) 1 1]).run Tryd.prog (wr.alloc (.cells #[.int .i64 a0, .int .i64 a1, .int .i64 a2, .int .i64 a3] 43)) = .ok (.slice e1 (q + 1) c1) w1) ∧ w1.setCell ⟨gt, 3, none⟩ (.slice e1 (q + 1) c1) = w2 ∧ X5 w1 gt v x1 x2 u x3 ∧ X5 w2 gt v x1 x2 (.slice e1 (q + 1) c1) x3 ∧ X5 w2 gz z0 z1 z2 z3 z4 ∧ Own w2 B v hs ∧ OwnR w2 B (.slice e1 (q + 1) c1) (recsL xs l (q + 1)) ∧ Below gt wr w2 ∧ B ≤ w2.heap.size := by
  have ba := balloc wr (.cells #[.int .i64 a0, .int .i64 a1, .int .i64 a2, .int .i64 a3] 43)
  have hge := own_block_geR hR
  obtain ⟨u1, w1, hrun, hown, hgrow, hbel⟩ := appendR_run (wr.alloc (.cells #[.int .i64 a0, .int .i64 a1, .int .i64 a2, .int .i64 a3] 43)) B u (recsL xs l q) [(a0, a1, a2, a3)] (some ⟨wr.heap.size, 0, none⟩) 1 1 (hR.later ba) (litR wr a0 a1 a2 a3) rfl (fun h => by cases h) (by rw [recsL_length]; omega) (by have := ba.size; omega)
  have hX1 := (hX.later ba).grown hgrow (ne_lt hge hgt)
  have hZ1 := (hZ.later ba).grown hgrow (ne_lt hge hgz)
  have hH1 := (hH.later ba).kept hgrow (row_sepT (hH.later ba) (hR.later ba) (by decide))
  rw [he, ← recsL_succ] at hown
  obtain ⟨e1, c1, hu1⟩ := hown.shape
  rw [recsL_length] at hu1
  subst hu1
  refine ⟨e1, c1, w1, _, hrun, rfl, hX1, hX1.set3 _, hZ1.other hne, hH1.kept (grown_setCell _ _ _ _) (sep_lt (own_block_ge hH1) hgt), hown.kept (grown_setCell _ _ _ _) (sep_lt (own_block_geR hown) hgt), ?_, ?_⟩
  · exact (((ba.mono (by omega)).trans (hbel.mono (by omega)))).setCell (by exact Nat.le_refl _) _
  · have h1 := ba.size; have h2 := hgrow.size; have h3 := (grown_setCell w1 gt 3 (.slice e1 (q + 1) c1)).size; omega

set_option maxHeartbeats 4000000 in
theorem implTrip_c (ao : Option Addr) (n c : Nat) (xs : List Int) (l lo : Int) (w : World) (hx : xs.length = n) (hn : n ≤ 17592186044416) (hr : Rd w ao xs) :
    Calls Tryd.prog 10 #[.slice ao n c, .int .i64 l, .int .i64 lo] w fun e w' => ∃ ha hc ra rc, e = .returned (.tuple #[.agg #[.slice ha (tripV xs l lo).hands.length hc, .int .i64 (tripV xs l lo).letter, .int .i64 (tripV xs l lo).at, .slice ra (tripV xs l lo).recs.length rc, .int .i64 (tripV xs l lo).lost], .bool (tripOk xs l lo)]) ∧ Own w' w.heap.size (.slice ha (tripV xs l lo).hands.length hc) (tripV xs l lo).hands ∧ OwnR w' w.heap.size (.slice ra (tripV xs l lo).recs.length rc) (tripV xs l lo).recs ∧ Below w.heap.size w w' := by
  have HR : Hid (Rd w ao xs) := hr
  have HC1 : Hid (∀ wx, Rd wx ao xs → Calls Tryd.prog 43 #[.slice ao n c, .int .i64 6, .func (.func 44) #[] #[]] wx fun e w' => e = .returned (.bool (secsH xs)) ∧ w' = wx) := fun wx h => areSomeSec_c ao n c xs wx hx hn h
  have c2 := fun wx => isLetterNumber_c l wx
  have HRz : Hid (Rd (w.alloc (.cells #[.slice none 0 0, .int .i64 0, .int .i64 0, .slice none 0 0, .int .i64 0] 28)) ao xs) := hr.later (balloc w _)
  clear hr
  by_cases h1 : secsH xs = true
  case neg =>
    rw [Bool.not_eq_true] at h1
    have h : tripOk xs l lo = false := by unfold tripOk; rw [h1]; rfl
    rw [trip_no h, h]
    rw [h1] at HC1
    clear h h1 hx c2
    go_enter Tryd.func10, Tryd.ntmps10
    go_wp2_with fail
    refine (HC1.out _ HRz.out).mono ?_
    rintro e w' ⟨rfl, hw⟩
    subst w'
    go_wp2
    refine bodyPost_ret (v := .tuple #[.agg #[.slice none 0 0, .int .i64 0, .int .i64 0, .slice none 0 0, .int .i64 0], .bool false]) (by simp [results, Tryd.results10, go_sem]; try rfl) rfl ?_
    exact ⟨none, 0, none, 0, rfl, World.ownsRow_nil _ _ _ _, World.ownsRow_nil _ _ _ _, by first | exact balloc w _ | exact below_two w _ _ | exact below_three w _ _ _⟩
  by_cases h2 : letB l = true
  case neg =>
    rw [Bool.not_eq_true] at h2
    have h : tripOk xs l lo = false := by unfold tripOk; rw [h2]; simp
    rw [trip_no h, h]
    rw [h1] at HC1
    rw [h2] at c2
    clear h h1 h2 hx
    go_enter Tryd.func10, Tryd.ntmps10
    go_wp2_with fail
    refine (HC1.out _ HRz.out).mono ?_
    rintro e w' ⟨rfl, hw⟩
    subst w'
    go_wp2_with fail
    refine (c2 _).mono ?_
    rintro e w' ⟨rfl, hw⟩
    subst w'
    go_wp2
    refine bodyPost_ret (v := .tuple #[.agg #[.slice none 0 0, .int .i64 0, .int .i64 0, .slice none 0 0, .int .i64 0], .bool false]) (by simp [results, Tryd.results10, go_sem]; try rfl) rfl ?_
    exact ⟨none, 0, none, 0, rfl, World.ownsRow_nil _ _ _ _, World.ownsRow_nil _ _ _ _, by first | exact balloc w _ | exact below_two w _ _ | exact below_three w _ _ _⟩
  by_cases h3 : -1 ≤ lo
  case neg =>
    have h : tripOk xs l lo = false := by rw [Bool.eq_false_iff]; intro g; have := trip_parts g; omega
    rw [trip_no h, h]
    rw [h1] at HC1
    rw [h2] at c2
    have g0 : lo < -1 := by omega
    have g1 : ¬ (n : Int) ≤ lo := by omega
    clear h h1 h2 hx
    go_enter Tryd.func10, Tryd.ntmps10
    go_wp2_with fail
    refine (HC1.out _ HRz.out).mono ?_
    rintro e w' ⟨rfl, hw⟩
    subst w'
    go_wp2_with fail
    refine (c2 _).mono ?_
    rintro e w' ⟨rfl, hw⟩
    subst w'
    go_wp2
    refine bodyPost_ret (v := .tuple #[.agg #[.slice none 0 0, .int .i64 0, .int .i64 0, .slice none 0 0, .int .i64 0], .bool false]) (by simp [results, Tryd.results10, go_sem]; try rfl) rfl ?_
    exact ⟨none, 0, none, 0, rfl, World.ownsRow_nil _ _ _ _, World.ownsRow_nil _ _ _ _, by first | exact balloc w _ | exact below_two w _ _ | exact below_three w _ _ _⟩
  by_cases h4 : lo < (n : Int)
  case neg =>
    have h : tripOk xs l lo = false := by rw [Bool.eq_false_iff]; intro g; have := trip_parts g; omega
    rw [trip_no h, h]
    rw [h1] at HC1
    rw [h2] at c2
    have g0 : ¬ lo < -1 := by omega
    have g1 : (n : Int) ≤ lo := by omega
    clear h h1 h2 hx
    go_enter Tryd.func10, Tryd.ntmps10
    go_wp2_with fail
    refine (HC1.out _ HRz.out).mono ?_
    rintro e w' ⟨rfl, hw⟩
    subst w'
    go_wp2_with fail
    refine (c2 _).mono ?_
    rintro e w' ⟨rfl, hw⟩
    subst w'
    go_wp2
    refine bodyPost_ret (v := .tuple #[.agg #[.slice none 0 0, .int .i64 0, .int .i64 0, .slice none 0 0, .int .i64 0], .bool false]) (by simp [results, Tryd.results10, go_sem]; try rfl) rfl ?_
    exact ⟨none, 0, none, 0, rfl, World.ownsRow_nil _ _ _ _, World.ownsRow_nil _ _ _ _, by first | exact balloc w _ | exact below_two w _ _ | exact below_three w _ _ _⟩
  have h : tripOk xs l lo = true := by unfold tripOk; rw [h1, h2, hx]; simp; omega
  have hlen := secsH_len h1
  rw [hx] at hlen
  have hlb : 0 ≤ l ∧ l ≤ 1000 := (trip_parts h).2.1
  rw [trip_yes h, h, hx]
  rw [h1] at HC1
  rw [h2] at c2
  have HA : Hid (allB xs 1 1498 = true) := secsH_all h1
  have HX : Hid (xs.length = n) := hx
  have hat : 0 ≤ atI n lo ∧ atI n lo < n := by unfold atI; split <;> omega
  have c3 := fun wx => lastWith_c n lo wx (by omega)
  generalize atI n lo = a at *
  have g0 : ¬ lo < -1 := by omega
  have g1 : ¬ (n : Int) ≤ lo := by omega
  obtain ⟨A, hA⟩ : ∃ A : Nat, a.toNat + 1 = A := ⟨_, rfl⟩
  have hA1 : (A : Int) = a + 1 := by omega
  rw [hA]
  have HA1 : Hid ((A : Int) = a + 1) := hA1
  have hAn : A ≤ n := by omega
  simp only [handsL_length, recsL_length]
  clear h h1 h2 hx hA hA1
  have HZ0 : Hid (X5 ((w.alloc (.cells #[.slice none 0 0, .int .i64 0, .int .i64 0, .slice none 0 0, .int .i64 0] 28)).alloc (.cells #[.slice none 0 0, .int .i64 l, .int .i64 a, .slice none 0 0, .int .i64 lo] 28)) w.heap.size (.slice none 0 0) (.int .i64 0) (.int .i64 0) (.slice none 0 0) (.int .i64 0)) := (x5_new w _ _ _ _ _ _ _ rfl).later (balloc _ _)
  have HT0 : Hid (X5 ((w.alloc (.cells #[.slice none 0 0, .int .i64 0, .int .i64 0, .slice none 0 0, .int .i64 0] 28)).alloc (.cells #[.slice none 0 0, .int .i64 l, .int .i64 a, .slice none 0 0, .int .i64 lo] 28)) (w.heap.size + 1) (.slice none 0 0) (.int .i64 l) (.int .i64 a) (.slice none 0 0) (.int .i64 lo)) := x5_new (w.alloc (.cells #[.slice none 0 0, .int .i64 0, .int .i64 0, .slice none 0 0, .int .i64 0] 28)) _ _ _ _ _ _ _ (by simp)
  have HB0 : Hid (Below w.heap.size w ((w.alloc (.cells #[.slice none 0 0, .int .i64 0, .int .i64 0, .slice none 0 0, .int .i64 0] 28)).alloc (.cells #[.slice none 0 0, .int .i64 l, .int .i64 a, .slice none 0 0, .int .i64 lo] 28))) := below_two w _ _
  have HS0 : Hid (w.heap.size + 2 ≤ ((w.alloc (.cells #[.slice none 0 0, .int .i64 0, .int .i64 0, .slice none 0 0, .int .i64 0] 28)).alloc (.cells #[.slice none 0 0, .int .i64 l, .int .i64 a, .slice none 0 0, .int .i64 lo] 28)).heap.size) := by show _ ≤ _; simp
  go_enter Tryd.func10, Tryd.ntmps10
  go_wp2_with fail
  refine (HC1.out _ HRz.out).mono ?_
  rintro e w' ⟨rfl, hw⟩
  subst w'
  go_wp2_with fail
  refine (c2 _).mono ?_
  rintro e w' ⟨rfl, hw⟩
  subst w'
  go_wp2_with fail
  refine (c3 _).mono ?_
  rintro e w' ⟨rfl, hw⟩
  subst w'
  go_wp2
  obtain ⟨V0, hV0⟩ : ∃ V, (w.alloc (.cells #[.slice none 0 0, .int .i64 0, .int .i64 0, .slice none 0 0, .int .i64 0] 28)).alloc (.cells #[.slice none 0 0, .int .i64 l, .int .i64 a, .slice none 0 0, .int .i64 lo] 28) = V := ⟨_, rfl⟩
  rw [hV0] at HZ0 HT0 HB0 HS0 ⊢
  clear hV0 c2 c3
  go_loopw [39] (fun i wr => ∃ (k q : Nat) (v u : Value), k ≤ n ∧ i = .int .i64 k ∧ Hid (q = min k A) ∧ Hid (X5 wr (w.heap.size + 1) v (.int .i64 l) (.int .i64 a) u (.int .i64 lo)) ∧ Hid (X5 wr w.heap.size (.slice none 0 0) (.int .i64 0) (.int .i64 0) (.slice none 0 0) (.int .i64 0)) ∧ Hid (Own wr (w.heap.size + 2) v (handsL k)) ∧ Hid (OwnR wr (w.heap.size + 2) u (recsL xs l q)) ∧ Hid (Below w.heap.size w wr) ∧ Hid (w.heap.size + 2 ≤ wr.heap.size)) (fun i _ => n - (intOf i).toNat)
  case atStart => exact ⟨0, 0, _, _, Nat.zero_le _, rfl, (by show _ = _; omega), HT0, HZ0, World.ownsRow_nil _ _ _ _, World.ownsRow_nil _ _ _ _, HB0, HS0⟩
  case round =>
    obtain ⟨k, q, v, u, hk, rfl, HQ, HT, HZ, HH, HRc, HB, HS⟩ := hrel
    by_cases hlt : k < n
    · have hkl : k < xs.length := by rw [HX.out]; exact hlt
      obtain ⟨b, o, rfl, gx⟩ := (HR.out.later HB.out).get hkl
      have hxk := allB_getD HA.out k hkl
      have HXK : Hid (xs.getD k 0 = xs.getD k 0) := rfl
      obtain ⟨x, hxe⟩ : ∃ x, xs.getD k 0 = x := ⟨_, rfl⟩
      rw [hxe] at gx hxk
      have HXE : Hid (xs.getD k 0 = x) := hxe
      clear hxe HXK hkl
      obtain ⟨a1, c1, w1, w2, hrun, hst, hT1, hT2, hZ2, hH2, hR2, hb2, hs2⟩ := hand_step HT.out HZ.out HH.out HRc.out (by omega) (by omega) (by omega) HS.out (by omega)
      have HT2 : Hid (X5 w2 (w.heap.size + 1) (.slice a1 (k + 1) c1) (.int .i64 l) (.int .i64 a) u (.int .i64 lo)) := hT2
      have HZ2 : Hid (X5 w2 w.heap.size (.slice none 0 0) (.int .i64 0) (.int .i64 0) (.slice none 0 0) (.int .i64 0)) := hZ2
      have HH2 : Hid (Own w2 (w.heap.size + 2) (.slice a1 (k + 1) c1) (handsL (k + 1))) := hH2
      have HR2 : Hid (OwnR w2 (w.heap.size + 2) u (recsL xs l q)) := hR2
      have HB2 : Hid (Below w.heap.size w w2) := HB.out.trans (hb2.mono (by omega))
      have HS2 : Hid (w.heap.size + 2 ≤ w2.heap.size) := hs2
      obtain ⟨⟨t0, t1, t2, t3, t4⟩, _⟩ := HT.out.later (balloc wr (.cells #[.int .i64 (k : Int)] 3))
      obtain ⟨⟨s0, s1, s2, s3, s4⟩, sf⟩ := hT1
      have sf0 := sf 0
      obtain ⟨⟨r0, r1, r2, r3, r4⟩, _⟩ := id hT2
      obtain ⟨⟨p0, p1, p2, p3, p4⟩, _⟩ := id HT.out
      clear hT2 hZ2 hH2 hR2 hb2 hs2 sf HT HZ HH HRc
      by_cases hka : (k : Int) ≤ a
      · have hq : q = k := by have := HQ.out; have := HA1.out; omega
        subst hq
        have HC4 : Hid (∀ wx, Calls Tryd.prog 47 #[.int .i64 x, .int .i64 q, .int .i64 l] wx fun e w' => e = .returned (.agg #[.int .i64 ((q : Int) - 1), .int .i64 q, .int .i64 l, .int .i64 (signN x ((q : Int) - 1) l)]) ∧ Below wx.heap.size wx w') := fun wx => signedBy_c x q l wx hxk (by omega) hlb
        go_wp2_with (at_builtin; refine Lib.wpList_append_run _ rfl _ _ _ _ rfl _ _ rfl rfl _ _ (hrun _) ?_; clear hrun)
        go_region_law (first
          | (go_simp; go_at_call 47; refine (HC4.out _).mono ?_; rintro e w3 ⟨rfl, hb0⟩; have hb : Below w2.heap.size w2 w3 := (by first | exact hb0 | exact ((Below.refl w2.heap.size w2).drew).trans hb0); have hX3 := HT2.out.later hb; have hB3 := HB2.out.trans (hb.mono HB2.out.size); obtain ⟨e1, f1, w4, w5, hrun, hst5, hT4, hT5, hZ5, hH5, hR5, hb5, hs5⟩ := rec_step ((q : Int) - 1) q l (signN x ((q : Int) - 1) l) (by unfold signR; rw [HXE.out, Int.sub_add_cancel]) hX3 (HZ2.out.later hb) (HH2.out.later hb) (HR2.out.later hb) (by omega) (by omega) (by omega) (by have := hb.size; have := HS2.out; omega) (by omega); have HT5 : Hid (X5 w5 (w.heap.size + 1) (.slice a1 (q + 1) c1) (.int .i64 l) (.int .i64 a) (.slice e1 (q + 1) f1) (.int .i64 lo)) := hT5; have HZ5 : Hid (X5 w5 w.heap.size (.slice none 0 0) (.int .i64 0) (.int .i64 0) (.slice none 0 0) (.int .i64 0)) := hZ5; have HH5 : Hid (Own w5 (w.heap.size + 2) (.slice a1 (q + 1) c1) (handsL (q + 1))) := hH5; have HR5 : Hid (OwnR w5 (w.heap.size + 2) (.slice e1 (q + 1) f1) (recsL xs l (q + 1))) := hR5; have HB5 : Hid (Below w.heap.size w w5) := hB3.trans (hb5.mono (by omega)); have HS5 : Hid (w.heap.size + 2 ≤ w5.heap.size) := hs5; obtain ⟨⟨x0, x1, x2, x3, x4⟩, xf⟩ := hT4; have xf3 := xf 3; obtain ⟨⟨y0, y1, y2, y3, y4⟩, _⟩ := id hX3; obtain ⟨⟨m0, m1, m2, m3, m4⟩, _⟩ := hX3.later (balloc w3 (.cells #[.int .i64 ((q : Int) - 1), .int .i64 q, .int .i64 l, .int .i64 (signN x ((q : Int) - 1) l)] 43)); clear hX3 hB3 hb hb0 hT5 hZ5 hH5 hR5 hb5 hs5 xf)
          | (refine step_append_run rfl (.tmp 55) (.tmp 60) 26 26 rfl u (.slice (some ⟨w3.heap.size, 0, none⟩) 1 1) (by simp [Act.eval, Act.put]) (by simp [Act.eval, Act.put]) (hrun _) ?_))
        all_goals go_wp2
        all_goals go_roundw
        all_goals first | exact ⟨q + 1, q + 1, _, _, by omega, by go_num, by show _ = _; have := HA1.out; omega, HT5, HZ5, HH5, HR5, HB5, HS5⟩ | (simp [intOf]; omega)
      · have hq : q = min (k + 1) A := by have := HQ.out; have := HA1.out; omega
        have HQ2 : Hid (q = min (k + 1) A) := hq
        clear hq
        go_wp2_with (at_builtin; refine Lib.wpList_append_run _ rfl _ _ _ _ rfl _ _ rfl rfl _ _ (hrun _) ?_; clear hrun)
        go_wp2
        go_roundw
        case rel => exact ⟨k + 1, q, _, _, by omega, by go_num, HQ2, HT2, HZ2, HH2, HR2, HB2, HS2⟩
        case measure => simp [intOf]; omega
    · obtain rfl : k = n := by omega
      have hq : q = A := by have := HQ.out; omega
      subst hq
      obtain ⟨ha, hc, hv⟩ := HH.out.shape
      obtain ⟨ra, rc, hu⟩ := HRc.out.shape
      rw [handsL_length] at hv
      rw [recsL_length] at hu
      subst hv hu
      obtain ⟨⟨t0, t1, t2, t3, t4⟩, _⟩ := id HT.out
      obtain ⟨⟨z0, z1, z2, z3, z4⟩, zf⟩ := id HZ.out
      have zf0 := zf 0
      have zf1 := zf 1
      have zf2 := zf 2
      have zf3 := zf 3
      have zf4 := zf 4
      have hZ5 := ((((HZ.out.set0 (.slice ha k hc)).set1 (.int .i64 l)).set2 (.int .i64 a)).set3 (.slice ra q rc)).set4 (.int .i64 lo)
      obtain ⟨⟨y0, y1, y2, y3, y4⟩, _⟩ := hZ5
      clear zf
      go_wp2
      refine bodyPost_ret (v := .tuple #[.agg #[.slice ha k hc, .int .i64 l, .int .i64 a, .slice ra q rc, .int .i64 lo], .bool true]) (by simp [results, Tryd.results10, go_sem, y0, y1, y2, y3, y4]; try rfl) rfl ?_
      have hg : wr.grownBy _ (some w.heap.size) := grown_trans' (grown_trans' (grown_trans' (grown_trans' (grown_setCell wr w.heap.size 0 (.slice ha k hc)) (grown_setCell _ w.heap.size 1 (.int .i64 l))) (grown_setCell _ w.heap.size 2 (.int .i64 a))) (grown_setCell _ w.heap.size 3 (.slice ra q rc))) (grown_setCell _ w.heap.size 4 (.int .i64 lo))
      exact ⟨ha, hc, ra, rc, rfl, (HH.out.kept hg (sep_lt (own_block_ge HH.out) (by omega))).mono (by omega), (HRc.out.kept hg (sep_lt (own_block_geR HRc.out) (by omega))).mono (by omega), ((((HB.out.setCell (Nat.le_refl _) _).setCell (Nat.le_refl _) _).setCell (Nat.le_refl _) _).setCell (Nat.le_refl _) _).setCell (Nat.le_refl _) _⟩

end Go.Proofs.YtdhnolafkgkliaaDoor

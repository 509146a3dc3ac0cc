/- Chapter 6, the specification's side: all opened, votes added. -/
import Derived.Test.YtobomcmjilcnaaaDoorS6O
namespace Go.Proofs.YtobomcmjilcnaaaDoor
set_option linter.unusedVariables false
set_option maxRecDepth 1000000
set_option linter.unusedSimpArgs false
open Go.RowKit

/-- What opening by all answers. -/
def allOk (x y : Int) (secs : List Int) : Bool := secsB secs && sealB x y
def allI (x y : Int) (secs : List Int) : Int := if allOk x y secs = true then openI x y secs else 0
theorem partL_snoc (x : Int) {xs : List Int} {k : Nat} (h : k < xs.length) : partL x (xs.take (k + 1)) = partL x (xs.take k) ++ [pw x (xs.getD k 0).toNat] := by
  rw [take_snoc h, partL, List.map_append, List.map_singleton]
  rfl
theorem lessP_snoc (x y : Int) {xs : List Int} {k : Nat} (h : k < xs.length) : lessL y (partL x (xs.take (k + 1))) = lessL y (partL x (xs.take k)) * pw (pw x (xs.getD k 0).toNat) 2997 % 2999 := by
  rw [partL_snoc x h, lessL, List.map_append, List.map_singleton, prodM_snoc]
  rfl

set_option maxHeartbeats 2000000 in
theorem specAll_c (ao : Option Addr) (n c : Nat) (xs : List Int) (x y : Int) (w : World) (hx : xs.length = n) (hn : n ≤ 17592186044416) (hr : Rd w ao xs) :
    Calls Tryd.prog 30 #[.slice ao n c, .agg #[.int .i64 x, .int .i64 y]] w fun e w' => e = .returned (.tuple #[.int .i64 (allI x y xs), .bool (allOk x y xs)]) ∧ Below w.heap.size w w' := by
  have HB : Hid (Below w.heap.size w (w.alloc (Obj.cells #[Value.int .i64 x, Value.int .i64 y] 31))) := below_one _ _
  have HR : Hid (Rd (w.alloc (Obj.cells #[Value.int .i64 x, Value.int .i64 y] 31)) ao xs) := hr.later (below_one _ _)
  have HX : Hid (xs.length = n) := hx
  clear hx hr
  have HQ : Hid (∀ wx, Rd wx ao xs → Calls Tryd.prog 26 #[.slice ao n c] wx fun e w' => e = .returned (.bool (secsB xs)) ∧ w' = wx) := fun wx h => l6Secrets_c ao n c xs wx HX.out hn h
  cases g0 : secsB xs
  · have hb : allOk x y xs = false := by simp only [allOk, g0, Bool.false_and]
    have hi : allI x y xs = 0 := by simp only [allI, hb, Bool.false_eq_true, if_false]
    rw [hb, hi]; clear hb hi
    rw [g0] at HQ
    go_enter Tryd.func30, Tryd.ntmps30
    go_wp2_with (go_at_call 26; refine (HQ.out _ HR.out).mono ?_; rintro e w' ⟨rfl, hw⟩; subst w')
    refine bodyPost_ret (v := .tuple #[.int .i64 0, .bool false]) (by simp [results, Tryd.results30, go_sem]; try rfl) rfl ?_
    exact ⟨rfl, HB.out⟩
  · cases g1 : sealB x y
    · have hb : allOk x y xs = false := by simp only [allOk, g1, Bool.and_false]
      have hi : allI x y xs = 0 := by simp only [allI, hb, Bool.false_eq_true, if_false]
      rw [hb, hi]; clear hb hi
      rw [g0] at HQ
      go_enter Tryd.func30, Tryd.ntmps30
      go_wp2_with (first | (go_at_call 26; refine (HQ.out _ HR.out).mono ?_; rintro e w' ⟨rfl, hw⟩; subst w') | (go_at_call 58; refine (l2Sealed_c x y _).mono ?_; rw [g1]; clear g1; rintro e w1 ⟨rfl, hb⟩; have HB1 : Hid (Below w.heap.size w w1) := HB.out.trans (hb.mono (by simp)); clear hb))
      refine bodyPost_ret (v := .tuple #[.int .i64 0, .bool false]) (by simp [results, Tryd.results30, go_sem]; try rfl) rfl ?_
      exact ⟨rfl, HB1.out⟩
    · have hb : allOk x y xs = true := by simp only [allOk, g0, g1, Bool.and_self]
      have hm := sealB_in g1
      have hi : allI x y xs = lessL y (partL x xs) := by
        rw [lessL_eq ⟨by omega, by omega⟩, ← openI_eq]
        simp only [allI, hb, if_true]
      rw [hb, hi]; clear hb hi
      have HA : Hid (allB xs 1 1498 = true) := secs_all g0
      rw [g0] at HQ
      clear g0
      go_enter Tryd.func30, Tryd.ntmps30
      go_wp2_with (first | (go_at_call 26; refine (HQ.out _ HR.out).mono ?_; rintro e w' ⟨rfl, hw⟩; subst w') | (go_at_call 58; refine (l2Sealed_c x y _).mono ?_; rw [g1]; clear g1; rintro e w1 ⟨rfl, hb⟩; have HB1 : Hid (Below w.heap.size w w1) := HB.out.trans (hb.mono (by simp)); obtain ⟨d0, d1, d2, d3⟩ := (c2_new w x y 31 w.heap.size rfl).keep hb; have HR1 : Hid (Rd w1 ao xs) := HR.out.later hb; clear hb HR HB HQ))
      go_loop [6, 21] (fun nv iv => ∃ (k : Nat) (r : Int), k ≤ n ∧ iv = .int .i64 k ∧ nv = .int .i64 r ∧ 0 ≤ r ∧ r < 2999 ∧ Hid (lessL y (partL x (xs.take k)) = r)) (fun _ iv => n - (intOf iv).toNat)
      case atStart => exact ⟨0, y, Nat.zero_le _, rfl, rfl, by omega, by omega, rfl⟩
      case round =>
        obtain ⟨k, r, hk, rfl, rfl, r0, r1, HS⟩ := hrel
        by_cases hlt : k < n
        · have hkl : k < xs.length := by rw [HX.out]; exact hlt
          obtain ⟨b, o, rfl, g1⟩ := Rd.get HR1.out hkl
          have hxk := allB_getD HA.out k hkl
          have H1 : Hid (lessL y (partL x (xs.take (k + 1))) = r * pw (pw x (xs.getD k 0).toNat) 2997 % 2999) := by have := lessP_snoc x y hkl; rw [HS.out] at this; exact this
          generalize xs.getD k 0 = v at g1 hxk H1
          obtain ⟨q, rfl⟩ : ∃ q : Nat, v = q := ⟨v.toNat, by omega⟩
          rw [Int.toNat_natCast] at H1
          have p0 := pw_lo x q
          have p1 := pw_hi x q
          have HP : Hid (∀ wx, Calls Tryd.prog 51 #[.int .i64 x, .int .i64 q] wx fun e w' => e = .returned (.int .i64 (pw x q)) ∧ w' = wx) := fun wx => l2Power_c x q wx (by omega) (by omega) (by omega)
          generalize pw x q = p at p0 p1 HP H1
          have j0 := pw_lo p 2997
          have j1 := pw_hi p 2997
          have HI : Hid (∀ wx, Calls Tryd.prog 59 #[.int .i64 p] wx fun e w' => e = .returned (.int .i64 (pw p 2997)) ∧ w' = wx) := fun wx => l2Inverse_c p wx (by omega) (by omega)
          generalize pw p 2997 = j at j0 j1 HI H1
          have hrp := prod_lt r0 r1 j0 j1
          clear hkl
          go_wp2_with (first | (go_at_call 51; refine (HP.out _).mono ?_; rintro e w' ⟨rfl, hw⟩; subst w') | (go_at_call 59; refine (HI.out _).mono ?_; rintro e w' ⟨rfl, hw⟩; subst w'))
          go_round
          case rel => exact ⟨k + 1, r * j % 2999, by omega, by go_num, rfl, by omega, by omega, H1⟩
          case measure => simp [intOf]; omega
        · go_wp2
          obtain rfl : k = n := by omega
          have HV : Hid (lessL y (partL x xs) = r) := by
            have := HS.out
            rw [List.take_of_length_le (by rw [HX.out]; exact Nat.le_refl _)] at this
            exact this
          refine bodyPost_ret (v := .tuple #[.int .i64 r, .bool true]) (by simp [results, Tryd.results30, go_sem]; try rfl) rfl ?_
          exact ⟨by rw [HV.out], HB1.out⟩

def addXI (l : List (Int × Int)) : Int := if addB l = true then addX l else 0
def addYI (l : List (Int × Int)) : Int := if addB l = true then addY l else 0
theorem add_no {l : List (Int × Int)} (h : addB l = false) : addXI l = 0 ∧ addYI l = 0 := by simp only [addXI, addYI, h, Bool.false_eq_true, if_false, and_self]
theorem add_yes {l : List (Int × Int)} (h : addB l = true) : addXI l = addX l ∧ addYI l = addY l := by simp only [addXI, addYI, h, if_true, and_self]
theorem addX_snoc {xs : List (Int × Int)} {k : Nat} {x y : Int} (h : k < xs.length) (e : xs.getD k (0, 0) = (x, y)) : addX (xs.take (k + 1)) = addX (xs.take k) * x % 2999 := by
  rw [take_snocP h, e, addX, List.map_append, List.map_singleton, prodM_snoc]
  rfl
theorem addY_snoc {xs : List (Int × Int)} {k : Nat} {x y : Int} (h : k < xs.length) (e : xs.getD k (0, 0) = (x, y)) : addY (xs.take (k + 1)) = addY (xs.take k) * y % 2999 := by
  rw [take_snocP h, e, addY, List.map_append, List.map_singleton, prodM_snoc]
  rfl

theorem C2.alloc2 {w w1 : World} {g : Nat} {a b : Int} (h : C2 w g a b) {o : Obj} (hb : Below (w.alloc o).heap.size (w.alloc o) w1) : C2 w1 g a b := (h.alloc o).keep hb

set_option maxHeartbeats 4000000 in
theorem specVotes_c (ao : Option Addr) (n c : Nat) (xs : List (Int × Int)) (w : World) (hx : xs.length = n) (hn : n ≤ 17592186044416) (hr : RdP w ao xs) :
    Calls Tryd.prog 29 #[.slice ao n c] w fun e w' => e = .returned (.tuple #[.agg #[.int .i64 (addXI xs), .int .i64 (addYI xs)], .bool (addB xs)]) ∧ Below w.heap.size w w' := by
  have HX : Hid (xs.length = n) := hx
  have HR : Hid (RdP w ao xs) := hr
  have HI : Hid (addB xs = false → addXI xs = 0 ∧ addYI xs = 0) := fun h => add_no h
  have HJ : Hid (addB xs = true → addXI xs = addX xs ∧ addYI xs = addY xs) := fun h => add_yes h
  clear hx hr
  go_enter Tryd.func29, Tryd.ntmps29
  go_wp2
  obtain ⟨W, hW⟩ : ∃ W, (w.alloc (Obj.cells #[Value.int .i64 0, Value.int .i64 0] 31)).alloc (Obj.cells #[Value.int .i64 1, Value.int .i64 1] 31) = W := ⟨_, rfl⟩
  have HB : Hid (Below w.heap.size w W) := by rw [← hW]; exact below_two _ _ _
  have HC : Hid (C2 W w.heap.size 0 0) := by rw [← hW]; exact (c2_new w 0 0 _ _ rfl).alloc _
  have HD : Hid (C2 W (w.heap.size + 1) 1 1) := by rw [← hW]; exact c2_new _ 1 1 _ _ (by simp)
  rw [hW]
  clear hW
  go_loopw [10] (fun i wr => ∃ k : Nat, k ≤ n ∧ i = .int .i64 k ∧ Hid (Below w.heap.size w wr) ∧ Hid (C2 wr w.heap.size 0 0) ∧ Hid (C2 wr (w.heap.size + 1) (addX (xs.take k)) (addY (xs.take k))) ∧ Hid (∀ j, j < k → sealB (xs.getD j (0, 0)).1 (xs.getD j (0, 0)).2 = true)) (fun i _ => n - (intOf i).toNat)
  case atStart => exact ⟨0, Nat.zero_le _, rfl, HB, HC, HD, fun j h => absurd h (by omega)⟩
  case round =>
    clear HB HC HD
    obtain ⟨k, hk, rfl, HB, HC, HD, HS⟩ := hrel
    by_cases hlt : k < n
    · have hkl : k < xs.length := by rw [HX.out]; exact hlt
      have hrr : RdP wr ao xs := by
        have h := HR.out
        rcases h with h | ⟨b, o, rfl, hc⟩
        · exact Or.inl h
        · refine Or.inr ⟨b, o, rfl, fun j hj => ?_⟩
          have hlt := World.block_lt_of_cell? w _ (hc j hj).1
          rw [HB.out.cell (p := ⟨b, o + j * 2, none⟩) hlt, HB.out.cell (p := ⟨b, o + j * 2 + 1, none⟩) hlt]
          exact hc j hj
      obtain ⟨b, o, rfl, g1, g2⟩ := RdP.get hrr hkl
      obtain ⟨x, y, hxy⟩ : ∃ x y, xs.getD k (0, 0) = (x, y) := ⟨_, _, rfl⟩
      have HE : Hid (xs.getD k (0, 0) = (x, y)) := hxy
      rw [hxy] at g1 g2
      dsimp only at g1 g2
      clear hxy hrr
      cases hs : sealB x y
      · have HN : Hid (addB xs = false) := by
          show _ = _
          have : (xs.all fun p => sealB p.1 p.2) = false := all_out (d := (0, 0)) hkl (by rw [HE.out]; exact hs)
          simp only [addB, this, Bool.and_false]
        clear hkl
        go_wp2_with fail
        refine (l2Sealed_c x y _).mono ?_
        rw [hs]
        clear hs
        rintro e w1 ⟨rfl, hb⟩
        have HB1 : Hid (Below w.heap.size w w1) := (HB.out.alloc HB.out.size _).trans (hb.mono (by have := HB.out.size; simp; omega))
        obtain ⟨c0, c1, c2, c3⟩ := HC.out.alloc2 hb
        clear hb
        go_wp2
        refine bodyPost_ret (v := .tuple #[.agg #[.int .i64 0, .int .i64 0], .bool false]) (by simp [results, Tryd.results29, go_sem, c0, c1]; try rfl) rfl ?_
        refine ⟨by rw [(HI.out HN.out).1, (HI.out HN.out).2, HN.out], ?_⟩
        first | exact HB1.out | exact (HB1.out.setCell (p := ⟨w.heap.size, 0, none⟩) (Nat.le_refl _) _).setCell (p := ⟨w.heap.size, 1, none⟩) (Nat.le_refl _) _
      · have HS2 : Hid (∀ j, j < k + 1 → sealB (xs.getD j (0, 0)).1 (xs.getD j (0, 0)).2 = true) := fun j hj => by
          by_cases e : j = k
          · rw [e, HE.out]; exact hs
          · exact HS.out j (by omega)
        have HP : Hid (addX (xs.take (k + 1)) = addX (xs.take k) * x % 2999 ∧ addY (xs.take (k + 1)) = addY (xs.take k) * y % 2999) := ⟨addX_snoc hkl HE.out, addY_snoc hkl HE.out⟩
        have a0 := addX_bd (xs.take k)
        have b0 := addY_bd (xs.take k)
        have hm := sealB_in hs
        generalize addX (xs.take k) = A at HD HP a0
        generalize addY (xs.take k) = B at HD HP b0
        have q1 := prod_lt (x := A) (y := x) a0.1 a0.2 (by omega) (by omega)
        have q2 := prod_lt (x := B) (y := y) b0.1 b0.2 (by omega) (by omega)
        clear hkl
        go_wp2_with fail
        refine (l2Sealed_c x y _).mono ?_
        rw [hs]
        clear hs
        rintro e w1 ⟨rfl, hb⟩
        have HB1 : Hid (Below w.heap.size w w1) := (HB.out.alloc HB.out.size _).trans (hb.mono (by have := HB.out.size; simp; omega))
        have HC1 : Hid (C2 w1 w.heap.size 0 0) := HC.out.alloc2 hb
        have HD1 : Hid (C2 w1 (w.heap.size + 1) A B) := HD.out.alloc2 hb
        obtain ⟨c0, c1, c2, c3⟩ := HD1.out
        obtain ⟨d0, d1, d2, d3⟩ := (c2_new wr x y 31 wr.heap.size rfl).keep hb
        clear hb
        go_wp2
        go_roundw
        case rel => exact ⟨k + 1, by omega, by go_num, (HB1.out.setCell (p := ⟨w.heap.size + 1, 0, none⟩) (Nat.le_succ _) _).setCell (p := ⟨w.heap.size + 1, 1, none⟩) (Nat.le_succ _) _, (HC1.out.other (by omega) _ _).other (by omega) _ _, by show C2 _ _ _ _; rw [HP.out.1, HP.out.2]; exact HD1.out.set _ _, HS2⟩
        case measure => simp [intOf]; omega
    · obtain rfl : k = n := by omega
      have HM : Hid ((xs.all fun p => sealB p.1 p.2) = true) := all_end (d := (0, 0)) (fun j hj => HS.out j (by rw [HX.out] at hj; exact hj))
      rw [List.take_of_length_le (by rw [HX.out]; exact Nat.le_refl _)] at HD
      obtain ⟨c0, c1, c2, c3⟩ := HC.out
      obtain ⟨d0, d1, d2, d3⟩ := HD.out
      by_cases h5 : 12 < k
      · have HN : Hid (addB xs = false) := by
          show _ = _
          have : decide (xs.length ≤ 12) = false := decide_eq_false (by rw [HX.out]; omega)
          simp only [addB, this, Bool.false_and]
        have h5' : (12 : Int) < (k : Int) := by omega
        go_wp2
        refine bodyPost_ret (v := .tuple #[.agg #[.int .i64 0, .int .i64 0], .bool false]) (by simp [results, Tryd.results29, go_sem, c0, c1]; try rfl) rfl ?_
        refine ⟨by rw [(HI.out HN.out).1, (HI.out HN.out).2, HN.out], ?_⟩
        first | exact HB.out | exact (HB.out.setCell (p := ⟨w.heap.size, 0, none⟩) (Nat.le_refl _) _).setCell (p := ⟨w.heap.size, 1, none⟩) (Nat.le_refl _) _
      · have HN : Hid (addB xs = true) := by
          show _ = _
          have h5 : decide (xs.length ≤ 12) = true := decide_eq_true (by rw [HX.out]; omega)
          simp only [addB, HM.out, h5, Bool.and_self]
        have h5' : ¬ (12 : Int) < (k : Int) := by omega
        have HV : Hid (addXI xs = addX xs ∧ addYI xs = addY xs) := HJ.out HN.out
        go_wp2
        refine bodyPost_ret (v := .tuple #[.agg #[.int .i64 (addX xs), .int .i64 (addY xs)], .bool true]) (by simp [results, Tryd.results29, go_sem, c0, c1]; try rfl) rfl ?_
        exact ⟨by rw [HV.out.1, HV.out.2, HN.out], (HB.out.setCell (p := ⟨w.heap.size, 0, none⟩) (Nat.le_refl _) _).setCell (p := ⟨w.heap.size, 1, none⟩) (Nat.le_refl _) _⟩

end Go.Proofs.YtobomcmjilcnaaaDoor

/- The contracts of the specification's l1Less and LessBig. -/
import Derived.Test.YtaedplfihjfchaaDoorBigOfl
namespace Go.Proofs.YtaedplfihjfchaaDoor
set_option linter.unusedVariables false
set_option maxRecDepth 1000000
set_option linter.unusedSimpArgs false
open Go.RowKit

set_option maxHeartbeats 1000000 in
theorem l1Less_c (ao bo : Option Addr) (n m c d : Nat) (xs ys : List Int) (w : World) (hx : xs.length = n) (hy : ys.length = m) (hn : n ≤ 1000000000) (hmn : m ≤ n) (hr : Rd w ao xs) (hs : Rd w bo ys) (dx : Digs xs) (dy : Digs ys) (hle : val ys ≤ val xs) (p : Nat) (hp : (bigL (val xs - val ys)).length = p) :
    Calls Tryd.prog 58 #[.slice ao n c, .slice bo m d] w fun e w' => ∃ a' c', e = .returned (.slice a' p c') ∧ Own w' w.heap.size (.slice a' p c') (bigL (val xs - val ys)) ∧ Below w.heap.size w w' := by
  obtain ⟨i0, hi, hz0, hz1, hz2⟩ := info_parts Tryd.infoInt
  have HX : Hid (xs.length = n) := hx
  have HY : Hid (ys.length = m) := hy
  have HR : Hid (Rd w ao xs) := hr
  have HS : Hid (Rd w bo ys) := hs
  have HD : Hid (Digs xs ∧ Digs ys) := ⟨dx, dy⟩
  have HP : Hid ((bigL (val xs - val ys)).length = p) := hp
  have HL : Hid (val ys ≤ val xs) := hle
  clear hx hy hr hs dx dy hp hle
  go_enter Tryd.func58, Tryd.ntmps58
  go_wp2
  go_loopw [5, 6, 11] (fun v bv i wr => ∃ (k : Nat) (b : Int) (out : List Int), i = .int .i64 k ∧ bv = .int .i64 b ∧ 0 ≤ b ∧ b ≤ 1 ∧ k ≤ n ∧ Hid (Own wr w.heap.size v out) ∧ Hid (out.length = k ∧ Digs out ∧ val (out ++ [val (xs.drop k) - val (ys.drop k) - b]) = val xs - val ys) ∧ Hid (Below w.heap.size w wr)) (fun _ _ i _ => n - (intOf i).toNat)
  case atStart => exact ⟨0, 0, [], rfl, rfl, by omega, by omega, by omega, World.ownsRow_nil _ _ _ _, ⟨rfl, digs_nil, by simp [val]⟩, Below.refl _ _⟩
  case round =>
    obtain ⟨k, b, out, rfl, rfl, b0, b1, hk, hO, hV, hB⟩ := hrel
    by_cases hlt : k < n
    · rcases HR.out with h0 | ⟨ba, oa, hao, hca⟩
      · have := HX.out; rw [h0] at this; simp at this; omega
      have g1 : wr.cell? ⟨ba, oa + k, none⟩ = some (.int .i64 (xs.getD k 0)) := by have := hca k (by rw [HX.out]; exact hlt); rw [hB.out.cell (p := ⟨ba, oa + k, none⟩) (World.block_lt_of_cell? w _ this)]; exact this
      subst hao
      have dX := HD.out.1.getD k
      have dY := HD.out.2.getD k
      have HV2 : Hid (val (out ++ [val (xs.drop k) - val (ys.drop k) - b]) = val xs - val ys) := hV.out.2.2
      generalize hgx : xs.getD k 0 = x at g1 dX
      generalize hgy : ys.getD k 0 = y at dY
      have HGX : Hid (xs.getD k 0 = x) := hgx
      have HGY : Hid (ys.getD k 0 = y) := hgy
      have hown : wr.ownsRow w.heap.size 3 1 u5 out.length (cellsI out) := hO.out
      have HOl : Hid (out.length = k) := hV.out.1
      have hol : out.length ≤ n := by rw [HOl.out]; omega
      have hob : ∀ k', u5.ownBlock = some k' → w.heap.size ≤ k' := own_block_ge hO.out
      clear hgx hgy hca
      by_cases hneg : x - y - b < 0
      · have HQ : ∀ nq, Calls Tryd.prog 45 #[.slice bo m d, .int .i64 (k : Int)] (wr.drewN nq) fun e w' => e = .returned (.int .i64 y) ∧ w' = wr.drewN nq := fun nq => by
          have h := l1At_c bo m d k ys (wr.drewN nq) HY.out (by omega) (by omega) (HS.out.later (below_drewN hB.out nq))
          rw [HGY.out] at h
          exact h
        have HQ1 : Hid (∀ nq, Calls Tryd.prog 45 #[.slice bo m d, .int .i64 (k : Int)] (wr.drewN nq) fun e w' => e = .returned (.int .i64 y) ∧ w' = wr.drewN nq) := HQ
        clear HQ
        go_wp2
        go_quiet ((go_at_call 45; exact Calls.quiet_of_same (HQ1.out _)))
        have hownq : (wr.drewN nq).ownsRow w.heap.size 3 1 u5 out.length (cellsI out) := hown
        have HBq : Hid (Below w.heap.size w (wr.drewN nq)) := below_drewN hB.out nq
        clear HQ1 g1 hown
        generalize wr.drewN nq = wq at *
        go_wp2_with (at_builtin; refine wpList_append_own _ rfl _ _ 23 rfl w.heap.size 3 i0 (.int .i64 0) 1 8 Tryd.underlying23 hi hz0 hz1 hz2 rfl (by decide) _ _ _ rfl (hownq.alloc _) ⟨wq.heap.size, 0, none⟩ 1 1 [.int .i64 (x - y - b + 65536)] rfl rfl (cell_new1 _ _ _) (ints_oneCell .i64 [x - y - b + 65536]) (by unfold maxLen; omega) (by omega) (by have := HBq.out.size; simp; omega) ?_; intro v' w2 hown' hgrow _; have HO' : Hid (Own w2 w.heap.size v' (out ++ [x - y - b + 65536])) := own_push (w := wq) (v := u5) hown'; have HB' : Hid (Below w.heap.size w w2) := (HBq.out.alloc HBq.out.size _).grown hgrow (by have := HBq.out.size; simp; omega) (fun k' e => hob k' e); clear hown' hgrow)
        go_roundw
        case rel => exact ⟨k + 1, 1, out ++ [x - y - b + 65536], by go_num, rfl, by omega, by omega, by omega, HO', ⟨by simp; exact HOl.out, hV.out.2.1.append (digs_cons (by omega) (by omega) digs_nil), sub_round HV2.out (by rw [HGX.out, HGY.out]) (by omega)⟩, HB'⟩
        case measure => simp [intOf]; omega
      · have HQ : ∀ nq, Calls Tryd.prog 45 #[.slice bo m d, .int .i64 (k : Int)] (wr.drewN nq) fun e w' => e = .returned (.int .i64 y) ∧ w' = wr.drewN nq := fun nq => by
          have h := l1At_c bo m d k ys (wr.drewN nq) HY.out (by omega) (by omega) (HS.out.later (below_drewN hB.out nq))
          rw [HGY.out] at h
          exact h
        have HQ1 : Hid (∀ nq, Calls Tryd.prog 45 #[.slice bo m d, .int .i64 (k : Int)] (wr.drewN nq) fun e w' => e = .returned (.int .i64 y) ∧ w' = wr.drewN nq) := HQ
        clear HQ
        go_wp2
        go_quiet ((go_at_call 45; exact Calls.quiet_of_same (HQ1.out _)))
        have hownq : (wr.drewN nq).ownsRow w.heap.size 3 1 u5 out.length (cellsI out) := hown
        have HBq : Hid (Below w.heap.size w (wr.drewN nq)) := below_drewN hB.out nq
        clear HQ1 g1 hown
        generalize wr.drewN nq = wq at *
        go_wp2_with (at_builtin; refine wpList_append_own _ rfl _ _ 23 rfl w.heap.size 3 i0 (.int .i64 0) 1 8 Tryd.underlying23 hi hz0 hz1 hz2 rfl (by decide) _ _ _ rfl (hownq.alloc _) ⟨wq.heap.size, 0, none⟩ 1 1 [.int .i64 (x - y - b)] rfl rfl (cell_new1 _ _ _) (ints_oneCell .i64 [x - y - b]) (by unfold maxLen; omega) (by omega) (by have := HBq.out.size; simp; omega) ?_; intro v' w2 hown' hgrow _; have HO' : Hid (Own w2 w.heap.size v' (out ++ [x - y - b])) := own_push (w := wq) (v := u5) hown'; have HB' : Hid (Below w.heap.size w w2) := (HBq.out.alloc HBq.out.size _).grown hgrow (by have := HBq.out.size; simp; omega) (fun k' e => hob k' e); clear hown' hgrow)
        go_roundw
        case rel => exact ⟨k + 1, 0, out ++ [x - y - b], by go_num, rfl, by omega, by omega, by omega, HO', ⟨by simp; exact HOl.out, hV.out.2.1.append (digs_cons (by omega) (by omega) digs_nil), sub_round HV2.out (by rw [HGX.out, HGY.out]) (by omega)⟩, HB'⟩
        case measure => simp [intOf]; omega
    · obtain rfl : k = n := by omega
      obtain ⟨a5, c5, hv5⟩ := hO.out.shape
      subst hv5
      have HN : Hid (val out = val xs - val ys) := by
        have h1 := hV.out.2.2
        rw [List.drop_eq_nil_of_le (by rw [HX.out]; omega), List.drop_eq_nil_of_le (by rw [HY.out]; omega)] at h1
        simp only [val] at h1
        by_cases hb : b = 0
        · subst hb
          simp only [Int.sub_self, Int.sub_zero] at h1
          rw [val_snoc_zero] at h1
          exact h1
        · have := val_snoc_neg (l := out) (t := 0 - 0 - b) hV.out.2.1 (by omega)
          have := HL.out
          omega
      go_wp2_with fail
      refine (l1Trim_c a5 out.length c5 out _ (by rw [hV.out.1]; omega) hO.out.rdS).mono ?_
      have ht : trim out = bigL (val xs - val ys) := by rw [trim_bigL hV.out.2.1, HN.out]
      have hO2 := hO.out.trimmed
      rw [ht] at hO2
      rw [ht, HP.out]
      rw [HP.out] at hO2
      have HO2 : Hid (Own wr w.heap.size (.slice a5 p c5) (bigL (val xs - val ys))) := hO2
      clear ht hO2
      rintro e w1 ⟨rfl, hw, _⟩
      subst w1
      go_wp2
      go_ret
      exact ⟨a5, c5, rfl, HO2.out, hB.out⟩

def lessF (xs ys : List Int) : List Int × Bool := if goodB xs && goodB ys then (if val xs < val ys then ([], false) else tellF (val xs - val ys)) else ([], false)

end Go.Proofs.YtaedplfihjfchaaDoor

/- Chapter 12: RunClaim of both sides. -/
import Derived.Test.YtofdlggohnfgaaaA12
import Derived.Test.YtofdlggohnfgaaaAP12
namespace Go.Proofs.Ytofdlggohnfgaaa
set_option linter.unusedVariables false
set_option maxRecDepth 1000000
set_option linter.unusedSimpArgs false
open Go.RowKit

def runTo (hand : Bool) (ws : List Bool) (c : Cl) (j : Nat) : List St := (List.range j).map fun i : Nat => ((i : Int), c.1, c.2.1, c.2.2, ws.getD i false != hand)

theorem runTo_succ (hand : Bool) (ws : List Bool) (c : Cl) (j : Nat) : runTo hand ws c (j + 1) = runTo hand ws c j ++ [((j : Int), c.1, c.2.1, c.2.2, ws.getD j false != hand)] := by simp [runTo, List.range_succ]

theorem runTo_length (hand : Bool) (ws : List Bool) (c : Cl) (j : Nat) : (runTo hand ws c j).length = j := by simp [runTo]

theorem bne_symm (a b : Bool) : (a != b) = (b != a) := by cases a <;> cases b <;> rfl

theorem RdB.get {w : World} {ao : Option Addr} {xs : List Bool} {k : Nat} (h : RdB w ao xs) (hk : k < xs.length) : ∃ b off, ao = some ⟨b, off, none⟩ ∧ w.cell? ⟨b, off + k, none⟩ = some (.bool (xs.getD k false)) := by
  rcases h with rfl | ⟨b, o, rfl, hc⟩
  · simp at hk
  · exact ⟨b, o, rfl, hc k hk⟩

set_option maxHeartbeats 4000000 in
theorem implRun_no (hand : Bool) (ao : Option Addr) (n c : Nat) (c0 c1 c2 : Int) (w : World) (hn : n ≤ 17592186044416) (h : ¬ (n ≤ 7 ∧ clB (c0, c1, c2) = true)) :
    Calls Try.prog 13 #[.bool hand, .slice ao n c, .agg #[.int .i64 c0, .int .i64 c1, .int .i64 c2]] w fun e w' => ∃ a' c', e = .returned (.tuple #[.slice a' 0 c', .bool false]) ∧ OwnS w' w.heap.size (.slice a' 0 c') [] ∧ Below w.heap.size w w' := by
  have q := fun wx => implGood_c c0 c1 c2 wx
  by_cases h7 : 7 < n
  · have h8 : (7 : Int) < (n : Int) := by omega
    go_enter Try.func13, Try.ntmps13
    go_wp2
    refine bodyPost_ret (v := .tuple #[.slice none 0 0, .bool false]) (by simp [results, Try.results13, go_sem]; try rfl) rfl ?_
    exact ⟨none, 0, rfl, own_nilS _ _, balloc w _⟩
  · have h8 : ¬ (7 : Int) < (n : Int) := by omega
    have hc : clB (c0, c1, c2) = false := by
      cases hh : clB (c0, c1, c2)
      · rfl
      · exact absurd ⟨by omega, hh⟩ h
    rw [hc] at q
    clear hc h
    go_enter Try.func13, Try.ntmps13
    go_wp2_with fail
    refine (q _).mono ?_
    clear q
    rintro e w1 ⟨rfl, hb⟩
    have HB : Hid (Below w.heap.size w w1) := (balloc w _).trans (hb.mono (balloc w _).size)
    clear hb
    go_wp2
    refine bodyPost_ret (v := .tuple #[.slice none 0 0, .bool false]) (by simp [results, Try.results13, go_sem]; try rfl) rfl ?_
    exact ⟨none, 0, rfl, own_nilS _ _, HB.out⟩

set_option maxHeartbeats 4000000 in
theorem implRun_yes (hand : Bool) (ao : Option Addr) (n c : Nat) (ws : List Bool) (c0 c1 c2 : Int) (w : World) (hx : ws.length = n) (h7 : n ≤ 7) (hc : clB (c0, c1, c2) = true) (hr : RdB w ao ws) :
    Calls Try.prog 13 #[.bool hand, .slice ao n c, .agg #[.int .i64 c0, .int .i64 c1, .int .i64 c2]] w fun e w' => ∃ a' c', e = .returned (.tuple #[.slice a' n c', .bool true]) ∧ OwnS w' w.heap.size (.slice a' n c') (runTo hand ws (c0, c1, c2) n) ∧ Below w.heap.size w w' := by
  have h8 : ¬ (7 : Int) < (n : Int) := by omega
  have q := fun wx => implGood_c c0 c1 c2 wx
  rw [hc] at q
  have HX : Hid (ws.length = n) := hx
  have HR : Hid (RdB w ao ws) := hr
  clear hx hr hc
  have X0 := x3_new w (.int .i64 c0) (.int .i64 c1) (.int .i64 c2) 25 w.heap.size rfl
  go_enter Try.func13, Try.ntmps13
  go_wp2_with fail
  refine (q _).mono ?_
  clear q
  rintro e w1 ⟨rfl, hb⟩
  have HB0 : Hid (Below w.heap.size w w1) := (balloc w _).trans (hb.mono (balloc w _).size)
  have HX3 : Hid (X3 w1 w.heap.size (.int .i64 c0) (.int .i64 c1) (.int .i64 c2)) := X0.later hb
  have hsz : w.heap.size < w1.heap.size := HX3.out.lt
  clear hb X0
  go_wp2
  go_loopw [8, 21] (fun v iv wr => ∃ j : Nat, j ≤ n ∧ iv = .int .i64 j ∧ Hid (OwnS wr w1.heap.size v (runTo hand ws (c0, c1, c2) j)) ∧ Hid (Below w1.heap.size w1 wr)) (fun _ iv _ => n - (intOf iv).toNat)
  case atStart => exact ⟨0, Nat.zero_le _, rfl, own_nilS _ _, Below.refl _ _⟩
  case round =>
    obtain ⟨j, hj, rfl, hO, hB⟩ := hrel
    by_cases hlt : j < n
    · have hjl : j < ws.length := by rw [HX.out]; exact hlt
      obtain ⟨b, o, rfl, g0⟩ := ((HR.out.later HB0.out).later hB.out).get hjl
      have HT : Hid (runTo hand ws (c0, c1, c2) (j + 1) = runTo hand ws (c0, c1, c2) j ++ [((j : Int), c0, c1, c2, ws.getD j false != hand)]) := runTo_succ hand ws (c0, c1, c2) j
      have HL : Hid ((runTo hand ws (c0, c1, c2) j).length = j) := runTo_length _ _ _ _
      generalize runTo hand ws (c0, c1, c2) j = out at hO HL HT
      generalize ws.getD j false = z at g0 HT
      obtain ⟨⟨x0, x1, x2⟩, xf⟩ := HX3.out.later hB.out
      have k0 : (0 : Int) ≤ (j : Int) := by omega
      have k1 : (j : Int) < (n : Int) := by omega
      have bA := balloc wr (.cells #[.int .i64 (j : Int), .int .i64 c0, .int .i64 c1, .int .i64 c2, .bool (z != hand)] 54)
      obtain ⟨v', w2, r1, o2, g2, b2⟩ := appendS_run (wr.alloc (.cells #[.int .i64 (j : Int), .int .i64 c0, .int .i64 c1, .int .i64 c2, .bool (z != hand)] 54)) w1.heap.size u8 out [((j : Int), c0, c1, c2, z != hand)] (some ⟨wr.heap.size, 0, none⟩) 1 1 (hO.out.later bA) (litS wr _ _ _ _ _) rfl (fun e => by cases e) (by rw [HL.out]; omega) (Nat.le_trans hB.out.size bA.size)
      have HO2 : Hid (OwnS w2 w1.heap.size v' (out ++ [((j : Int), c0, c1, c2, z != hand)])) := o2
      have HB2 : Hid (Below w1.heap.size w1 w2) := (hB.out.alloc hB.out.size _).trans b2
      clear bA o2 g2 b2 hO hB xf hjl
      go_wp2_with (at_builtin; refine Lib.wpList_append_run _ rfl _ _ _ _ rfl _ _ rfl rfl _ _ (r1 _) ?_; clear r1)
      go_roundw
      case rel => exact ⟨j + 1, by omega, by go_num, by show OwnS _ _ _ _; rw [HT.out]; exact HO2.out, HB2⟩
      case measure => simp [intOf]; omega
    · obtain rfl : j = n := by omega
      obtain ⟨a', c', hv⟩ := hO.out.shape
      rw [runTo_length] at hv
      subst hv
      have HO1 : Hid (OwnS wr w1.heap.size (.slice a' j c') (runTo hand ws (c0, c1, c2) j)) := hO.out
      clear hO
      go_wp2
      refine bodyPost_ret (v := .tuple #[.slice a' j c', .bool true]) (by simp [results, Try.results13, go_sem]; try rfl) rfl ?_
      exact ⟨a', c', rfl, HO1.out.mono (by omega), HB0.out.trans (hB.out.mono HB0.out.size)⟩

theorem implRun_c (hand : Bool) (ao : Option Addr) (n c : Nat) (ws : List Bool) (c0 c1 c2 : Int) (w : World) (hx : ws.length = n) (hn : n ≤ 17592186044416) (hr : RdB w ao ws) (p : Nat) (hp : (runV hand ws (c0, c1, c2)).length = p) :
    Calls Try.prog 13 #[.bool hand, .slice ao n c, .agg #[.int .i64 c0, .int .i64 c1, .int .i64 c2]] w fun e w' => ∃ a' c', e = .returned (.tuple #[.slice a' p c', .bool (runB ws (c0, c1, c2))]) ∧ OwnS w' w.heap.size (.slice a' p c') (runV hand ws (c0, c1, c2)) ∧ Below w.heap.size w w' := by
  unfold runV at *
  cases hB : runB ws (c0, c1, c2)
  · simp only [hB, Bool.false_eq_true, if_false, List.length_nil] at hp ⊢
    subst hp
    exact implRun_no hand ao n c c0 c1 c2 w hn (fun h => by simp [runB, hx, h] at hB)
  · simp only [hB, if_true] at hp ⊢
    rw [runL_length, hx] at hp
    subst hp
    have h : n ≤ 7 ∧ clB (c0, c1, c2) = true := by simpa [runB, hx] using hB
    have := implRun_yes hand ao n c ws c0 c1 c2 w hx h.1 h.2 hr
    have e : runTo hand ws (c0, c1, c2) n = runL hand ws (c0, c1, c2) := by unfold runTo runL; rw [hx]
    rw [e] at this
    exact this

set_option maxHeartbeats 4000000 in
theorem specRun_no (hand : Bool) (ao : Option Addr) (n c : Nat) (c0 c1 c2 : Int) (w : World) (hn : n ≤ 17592186044416) (h : ¬ (n ≤ 7 ∧ clB (c0, c1, c2) = true)) :
    Calls Try.prog 14 #[.bool hand, .slice ao n c, .agg #[.int .i64 c0, .int .i64 c1, .int .i64 c2]] w fun e w' => ∃ a' c', e = .returned (.tuple #[.slice a' 0 c', .bool false]) ∧ OwnS w' w.heap.size (.slice a' 0 c') [] ∧ Below w.heap.size w w' := by
  have q := fun wx => specGood_c c0 c1 c2 wx
  by_cases h7 : 7 < n
  · have h8 : (7 : Int) < (n : Int) := by omega
    go_enter Try.func14, Try.ntmps14
    go_wp2
    refine bodyPost_ret (v := .tuple #[.slice none 0 0, .bool false]) (by simp [results, Try.results14, go_sem]; try rfl) rfl ?_
    exact ⟨none, 0, rfl, own_nilS _ _, balloc w _⟩
  · have h8 : ¬ (7 : Int) < (n : Int) := by omega
    have hc : clB (c0, c1, c2) = false := by
      cases hh : clB (c0, c1, c2)
      · rfl
      · exact absurd ⟨by omega, hh⟩ h
    rw [hc] at q
    clear hc h
    go_enter Try.func14, Try.ntmps14
    go_wp2_with fail
    refine (q _).mono ?_
    clear q
    rintro e w1 ⟨rfl, hb⟩
    have HB : Hid (Below w.heap.size w w1) := (balloc w _).trans (hb.mono (balloc w _).size)
    clear hb
    go_wp2
    refine bodyPost_ret (v := .tuple #[.slice none 0 0, .bool false]) (by simp [results, Try.results14, go_sem]; try rfl) rfl ?_
    exact ⟨none, 0, rfl, own_nilS _ _, HB.out⟩

set_option maxHeartbeats 4000000 in
theorem specRun_yes (hand : Bool) (ao : Option Addr) (n c : Nat) (ws : List Bool) (c0 c1 c2 : Int) (w : World) (hx : ws.length = n) (h7 : n ≤ 7) (hc : clB (c0, c1, c2) = true) (hr : RdB w ao ws) :
    Calls Try.prog 14 #[.bool hand, .slice ao n c, .agg #[.int .i64 c0, .int .i64 c1, .int .i64 c2]] w fun e w' => ∃ a' c', e = .returned (.tuple #[.slice a' n c', .bool true]) ∧ OwnS w' w.heap.size (.slice a' n c') (runTo hand ws (c0, c1, c2) n) ∧ Below w.heap.size w w' := by
  have h8 : ¬ (7 : Int) < (n : Int) := by omega
  have q := fun wx => specGood_c c0 c1 c2 wx
  rw [hc] at q
  have HX : Hid (ws.length = n) := hx
  have HR : Hid (RdB w ao ws) := hr
  clear hx hr hc
  have X0 := x3_new w (.int .i64 c0) (.int .i64 c1) (.int .i64 c2) 25 w.heap.size rfl
  go_enter Try.func14, Try.ntmps14
  go_wp2_with fail
  refine (q _).mono ?_
  clear q
  rintro e w1 ⟨rfl, hb⟩
  have HB0 : Hid (Below w.heap.size w w1) := (balloc w _).trans (hb.mono (balloc w _).size)
  have HX3 : Hid (X3 w1 w.heap.size (.int .i64 c0) (.int .i64 c1) (.int .i64 c2)) := X0.later hb
  have hsz : w.heap.size < w1.heap.size := HX3.out.lt
  clear hb X0
  go_wp2
  go_loopw [8, 21] (fun v iv wr => ∃ j : Nat, j ≤ n ∧ iv = .int .i64 j ∧ Hid (OwnS wr w1.heap.size v (runTo hand ws (c0, c1, c2) j)) ∧ Hid (Below w1.heap.size w1 wr)) (fun _ iv _ => n - (intOf iv).toNat)
  case atStart => exact ⟨0, Nat.zero_le _, rfl, own_nilS _ _, Below.refl _ _⟩
  case round =>
    obtain ⟨j, hj, rfl, hO, hB⟩ := hrel
    by_cases hlt : j < n
    · have hjl : j < ws.length := by rw [HX.out]; exact hlt
      obtain ⟨b, o, rfl, g0⟩ := ((HR.out.later HB0.out).later hB.out).get hjl
      have HT : Hid (runTo hand ws (c0, c1, c2) (j + 1) = runTo hand ws (c0, c1, c2) j ++ [((j : Int), c0, c1, c2, hand != ws.getD j false)]) := by show _ = _; rw [runTo_succ, bne_symm]
      have HL : Hid ((runTo hand ws (c0, c1, c2) j).length = j) := runTo_length _ _ _ _
      generalize runTo hand ws (c0, c1, c2) j = out at hO HL HT
      generalize ws.getD j false = z at g0 HT
      obtain ⟨⟨x0, x1, x2⟩, xf⟩ := HX3.out.later hB.out
      have k0 : (0 : Int) ≤ (j : Int) := by omega
      have k1 : (j : Int) < (n : Int) := by omega
      have bA := balloc wr (.cells #[.int .i64 (j : Int), .int .i64 c0, .int .i64 c1, .int .i64 c2, .bool (hand != z)] 54)
      obtain ⟨v', w2, r1, o2, g2, b2⟩ := appendS_run (wr.alloc (.cells #[.int .i64 (j : Int), .int .i64 c0, .int .i64 c1, .int .i64 c2, .bool (hand != z)] 54)) w1.heap.size u8 out [((j : Int), c0, c1, c2, hand != z)] (some ⟨wr.heap.size, 0, none⟩) 1 1 (hO.out.later bA) (litS wr _ _ _ _ _) rfl (fun e => by cases e) (by rw [HL.out]; omega) (Nat.le_trans hB.out.size bA.size)
      have HO2 : Hid (OwnS w2 w1.heap.size v' (out ++ [((j : Int), c0, c1, c2, hand != z)])) := o2
      have HB2 : Hid (Below w1.heap.size w1 w2) := (hB.out.alloc hB.out.size _).trans b2
      clear bA o2 g2 b2 hO hB xf hjl
      go_wp2_with (at_builtin; refine Lib.wpList_append_run _ rfl _ _ _ _ rfl _ _ rfl rfl _ _ (r1 _) ?_; clear r1)
      go_roundw
      case rel => exact ⟨j + 1, by omega, by go_num, by show OwnS _ _ _ _; rw [HT.out]; exact HO2.out, HB2⟩
      case measure => simp [intOf]; omega
    · obtain rfl : j = n := by omega
      obtain ⟨a', c', hv⟩ := hO.out.shape
      rw [runTo_length] at hv
      subst hv
      have HO1 : Hid (OwnS wr w1.heap.size (.slice a' j c') (runTo hand ws (c0, c1, c2) j)) := hO.out
      clear hO
      go_wp2
      refine bodyPost_ret (v := .tuple #[.slice a' j c', .bool true]) (by simp [results, Try.results14, go_sem]; try rfl) rfl ?_
      exact ⟨a', c', rfl, HO1.out.mono (by omega), HB0.out.trans (hB.out.mono HB0.out.size)⟩

theorem specRun_c (hand : Bool) (ao : Option Addr) (n c : Nat) (ws : List Bool) (c0 c1 c2 : Int) (w : World) (hx : ws.length = n) (hn : n ≤ 17592186044416) (hr : RdB w ao ws) (p : Nat) (hp : (runV hand ws (c0, c1, c2)).length = p) :
    Calls Try.prog 14 #[.bool hand, .slice ao n c, .agg #[.int .i64 c0, .int .i64 c1, .int .i64 c2]] w fun e w' => ∃ a' c', e = .returned (.tuple #[.slice a' p c', .bool (runB ws (c0, c1, c2))]) ∧ OwnS w' w.heap.size (.slice a' p c') (runV hand ws (c0, c1, c2)) ∧ Below w.heap.size w w' := by
  unfold runV at *
  cases hB : runB ws (c0, c1, c2)
  · simp only [hB, Bool.false_eq_true, if_false, List.length_nil] at hp ⊢
    subst hp
    exact specRun_no hand ao n c c0 c1 c2 w hn (fun h => by simp [runB, hx, h] at hB)
  · simp only [hB, if_true] at hp ⊢
    rw [runL_length, hx] at hp
    subst hp
    have h : n ≤ 7 ∧ clB (c0, c1, c2) = true := by simpa [runB, hx] using hB
    have := specRun_yes hand ao n c ws c0 c1 c2 w hx h.1 h.2 hr
    have e : runTo hand ws (c0, c1, c2) n = runL hand ws (c0, c1, c2) := by unfold runTo runL; rw [hx]
    rw [e] at this
    exact this

end Go.Proofs.Ytofdlggohnfgaaa

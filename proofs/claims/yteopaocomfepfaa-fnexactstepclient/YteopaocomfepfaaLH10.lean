/- Chapter 10: the laws' own functions over a client. -/
import Derived.Test.YteopaocomfepfaaAR10
namespace Go.Proofs.Yteopaocomfepfaa
set_option linter.unusedVariables false
set_option maxRecDepth 1000000
set_option linter.unusedSimpArgs false
open Go.RowKit

theorem grown_below {w w' : World} {B g : Nat} (h : w.grownBy w' (some g)) (h1 : B ≤ g) (h2 : B ≤ w.heap.size) : Below B w w' := below_grown h h1 h2
theorem grown_row_below {w w' : World} {B : Nat} {v : Value} (h : w.grownBy w' v.ownBlock) (h1 : ∀ k, v.ownBlock = some k → B ≤ k) (h2 : B ≤ w.heap.size) : Below B w w' :=
  ⟨h.os, h.tape, h.output, h.size, fun q hq => h.block q (by omega) (fun e => by have := h1 q e.symm; omega)⟩

set_option maxHeartbeats 2000000 in
theorem eqClient_c (ao bo : Option Addr) (n c m d : Nat) (t y t2 y2 : Int) (xs ys : List ByteArray) (w : World) (hx : xs.length = n) (hy : ys.length = m) (hn : n ≤ 17592186044416) (hm : m ≤ 17592186044416) (hr : RdS w ao xs) (hs : RdS w bo ys) :
    Calls Try.prog 36 #[.agg #[.slice ao n c, .int .i64 t, .int .i64 y], .agg #[.slice bo m d, .int .i64 t2, .int .i64 y2]] w fun e w' => e = .returned (.bool (decide (xs = ys ∧ t = t2 ∧ y = y2))) ∧ Below w.heap.size w w' := by
  have hC0 := (x3_new w (.slice ao n c) (.int .i64 t) (.int .i64 y) 45 (w.heap.size) (by simp)).later (balloc (w.alloc (.cells #[.slice ao n c, .int .i64 t, .int .i64 y] 45)) (.cells #[.slice bo m d, .int .i64 t2, .int .i64 y2] 45))
  have hD0 := x3_new (w.alloc (.cells #[.slice ao n c, .int .i64 t, .int .i64 y] 45)) (.slice bo m d) (.int .i64 t2) (.int .i64 y2) 45 (w.heap.size + 1) (by simp)
  have hB_W0 : Below w.heap.size w ((w.alloc (.cells #[.slice ao n c, .int .i64 t, .int .i64 y] 45)).alloc (.cells #[.slice bo m d, .int .i64 t2, .int .i64 y2] 45)) := (balloc w (.cells #[.slice ao n c, .int .i64 t, .int .i64 y] 45)).alloc (by simp) (.cells #[.slice bo m d, .int .i64 t2, .int .i64 y2] 45)
  have hS_W0 : (((w.alloc (.cells #[.slice ao n c, .int .i64 t, .int .i64 y] 45)).alloc (.cells #[.slice bo m d, .int .i64 t2, .int .i64 y2] 45))).heap.size = w.heap.size + 2 := by simp
  obtain ⟨W0, hW0⟩ : ∃ V, ((w.alloc (.cells #[.slice ao n c, .int .i64 t, .int .i64 y] 45)).alloc (.cells #[.slice bo m d, .int .i64 t2, .int .i64 y2] 45)) = V := ⟨_, rfl⟩
  rw [hW0] at hC0 hD0 hB_W0 hS_W0
  have HC0 : Hid (X3 W0 (w.heap.size) (.slice ao n c) (.int .i64 t) (.int .i64 y)) := hC0
  have HD0 : Hid (X3 W0 (w.heap.size + 1) (.slice bo m d) (.int .i64 t2) (.int .i64 y2)) := hD0
  have HB_W0 : Hid (Below w.heap.size w W0) := hB_W0
  have HS_W0 : Hid (W0.heap.size = w.heap.size + 2) := hS_W0
  clear hB_W0 hS_W0 hC0 hD0
  have q0 := eqStringS_c ao bo n m c d xs ys W0 hx hy hn hm (hr.later HB_W0.out) (hs.later HB_W0.out)
  obtain ⟨⟨c0, c1, c2⟩, cf⟩ := id (HC0.out)
  clear cf
  obtain ⟨⟨d0, d1, d2⟩, df⟩ := id (HD0.out)
  clear df
  by_cases h0 : xs = ys
  case neg =>
    rw [decide_eq_false h0] at q0
    have HV : Hid (false = decide (xs = ys ∧ t = t2 ∧ y = y2)) := by show _ = _; simp [h0]
    go_enter Try.func36, Try.ntmps36
    go_wp2_with fail
    refine q0.mono ?_
    clear q0 c0 c1 c2 d0 d1 d2
    rintro e w1 ⟨rfl, hb⟩
    have HB1 : Hid (Below w.heap.size w w1) := HB_W0.out.trans (hb.mono HB_W0.out.size)
    obtain ⟨⟨c0, c1, c2⟩, cf⟩ := id (HC0.out.later hb)
    clear cf
    obtain ⟨⟨d0, d1, d2⟩, df⟩ := id (HD0.out.later hb)
    clear df
    clear hb hW0
    go_wp2
    go_ret
    exact ⟨ret_bool HV.out, HB1.out⟩
  rw [decide_eq_true h0] at q0
  by_cases h1 : t = t2
  case neg =>
    have e1 : (t != t2) = true := by simpa using h1
    have HV : Hid (false = decide (xs = ys ∧ t = t2 ∧ y = y2)) := by show _ = _; simp [h1]
    go_enter Try.func36, Try.ntmps36
    go_wp2_with fail
    refine q0.mono ?_
    clear q0 c0 c1 c2 d0 d1 d2
    rintro e w1 ⟨rfl, hb⟩
    have HB1 : Hid (Below w.heap.size w w1) := HB_W0.out.trans (hb.mono HB_W0.out.size)
    obtain ⟨⟨c0, c1, c2⟩, cf⟩ := id (HC0.out.later hb)
    clear cf
    obtain ⟨⟨d0, d1, d2⟩, df⟩ := id (HD0.out.later hb)
    clear df
    clear hb hW0
    go_wp2
    go_ret
    exact ⟨ret_bool HV.out, HB1.out⟩
  subst h1
  have e1 : (t != t) = false := by simp
  by_cases h2 : y = y2
  case neg =>
    have e2 : (y != y2) = true := by simpa using h2
    have HV : Hid (false = decide (xs = ys ∧ t = t ∧ y = y2)) := by show _ = _; simp [h2]
    go_enter Try.func36, Try.ntmps36
    go_wp2_with fail
    refine q0.mono ?_
    clear q0 c0 c1 c2 d0 d1 d2
    rintro e w1 ⟨rfl, hb⟩
    have HB1 : Hid (Below w.heap.size w w1) := HB_W0.out.trans (hb.mono HB_W0.out.size)
    obtain ⟨⟨c0, c1, c2⟩, cf⟩ := id (HC0.out.later hb)
    clear cf
    obtain ⟨⟨d0, d1, d2⟩, df⟩ := id (HD0.out.later hb)
    clear df
    clear hb hW0
    go_wp2
    go_ret
    exact ⟨ret_bool HV.out, HB1.out⟩
  subst h2
  have e2 : (y != y) = false := by simp
  have HV : Hid (true = decide (xs = ys ∧ t = t ∧ y = y)) := by show _ = _; simp [h0]
  go_enter Try.func36, Try.ntmps36
  go_wp2_with fail
  refine q0.mono ?_
  clear q0 c0 c1 c2 d0 d1 d2
  rintro e w1 ⟨rfl, hb⟩
  have HB1 : Hid (Below w.heap.size w w1) := HB_W0.out.trans (hb.mono HB_W0.out.size)
  obtain ⟨⟨c0, c1, c2⟩, cf⟩ := id (HC0.out.later hb)
  clear cf
  obtain ⟨⟨d0, d1, d2⟩, df⟩ := id (HD0.out.later hb)
  clear df
  clear hb hW0
  go_wp2
  go_ret
  exact ⟨ret_bool HV.out, HB1.out⟩

set_option maxHeartbeats 2000000 in
theorem markClient_c (ao : Option Addr) (n c : Nat) (t y k : Int) (base : Nat) (xs : List ByteArray) (w : World) (hn : n ≤ 17592186044416) (h0 : 0 ≤ k) (h1 : k ≤ 17592186044416) (ho : OwnS w base (.slice ao n c) xs) :
    Calls Try.prog 37 #[.agg #[.slice ao n c, .int .i64 t, .int .i64 y], .int .i64 k] w fun e w' => e = .returned (.int .i64 (k + n)) ∧ OwnS w' base (.slice ao n c) (marksS k n) ∧ w.grownBy w' (Value.slice ao n c).ownBlock := by
  have hC0 := x3_new w (.slice ao n c) (.int .i64 t) (.int .i64 y) 45 (w.heap.size) (by simp)
  have hB_W0 : Below w.heap.size w (w.alloc (.cells #[.slice ao n c, .int .i64 t, .int .i64 y] 45)) := balloc w (.cells #[.slice ao n c, .int .i64 t, .int .i64 y] 45)
  have hS_W0 : ((w.alloc (.cells #[.slice ao n c, .int .i64 t, .int .i64 y] 45))).heap.size = w.heap.size + 1 := by simp
  obtain ⟨W0, hW0⟩ : ∃ V, (w.alloc (.cells #[.slice ao n c, .int .i64 t, .int .i64 y] 45)) = V := ⟨_, rfl⟩
  rw [hW0] at hC0 hB_W0 hS_W0
  have HC0 : Hid (X3 W0 (w.heap.size) (.slice ao n c) (.int .i64 t) (.int .i64 y)) := hC0
  have HB_W0 : Hid (Below w.heap.size w W0) := hB_W0
  have HS_W0 : Hid (W0.heap.size = w.heap.size + 1) := hS_W0
  clear hB_W0 hS_W0 hC0
  have q0 := markStringS_c ao n c k base xs W0 hn h0 h1 (ho.later HB_W0.out)
  obtain ⟨⟨c0, c1, c2⟩, cf⟩ := id (HC0.out)
  clear cf
  go_enter Try.func37, Try.ntmps37
  go_wp2_with fail
  refine q0.mono ?_
  clear q0
  rintro e w1 ⟨rfl, ho1, hg⟩
  have HO : Hid (OwnS w1 base (.slice ao n c) (marksS k n)) := ho1
  have HG : Hid (w.grownBy w1 (Value.slice ao n c).ownBlock) := grown_trans (grown_of_below HB_W0.out _) hg
  clear ho1 hg hW0
  go_wp2
  go_ret
  exact ⟨rfl, HO.out, HG.out⟩

set_option maxHeartbeats 2000000 in
theorem heldClient_c (ao : Option Addr) (n c : Nat) (t y k : Int) (base : Nat) (w : World) (hn : n ≤ 17592186044416) (h0 : 0 ≤ k) (h1 : k ≤ 17592186044416) (ho : OwnS w base (.slice ao n c) (marksS k n)) :
    Calls Try.prog 38 #[.agg #[.slice ao n c, .int .i64 t, .int .i64 y], .int .i64 k] w fun e w' => e = .returned (.int .i64 (k + n)) ∧ Below w.heap.size w w' := by
  have hC0 := x3_new w (.slice ao n c) (.int .i64 t) (.int .i64 y) 45 (w.heap.size) (by simp)
  have hB_W0 : Below w.heap.size w (w.alloc (.cells #[.slice ao n c, .int .i64 t, .int .i64 y] 45)) := balloc w (.cells #[.slice ao n c, .int .i64 t, .int .i64 y] 45)
  have hS_W0 : ((w.alloc (.cells #[.slice ao n c, .int .i64 t, .int .i64 y] 45))).heap.size = w.heap.size + 1 := by simp
  obtain ⟨W0, hW0⟩ : ∃ V, (w.alloc (.cells #[.slice ao n c, .int .i64 t, .int .i64 y] 45)) = V := ⟨_, rfl⟩
  rw [hW0] at hC0 hB_W0 hS_W0
  have HC0 : Hid (X3 W0 (w.heap.size) (.slice ao n c) (.int .i64 t) (.int .i64 y)) := hC0
  have HB_W0 : Hid (Below w.heap.size w W0) := hB_W0
  have HS_W0 : Hid (W0.heap.size = w.heap.size + 1) := hS_W0
  clear hB_W0 hS_W0 hC0
  have q0 := heldStringS_c ao n c k base W0 hn h0 h1 (ho.later HB_W0.out)
  obtain ⟨⟨c0, c1, c2⟩, cf⟩ := id (HC0.out)
  clear cf
  go_enter Try.func38, Try.ntmps38
  go_wp2_with fail
  refine q0.mono ?_
  clear q0
  rintro e w1 ⟨rfl, hb⟩
  have HB1 : Hid (Below w.heap.size w w1) := HB_W0.out.trans (hb.mono HB_W0.out.size)
  have hk : 0 ≤ k + (n : Int) := by omega
  clear hb hW0
  go_wp2
  go_ret
  exact ⟨rfl, HB1.out⟩

set_option maxHeartbeats 2000000 in
theorem szClient_c (ao : Option Addr) (n c : Nat) (t y : Int) (left : Nat) (xs : List ByteArray) (w : World) (hx : xs.length = n) (hn : n ≤ 9223372036854775807) (hl : left ≤ 1048576) (hs : ∀ s ∈ xs, s.size ≤ 9223372036854775807) (hr : RdS w ao xs) :
    Calls Try.prog 39 #[.agg #[.slice ao n c, .int .i64 t, .int .i64 y], .int .i64 left] w fun e w' => ∃ r : Int, e = .returned (.int .i64 r) ∧ Below w.heap.size w w' ∧ r ≤ left ∧ (0 ≤ r → n ≤ 1048576) := by
  have hC0 := x3_new w (.slice ao n c) (.int .i64 t) (.int .i64 y) 63 (w.heap.size) (by simp)
  have hB_W0 : Below w.heap.size w (w.alloc (.cells #[.slice ao n c, .int .i64 t, .int .i64 y] 63)) := balloc w (.cells #[.slice ao n c, .int .i64 t, .int .i64 y] 63)
  have hS_W0 : ((w.alloc (.cells #[.slice ao n c, .int .i64 t, .int .i64 y] 63))).heap.size = w.heap.size + 1 := by simp
  obtain ⟨W0, hW0⟩ : ∃ V, (w.alloc (.cells #[.slice ao n c, .int .i64 t, .int .i64 y] 63)) = V := ⟨_, rfl⟩
  rw [hW0] at hC0 hB_W0 hS_W0
  have HC0 : Hid (X3 W0 (w.heap.size) (.slice ao n c) (.int .i64 t) (.int .i64 y)) := hC0
  have HB_W0 : Hid (Below w.heap.size w W0) := hB_W0
  have HS_W0 : Hid (W0.heap.size = w.heap.size + 1) := hS_W0
  clear hB_W0 hS_W0 hC0
  have q0 := szStringS_c ao n c left xs W0 hx hn hl hs (hr.later HB_W0.out)
  obtain ⟨⟨c0, c1, c2⟩, cf⟩ := id (HC0.out)
  clear cf
  go_enter Try.func39, Try.ntmps39
  go_wp2_with fail
  refine q0.mono ?_
  clear q0
  rintro e w1 ⟨r, rfl, hw, hr1, hr2⟩
  subst w1
  clear hW0
  by_cases hr0 : r < 0
  · go_wp2
    go_ret
    exact ⟨-1, rfl, HB_W0.out, by omega, fun h => by omega⟩
  · have hr0' : 0 ≤ r := by omega
    go_wp2
    go_ret
    exact ⟨r, rfl, HB_W0.out, hr1, hr2⟩

set_option maxHeartbeats 2000000 in
theorem toClient_c (ao : Option Addr) (n c : Nat) (t y : Int) (xs : List ByteArray) (w : World) (hx : xs.length = n) (hn : n ≤ 17592186044416) (hr : RdS w ao xs) :
    Calls Try.prog 40 #[.agg #[.slice ao n c, .int .i64 t, .int .i64 y]] w fun e w' => ∃ a' c', e = .returned (.agg #[.slice a' n c', .int .i64 t, .int .i64 y]) ∧ OwnS w' w.heap.size (.slice a' n c') xs ∧ Below w.heap.size w w' := by
  have hC0 := ((x3_new w (.slice ao n c) (.int .i64 t) (.int .i64 y) 63 (w.heap.size) (by simp)).later (balloc (w.alloc (.cells #[.slice ao n c, .int .i64 t, .int .i64 y] 63)) (.cells #[.slice none 0 0, .int .i64 0, .int .i64 0] 45))).later (balloc ((w.alloc (.cells #[.slice ao n c, .int .i64 t, .int .i64 y] 63)).alloc (.cells #[.slice none 0 0, .int .i64 0, .int .i64 0] 45)) (.cells #[.slice none 0 0, .int .i64 0, .int .i64 0] 45))
  have hR0 := (x3_new (w.alloc (.cells #[.slice ao n c, .int .i64 t, .int .i64 y] 63)) (.slice none 0 0) (.int .i64 0) (.int .i64 0) 45 (w.heap.size + 1) (by simp)).later (balloc ((w.alloc (.cells #[.slice ao n c, .int .i64 t, .int .i64 y] 63)).alloc (.cells #[.slice none 0 0, .int .i64 0, .int .i64 0] 45)) (.cells #[.slice none 0 0, .int .i64 0, .int .i64 0] 45))
  have hV0 := x3_new ((w.alloc (.cells #[.slice ao n c, .int .i64 t, .int .i64 y] 63)).alloc (.cells #[.slice none 0 0, .int .i64 0, .int .i64 0] 45)) (.slice none 0 0) (.int .i64 0) (.int .i64 0) 45 (w.heap.size + 2) (by simp)
  have hB_W0 : Below w.heap.size w (((w.alloc (.cells #[.slice ao n c, .int .i64 t, .int .i64 y] 63)).alloc (.cells #[.slice none 0 0, .int .i64 0, .int .i64 0] 45)).alloc (.cells #[.slice none 0 0, .int .i64 0, .int .i64 0] 45)) := ((balloc w (.cells #[.slice ao n c, .int .i64 t, .int .i64 y] 63)).alloc (by simp) (.cells #[.slice none 0 0, .int .i64 0, .int .i64 0] 45)).alloc (by simp; omega) (.cells #[.slice none 0 0, .int .i64 0, .int .i64 0] 45)
  have hS_W0 : ((((w.alloc (.cells #[.slice ao n c, .int .i64 t, .int .i64 y] 63)).alloc (.cells #[.slice none 0 0, .int .i64 0, .int .i64 0] 45)).alloc (.cells #[.slice none 0 0, .int .i64 0, .int .i64 0] 45))).heap.size = w.heap.size + 3 := by simp
  obtain ⟨W0, hW0⟩ : ∃ V, (((w.alloc (.cells #[.slice ao n c, .int .i64 t, .int .i64 y] 63)).alloc (.cells #[.slice none 0 0, .int .i64 0, .int .i64 0] 45)).alloc (.cells #[.slice none 0 0, .int .i64 0, .int .i64 0] 45)) = V := ⟨_, rfl⟩
  rw [hW0] at hC0 hR0 hV0 hB_W0 hS_W0
  have HC0 : Hid (X3 W0 (w.heap.size) (.slice ao n c) (.int .i64 t) (.int .i64 y)) := hC0
  have HR0 : Hid (X3 W0 (w.heap.size + 1) (.slice none 0 0) (.int .i64 0) (.int .i64 0)) := hR0
  have HV0 : Hid (X3 W0 (w.heap.size + 2) (.slice none 0 0) (.int .i64 0) (.int .i64 0)) := hV0
  have HB_W0 : Hid (Below w.heap.size w W0) := hB_W0
  have HS_W0 : Hid (W0.heap.size = w.heap.size + 3) := hS_W0
  clear hB_W0 hS_W0 hC0 hR0 hV0
  have q0 := toStringS_c ao n c xs W0 hx hn (hr.later HB_W0.out)
  obtain ⟨⟨c0, c1, c2⟩, cf⟩ := id (HC0.out)
  clear cf
  go_enter Try.func40, Try.ntmps40
  go_wp2_with fail
  refine q0.mono ?_
  clear q0 c0 c1 c2
  rintro e w1 ⟨a', c', rfl, ho, hb⟩
  have HO : Hid (OwnS w1 W0.heap.size (.slice a' n c') xs) := ho
  have HB1 : Hid (Below w.heap.size w w1) := HB_W0.out.trans (hb.mono HB_W0.out.size)
  obtain ⟨⟨c0, c1, c2⟩, cf⟩ := id (HC0.out.later hb)
  clear cf
  obtain ⟨⟨r0, r1, r2⟩, rf⟩ := id (HR0.out.later hb)
  have rf0 := rf 0
  have rf1 := rf 1
  have rf2 := rf 2
  clear rf
  obtain ⟨⟨v0, v1, v2⟩, vf⟩ := id (HV0.out.later hb)
  have vf0 := vf 0
  have vf1 := vf 1
  have vf2 := vf 2
  clear vf
  clear hb hW0 ho
  go_wp2
  refine bodyPost_ret (v := .agg #[.slice a' n c', .int .i64 t, .int .i64 y]) (by simp [results, Try.results40, go_sem, r0, r1, r2, v0, v1, v2]; try rfl) rfl ⟨a', c', rfl, ?_, ?_⟩
  · have hL := HS_W0.out
    refine OwnS.mono (base := W0.heap.size) ?_ (by omega)
    repeat (refine OwnS.set ?_ (by omega))
    exact HO.out
  · repeat (refine Below.setCell ?_ (by dsimp only; omega) _)
    exact HB1.out

end Go.Proofs.Yteopaocomfepfaa

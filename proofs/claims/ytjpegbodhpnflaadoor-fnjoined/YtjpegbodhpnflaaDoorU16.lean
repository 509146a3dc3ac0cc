/- Chapter 16: SeenIn and LowestOf of the specification. -/
import Derived.Test.YtjpegbodhpnflaaDoorT16
namespace Go.Proofs.YtjpegbodhpnflaaDoor
set_option linter.unusedVariables false
set_option maxRecDepth 1000000
set_option linter.unusedSimpArgs false
open Go.RowKit

/-- A number is put behind a row of numbers. -/
theorem push1_run (w : World) (base : Nat) (v : Value) (xs : List Int) (x : Int) (hown : Own w base v xs) (hl : xs.length ≤ 1000) (hb : base ≤ w.heap.size) :
    ∃ g cap w', (∀ ty, (Builtin.append_ #[23, 23] ty #[v, .slice (some ⟨w.heap.size, 0, none⟩) 1 1]).run Tryd.prog (w.alloc (.cells #[.int .i64 x] 3)) = .ok (.slice (some ⟨g, 0, none⟩) (xs.length + 1) cap) w') ∧ Own w' base (.slice (some ⟨g, 0, none⟩) (xs.length + 1) cap) (xs ++ [x]) ∧ w.grownBy w' v.ownBlock ∧ (v.ownBlock = some g ∨ g = w.heap.size + 1) ∧ g < w'.heap.size := by
  obtain ⟨i0, hi, hz0, hz1, hz2⟩ := info_parts Tryd.infoInt
  have hsz : (w.alloc (.cells #[.int .i64 x] 3)).heap.size = w.heap.size + 1 := by simp
  have ho2 : Own (w.alloc (.cells #[.int .i64 x] 3)) base v xs := hown.later (balloc w _)
  have hnew : ∀ j u, ([Value.int .i64 x] : List Value)[j]? = some u → (w.alloc (.cells #[.int .i64 x] 3)).cell? ((⟨w.heap.size, 0, none⟩ : Addr).add j) = some u := cell_new1 w _ _
  obtain ⟨g, cap, w', hrun, how, hg, hgg, hlt⟩ := run_append_lies (P := Tryd.prog) (w := w.alloc (.cells #[.int .i64 x] 3)) 23 23 base 3 i0 (.int .i64 0) 1 8 Tryd.underlying23 hi hz0 hz1 hz2 rfl (by decide) v xs.length (cellsI xs) ho2 ⟨w.heap.size, 0, none⟩ 1 1 [.int .i64 x] rfl hnew (by intro y hy; simp at hy; subst hy; rfl) (by decide) (by unfold maxLen; omega) (by omega) (by omega) (w.heap.size + 1) hsz
  refine ⟨g, cap, w', fun ty => hrun, ?_, World.grownBy.trans (World.grownBy_alloc w _ _) hg, hgg, hlt⟩
  unfold Own
  rw [List.length_append, show cellsI (xs ++ [x]) = cellsI xs ++ [Value.int .i64 x] by simp [cellsI]]
  exact how

theorem RL_top : ∀ (j b : Nat) (t : Int), RL (j + 1) b t = (if b.testBit j = true then [t - (j : Int)] else []) ++ RL j b t
  | 0, b, t => by
    rw [RL, RL, RL, List.nil_append, List.append_nil, Nat.testBit_zero]
    by_cases h : b % 2 = 1
    · simp [h]
    · simp [h]
  | j + 1, b, t => by
    rw [RL, RL_top j, List.append_assoc, Nat.testBit_succ]
    congr 1
    split
    · congr 1; omega
    · rfl

set_option maxHeartbeats 1000000 in
theorem l16Seen_c (t : Int) (b : Nat) (w : World) (h : GoodW t b) :
    Calls Tryd.prog 53 #[.agg #[.int .i64 t, .int .i64 b]] w fun e w' => ∃ ao c, e = .returned (.slice ao (RL 16 b t).length c) ∧ Own w' w.heap.size (.slice ao (RL 16 b t).length c) (RL 16 b t) ∧ Below w.heap.size w w' := by
  obtain ⟨h0, h1, hb, _, _⟩ := h
  have HBits : Hid (∀ k : Nat, bits BinOp.and IntKind.i64 ((b : Int) / 2 ^ k) 1 = if b.testBit k = true then 1 else 0) := fun k => bitAt hb k
  have HL : Hid ((RL 16 b t).length ≤ 16) := RL_len _ _ _
  obtain ⟨xs, hxs⟩ : ∃ xs, RL 16 b t = xs := ⟨_, rfl⟩
  have HX : Hid (RL 16 b t = xs) := hxs
  rw [hxs] at HL ⊢
  clear hxs
  obtain ⟨W, hW⟩ : ∃ X, w.alloc (.cells #[.int .i64 t, .int .i64 b] 26) = X := ⟨_, rfl⟩
  have hbx : W.heap[w.heap.size]? = some (.cells #[.int .i64 t, .int .i64 b] 26 (0, 0)) := by rw [← hW]; exact heap_alloc_new w _
  have hSW : W.heap.size = w.heap.size + 1 := by rw [← hW]; simp
  have HB0 : Hid (Below w.heap.size w W) := by rw [← hW]; exact balloc w _
  go_enter Tryd.func53, Tryd.ntmps53
  go_wp2
  clear hW
  go_loopw [3, 4] (fun sv kv wr => ∃ (m : Nat) (acc : List Int) (ao : Option Addr) (c : Nat), m ≤ 16 ∧ sv = .slice ao acc.length c ∧ kv = .int .i64 ((m : Int) - 1) ∧ Hid (acc ++ RL m b t = xs) ∧ Hid (Own wr (w.heap.size + 1) (.slice ao acc.length c) acc) ∧ Hid (Below (w.heap.size + 1) W wr)) (fun _ kv _ => (intOf kv + 1).toNat)
  case atStart => exact ⟨16, [], none, 0, Nat.le_refl _, rfl, by go_num, HX.out, World.ownsRow_nil _ _ _ _, Below.refl _ _⟩
  case round =>
    obtain ⟨m, acc, ao, c, hm, rfl, rfl, HA, HO, HB⟩ := hrel
    have hBs : w.heap.size + 1 ≤ wr.heap.size := by rw [← hSW]; exact HB.out.size
    obtain ⟨c0, c1, _, _⟩ := cell2 HB.out (by omega) hbx
    cases m with
    | succ k =>
      rw [show ((k + 1 : Nat) : Int) - 1 = (k : Int) by omega]
      have hB := HBits.out k
      have hk0 : (0 : Int) ≤ (k : Int) := by omega
      have hA := HA.out
      rw [RL_top] at hA
      cases hkb : b.testBit k
      · rw [hkb, if_neg (by decide)] at hB hA
        rw [List.nil_append] at hA
        have HA2 : Hid (acc ++ RL k b t = xs) := hA
        clear hkb hA
        go_wp2
        go_roundw
        case rel => exact ⟨k, acc, ao, c, by omega, rfl, by go_num, HA2, HO, HB⟩
        case measure => simp [intOf]
      · rw [hkb, if_pos rfl] at hB hA
        have hl : acc.length ≤ 16 := by
          have := congrArg List.length HA.out
          rw [List.length_append] at this
          have := HL.out
          omega
        obtain ⟨g, cap, V2, hrun, how, hgr, hgg, hglt⟩ := push1_run wr (w.heap.size + 1) (.slice ao acc.length c) acc (t - (k : Int)) HO.out (by omega) hBs
        have HA2 : Hid ((acc ++ [t - (k : Int)]) ++ RL k b t = xs) := by show _ = _; rw [List.append_assoc]; exact hA
        have HO2 : Hid (Own V2 (w.heap.size + 1) (.slice (some ⟨g, 0, none⟩) (acc.length + 1) cap) (acc ++ [t - (k : Int)])) := how
        have HB2 : Hid (Below (w.heap.size + 1) W V2) := HB.out.grown hgr hBs (own_block_ge HO.out)
        have hl2 : (acc ++ [t - (k : Int)]).length = acc.length + 1 := by simp
        clear hkb hA how hgr hgg HO HA
        go_wp2_with (at_builtin; refine Lib.wpList_append_run _ rfl _ _ _ _ rfl _ _ rfl rfl _ _ (hrun _) ?_; clear hrun)
        go_roundw
        case rel => exact ⟨k, acc ++ [t - (k : Int)], some ⟨g, 0, none⟩, cap, by omega, by rw [hl2], by go_num, HA2, by rw [hl2]; exact HO2, HB2⟩
        case measure => simp [intOf]
    | zero =>
      have hE : acc = xs := by have := HA.out; rw [RL, List.append_nil] at this; exact this
      subst hE
      have HB2 : Hid (Below w.heap.size w wr) := HB0.out.trans (HB.out.mono (by omega))
      clear HA hbx
      go_wp2
      go_ret
      exact ⟨ao, c, rfl, HO.out.mono (by omega), HB2.out⟩

set_option maxHeartbeats 1000000 in
theorem specSeen_c (t x : Int) (w : World) (hx64 : -9223372036854775808 ≤ x ∧ x ≤ 9223372036854775807) (ht64 : -9223372036854775808 ≤ t ∧ t ≤ 9223372036854775807) :
    Calls Tryd.prog 29 #[.agg #[.int .i64 t, .int .i64 x]] w fun e w' => ∃ ao c, e = .returned (.tuple #[.slice ao (seenV t x).length c, .bool (goodWn t x)]) ∧ Own w' w.heap.size (.slice ao (seenV t x).length c) (seenV t x) ∧ (ao = none → c = 0) ∧ Below w.heap.size w w' := by
  have q := specGood_c t x (w.alloc (.cells #[.int .i64 t, .int .i64 x] 26)) hx64 ht64
  have HB0 : Hid (Below w.heap.size w (w.alloc (.cells #[.int .i64 t, .int .i64 x] 26))) := balloc w _
  unfold seenV
  cases hg : goodWn t x
  · rw [hg] at q
    rw [if_neg (by decide)]
    go_enter Tryd.func29, Tryd.ntmps29
    go_wp2_with fail
    refine q.mono ?_
    clear q
    rintro e w1 ⟨rfl, hb1⟩
    have HB1 : Hid (Below w.heap.size w w1) := HB0.out.trans (hb1.mono (by simp))
    clear hb1 HB0
    go_wp2
    refine bodyPost_ret (v := .tuple #[.slice none 0 0, .bool false]) (by simp [results, Tryd.results29, go_sem]; try rfl) rfl ?_
    exact ⟨none, 0, rfl, World.ownsRow_nil _ _ _ _, fun _ => rfl, HB1.out⟩
  · rw [hg] at q
    rw [if_pos rfl]
    have hG := goodWn_of hg
    obtain ⟨b, rfl⟩ : ∃ b : Nat, x = b := ⟨x.toNat, by omega⟩
    rw [Int.toNat_natCast] at hG ⊢
    have HN : Hid (∀ wx, Calls Tryd.prog 53 #[.agg #[.int .i64 t, .int .i64 b]] wx fun e w' => ∃ ao c, e = .returned (.slice ao (RL 16 b t).length c) ∧ Own w' wx.heap.size (.slice ao (RL 16 b t).length c) (RL 16 b t) ∧ Below wx.heap.size wx w') := fun wx => l16Seen_c t b wx hG.2
    clear hG hg
    generalize RL 16 b t = xs at HN ⊢
    go_enter Tryd.func29, Tryd.ntmps29
    go_wp2_with fail
    refine q.mono ?_
    clear q
    rintro e w1 ⟨rfl, hb1⟩
    have HB1 : Hid (Below w.heap.size w w1) := HB0.out.trans (hb1.mono (by simp))
    obtain ⟨c0, c1⟩ := box2 w _ _ _ hb1
    clear hb1 HB0
    go_wp2_with fail
    refine (HN.out _).mono ?_
    clear HN
    rintro e w2 ⟨ao, c, rfl, hO, hb2⟩
    have HO : Hid (Own w2 w.heap.size (.slice ao xs.length c) xs) := hO.mono HB1.out.size
    have HB2 : Hid (Below w.heap.size w w2) := HB1.out.trans (hb2.mono HB1.out.size)
    clear hb2 hO
    go_wp2
    refine bodyPost_ret (v := .tuple #[.slice ao xs.length c, .bool true]) (by simp [results, Tryd.results29, go_sem]; try rfl) rfl ?_
    refine ⟨ao, c, rfl, HO.out, fun e => ?_, HB2.out⟩
    rcases HO.out.form with ⟨h, _⟩ | ⟨g, cap, h, _⟩
    · injection h
    · rw [e] at h; cases h

set_option maxHeartbeats 1000000 in
theorem specLow_c (t x : Int) (w : World) (hx64 : -9223372036854775808 ≤ x ∧ x ≤ 9223372036854775807) (ht64 : -9223372036854775808 ≤ t ∧ t ≤ 9223372036854775807) :
    Calls Tryd.prog 30 #[.agg #[.int .i64 t, .int .i64 x]] w fun e w' => e = .returned (.tuple #[.int .i64 (lowV t x), .bool (goodWn t x)]) ∧ Below w.heap.size w w' := by
  have q := specGood_c t x (w.alloc (.cells #[.int .i64 t, .int .i64 x] 26)) hx64 ht64
  have HB0 : Hid (Below w.heap.size w (w.alloc (.cells #[.int .i64 t, .int .i64 x] 26))) := balloc w _
  unfold lowV
  cases hg : goodWn t x
  · rw [hg] at q
    rw [if_neg (by decide)]
    go_enter Tryd.func30, Tryd.ntmps30
    go_wp2_with fail
    refine q.mono ?_
    clear q
    rintro e w1 ⟨rfl, hb1⟩
    have HB1 : Hid (Below w.heap.size w w1) := HB0.out.trans (hb1.mono (by simp))
    clear hb1 HB0
    go_wp2
    refine bodyPost_ret (v := .tuple #[.int .i64 0, .bool false]) (by simp [results, Tryd.results30, go_sem]; try rfl) rfl ?_
    exact ⟨rfl, HB1.out⟩
  · rw [hg] at q
    rw [if_pos rfl]
    have hG := goodWn_of hg
    have h0 := hG.2.1
    have h1 := hG.2.2.1
    clear hG hg
    by_cases h16 : t < 16
    · rw [if_pos h16]
      go_enter Tryd.func30, Tryd.ntmps30
      go_wp2_with fail
      refine q.mono ?_
      clear q
      rintro e w1 ⟨rfl, hb1⟩
      have HB1 : Hid (Below w.heap.size w w1) := HB0.out.trans (hb1.mono (by simp))
      obtain ⟨c0, c1⟩ := box2 w _ _ _ hb1
      clear hb1 HB0
      go_wp2
      refine bodyPost_ret (v := .tuple #[.int .i64 1, .bool true]) (by simp [results, Tryd.results30, go_sem]; try rfl) rfl ?_
      exact ⟨rfl, HB1.out⟩
    · rw [if_neg h16]
      have e15 : t - 15 = t - 16 + 1 := by omega
      rw [e15]
      clear e15
      go_enter Tryd.func30, Tryd.ntmps30
      go_wp2_with fail
      refine q.mono ?_
      clear q
      rintro e w1 ⟨rfl, hb1⟩
      have HB1 : Hid (Below w.heap.size w w1) := HB0.out.trans (hb1.mono (by simp))
      obtain ⟨c0, c1⟩ := box2 w _ _ _ hb1
      clear hb1 HB0
      go_wp2
      refine bodyPost_ret (v := .tuple #[.int .i64 (t - 16 + 1), .bool true]) (by simp [results, Tryd.results30, go_sem]; try rfl) rfl ?_
      exact ⟨rfl, HB1.out⟩

end Go.Proofs.YtjpegbodhpnflaaDoor

/- What chapter 4 draws for its orders. -/
import Derived.Test.YtlmamlhpjakcoaaD3G
import Derived.Test.YtlmamlhpjakcoaaOS4
import Derived.Test.YtlmamlhpjakcoaaBS
namespace Go.Proofs.Ytlmamlhpjakcoaa
set_option linter.unusedVariables false
set_option linter.unusedSimpArgs false
open Go.RowKit

theorem l1Least_c (x y : Int) (w : World) : Calls Try.prog 72 #[.int .i64 x, .int .i64 y] w fun e w' => ∃ r : Int, e = .returned (.int .i64 r) ∧ w' = w ∧ r ≤ x ∧ r ≤ y ∧ (r = x ∨ r = y) := by
  by_cases h : x < y
  · go_enter Try.func72, Try.ntmps72
    go_wp2
    go_ret
    exact ⟨x, rfl, rfl, by omega, by omega, Or.inl rfl⟩
  · have h' : y ≤ x := by omega
    go_enter Try.func72, Try.ntmps72
    go_wp2
    go_ret
    exact ⟨y, rfl, rfl, by omega, by omega, Or.inr rfl⟩

/-- One of a literal's texts. -/
theorem of_c (g : Nat) (ao : Option Addr) (n c : Nat) (M : Int) (r k : Nat) (w : World) (hM : M ≤ 3000000000000000000) (hk : 1 ≤ k ∧ k ≤ 1000) (hc : ∀ j, j < k → ∃ s : ByteArray, w.cell? ⟨r, j, none⟩ = some (.string s) ∧ s.size ≤ 100) (hrg : r ≠ g) (h : Cur w g ao n c M) :
    Calls Try.prog 61 #[.pointer (some ⟨g, 0, none⟩), .slice (some ⟨r, 0, none⟩) k k] w fun e w' => ∃ s : ByteArray, e = .returned (.string s) ∧ s.size ≤ 100 ∧ Cur w' g ao n c (M + 2) ∧ GB g w w' := by
  have HC : Hid (Cur w g ao n c M) := h
  have HR : Hid (∀ j, j < k → ∃ s : ByteArray, w.cell? ⟨r, j, none⟩ = some (.string s) ∧ s.size ≤ 100) := hc
  obtain ⟨hk1, hk2⟩ := hk
  have kk : (1 : Int) ≤ (k : Int) ∧ (k : Int) ≤ 1000000 := by omega
  have HNE : Hid (¬ some r = some g) := by show ¬ _; simpa using hrg
  clear h hc hrg
  go_enter Try.func61, Try.ntmps61
  go_wp2_with fail
  refine (pick_c g ao n c M k _ hM kk HC.out).mono ?_
  rintro e w1 ⟨z, rfl, hz0, hz1, hc1, hg1⟩
  obtain ⟨j, rfl⟩ : ∃ j : Nat, z = j := ⟨z.toNat, by omega⟩
  obtain ⟨s, hs, hs2⟩ := HR.out j (by omega)
  have q1 : w1.cell? ⟨r, j, none⟩ = some (.string s) := by have h := hg1.cell (a := ⟨r, j, none⟩) hs HNE.out; simpa using h
  have HC1 : Hid (Cur w1 g ao n c (M + 2)) := hc1
  have HG1 : Hid (GB g w w1) := hg1
  clear hc1 hg1 HC hs HR
  go_wp2
  go_ret
  exact ⟨s, rfl, hs2, HC1.out, HG1.out⟩

def allS : List Value → Prop
  | [] => True
  | .string s :: r => s.size ≤ 100 ∧ allS r
  | _ :: _ => False
theorem allS_at : ∀ {l : List Value} {j : Nat}, allS l → j < l.length → ∃ s : ByteArray, l[j]? = some (.string s) ∧ s.size ≤ 100
  | .string s :: r, 0, h, _ => ⟨s, rfl, h.1⟩
  | .string s :: r, j + 1, h, hj => by
    obtain ⟨y', h1, h2⟩ := allS_at (j := j) h.2 (by simpa using hj)
    exact ⟨y', by simpa using h1, h2⟩
theorem litS_cells (w : World) (cs : Array Value) (t : TypeId) (k : Nat) (hk : cs.size = k) (h : allS cs.toList) : ∀ j, j < k → ∃ s : ByteArray, (w.alloc (.cells cs t)).cell? ⟨w.heap.size, j, none⟩ = some (.string s) ∧ s.size ≤ 100 := fun j hj => by
  obtain ⟨y, h1, h2⟩ := allS_at (j := j) h (by simpa [← hk] using hj)
  refine ⟨y, ?_, h2⟩
  rw [World.cell?_alloc_new]
  · simpa using h1

/-- Rows of ints and rows of texts lie apart. -/
theorem sep_types {w : World} {b1 b2 : Nat} {v u : Value} {xs : List Int} {ys : List ByteArray} (h : Own w b1 v xs) (k : OwnS w b2 u ys) : v.ownBlock = none ∨ v.ownBlock ≠ u.ownBlock := by
  rcases h.2 with ⟨rfl, _⟩ | ⟨g, cap, cur, rfl, _, hg, _⟩
  · exact Or.inl rfl
  · refine Or.inr fun e => ?_
    rcases k.2 with ⟨rfl, _⟩ | ⟨g', cap', cur', rfl, _, hg', _⟩
    · simp [Value.ownBlock] at e
    · simp only [Value.ownBlock, Option.some.injEq] at e
      subst e
      rw [hg] at hg'
      simp at hg'
theorem sep_types' {w : World} {b1 b2 : Nat} {v u : Value} {xs : List Int} {ys : List ByteArray} (h : Own w b1 v xs) (k : OwnS w b2 u ys) : u.ownBlock = none ∨ u.ownBlock ≠ v.ownBlock := by
  rcases sep_types h k with h1 | h1
  · cases hu : u.ownBlock with
    | none => exact Or.inl rfl
    | some b => exact Or.inr (fun e => by rw [h1] at e; simp at e)
  · exact Or.inr (fun e => h1 e.symm)
theorem sep_ownS {w : World} {base g : Nat} {v : Value} {xs : List ByteArray} (h : OwnS w base v xs) (hg : g < base) : v.ownBlock = none ∨ v.ownBlock ≠ some g := by
  rcases hb : v.ownBlock with _ | b
  · exact Or.inl rfl
  · exact Or.inr (fun e => by have := own_block_geS h b hb; simp at e; omega)

set_option maxHeartbeats 1000000 in
set_option maxRecDepth 1000000 in
theorem drawOrders_c (ao : Option Addr) (n c : Nat) (w : World) (hn : n ≤ 9223372036854775807) (h : CodeOk w w.heap.size ao n) :
    Calls Try.prog 38 #[.slice ao n c] w fun e w' => (∃ a : Int, e = .returned (.int .i64 a)) ∧ Below w.heap.size w w' := by
  have C0 : Hid (Cur (w.alloc (.cells #[.slice ao n c, .int .i64 0, .int .u64 0] 62)) w.heap.size ao n c 0) := cur_new _ hn h
  have G0 : Hid (GB w.heap.size w (w.alloc (.cells #[.slice ao n c, .int .i64 0, .int .u64 0] 62))) := (GB.refl _ _).alloc _
  have hz0 : w.heap.size + 1 ≤ (w.alloc (.cells #[.slice ao n c, .int .i64 0, .int .u64 0] 62)).heap.size := by simp
  clear h
  go_enter Try.func38, Try.ntmps38
  go_wp2_with fail
  refine (pick_c w.heap.size ao n c (0) 12 _ (by omega) (by omega) C0.out).mono ?_
  rintro e w1 ⟨z, rfl, hz0, hz1, hc1, hg1⟩
  have C1 : Hid (Cur w1 w.heap.size ao n c (0 + 2)) := hc1
  have G1 : Hid (GB w.heap.size w w1) := G0.out.trans hg1
  clear hc1 hg1 C0 G0
  go_wp2
  go_ret
  exact ⟨⟨_, rfl⟩, G1.out.below (Nat.le_refl _) (Nat.le_refl _)⟩
  
set_option maxHeartbeats 1000000 in
set_option maxRecDepth 1000000 in
theorem drawOrderAt_c (ao : Option Addr) (n c : Nat) (w : World) (hn : n ≤ 9223372036854775807) (h : CodeOk w w.heap.size ao n) :
    Calls Try.prog 27 #[.slice ao n c] w fun e w' => (∃ a b : Int, e = .returned (.tuple #[.int .i64 a, .int .i64 b]) ∧ 0 ≤ a ∧ a ≤ 10 ∧ -1 ≤ b ∧ b ≤ 251) ∧ Below w.heap.size w w' := by
  have C0 : Hid (Cur (w.alloc (.cells #[.slice ao n c, .int .i64 0, .int .u64 0] 62)) w.heap.size ao n c 0) := cur_new _ hn h
  have G0 : Hid (GB w.heap.size w (w.alloc (.cells #[.slice ao n c, .int .i64 0, .int .u64 0] 62))) := (GB.refl _ _).alloc _
  have hz0 : w.heap.size + 1 ≤ (w.alloc (.cells #[.slice ao n c, .int .i64 0, .int .u64 0] 62)).heap.size := by simp
  clear h
  go_enter Try.func27, Try.ntmps27
  go_wp2_with fail
  refine (pick_c w.heap.size ao n c (0) 8 _ (by omega) (by omega) C0.out).mono ?_
  rintro e w1 ⟨z, rfl, hz0, hz1, hc1, hg1⟩
  have C1 : Hid (Cur w1 w.heap.size ao n c (0 + 2)) := hc1
  have G1 : Hid (GB w.heap.size w w1) := G0.out.trans hg1
  clear hc1 hg1 C0 G0
  obtain ⟨m, rfl⟩ : ∃ m : Nat, z = m := ⟨z.toNat, by omega⟩
  go_wp2_with fail
  refine (one_c w.heap.size ao n c (2) 20 _ (by omega) (by omega) C1.out).mono ?_
  rintro e w2 ⟨b, rfl, hc1, hg1⟩
  have C2 : Hid (Cur w2 w.heap.size ao n c (2 + 2)) := hc1
  have G2 : Hid (GB w.heap.size w w2) := G1.out.trans hg1
  clear hc1 hg1 C1 G1
  cases b
  · skip
    have hfo := fun wx => l4Orders_c m wx (by omega)
    have hfp := fac_pos m
    generalize fac m = F at hfo hfp
    go_wp2_with fail
    refine (hfo _).mono ?_
    rintro e w' ⟨rfl, hw⟩
    subst w'
    go_wp2_with fail
    refine (l1Least_c 250 F _).mono ?_
    rintro e w' ⟨r, rfl, hw, hr1, hr2, hr3⟩
    subst w'
    have hr0 : 1 ≤ r := by omega
    clear hr3 hfo
    go_wp2_with fail
    refine (pick_c w.heap.size ao n c (2 + 2) (r + 1) _ (by omega) (by omega) C2.out).mono ?_
    rintro e w8 ⟨x, rfl, hx0, hx1, hc1, hg1⟩
    have C8 : Hid (Cur w8 w.heap.size ao n c (2 + 2 + 2)) := hc1
    have G8 : Hid (GB w.heap.size w w8) := G2.out.trans hg1
    clear hc1 hg1 C2 G2
    go_wp2_with fail
    refine (pick_c w.heap.size ao n c (2 + 2 + 2) 9 _ (by omega) (by omega) C8.out).mono ?_
    rintro e w9 ⟨y, rfl, hy0, hy1, hc1, hg1⟩
    have C9 : Hid (Cur w9 w.heap.size ao n c (2 + 2 + 2 + 2)) := hc1
    have G9 : Hid (GB w.heap.size w w9) := G8.out.trans hg1
    clear hc1 hg1 C8 G8
    go_wp2
    refine bodyPost_ret (v := .tuple #[.int .i64 m, .int .i64 (x - y / 8)]) (by simp [results, Try.results27, go_sem]) rfl ⟨⟨m, x - y / 8, rfl, by omega, by omega, by omega, by omega⟩, G9.out.below (Nat.le_refl _) (Nat.le_refl _)⟩
  · skip
    go_wp2_with fail
    refine (pick_c w.heap.size ao n c (2 + 2) 2 _ (by omega) (by omega) C2.out).mono ?_
    rintro e w3 ⟨y0, rfl, hy00, hy01, hc1, hg1⟩
    have C3 : Hid (Cur w3 w.heap.size ao n c (2 + 2 + 2)) := hc1
    have G3 : Hid (GB w.heap.size w w3) := G2.out.trans hg1
    clear hc1 hg1 C2 G2
    obtain ⟨m2, hm2⟩ : ∃ m2 : Nat, 9 + y0 = m2 := ⟨(9 + y0).toNat, by omega⟩
    have hm3 : m2 ≤ 10 := by omega
    have hfo := fun wx => l4Orders_c m2 wx (by omega)
    have hfp := fac_pos m2
    generalize fac m2 = F at hfo hfp
    go_wp2_with fail
    refine (hfo _).mono ?_
    rintro e w' ⟨rfl, hw⟩
    subst w'
    go_wp2_with fail
    refine (l1Least_c 250 F _).mono ?_
    rintro e w' ⟨r, rfl, hw, hr1, hr2, hr3⟩
    subst w'
    have hr0 : 1 ≤ r := by omega
    clear hr3 hfo
    go_wp2_with fail
    refine (pick_c w.heap.size ao n c (2 + 2 + 2) (r + 1) _ (by omega) (by omega) C3.out).mono ?_
    rintro e w8 ⟨x, rfl, hx0, hx1, hc1, hg1⟩
    have C8 : Hid (Cur w8 w.heap.size ao n c (2 + 2 + 2 + 2)) := hc1
    have G8 : Hid (GB w.heap.size w w8) := G3.out.trans hg1
    clear hc1 hg1 C3 G3
    go_wp2_with fail
    refine (pick_c w.heap.size ao n c (2 + 2 + 2 + 2) 9 _ (by omega) (by omega) C8.out).mono ?_
    rintro e w9 ⟨y, rfl, hy0, hy1, hc1, hg1⟩
    have C9 : Hid (Cur w9 w.heap.size ao n c (2 + 2 + 2 + 2 + 2)) := hc1
    have G9 : Hid (GB w.heap.size w w9) := G8.out.trans hg1
    clear hc1 hg1 C8 G8
    go_wp2
    refine bodyPost_ret (v := .tuple #[.int .i64 m2, .int .i64 (x - y / 8)]) (by simp [results, Try.results27, go_sem]) rfl ⟨⟨m2, x - y / 8, rfl, by omega, by omega, by omega, by omega⟩, G9.out.below (Nat.le_refl _) (Nat.le_refl _)⟩

set_option maxHeartbeats 2000000 in
set_option maxRecDepth 1000000 in
theorem drawNumber_c (ao : Option Addr) (n c : Nat) (w : World) (hn : n ≤ 9223372036854775807) (h : CodeOk w w.heap.size ao n) :
    Calls Try.prog 33 #[.slice ao n c] w fun e w' => (∃ a' q c' zs, e = .returned (.slice a' q c') ∧ q ≤ 9 ∧ Own w' w.heap.size (.slice a' q c') zs) ∧ Below w.heap.size w w' := by
  have HW : Hid (CodeOk w w.heap.size ao n) := h
  clear h
  go_enter Try.func33, Try.ntmps33
  go_wp2_with fail
  refine (drawOrderAt_c ao n c _ hn HW.out).mono ?_
  rintro e w1 ⟨⟨x, y, rfl, hx0, hx1, hy0, hy1⟩, hb⟩
  have HB1 : Hid (Below w.heap.size w w1) := hb
  clear hb
  obtain ⟨zs, fb, hF⟩ : ∃ zs fb, orderF x y = (zs, fb) := ⟨_, _, rfl⟩
  have HF : Hid (orderF x y = (zs, fb)) := hF
  obtain ⟨p, hp⟩ : ∃ p, zs.length = p := ⟨_, rfl⟩
  have HP : Hid (zs.length = p) := hp
  have hp9 : p ≤ 9 := by rw [← hp]; exact orderF_short hF
  clear hF hp
  go_wp2_with fail
  refine (specOrder_c x y _ zs fb p HF.out HP.out).mono ?_
  rintro e w2 ⟨a2, c2, rfl, ho, hb⟩
  have HB2 : Hid (Below w.heap.size w w2) := HB1.out.trans (hb.mono HB1.out.size)
  have O2 : Hid (Own w2 w.heap.size (.slice a2 p c2) zs) := ho.mono HB1.out.size
  clear ho hb HB1 HF
  have C0 : Hid (Cur (w2.alloc (.cells #[.slice ao n c, .int .i64 0, .int .u64 0] 62)) w2.heap.size ao n c 0) := cur_new _ hn (HW.out.later HB2.out HB2.out.size)
  have G0 : Hid (GB w2.heap.size w2 (w2.alloc (.cells #[.slice ao n c, .int .i64 0, .int .u64 0] 62))) := (GB.refl _ _).alloc _
  have O3 : Hid (Own (w2.alloc (.cells #[.slice ao n c, .int .i64 0, .int .u64 0] 62)) w.heap.size (.slice a2 p c2) zs) := O2.out.later (balloc _ _)
  have HS : Hid ((Value.slice a2 p c2).ownBlock = none ∨ (Value.slice a2 p c2).ownBlock ≠ some w2.heap.size) := sep_top O2.out (Nat.le_refl _)
  have HO : Hid (Old ao n w2.heap.size) := old_mono (CodeOk.old HW.out) HB2.out.size
  clear O2
  by_cases hp0 : p = 0
  · have hp1 : ¬ (0 : Int) < (p : Int) := by omega
    clear hp0
    go_wp2
    go_ret
    exact ⟨⟨a2, p, c2, zs, rfl, by omega, O3.out⟩, HB2.out.trans ((G0.out.below (Nat.le_refl _) (Nat.le_refl _)).mono HB2.out.size)⟩
  · have hp1 : (0 : Int) < (p : Int) := by omega
    obtain ⟨gg, hgg, hgb⟩ := own_some O3.out (by omega)
    subst hgg
    clear hp0
    go_wp2_with fail
    refine (one_c w2.heap.size ao n c (0) 6 _ (by omega) (by omega) C0.out).mono ?_
    rintro e w3 ⟨b, rfl, hc1, hg1⟩
    have C1 : Hid (Cur w3 w2.heap.size ao n c (0 + 2)) := hc1
    have G1 : Hid (GB w2.heap.size w2 w3) := G0.out.trans hg1
    have O4 : Hid (Own w3 w.heap.size (.slice (some ⟨gg, 0, none⟩) p c2) zs) := O3.out.kept hg1 HS.out
    clear O3
    clear hc1 hg1 C0 G0
    cases b
    · go_wp2
      go_ret
      exact ⟨⟨_, p, c2, zs, rfl, by omega, O4.out⟩, HB2.out.trans ((G1.out.below (Nat.le_refl _) (Nat.le_refl _)).mono HB2.out.size)⟩
    · skip
      go_wp2_with fail
      refine (pick_c w2.heap.size ao n c (2) 9 _ (by omega) (by omega) C1.out).mono ?_
      rintro e w4 ⟨z, rfl, hz0, hz1, hc1, hg1⟩
      have C2 : Hid (Cur w4 w2.heap.size ao n c (2 + 2)) := hc1
      have G2 : Hid (GB w2.heap.size w2 w4) := G1.out.trans hg1
      have O5 : Hid (Own w4 w.heap.size (.slice (some ⟨gg, 0, none⟩) p c2) zs) := O4.out.kept hg1 HS.out
      clear O4
      clear hc1 hg1 C1 G1
      have gc : w4.cell? ⟨gg, 0, none⟩ = some (.int .i64 (zs.getD 0 0)) := by
        have h := O5.out
        rw [← HP.out] at h
        exact h.cell 0 (by rw [HP.out]; omega)
      have gf : w4.frozen? ⟨gg, 0, none⟩ = false := by
        have h := O5.out
        rw [← HP.out] at h
        exact h.free 0
      have O6 : Hid (Own (w4.setCell ⟨gg, 0, none⟩ (.int .i64 (z - 1))) w.heap.size (.slice (some ⟨gg, 0, none⟩) p c2) (zs.set 0 (z - 1))) := own_set O5.out 0 _
      have B6 : Hid (Below w.heap.size w (w4.setCell ⟨gg, 0, none⟩ (.int .i64 (z - 1)))) := (HB2.out.trans ((G2.out.below (Nat.le_refl _) (Nat.le_refl _)).mono HB2.out.size)).setCell hgb _
      generalize zs.getD 0 0 = y0 at gc
      clear O5 G2 C2
      go_wp2
      go_ret
      exact ⟨⟨_, p, c2, zs.set 0 (z - 1), rfl, by omega, O6.out⟩, B6.out⟩
      
end Go.Proofs.Ytlmamlhpjakcoaa

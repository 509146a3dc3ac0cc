/- Chapter 7: onions peeled, the program. -/
import Derived.Test.YtnfoflijapbkdaaM7
namespace Go.Proofs.Ytnfoflijapbkdaa
set_option linter.unusedVariables false
set_option maxRecDepth 1000000
set_option linter.unusedSimpArgs false
open Go.RowKit

/-- A box of an int and two texts. -/
def C3 (w : World) (r : Nat) (x : Int) (a b : ByteArray) : Prop :=
  w.cell? ⟨r, 0, none⟩ = some (.int .i64 x) ∧ w.cell? ⟨r, 1, none⟩ = some (.string a) ∧ w.cell? ⟨r, 2, none⟩ = some (.string b) ∧ w.frozen? ⟨r, 0, none⟩ = false ∧ w.frozen? ⟨r, 1, none⟩ = false ∧ w.frozen? ⟨r, 2, none⟩ = false
theorem c3_new (w : World) (x : Int) (a b : ByteArray) (t : TypeId) (r : Nat) (hr : r = w.heap.size) : C3 (w.alloc (.cells #[.int .i64 x, .string a, .string b] t)) r x a b := by
  subst hr
  refine ⟨by simp, by simp, by simp, ?_, ?_, ?_⟩ <;> (rw [World.frozen?_alloc_mark]; simp)
theorem C3.later {w w' : World} {r : Nat} {x : Int} {a b : ByteArray} (h : C3 w r x a b) (hb : Below w.heap.size w w') : C3 w' r x a b := by
  obtain ⟨c0, c1, c2, f0, f1, f2⟩ := h
  have hlt : r < w.heap.size := World.block_lt_of_cell? w _ c0
  refine ⟨?_, ?_, ?_, ?_, ?_, ?_⟩
  · rw [hb.cell (p := ⟨r, 0, none⟩) hlt]; exact c0
  · rw [hb.cell (p := ⟨r, 1, none⟩) hlt]; exact c1
  · rw [hb.cell (p := ⟨r, 2, none⟩) hlt]; exact c2
  · rw [hb.frozen (p := ⟨r, 0, none⟩) hlt]; exact f0
  · rw [hb.frozen (p := ⟨r, 1, none⟩) hlt]; exact f1
  · rw [hb.frozen (p := ⟨r, 2, none⟩) hlt]; exact f2
theorem C3.kept {w w' : World} {r g : Nat} {x : Int} {a b : ByteArray} (h : C3 w r x a b) (hg : w.grownBy w' (some g)) (hne : r ≠ g) : C3 w' r x a b := by
  obtain ⟨c0, c1, c2, f0, f1, f2⟩ := h
  have hlt : r < w.heap.size := World.block_lt_of_cell? w _ c0
  have e := hg.block r hlt (by simpa using hne)
  refine ⟨?_, ?_, ?_, ?_, ?_, ?_⟩
  · rw [World.cell?_of_block (w := w) (a := ⟨r, 0, none⟩) e]; exact c0
  · rw [World.cell?_of_block (w := w) (a := ⟨r, 1, none⟩) e]; exact c1
  · rw [World.cell?_of_block (w := w) (a := ⟨r, 2, none⟩) e]; exact c2
  · rw [World.frozen?_of_block (w := w) (a := ⟨r, 0, none⟩) e]; exact f0
  · rw [World.frozen?_of_block (w := w) (a := ⟨r, 1, none⟩) e]; exact f1
  · rw [World.frozen?_of_block (w := w) (a := ⟨r, 2, none⟩) e]; exact f2

/-- What is told of an onion that was peeled. -/
def peelF (k : Int) (s : ByteArray) : Option Peel := if blockB k = true ∧ s.size = 24 then peelB (padU k) (bl s) else none
def peelR : Option Peel → Int × ByteArray × ByteArray × Bool
  | none => (0, ByteArray.empty, ByteArray.empty, false)
  | some p => ((p.next : Nat), tx p.rest, tx p.body, true)

theorem unpadF_body (m : Bs) : (unpadF (tx m)).1 = tx ((unpadB m).getD []) := by
  unfold unpadF
  rw [bl_tx]
  cases unpadB m with
  | none => rfl
  | some b => rfl

theorem peelF_no {k : Int} {s : ByteArray} (h : ¬ (blockB k = true ∧ s.size = 24)) : peelR (peelF k s) = (0, ByteArray.empty, ByteArray.empty, false) := by
  unfold peelF; rw [if_neg h]; rfl
theorem peelF_yes {k : Int} {s : ByteArray} (h1 : blockB k = true) (h2 : s.size = 24) : peelF k s = peelB (padU k) (bl s) := by
  unfold peelF; rw [if_pos ⟨h1, h2⟩]
/-- What is told, by the first two bytes and the rest. -/
theorem peelR_at (pad s : Bs) (u : Bs) (q0 q1 : Nat) (h0 : bN (xorB s pad) 0 = q0) (h1 : bN (xorB s pad) 1 = q1) (hu : (xorB s pad).drop 2 = u) :
    peelR (peelB pad s) = if (1 ≤ q0 ∧ q0 ≤ 250) ∧ q1 = chk (u.take 16) then ((q0 : Int), tx (u ++ [0, 0]), tx ((unpadB (u.take 16)).getD []), true) else (0, ByteArray.empty, ByteArray.empty, false) := by
  unfold peelB
  simp only [h0, h1, hu]
  by_cases h : (1 ≤ q0 ∧ q0 ≤ 250) ∧ q1 = chk (u.take 16)
  · rw [if_pos h, if_pos ⟨h.1.1, h.1.2, h.2⟩]; rfl
  · rw [if_neg h, if_neg (fun e => h ⟨⟨e.1, e.2.1⟩, e.2.2⟩)]; rfl

set_option maxHeartbeats 2000000 in
theorem implPeel_c (k : Int) (s : ByteArray) (w : World) (hs : s.size ≤ 17592186044416) (nx : Int) (rs bd : ByteArray) (fb : Bool) (hF : peelR (peelF k s) = (nx, rs, bd, fb)) :
    Calls Try.prog 17 #[.int .i64 k, .string s] w fun e w' => e = .returned (.tuple #[.agg #[.int .i64 nx, .string rs, .string bd], .bool fb]) ∧ Below w.heap.size w w' := by
  have HK : Hid (∀ wx, Calls Try.prog 46 #[.int .i64 k] wx fun e w' => e = .returned (.bool (blockB k)) ∧ w' = wx) := fun wx => isBlock_c k wx
  have HB0 : Hid (Below w.heap.size w (w.alloc (.cells #[.int .i64 0, .string ⟨#[]⟩, .string ⟨#[]⟩] 31))) := balloc w _
  cases hb : blockB k with
  | false =>
    rw [hb] at HK
    rw [peelF_no (fun h => by rw [hb] at h; cases h.1)] at hF
    simp only [Prod.mk.injEq] at hF
    obtain ⟨rfl, rfl, rfl, rfl⟩ := hF
    clear hb
    go_enter Try.func17, Try.ntmps17
    go_wp2_with (go_at_call 46; refine (HK.out _).mono ?_; clear HK; rintro e w' ⟨rfl, hw⟩; subst w')
    refine bodyPost_ret (v := .tuple #[.agg #[.int .i64 0, .string ByteArray.empty, .string ByteArray.empty], .bool false]) (by simp [results, Try.results17, go_sem, results]; try rfl) rfl ?_
    exact ⟨rfl, HB0.out⟩
  | true =>
    rw [hb] at HK
    by_cases h24 : s.size = 24
    · have i1 : ((s.size : Int) != 24) = false := by rw [bne_eq_false_iff_eq]; omega
      have hC0 := c3_new w 0 ⟨#[]⟩ ⟨#[]⟩ 31 w.heap.size rfl
      have hZ0 : (w.alloc (.cells #[.int .i64 0, .string ⟨#[]⟩, .string ⟨#[]⟩] 31)).heap.size = w.heap.size + 1 := by simp
      obtain ⟨W0, hW0⟩ : ∃ W0, w.alloc (.cells #[.int .i64 0, .string ⟨#[]⟩, .string ⟨#[]⟩] 31) = W0 := ⟨_, rfl⟩
      rw [hW0] at hC0 HB0 hZ0
      obtain ⟨c, W1, hcv, hc, hrow, hbel, hsz⟩ := bytes_new s W0
      rw [h24] at hcv hc
      have hC1 := hC0.later hbel
      have HTL : Hid (∀ wx, wx = W1 → Calls Try.prog 57 #[.slice (some ⟨W0.heap.size, 0, none⟩) 24 c, .int .i64 k] wx fun e w' => e = .returned (.tuple #[.int .i64 (bN (xorB (bl s) (padU k)) 0 : Nat), .int .i64 (bN (xorB (bl s) (padU k)) 1 : Nat)]) ∧ RowB w' W0.heap.size ((xorB (bl s) (padU k)).drop 2 ++ [0, 0]) ∧ wx.grownBy w' (some W0.heap.size)) := fun wx e => by
        subst e
        exact takeLayer_c W0.heap.size c k (bl s) wx (by rw [bl_length]; exact h24) hc hb hrow
      have hxl : (xorB (bl s) (padU k)).length = 24 := by rw [xorB_length (by rw [bl_length, padU_length hb]; exact h24), bl_length]; exact h24
      obtain ⟨q0, hq0⟩ : ∃ q, bN (xorB (bl s) (padU k)) 0 = q := ⟨_, rfl⟩
      obtain ⟨q1, hq1⟩ : ∃ q, bN (xorB (bl s) (padU k)) 1 = q := ⟨_, rfl⟩
      obtain ⟨u, hu⟩ : ∃ u, (xorB (bl s) (padU k)).drop 2 = u := ⟨_, rfl⟩
      have hul : u.length = 22 := by rw [← hu, List.length_drop]; omega
      rw [peelF_yes hb h24, peelR_at _ _ u q0 q1 hq0 hq1 hu] at hF
      rw [hq0, hq1, hu] at HTL
      have HF : Hid ((if (1 ≤ q0 ∧ q0 ≤ 250) ∧ q1 = chk (u.take 16) then ((q0 : Int), tx (u ++ [0, 0]), tx ((unpadB (u.take 16)).getD []), true) else (0, ByteArray.empty, ByteArray.empty, false)) = (nx, rs, bd, fb)) := hF
      have HB1 : Hid (Below w.heap.size w W1) := HB0.out.trans (hbel.mono (by omega))
      have HC1 : Hid (C3 W1 w.heap.size 0 ⟨#[]⟩ ⟨#[]⟩) := hC1
      have HZ : Hid (w.heap.size + 1 = W0.heap.size ∧ W0.heap.size < W1.heap.size) := ⟨hZ0.symm, by omega⟩
      have HUL : Hid (u.length = 22) := hul
      have HPB : Hid (∀ wx, Calls Try.prog 58 #[.slice (some ⟨W0.heap.size, 0, none⟩) 24 c] wx fun e w' => e = .returned (.slice (some ⟨W0.heap.size, 0, none⟩) 16 16) ∧ w' = wx) := fun wx => placeOfBody_c W0.heap.size 0 24 c wx (by omega) hc
      have HH : Hid (∀ wx, Calls Try.prog 47 #[.int .i64 (q0 : Int)] wx fun e w' => e = .returned (.bool (decide (1 ≤ (q0 : Int) ∧ (q0 : Int) ≤ 250))) ∧ w' = wx) := fun wx => isHop_c q0 wx
      clear hF hC0 hC1 hZ0 hrow hbel hsz hq0 hq1 hu hul hxl hb h24 HB0 hs
      go_enter Try.func17, Try.ntmps17
      go_wp2_with (go_at_call 46; refine (HK.out _).mono ?_; clear HK; rintro e w' ⟨rfl, hw⟩; subst w')
      refine (HTL.out _ rfl).mono ?_
      rintro e W2 ⟨rfl, hr, hg⟩
      have HB2 : Hid (Below w.heap.size w W2) := HB1.out.trans (below_grown hg (by have := HZ.out; omega) (by have := HZ.out; omega))
      have HC2 : Hid (C3 W2 w.heap.size 0 ⟨#[]⟩ ⟨#[]⟩) := HC1.out.kept hg (by have := HZ.out; omega)
      have HR : Hid (RowB W2 W0.heap.size (u ++ [0, 0])) := hr
      have hl24 : (u ++ [0, 0]).length = 24 := by rw [List.length_append, HUL.out]; rfl
      have h16 : ((u ++ [0, 0]).drop 0).take 16 = u.take 16 := by rw [List.drop_zero, List.take_append_of_le_length (by rw [HUL.out]; omega)]
      have HCK : Hid (∀ wx, wx = W2 → Calls Try.prog 59 #[.slice (some ⟨W0.heap.size, 0, none⟩) 16 16] wx fun e w' => e = .returned (.int .i64 (chk (u.take 16) : Nat)) ∧ w' = wx) := fun wx e => by
        subst e
        exact checkSum_c _ 0 16 16 (u.take 16) _ (by rw [List.length_take, HUL.out]; rfl) (by omega) (HR.out.cellsAt h16 (by omega))
      have hcv2 := HR.out.part 0 16 16 (u.take 16) h16 (by omega)
      obtain ⟨ub, uf, hU⟩ : ∃ ub uf, unpadF (tx (u.take 16)) = (ub, uf) := ⟨_, _, rfl⟩
      have HUB : Hid (tx ((unpadB (u.take 16)).getD []) = ub) := by show _ = _; rw [← unpadF_body, hU]
      have HUN : Hid (∀ wx, Calls Try.prog 26 #[.string (tx (u.take 16))] wx fun e w' => e = .returned (.tuple #[.string ub, .bool uf]) ∧ Below wx.heap.size wx w') := fun wx => implUnpad_c _ wx (by rw [tx_size, List.length_take]; omega) ub uf hU
      obtain ⟨C, hC⟩ : ∃ C, chk (u.take 16) = C := ⟨_, rfl⟩
      obtain ⟨t24, ht24⟩ : ∃ t, tx (u ++ [0, 0]) = t := ⟨_, rfl⟩
      have HT24 : Hid (tx (u ++ [0, 0]) = t24) := ht24
      obtain ⟨t16, ht16⟩ : ∃ t, tx (u.take 16) = t := ⟨_, rfl⟩
      have HF2 : Hid ((if (1 ≤ q0 ∧ q0 ≤ 250) ∧ q1 = C then ((q0 : Int), t24, ub, true) else (0, ByteArray.empty, ByteArray.empty, false)) = (nx, rs, bd, fb)) := by show _ = _; rw [← hC, ← ht24, ← HUB.out]; exact HF.out
      rw [hC] at HCK
      rw [ht16] at hcv2 HUN
      clear hr hg HTL HF HB1 HC1 hl24 h16 hU HUB hC ht24 ht16 hcv
      by_cases hq : 1 ≤ (q0 : Int) ∧ (q0 : Int) ≤ 250
      · rw [decide_eq_true hq] at HH
        by_cases hq' : q1 = C
        · have e1 : ((q1 : Int) != (C : Int)) = false := by rw [bne_eq_false_iff_eq]; omega
          have hF2 := HF2.out
          rw [if_pos ⟨by omega, hq'⟩] at hF2
          simp only [Prod.mk.injEq] at hF2
          obtain ⟨hn1, hn2, hn3, hn4⟩ := hF2
          subst hn1; subst hn2; subst hn3; subst hn4
          clear hq hq' HF2
          go_wp2_with (first | (go_at_call 58; refine (HPB.out _).mono ?_; clear HPB; rintro e w' ⟨rfl, hw⟩; subst w') | (go_at_call 47; refine (HH.out _).mono ?_; clear HH; rintro e w' ⟨rfl, hw⟩; subst w') | (go_at_call 59; refine (HCK.out _ rfl).mono ?_; clear HCK; rintro e w' ⟨rfl, hw⟩; subst w'))
          refine (HUN.out _).mono ?_
          rintro e W3 ⟨rfl, hb3⟩
          have HB3 : Hid (Below w.heap.size w W3) := HB2.out.trans (hb3.mono HB2.out.size)
          obtain ⟨c0, c1, c2, f0, f1, f2⟩ := HC2.out.later hb3
          have hcv4 := (HR.out.later hb3).text 24 c (by rw [List.length_append, HUL.out]; rfl)
          rw [HT24.out] at hcv4
          clear hb3 HB2 HC2 HUN HR hcv2 hW0
          go_wp2
          refine bodyPost_ret (v := .tuple #[.agg #[.int .i64 (q0 : Int), .string t24, .string ub], .bool true]) (by simp [results, Try.results17, go_sem, c0, c1, c2]; try rfl) rfl ?_
          exact ⟨rfl, ((HB3.out.setCell (p := ⟨w.heap.size, 0, none⟩) (Nat.le_refl _) _).setCell (p := ⟨w.heap.size, 1, none⟩) (Nat.le_refl _) _).setCell (p := ⟨w.heap.size, 2, none⟩) (Nat.le_refl _) _⟩
        · have e1 : ((q1 : Int) != (C : Int)) = true := by rw [bne_iff_ne]; omega
          have hF2 := HF2.out
          rw [if_neg (fun h => hq' h.2)] at hF2
          simp only [Prod.mk.injEq] at hF2
          obtain ⟨hn1, hn2, hn3, hn4⟩ := hF2
          subst hn1; subst hn2; subst hn3; subst hn4
          obtain ⟨c0, c1, c2, f0, f1, f2⟩ := HC2.out
          clear hq hq' HF2 HUN HR hcv2 hW0
          go_wp2_with (first | (go_at_call 58; refine (HPB.out _).mono ?_; clear HPB; rintro e w' ⟨rfl, hw⟩; subst w') | (go_at_call 47; refine (HH.out _).mono ?_; clear HH; rintro e w' ⟨rfl, hw⟩; subst w') | (go_at_call 59; refine (HCK.out _ rfl).mono ?_; clear HCK; rintro e w' ⟨rfl, hw⟩; subst w'))
          refine bodyPost_ret (v := .tuple #[.agg #[.int .i64 0, .string ByteArray.empty, .string ByteArray.empty], .bool false]) (by simp [results, Try.results17, go_sem, c0, c1, c2]; try rfl) rfl ?_
          exact ⟨rfl, ((HB2.out.setCell (p := ⟨w.heap.size, 0, none⟩) (Nat.le_refl _) _).setCell (p := ⟨w.heap.size, 1, none⟩) (Nat.le_refl _) _).setCell (p := ⟨w.heap.size, 2, none⟩) (Nat.le_refl _) _⟩
      · rw [decide_eq_false hq] at HH
        have hF2 := HF2.out
        rw [if_neg (fun h => hq (by omega))] at hF2
        simp only [Prod.mk.injEq] at hF2
        obtain ⟨hn1, hn2, hn3, hn4⟩ := hF2
        subst hn1; subst hn2; subst hn3; subst hn4
        obtain ⟨c0, c1, c2, f0, f1, f2⟩ := HC2.out
        clear hq HF2 HUN HR hcv2 hW0
        go_wp2_with (first | (go_at_call 58; refine (HPB.out _).mono ?_; clear HPB; rintro e w' ⟨rfl, hw⟩; subst w') | (go_at_call 47; refine (HH.out _).mono ?_; clear HH; rintro e w' ⟨rfl, hw⟩; subst w') | (go_at_call 59; refine (HCK.out _ rfl).mono ?_; clear HCK; rintro e w' ⟨rfl, hw⟩; subst w'))
        refine bodyPost_ret (v := .tuple #[.agg #[.int .i64 0, .string ByteArray.empty, .string ByteArray.empty], .bool false]) (by simp [results, Try.results17, go_sem, c0, c1, c2]; try rfl) rfl ?_
        exact ⟨rfl, ((HB2.out.setCell (p := ⟨w.heap.size, 0, none⟩) (Nat.le_refl _) _).setCell (p := ⟨w.heap.size, 1, none⟩) (Nat.le_refl _) _).setCell (p := ⟨w.heap.size, 2, none⟩) (Nat.le_refl _) _⟩
    · have i1 : ((s.size : Int) != 24) = true := by rw [bne_iff_ne]; omega
      rw [peelF_no (fun h => h24 h.2)] at hF
      simp only [Prod.mk.injEq] at hF
      obtain ⟨rfl, rfl, rfl, rfl⟩ := hF
      clear hb
      go_enter Try.func17, Try.ntmps17
      go_wp2_with (go_at_call 46; refine (HK.out _).mono ?_; clear HK; rintro e w' ⟨rfl, hw⟩; subst w')
      refine bodyPost_ret (v := .tuple #[.agg #[.int .i64 0, .string ByteArray.empty, .string ByteArray.empty], .bool false]) (by simp [results, Try.results17, go_sem, results]; try rfl) rfl ?_
      exact ⟨rfl, HB0.out⟩

end Go.Proofs.Ytnfoflijapbkdaa

/- Chapter 14: creditsFor of the program. -/
import Derived.Test.YtleddlfojogdiaaGreatIX14
import Derived.Test.YtleddlfojogdiaaGreatP14B
import Derived.Deep.RegionHeld3
namespace Go.Proofs.YtleddlfojogdiaaGreat
set_option linter.unusedVariables false
set_option maxRecDepth 1000000
set_option linter.unusedSimpArgs false
open Go.RowKit

theorem takeR14c {P : Program} {ops : Array Oper} {Q : Exit → Act → World → Prop} {md : Region.Mode} {S : World → Prop} {i : Nat} {oi : Oper} {v : Value} {d : Option Tmp} {fuel : Nat} {listed : Array Bool} {a : Act} {w : World} (hi : ops[i]? = some oi) (hd : oi.dst = d)
    (hs : Region.noSelect ops = true) (hf : Region.free md ops listed i = true) (hr : (Region.ready md ops listed).contains i = true)
    (hQ : ∀ c a w, Q (.panic c) (a.put d v) w → Q (.panic c) a w) (hy : YieldsIf P ops S oi v a) (hS : S w)
    (h : wpAnyH P md ops Q S fuel (listed.setIfInBounds i true) (a.put d v) w) : wpAnyH P md ops Q S (fuel + 1) listed a w := by
  subst hd
  exact wpAnyH_take hi hs hf hr hQ hy hS h

theorem RdC.front {w : World} {ao : Option Addr} {xs : List Cl} (h : RdC w ao xs) (k : Nat) : RdC w ao (xs.take k) := by
  rcases h with rfl | ⟨b, o, rfl, hc⟩
  · exact Or.inl (by simp)
  · refine Or.inr ⟨b, o, rfl, fun j hj => ?_⟩
    rw [List.length_take] at hj
    have e : (xs.take k).getD j (0, 0, 0) = xs.getD j (0, 0, 0) := by
      simp [List.getD, List.getElem?_take, show j < k by omega]
    rw [e]
    exact hc j (by omega)

set_option maxHeartbeats 8000000 in
theorem creditsFor_c (h : Int) (ao : Option Addr) (n c : Nat) (xs : List Cl) (bo : Option Addr) (m d : Nat) (ys : List Cl) (w : World) (hx : xs.length = n) (hy : ys.length = m) (hn : n ≤ 60) (hm : m ≤ 60) (hc : n ≤ c) (hr : RdC w ao xs) (hs : RdC w bo ys) :
    Calls Tryz.prog 64 #[.int .i64 h, .slice ao n c, .slice bo m d] w fun e w' => e = .returned (.int .i64 (credTo h xs ys n)) ∧ Below w.heap.size w w' := by
  have HX : Hid (xs.length = n) := hx
  have HR : Hid (RdC w ao xs) := hr
  have HQ2w : Hid (∀ x0 x1 x2 wx, Below w.heap.size w wx → Calls Tryz.prog 83 #[.slice bo m d, .agg #[.int .i64 x0, .int .i64 x1, .int .i64 x2]] wx fun e w' => e = .returned (.bool (decide ((x0, x1, x2) ∈ ys))) ∧ Below wx.heap.size wx w') := fun x0 x1 x2 wx hb => containsCl_c bo m d ys x0 x1 x2 wx hy (by omega) (RdC.later hs hb)
  have HQ1w : Hid (∀ k, k ≤ n → ∀ x0 x1 x2 wx, Below w.heap.size w wx → Calls Tryz.prog 83 #[.slice ao k c, .agg #[.int .i64 x0, .int .i64 x1, .int .i64 x2]] wx fun e w' => e = .returned (.bool (decide ((x0, x1, x2) ∈ xs.take k))) ∧ Below wx.heap.size wx w') := fun k hk x0 x1 x2 wx hb => containsCl_c ao k c (xs.take k) x0 x1 x2 wx (by rw [List.length_take]; omega) (by omega) (RdC.later (RdC.front hr k) hb)
  clear hx hy hr hs
  go_enter Tryz.func64, Tryz.ntmps64
  go_wp2
  go_loopw [7, 12] (fun cv iv wr => ∃ k : Nat, k ≤ n ∧ iv = .int .i64 k ∧ cv = .int .i64 (credTo h xs ys k) ∧ Hid (Below w.heap.size w wr)) (fun _ iv _ => n - (intOf iv).toNat)
  case atStart => exact ⟨0, Nat.zero_le _, rfl, rfl, Below.refl _ _⟩
  case round =>
    obtain ⟨k, hk, rfl, rfl, hB⟩ := hrel
    by_cases hlt : k < n
    · have hkl : k < xs.length := by rw [HX.out]; exact hlt
      obtain ⟨b, o, rfl, g0, g1, g2⟩ := (RdC.later HR.out hB.out).get hkl
      have HSU : Hid (credTo h xs ys (k + 1) = credTo h xs ys k + (if credAt h xs ys k = true then 1 else 0)) := credTo_succ h xs ys k
      have hle := credTo_le h xs ys k
      have HCD : Hid (credAt h xs ys k = (decide ((xs.getD k (0, 0, 0)).1 = h) && (!decide (xs.getD k (0, 0, 0) ∈ xs.take k) && !decide (xs.getD k (0, 0, 0) ∈ ys)))) := rfl
      obtain ⟨y, hy⟩ : ∃ y, xs.getD k (0, 0, 0) = y := ⟨_, rfl⟩
      rw [hy] at g0 g1 g2 HCD
      obtain ⟨x0, x1, x2⟩ := y
      simp only at g0 g1 g2
      have HA1 := HQ1w.out k hk x0 x1 x2
      have HA2 := HQ2w.out x0 x1 x2
      have HCE : Hid (credAt h xs ys k = (decide (x0 = h) && (!decide ((x0, x1, x2) ∈ xs.take k) && !decide ((x0, x1, x2) ∈ ys)))) := HCD.out
      clear hy hkl HCD
      generalize decide ((x0, x1, x2) ∈ xs.take k) = p1 at HA1 HCE
      generalize decide ((x0, x1, x2) ∈ ys) = p2 at HA2 HCE
      have HQ1 : Hid (∀ wx, Below w.heap.size w wx → Calls Tryz.prog 83 #[.slice (some ⟨b, o, none⟩) k c, .agg #[.int .i64 x0, .int .i64 x1, .int .i64 x2]] wx fun e w' => e = .returned (.bool p1) ∧ Below wx.heap.size wx w') := HA1
      have HQ2 : Hid (∀ wx, Below w.heap.size w wx → Calls Tryz.prog 83 #[.slice bo m d, .agg #[.int .i64 x0, .int .i64 x1, .int .i64 x2]] wx fun e w' => e = .returned (.bool p2) ∧ Below wx.heap.size wx w') := HA2
      clear HA1 HA2
      obtain ⟨c2, hc2⟩ : ∃ c2, credTo h xs ys (k + 1) = c2 := ⟨_, rfl⟩
      have HC2 : Hid (credTo h xs ys (k + 1) = c2) := hc2
      rw [hc2] at HSU
      clear hc2
      generalize credTo h xs ys k = c1 at HSU hle ⊢
      generalize credAt h xs ys k = ca at HSU HCE
      have bX := balloc wr (.cells #[.int .i64 x0, .int .i64 x1, .int .i64 x2] 32)
      have aX := x3_new wr (.int .i64 x0) (.int .i64 x1) (.int .i64 x2) 32 wr.heap.size rfl
      have BX := hB.out.trans (bX.mono hB.out.size)
      obtain ⟨V, hV⟩ : ∃ V, wr.alloc (.cells #[.int .i64 x0, .int .i64 x1, .int .i64 x2] 32) = V := ⟨_, rfl⟩
      rw [hV] at bX aX BX
      have HBX : Hid (Below w.heap.size w V) := BX
      have HAX : Hid (X3 V wr.heap.size (.int .i64 x0) (.int .i64 x1) (.int .i64 x2)) := aX
      obtain ⟨⟨d0, d1, d2⟩, _⟩ := aX
      have hkc : (k : Int) ≤ (c : Int) := by omega
      have hk0 : (0 : Int) ≤ (k : Int) := by omega
      clear bX BX
      by_cases hh : x0 = h
      · have hhb : (x0 == h) = true := by simpa using hh
        have HC3 : Hid (c2 = c1 + (if (!p1 && !p2) = true then 1 else 0)) := by show _ = _; rw [HSU.out, HCE.out, decide_eq_true hh, Bool.true_and]
        clear hh HSU HCE
        cases p1
        · cases p2
          · have HS : Hid (c2 = c1 + 1) := HC3.out
            clear HC3
            go_wp2_with fail
            clear hV
            have tok1 : True := trivial
            have HBVd : Hid (Below w.heap.size w V.drew) := HBX.out.drew
            go_region_held3 (fun w' => w'.cell? ⟨wr.heap.size, 0, none⟩ = some (.int .i64 x0) ∧ w'.cell? ⟨wr.heap.size, 1, none⟩ = some (.int .i64 x1) ∧ w'.cell? ⟨wr.heap.size, 2, none⟩ = some (.int .i64 x2)) (first | go_keep) (first | (go_at_call 83; clear tok1; refine (HQ1.out _ HBVd.out).mono ?_; rintro e w2 ⟨rfl, hb⟩; have ka0 := cell_keep (S := 0) (w1 := V.drew) hb d0; have ka1 := cell_keep (S := 0) (w1 := V.drew) hb d1; have ka2 := cell_keep (S := 0) (w1 := V.drew) hb d2; have HBw2 : Hid (Below w.heap.size w w2) := HBVd.out.trans (hb.mono HBVd.out.size); clear hb) | (go_at_call 83; refine (HQ2.out _ HBw2.out).mono ?_; rintro e w3 ⟨rfl, hb⟩; have kb0 := cell_keep (S := 0) (w1 := w2) hb ka0; have kb1 := cell_keep (S := 0) (w1 := w2) hb ka1; have kb2 := cell_keep (S := 0) (w1 := w2) hb ka2; have HBw3 : Hid (Below w.heap.size w w3) := HBw2.out.trans (hb.mono HBw2.out.size); clear hb))
            all_goals (
              go_wp2
              go_roundw
              case rel => exact ⟨k + 1, by omega, by go_num, by rw [HC2.out, HS.out]; go_num, HBw3⟩
              case measure => simp [intOf]; omega)
          · have HS : Hid (c2 = c1) := HC3.out
            clear HC3
            go_wp2_with fail
            clear hV
            have tok1 : True := trivial
            have HBVd : Hid (Below w.heap.size w V.drew) := HBX.out.drew
            go_region_held3 (fun w' => w'.cell? ⟨wr.heap.size, 0, none⟩ = some (.int .i64 x0) ∧ w'.cell? ⟨wr.heap.size, 1, none⟩ = some (.int .i64 x1) ∧ w'.cell? ⟨wr.heap.size, 2, none⟩ = some (.int .i64 x2)) (first | go_keep) (first | (go_at_call 83; clear tok1; refine (HQ1.out _ HBVd.out).mono ?_; rintro e w2 ⟨rfl, hb⟩; have ka0 := cell_keep (S := 0) (w1 := V.drew) hb d0; have ka1 := cell_keep (S := 0) (w1 := V.drew) hb d1; have ka2 := cell_keep (S := 0) (w1 := V.drew) hb d2; have HBw2 : Hid (Below w.heap.size w w2) := HBVd.out.trans (hb.mono HBVd.out.size); clear hb) | (go_at_call 83; refine (HQ2.out _ HBw2.out).mono ?_; rintro e w3 ⟨rfl, hb⟩; have kb0 := cell_keep (S := 0) (w1 := w2) hb ka0; have kb1 := cell_keep (S := 0) (w1 := w2) hb ka1; have kb2 := cell_keep (S := 0) (w1 := w2) hb ka2; have HBw3 : Hid (Below w.heap.size w w3) := HBw2.out.trans (hb.mono HBw2.out.size); clear hb))
            all_goals (
              go_wp2
              go_roundw
              case rel => exact ⟨k + 1, by omega, by go_num, by rw [HC2.out, HS.out], HBw3⟩
              case measure => simp [intOf]; omega)
        · have HS : Hid (c2 = c1) := HC3.out
          clear HC3 HQ2
          go_wp2_with fail
          clear hV
          have HBVd : Hid (Below w.heap.size w V.drew) := HBX.out.drew
          have HV0 : Hid (Below V.heap.size V V.drew) := (Below.refl _ _).drew
          refine wp_region_held_drew (S := (fun w' => w'.cell? ⟨wr.heap.size, 0, none⟩ = some (.int .i64 x0) ∧ w'.cell? ⟨wr.heap.size, 1, none⟩ = some (.int .i64 x1) ∧ w'.cell? ⟨wr.heap.size, 2, none⟩ = some (.int .i64 x2))) (by kernel_rfl) ?_ (fun hHeld => ?_)
          · exact (HAX.out.later HV0.out).1
          refine takeR14c (i := 0) (oi := _) (v := ?_) (d := some 17) rfl (by kernel_rfl) (by kernel_rfl) (by kernel_rfl) (by kernel_rfl) (fun _ _ _ h => h) (Or.inl ⟨by rfl, ?_⟩) (by assumption) ?_
          rotate_left
          · (intro w hSw; (try dsimp only at hSw); go_simp <;> with_reducible rfl)
          try simp only [Act.put, List.setIfInBounds_toArray, List.set_cons_zero, List.set_cons_succ]
          refine takeR14c (i := 1) (oi := _) (v := ?_) (d := some 18) rfl (by kernel_rfl) (by kernel_rfl) (by kernel_rfl) (by kernel_rfl) (fun _ _ _ h => h) (Or.inl ⟨by rfl, ?_⟩) (by assumption) ?_
          rotate_left
          · (intro w hSw; (try dsimp only at hSw); go_simp <;> with_reducible rfl)
          try simp only [Act.put, List.setIfInBounds_toArray, List.set_cons_zero, List.set_cons_succ]
          refine takeR14c (i := 2) (oi := _) (v := ?_) (d := some 19) rfl (by kernel_rfl) (by kernel_rfl) (by kernel_rfl) (by kernel_rfl) (fun _ _ _ h => h) (Or.inl ⟨by rfl, ?_⟩) (by assumption) ?_
          rotate_left
          · (intro w hSw; (try dsimp only at hSw); go_simp <;> with_reducible rfl)
          try simp only [Act.put, List.setIfInBounds_toArray, List.set_cons_zero, List.set_cons_succ]
          refine takeR14c (i := 3) (oi := _) (v := ?_) (d := some 20) rfl (by kernel_rfl) (by kernel_rfl) (by kernel_rfl) (by kernel_rfl) (fun _ _ _ h => h) (Or.inl ⟨by rfl, ?_⟩) (by assumption) ?_
          rotate_left
          · (intro w hSw; (try dsimp only at hSw); go_simp <;> with_reducible rfl)
          try simp only [Act.put, List.setIfInBounds_toArray, List.set_cons_zero, List.set_cons_succ]
          refine takeR14c (i := 4) (oi := _) (v := ?_) (d := some 21) rfl (by kernel_rfl) (by kernel_rfl) (by kernel_rfl) (by kernel_rfl) (fun _ _ _ h => h) (Or.inl ⟨by rfl, ?_⟩) (by assumption) ?_
          rotate_left
          · (intro w hSw; (try dsimp only at hSw); go_simp <;> with_reducible rfl)
          try simp only [Act.put, List.setIfInBounds_toArray, List.set_cons_zero, List.set_cons_succ]
          refine takeR14c (i := 5) (oi := _) (v := ?_) (d := some 22) rfl (by kernel_rfl) (by kernel_rfl) (by kernel_rfl) (by kernel_rfl) (fun _ _ _ h => h) (Or.inl ⟨by rfl, ?_⟩) (by assumption) ?_
          rotate_left
          · (intro w hSw; (try dsimp only at hSw); go_simp <;> with_reducible rfl)
          try simp only [Act.put, List.setIfInBounds_toArray, List.set_cons_zero, List.set_cons_succ]
          refine takeR14c (i := 6) (oi := _) (v := ?_) (d := some 23) rfl (by kernel_rfl) (by kernel_rfl) (by kernel_rfl) (by kernel_rfl) (fun _ _ _ h => h) (Or.inl ⟨by rfl, ?_⟩) (by assumption) ?_
          rotate_left
          · (intro w hSw; (try dsimp only at hSw); go_simp <;> with_reducible rfl)
          try simp only [Act.put, List.setIfInBounds_toArray, List.set_cons_zero, List.set_cons_succ]
          refine takeR14c (i := 7) (oi := _) (v := ?_) (d := some 24) rfl (by kernel_rfl) (by kernel_rfl) (by kernel_rfl) (by kernel_rfl) (fun _ _ _ h => h) (Or.inl ⟨by rfl, ?_⟩) (by assumption) ?_
          rotate_left
          · (intro w hSw; (try dsimp only at hSw); go_simp <;> with_reducible rfl)
          try simp only [Act.put, List.setIfInBounds_toArray, List.set_cons_zero, List.set_cons_succ]
          refine takeR14c (i := 8) (oi := _) (v := ?_) (d := some 25) rfl (by kernel_rfl) (by kernel_rfl) (by kernel_rfl) (by kernel_rfl) (fun _ _ _ h => h) (Or.inl ⟨by rfl, ?_⟩) (by assumption) ?_
          rotate_left
          · (intro w hSw; (try dsimp only at hSw); go_simp <;> with_reducible rfl)
          try simp only [Act.put, List.setIfInBounds_toArray, List.set_cons_zero, List.set_cons_succ]
          refine wpAnyH_ready (rs := [9]) (by kernel_rfl) (by simp) ?_
          refine AllReadyH.cons (o := _) rfl (fun K hK => ?_) AllReadyH.nil
          go_simp
          refine (HQ1.out _ HBVd.out).mono ?_
          rintro e w2 ⟨rfl, hb⟩
          have HBw2 : Hid (Below w.heap.size w w2) := HBVd.out.trans (hb.mono HBVd.out.size)
          have HV2 : Hid (Below V.heap.size V w2) := HV0.out.trans (hb.mono HV0.out.size)
          clear hb
          refine hK.out _ _ ?_ (fun hHeld => ?_)
          · exact (HAX.out.later HV2.out).1
          clear hK K
          try simp only [Act.put, List.setIfInBounds_toArray, List.set_cons_zero, List.set_cons_succ]
          refine takeR14c (i := 10) (oi := _) (v := ?_) (d := some 27) rfl (by kernel_rfl) (by kernel_rfl) (by kernel_rfl) (by kernel_rfl) (fun _ _ _ h => h) (Or.inl ⟨by rfl, ?_⟩) (by assumption) ?_
          rotate_left
          · (intro w hSw; (try dsimp only at hSw); go_simp <;> with_reducible rfl)
          try simp only [Act.put, List.setIfInBounds_toArray, List.set_cons_zero, List.set_cons_succ]
          refine takeR14c (i := 11) (oi := _) (v := ?_) (d := some 28) rfl (by kernel_rfl) (by kernel_rfl) (by kernel_rfl) (by kernel_rfl) (fun _ _ _ h => h) (Or.inl ⟨by rfl, ?_⟩) (by assumption) ?_
          rotate_left
          · (intro w hSw; (try dsimp only at hSw); go_simp <;> with_reducible rfl)
          try simp only [Act.put, List.setIfInBounds_toArray, List.set_cons_zero, List.set_cons_succ]
          refine takeR14c (i := 12) (oi := _) (v := ?_) (d := some 29) rfl (by kernel_rfl) (by kernel_rfl) (by kernel_rfl) (by kernel_rfl) (fun _ _ _ h => h) (Or.inl ⟨by rfl, ?_⟩) (by assumption) ?_
          rotate_left
          · (intro w hSw; (try dsimp only at hSw); go_simp <;> with_reducible rfl)
          try simp only [Act.put, List.setIfInBounds_toArray, List.set_cons_zero, List.set_cons_succ]
          refine takeR14c (i := 13) (oi := _) (v := undef) (d := some 30) rfl (by kernel_rfl) (by kernel_rfl) (by kernel_rfl) (by kernel_rfl) (fun _ _ _ h => h) (Or.inr ⟨by rfl, rfl⟩) (by assumption) ?_
          try simp only [Act.put, List.setIfInBounds_toArray, List.set_cons_zero, List.set_cons_succ]
          refine takeR14c (i := 14) (oi := _) (v := undef) (d := some 31) rfl (by kernel_rfl) (by kernel_rfl) (by kernel_rfl) (by kernel_rfl) (fun _ _ _ h => h) (Or.inr ⟨by rfl, rfl⟩) (by assumption) ?_
          try simp only [Act.put, List.setIfInBounds_toArray, List.set_cons_zero, List.set_cons_succ]
          refine takeR14c (i := 15) (oi := _) (v := undef) (d := some 32) rfl (by kernel_rfl) (by kernel_rfl) (by kernel_rfl) (by kernel_rfl) (fun _ _ _ h => h) (Or.inr ⟨by rfl, rfl⟩) (by assumption) ?_
          try simp only [Act.put, List.setIfInBounds_toArray, List.set_cons_zero, List.set_cons_succ]
          refine takeR14c (i := 16) (oi := _) (v := undef) (d := some 33) rfl (by kernel_rfl) (by kernel_rfl) (by kernel_rfl) (by kernel_rfl) (fun _ _ _ h => h) (Or.inr ⟨by rfl, rfl⟩) (by assumption) ?_
          try simp only [Act.put, List.setIfInBounds_toArray, List.set_cons_zero, List.set_cons_succ]
          refine takeR14c (i := 17) (oi := _) (v := ?_) (d := some 34) rfl (by kernel_rfl) (by kernel_rfl) (by kernel_rfl) (by kernel_rfl) (fun _ _ _ h => h) (Or.inl ⟨by rfl, ?_⟩) (by assumption) ?_
          rotate_left
          · (intro w hSw; (try dsimp only at hSw); go_simp <;> with_reducible rfl)
          try simp only [Act.put, List.setIfInBounds_toArray, List.set_cons_zero, List.set_cons_succ]
          refine wpAnyH_done (by kernel_rfl) ?_ _
          clear hHeld
          go_wp2
          go_roundw
          case rel => exact ⟨k + 1, by omega, by go_num, by rw [HC2.out, HS.out], HBw2⟩
          case measure => simp [intOf]; omega
      · have hhb : (x0 == h) = false := by simpa using hh
        have HS : Hid (c2 = c1) := by show _ = _; rw [HSU.out, HCE.out, decide_eq_false hh]; rfl
        clear hh HSU HCE HQ1 HQ2
        go_wp2_with fail
        clear hV
        have HBVd : Hid (Below w.heap.size w V.drew) := HBX.out.drew
        have HV0 : Hid (Below V.heap.size V V.drew) := (Below.refl _ _).drew
        refine wp_region_held_drew (S := (fun w' => w'.cell? ⟨wr.heap.size, 0, none⟩ = some (.int .i64 x0) ∧ w'.cell? ⟨wr.heap.size, 1, none⟩ = some (.int .i64 x1) ∧ w'.cell? ⟨wr.heap.size, 2, none⟩ = some (.int .i64 x2))) (by kernel_rfl) ?_ (fun hHeld => ?_)
        · exact (HAX.out.later HV0.out).1
        refine takeR14c (i := 0) (oi := _) (v := ?_) (d := some 17) rfl (by kernel_rfl) (by kernel_rfl) (by kernel_rfl) (by kernel_rfl) (fun _ _ _ h => h) (Or.inl ⟨by rfl, ?_⟩) (by assumption) ?_
        rotate_left
        · (intro w hSw; (try dsimp only at hSw); go_simp <;> with_reducible rfl)
        try simp only [Act.put, List.setIfInBounds_toArray, List.set_cons_zero, List.set_cons_succ]
        refine takeR14c (i := 1) (oi := _) (v := ?_) (d := some 18) rfl (by kernel_rfl) (by kernel_rfl) (by kernel_rfl) (by kernel_rfl) (fun _ _ _ h => h) (Or.inl ⟨by rfl, ?_⟩) (by assumption) ?_
        rotate_left
        · (intro w hSw; (try dsimp only at hSw); go_simp <;> with_reducible rfl)
        try simp only [Act.put, List.setIfInBounds_toArray, List.set_cons_zero, List.set_cons_succ]
        refine takeR14c (i := 2) (oi := _) (v := ?_) (d := some 19) rfl (by kernel_rfl) (by kernel_rfl) (by kernel_rfl) (by kernel_rfl) (fun _ _ _ h => h) (Or.inl ⟨by rfl, ?_⟩) (by assumption) ?_
        rotate_left
        · (intro w hSw; (try dsimp only at hSw); go_simp <;> with_reducible rfl)
        try simp only [Act.put, List.setIfInBounds_toArray, List.set_cons_zero, List.set_cons_succ]
        refine takeR14c (i := 3) (oi := _) (v := ?_) (d := some 20) rfl (by kernel_rfl) (by kernel_rfl) (by kernel_rfl) (by kernel_rfl) (fun _ _ _ h => h) (Or.inl ⟨by rfl, ?_⟩) (by assumption) ?_
        rotate_left
        · (intro w hSw; (try dsimp only at hSw); go_simp <;> with_reducible rfl)
        try simp only [Act.put, List.setIfInBounds_toArray, List.set_cons_zero, List.set_cons_succ]
        refine takeR14c (i := 4) (oi := _) (v := ?_) (d := some 21) rfl (by kernel_rfl) (by kernel_rfl) (by kernel_rfl) (by kernel_rfl) (fun _ _ _ h => h) (Or.inl ⟨by rfl, ?_⟩) (by assumption) ?_
        rotate_left
        · (intro w hSw; (try dsimp only at hSw); go_simp <;> with_reducible rfl)
        try simp only [Act.put, List.setIfInBounds_toArray, List.set_cons_zero, List.set_cons_succ]
        refine takeR14c (i := 5) (oi := _) (v := undef) (d := some 22) rfl (by kernel_rfl) (by kernel_rfl) (by kernel_rfl) (by kernel_rfl) (fun _ _ _ h => h) (Or.inr ⟨by rfl, rfl⟩) (by assumption) ?_
        try simp only [Act.put, List.setIfInBounds_toArray, List.set_cons_zero, List.set_cons_succ]
        refine takeR14c (i := 6) (oi := _) (v := undef) (d := some 23) rfl (by kernel_rfl) (by kernel_rfl) (by kernel_rfl) (by kernel_rfl) (fun _ _ _ h => h) (Or.inr ⟨by rfl, rfl⟩) (by assumption) ?_
        try simp only [Act.put, List.setIfInBounds_toArray, List.set_cons_zero, List.set_cons_succ]
        refine takeR14c (i := 7) (oi := _) (v := undef) (d := some 24) rfl (by kernel_rfl) (by kernel_rfl) (by kernel_rfl) (by kernel_rfl) (fun _ _ _ h => h) (Or.inr ⟨by rfl, rfl⟩) (by assumption) ?_
        try simp only [Act.put, List.setIfInBounds_toArray, List.set_cons_zero, List.set_cons_succ]
        refine takeR14c (i := 8) (oi := _) (v := undef) (d := some 25) rfl (by kernel_rfl) (by kernel_rfl) (by kernel_rfl) (by kernel_rfl) (fun _ _ _ h => h) (Or.inr ⟨by rfl, rfl⟩) (by assumption) ?_
        try simp only [Act.put, List.setIfInBounds_toArray, List.set_cons_zero, List.set_cons_succ]
        refine takeR14c (i := 9) (oi := _) (v := undef) (d := some 26) rfl (by kernel_rfl) (by kernel_rfl) (by kernel_rfl) (by kernel_rfl) (fun _ _ _ h => h) (Or.inr ⟨by rfl, rfl⟩) (by assumption) ?_
        try simp only [Act.put, List.setIfInBounds_toArray, List.set_cons_zero, List.set_cons_succ]
        refine takeR14c (i := 10) (oi := _) (v := undef) (d := some 27) rfl (by kernel_rfl) (by kernel_rfl) (by kernel_rfl) (by kernel_rfl) (fun _ _ _ h => h) (Or.inr ⟨by rfl, rfl⟩) (by assumption) ?_
        try simp only [Act.put, List.setIfInBounds_toArray, List.set_cons_zero, List.set_cons_succ]
        refine takeR14c (i := 11) (oi := _) (v := ?_) (d := some 28) rfl (by kernel_rfl) (by kernel_rfl) (by kernel_rfl) (by kernel_rfl) (fun _ _ _ h => h) (Or.inl ⟨by rfl, ?_⟩) (by assumption) ?_
        rotate_left
        · (intro w hSw; (try dsimp only at hSw); go_simp <;> with_reducible rfl)
        try simp only [Act.put, List.setIfInBounds_toArray, List.set_cons_zero, List.set_cons_succ]
        refine takeR14c (i := 12) (oi := _) (v := ?_) (d := some 29) rfl (by kernel_rfl) (by kernel_rfl) (by kernel_rfl) (by kernel_rfl) (fun _ _ _ h => h) (Or.inl ⟨by rfl, ?_⟩) (by assumption) ?_
        rotate_left
        · (intro w hSw; (try dsimp only at hSw); go_simp <;> with_reducible rfl)
        try simp only [Act.put, List.setIfInBounds_toArray, List.set_cons_zero, List.set_cons_succ]
        refine takeR14c (i := 13) (oi := _) (v := undef) (d := some 30) rfl (by kernel_rfl) (by kernel_rfl) (by kernel_rfl) (by kernel_rfl) (fun _ _ _ h => h) (Or.inr ⟨by rfl, rfl⟩) (by assumption) ?_
        try simp only [Act.put, List.setIfInBounds_toArray, List.set_cons_zero, List.set_cons_succ]
        refine takeR14c (i := 14) (oi := _) (v := undef) (d := some 31) rfl (by kernel_rfl) (by kernel_rfl) (by kernel_rfl) (by kernel_rfl) (fun _ _ _ h => h) (Or.inr ⟨by rfl, rfl⟩) (by assumption) ?_
        try simp only [Act.put, List.setIfInBounds_toArray, List.set_cons_zero, List.set_cons_succ]
        refine takeR14c (i := 15) (oi := _) (v := undef) (d := some 32) rfl (by kernel_rfl) (by kernel_rfl) (by kernel_rfl) (by kernel_rfl) (fun _ _ _ h => h) (Or.inr ⟨by rfl, rfl⟩) (by assumption) ?_
        try simp only [Act.put, List.setIfInBounds_toArray, List.set_cons_zero, List.set_cons_succ]
        refine takeR14c (i := 16) (oi := _) (v := undef) (d := some 33) rfl (by kernel_rfl) (by kernel_rfl) (by kernel_rfl) (by kernel_rfl) (fun _ _ _ h => h) (Or.inr ⟨by rfl, rfl⟩) (by assumption) ?_
        try simp only [Act.put, List.setIfInBounds_toArray, List.set_cons_zero, List.set_cons_succ]
        refine takeR14c (i := 17) (oi := _) (v := ?_) (d := some 34) rfl (by kernel_rfl) (by kernel_rfl) (by kernel_rfl) (by kernel_rfl) (fun _ _ _ h => h) (Or.inl ⟨by rfl, ?_⟩) (by assumption) ?_
        rotate_left
        · (intro w hSw; (try dsimp only at hSw); go_simp <;> with_reducible rfl)
        try simp only [Act.put, List.setIfInBounds_toArray, List.set_cons_zero, List.set_cons_succ]
        refine wpAnyH_done (by kernel_rfl) ?_ _
        clear hHeld
        go_wp2
        go_roundw
        case rel => exact ⟨k + 1, by omega, by go_num, by rw [HC2.out, HS.out], HBVd⟩
        case measure => simp [intOf]; omega
    · obtain rfl : k = n := by omega
      have hx : ¬ (k : Int) < (k : Int) := by omega
      go_wp2
      go_ret
      exact ⟨rfl, hB.out⟩

end Go.Proofs.YtleddlfojogdiaaGreat

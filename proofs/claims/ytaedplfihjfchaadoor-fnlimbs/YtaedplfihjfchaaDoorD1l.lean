/- What chapter 1 draws: a number of limbs. -/
import Derived.Test.YtaedplfihjfchaaDoorD1Gl
import Derived.Test.YtaedplfihjfchaaDoorSpecTelll
import Derived.Deep.RegionHeld3
import Derived.Deep.DeepCutAuto
import Derived.Deep.Light
namespace Go.Proofs.YtaedplfihjfchaaDoor
set_option linter.unusedVariables false
set_option maxRecDepth 1000000
set_option linter.unusedSimpArgs false
open Go.RowKit

theorem digs_snoc {xs : List Int} {x : Int} (h : Digs xs) (h0 : 0 ≤ x ∧ x < 65536) : Digs (xs ++ [x]) := by
  intro y hy
  rcases List.mem_append.1 hy with hy | hy
  · exact h y hy
  · simp at hy; subst hy; exact h0

theorem own_top6 (w : World) (B : Nat) (h : B ≤ w.heap.size) : Own (w.alloc (.cells #[.int .i64 65535, .int .i64 65535, .int .i64 65535, .int .i64 65535, .int .i64 65535, .int .i64 65535] 3)) B (.slice (some ⟨w.heap.size, 0, none⟩) 6 6) [65535, 65535, 65535, 65535, 65535, 65535] := by
  have := World.ownsRow_lit (base := B) (e := 3) (size := 1) w #[.int .i64 65535, .int .i64 65535, .int .i64 65535, .int .i64 65535, .int .i64 65535, .int .i64 65535] 6 h (by unfold maxLen; omega) (by simp)
  simpa [Own, cellsI] using this

theorem fz1' (w : World) (cs : Array Value) (t : TypeId) : (w.alloc (.cells cs t)).frozen? ⟨w.heap.size, 0, none⟩ = false := by
  rw [World.frozen?_alloc_at _ _ _ _ rfl]

theorem box_kept {g r : Nat} {W w' : World} (h : GB g W w') (hr : r < W.heap.size) (hne : r ≠ g) : (∀ v, W.cell? ⟨r, 0, none⟩ = some v → w'.cell? ⟨r, 0, none⟩ = some v) ∧ (W.frozen? ⟨r, 0, none⟩ = false → w'.frozen? ⟨r, 0, none⟩ = false) := by
  have e := h.block r hr (by simpa using hne)
  refine ⟨fun v hv => h.cell (a := ⟨r, 0, none⟩) hv (by simpa using hne), fun hf => ?_⟩
  rw [World.frozen?_of_block (w := W) e]
  exact hf

theorem takeG {P : Program} {ops : Array Oper} {Q : Exit → Act → World → Prop} {md : Region.Mode} {S : World → Prop} {i : Nat} {oi : Oper} {v : Value} {d : Option Tmp} {fuel : Nat} {listed : Array Bool} {a : Act} {w : World} (hi : ops[i]? = some oi) (hd : oi.dst = d)
    (hs : Region.noSelect ops = true) (hf : Region.free md ops listed i = true) (hr : (Region.ready md ops listed).contains i = true)
    (hQ : ∀ c a w, Q (.panic c) (a.put d v) w → Q (.panic c) a w) (hy : YieldsIf P ops S oi v a) (hS : S w)
    (h : wpAnyH P md ops Q S fuel (listed.setIfInBounds i true) (a.put d v) w) : wpAnyH P md ops Q S (fuel + 1) listed a w := by
  subst hd
  exact wpAnyH_take hi hs hf hr hQ hy hS h

theorem big_end {g n c q cq : Nat} {ao a : Option Addr} {M : Int} {w W wz : World} {ts : List Int} (hWs : W.heap.size = w.heap.size + 1) (hgl : g < w.heap.size) (ho : Old ao n w.heap.size) (hwg : GB g w W) (C : Cur wz g ao n c M) (G : GB g W wz) (O : Own wz W.heap.size (.slice a q cq) ts) (v : Value) :
    Own (wz.setCell ⟨w.heap.size, 0, none⟩ v) w.heap.size (.slice a q cq) ts ∧ Cur (wz.setCell ⟨w.heap.size, 0, none⟩ v) g ao n c M ∧ GB g w (wz.setCell ⟨w.heap.size, 0, none⟩ v) := by
  have hgr : wz.grownBy (wz.setCell ⟨w.heap.size, 0, none⟩ v) (some w.heap.size) := (GB.refl w.heap.size wz).setCell _ _
  exact ⟨(own_set_below O (by omega) v).mono (by omega), C.grown (B := w.heap.size) hgr (fun k hk => by simp at hk; omega) hgl ho, (hwg.trans G).grown hgr (fun k hk => by simp at hk; omega)⟩

theorem heap_new (w : World) (v : Value) (t : TypeId) : (w.alloc (.cells #[v] t)).heap[w.heap.size]? = some (.cells #[v] t (0, 0)) := by
  show (w.heap.push _)[w.heap.size]? = _
  simp
theorem sep_ne {v : Value} {r : Nat} (h : v.ownBlock = none ∨ v.ownBlock ≠ some r) : some r ≠ v.ownBlock := by
  rcases h with h | h
  · rw [h]; simp
  · exact fun e => h e.symm
theorem cell_obj {w : World} {r : Nat} {v : Value} {t : TypeId} (h : w.heap[r]? = some (.cells #[v] t (0, 0))) : w.cell? ⟨r, 0, none⟩ = some v := by simp [World.cell?, h]
theorem frozen_obj {w : World} {r : Nat} {v : Value} {t : TypeId} (h : w.heap[r]? = some (.cells #[v] t (0, 0))) : w.frozen? ⟨r, 0, none⟩ = false := by simp [World.frozen?, h]
theorem sep_obj {w : World} {base r : Nat} {v u : Value} {xs : List Int} (h : Own w base v xs) (hh : w.heap[r]? = some (.cells #[u] 25 (0, 0))) : v.ownBlock = none ∨ v.ownBlock ≠ some r := by
  rcases h.2 with ⟨rfl, _⟩ | ⟨g, cap, cur, rfl, _, hg, _⟩
  · exact Or.inl rfl
  · refine Or.inr fun e => ?_
    simp only [Value.ownBlock, Option.some.injEq] at e
    subst e
    rw [hg] at hh
    simp at hh

set_option maxHeartbeats 2000000 in
set_option maxRecDepth 1000000 in
theorem big_c (g : Nat) (ao : Option Addr) (n c : Nat) (M : Int) (w : World) (hM : M ≤ 1000000) (h : Cur w g ao n c M) :
    Calls Tryd.prog 27 #[.pointer (some ⟨g, 0, none⟩)] w fun e w' => ∃ a' q c' zs, e = .returned (.agg #[.slice a' q c']) ∧ q ≤ 7 ∧ zs.length = q ∧ Own w' w.heap.size (.slice a' q c') zs ∧ Cur w' g ao n c (M + 100) ∧ GB g w w' := by
  obtain ⟨i0, hi, hz0, hz1, hz2⟩ := info_parts Tryd.infoInt
  have HC : Hid (Cur w g ao n c M) := h
  have HOld : Hid (Old ao n w.heap.size) := h.code.old
  have hgl : g < w.heap.size := h.lt
  clear h
  obtain ⟨W, hW⟩ : ∃ W, w.alloc (Obj.cells #[Value.slice none 0 0] 25) = W := ⟨_, rfl⟩
  have HCW : Hid (Cur W g ao n c M) := by rw [← hW]; exact HC.out.alloc _
  have hWs : W.heap.size = w.heap.size + 1 := by rw [← hW]; simp
  have hBx : W.cell? ⟨w.heap.size, 0, none⟩ = some (.slice none 0 0) ∧ W.frozen? ⟨w.heap.size, 0, none⟩ = false := by rw [← hW]; exact ⟨cnew _ _ _, fz1' _ _ _⟩
  have HWG : Hid (GB g w W) := by rw [← hW]; exact (GB.refl _ _).alloc _
  have HOW : Hid (Old ao n W.heap.size) := old_mono HOld.out (by omega)
  have hgl' : g < W.heap.size := by omega
  go_enter Tryd.func27, Tryd.ntmps27
  go_wp2_with fail
  clear hW HC
  have HC := HCW
  clear HCW
  refine (pick_c g ao n c M 5 _ (by omega) (by omega) HC.out).mono ?_
  rintro e w1 ⟨z, rfl, hz0', hz1', hc1, hg1⟩
  obtain ⟨k0, rfl⟩ : ∃ k0 : Nat, z = k0 := ⟨z.toNat, by omega⟩
  have HC1 : Hid (Cur w1 g ao n c (M + 2)) := hc1
  have HG1 : Hid (GB g W w1) := hg1
  clear hc1 hg1 HC
  go_wp2
  go_loopw [3, 4] (fun v i wr => ∃ (k : Nat) (zs : List Int), i = .int .i64 k ∧ zs.length + k ≤ 4 ∧ Hid (Digs zs) ∧ Hid (Own wr W.heap.size v zs) ∧ Hid (Cur wr g ao n c (M + 2 + 8 * zs.length)) ∧ Hid (GB g W wr)) (fun _ i _ => (intOf i).toNat)
  case atStart => exact ⟨k0, [], rfl, by simp; omega, digs_nil, World.ownsRow_nil _ _ _ _, HC1.out.mono (by simp), HG1⟩
  case round =>
    clear HC1 HG1
    obtain ⟨k, zs, rfl, hk, hD, hO, hC, hG⟩ := hrel
    by_cases hlt : 0 < k
    · have k1 : (0 : Int) < (k : Int) := by omega
      go_wp2_with fail
      refine (pick_c g ao n c (M + 2 + 8 * zs.length) 256 _ (by omega) (by omega) hC.out).mono ?_
      rintro e wa ⟨x, rfl, hx0, hx1, hc1, hg1⟩
      have hCx : Hid (Cur wa g ao n c (M + 2 + 8 * zs.length + 2)) := hc1
      have hGx : Hid (GB g W wa) := hG.out.trans hg1
      have hOx : Hid (Own wa W.heap.size u3 zs) := hO.out.kept hg1 (sep_own hO.out hgl')
      clear hc1 hg1 hC hG hO
      go_wp2_with fail
      refine (pick_c g ao n c (M + 2 + 8 * zs.length + 2) 256 _ (by omega) (by omega) hCx.out).mono ?_
      rintro e wb ⟨y, rfl, hy0, hy1, hc1, hg1⟩
      have hCxx : Hid (Cur wb g ao n c (M + 2 + 8 * zs.length + 2 + 2)) := hc1
      have hGxx : Hid (GB g W wb) := hGx.out.trans hg1
      have hOxx : Hid (Own wb W.heap.size u3 zs) := hOx.out.kept hg1 (sep_own hOx.out hgl')
      clear hc1 hg1 hCx hGx hOx
      go_wp2_with fail
      refine (pick_c g ao n c (M + 2 + 8 * zs.length + 2 + 2) 100 _ (by omega) (by omega) hCxx.out).mono ?_
      rintro e wd ⟨t, rfl, ht0, ht1, hc1, hg1⟩
      have hCxxx : Hid (Cur wd g ao n c (M + 2 + 8 * zs.length + 2 + 2 + 2)) := hc1
      have hGxxx : Hid (GB g W wd) := hGxx.out.trans hg1
      have hOxxx : Hid (Own wd W.heap.size u3 zs) := hOxx.out.kept hg1 (sep_own hOxx.out hgl')
      clear hc1 hg1 hCxx hGxx hOxx
      have hxy : 0 ≤ x * y ∧ x * y ≤ 255 * 255 := ⟨Int.mul_nonneg hx0 hy0, Int.mul_le_mul (by omega) (by omega) hy0 (by omega)⟩
      obtain ⟨Y, hY⟩ : ∃ Y, x * y = Y := ⟨_, rfl⟩
      rw [hY] at hxy
      obtain ⟨X, hX⟩ : ∃ X, wrap64 Y = X := ⟨_, rfl⟩
      have hX0 : 0 ≤ X ∧ X ≤ 65025 := by rw [← hX]; unfold wrap64; omega
      have hlit := lit_cells (fun v => 0 ≤ v ∧ v < 65536) wd #[.int .i64 0, .int .i64 1, .int .i64 65535, .int .i64 32768, .int .i64 X, .int .i64 t] 3 6 rfl ⟨by omega, by omega, by omega, by omega, by omega, by omega, trivial⟩
      have hgd : g < wd.heap.size := hCxxx.out.lt
      go_wp2_with fail
      refine (among_p (fun v => 0 ≤ v ∧ v < 65536) g ao n c _ wd.heap.size 6 _ (by omega) (by omega) hlit (by omega) (hCxxx.out.alloc _)).mono ?_
      rintro e we ⟨zz, rfl, ⟨hzz0, hzz1⟩, hc1, hg1⟩
      have C4 : Hid (Cur we g ao n c (M + 2 + 8 * zs.length + 2 + 2 + 2 + 2)) := hc1
      have G4 : Hid (GB g W we) := (hGxxx.out.alloc _).trans hg1
      have O4 : Hid (Own we W.heap.size u3 zs) := (hOxxx.out.later (balloc _ _)).kept hg1 (sep_own (hOxxx.out.later (balloc wd (.cells #[.int .i64 0, .int .i64 1, .int .i64 65535, .int .i64 32768, .int .i64 X, .int .i64 t] 3))) hgl')
      clear hc1 hg1 hCxxx hGxxx hOxxx hlit
      obtain ⟨p, hp⟩ : ∃ p, zs.length = p := ⟨_, rfl⟩
      have hown : we.ownsRow W.heap.size 3 1 u3 p (cellsI zs) := by have h := O4.out; unfold Own at h; rw [hp] at h; exact h
      have hob : ∀ k', (u3 : Value).ownBlock = some k' → W.heap.size ≤ k' := own_block_ge O4.out
      have hws : W.heap.size ≤ we.heap.size := G4.out.size
      have hone : ∀ u ∈ [Value.int .i64 zz], u.oneCell' = true := ints_oneCell _ [zz]
      have HP : Hid (zs.length = p) := hp
      have hp5 : p + k ≤ 4 := by omega
      clear hp hk
      go_wp2_with (at_builtin; refine wpList_append_own _ rfl _ _ 23 rfl W.heap.size 3 i0 (.int .i64 0) 1 8 Tryd.underlying23 hi hz0 hz1 hz2 rfl (by decide) _ _ _ rfl (hown.alloc _) ⟨we.heap.size, 0, none⟩ 1 1 [.int .i64 zz] rfl rfl (cell_new1 _ _ _) hone (by unfold maxLen; omega) (by omega) (by simp; omega) ?_; intro v' w2 hown' hgrow _; have HO2 : Hid (Own w2 W.heap.size v' (zs ++ [zz])) := own_push (w := we) (v := u3) (by simpa [HP.out] using hown'); have HC2 : Hid (Cur w2 g ao n c (M + 2 + 8 * zs.length + 2 + 2 + 2 + 2)) := (C4.out.alloc _).grown hgrow hob hgl' HOW.out; have HG2 : Hid (GB g W w2) := (G4.out.alloc _).grown hgrow hob; clear hown' hgrow hown hob)
      go_roundw
      case rel => exact ⟨k - 1, zs ++ [zz], by go_num, by rw [List.length_append, HP.out]; simp; omega, digs_snoc hD.out ⟨hzz0, hzz1⟩, HO2, HC2.out.mono (by rw [List.length_append]; simp; omega), HG2⟩
      case measure => simp [intOf]; omega
    · have k1 : (k : Int) ≤ 0 := by omega
      have HC0 : Hid (Cur wr g ao n c (M + 34)) := hC.out.mono (by omega)
      have hz4 : zs.length ≤ 4 := by omega
      clear hk hC
      go_wp2_with fail
      refine (one_c g ao n c (M + 34) 12 _ (by omega) (by omega) HC0.out).mono ?_
      rintro e wc ⟨b1, rfl, hc1, hg1⟩
      have C1 : Hid (Cur wc g ao n c (M + 34 + 2)) := hc1
      have G1 : Hid (GB g W wc) := hG.out.trans hg1
      have O1 : Hid (Own wc W.heap.size u3 zs) := hO.out.kept hg1 (sep_own hO.out hgl')
      have hws : W.heap.size ≤ wc.heap.size := G1.out.size
      clear hc1 hg1 HC0 hG hO
      cases b1
      · obtain ⟨a1, c1, hv⟩ := O1.out.shape
        obtain ⟨p, hp⟩ : ∃ p, zs.length = p := ⟨_, rfl⟩
        rw [hp] at hv
        subst hv
        have hp4 : p ≤ 4 := by omega
        clear hp hz4
        obtain ⟨ts, fb, hF⟩ : ∃ ts fb, tellF (val zs) = (ts, fb) := ⟨_, _, rfl⟩
        have HF : Hid (tellF (val zs) = (ts, fb)) := hF
        obtain ⟨q, hq⟩ : ∃ q, ts.length = q := ⟨_, rfl⟩
        have HQ : Hid (ts.length = q) := hq
        have hq6 : q ≤ 6 := by rw [← hq]; exact tellF_short (val_nonneg hD.out) hF
        clear hF hq
        go_wp2_with fail
        refine (l1Tell_c _ _ _ zs _ (by omega) O1.out.rdS hD.out ts fb q HF.out HQ.out).mono ?_
        rintro e wf ⟨a2, c2, rfl, ho, hb⟩
        have C2 : Hid (Cur wf g ao n c (M + 34 + 2)) := C1.out.later hb
        have G2 : Hid (GB g W wf) := G1.out.trans (GB.of_below hb (Nat.le_refl _))
        have O2 : Hid (Own wf W.heap.size (.slice a2 q c2) ts) := ho.mono (G1.out.size)
        clear ho hb C1 G1 O1 HF
        obtain ⟨wh, hwh⟩ : ∃ wh, wf.alloc (.cells #[.slice a2 q c2] 25) = wh := ⟨_, rfl⟩
        have C3 : Hid (Cur wh g ao n c (M + 34 + 2)) := by rw [← hwh]; exact C2.out.alloc _
        have G3 : Hid (GB g W wh) := by rw [← hwh]; exact G2.out.alloc _
        have O3 : Hid (Own wh W.heap.size (.slice a2 q c2) ts) := by rw [← hwh]; exact O2.out.later (balloc _ _)
        have hs : wf.heap.size + 1 = wh.heap.size := by rw [← hwh]; simp
        have hH : wh.heap[wf.heap.size]? = some (.cells #[.slice a2 q c2] 25 (0, 0)) := by rw [← hwh]; exact heap_new _ _ _
        have hgf : g < wf.heap.size := C2.out.lt
        have hWf : W.heap.size ≤ wf.heap.size := G2.out.size
        clear C2 G2 O2
        go_wp2_with fail
        clear hwh
        refine (one_c g ao n c (M + 34 + 2) 20 _ (by omega) (by omega) C3.out).mono ?_
        rintro e wi ⟨b2, rfl, hc1, hg1⟩
        have C4 : Hid (Cur wi g ao n c (M + 34 + 2 + 2)) := hc1
        have G4 : Hid (GB g W wi) := G3.out.trans hg1
        have O4 : Hid (Own wi W.heap.size (.slice a2 q c2) ts) := O3.out.kept hg1 (sep_own O3.out hgl')
        have hsi : wf.heap.size < wi.heap.size := by have := hg1.size; omega
        have HH : Hid (wi.heap[wf.heap.size]? = some (.cells #[.slice a2 q c2] 25 (0, 0))) := (hg1.block wf.heap.size (by omega) (by simp; omega)).trans hH
        have cB : wi.cell? ⟨wf.heap.size, 0, none⟩ = some (.slice a2 q c2) := cell_obj HH.out
        have cR := (box_kept G4.out (r := w.heap.size) (by omega) (by omega)).1 _ hBx.1
        have fR := (box_kept G4.out (r := w.heap.size) (by omega) (by omega)).2 hBx.2
        clear hc1 hg1 C3 G3 O3 hH
        cases b2
        · go_wp2
          obtain ⟨e1, e2, e3⟩ := big_end hWs hgl HOld.out HWG.out C4.out G4.out O4.out (.slice a2 q c2)
          refine bodyPost_ret (v := .agg #[.slice a2 q c2]) (by simp [results, Tryd.results27, go_sem, cR]) rfl ⟨a2, q, c2, ts, rfl, by omega, HQ.out, e1, e2.mono (by omega), e3⟩
        · skip
          clear cR fR cB
          go_wp2_with fail
          refine wp_region_held_drew (S := fun _ => True) (by kernel_rfl) ?_ (fun hHeld => ?_)
          · trivial
          clear hHeld
          have hTT : True := trivial
          have CD : Hid (Cur wi.drew g ao n c (M + 34 + 2 + 2)) := C4.out.later (Below.refl _ _).drew
          have GD : Hid (GB g W wi.drew) := G4.out.drew
          have OD : Hid (Own wi.drew W.heap.size (.slice a2 q c2) ts) := O4.out.later (Below.refl _ _).drew
          have HD : Hid (wi.drew.heap[wf.heap.size]? = some (.cells #[.slice a2 q c2] 25 (0, 0))) := HH.out
          have hsd : wf.heap.size < wi.drew.heap.size := hsi
          clear C4 G4 O4 HH hsi
          generalize wi.drew = wd at CD GD OD HD hsd ⊢
          have cD : wd.cell? ⟨wf.heap.size, 0, none⟩ = some (.slice a2 q c2) := cell_obj HD.out
          refine takeG (i := 0) (oi := _) (v := ?_) (d := some 36) rfl (by kernel_rfl) (by kernel_rfl) (by kernel_rfl) (by kernel_rfl) (fun _ _ _ h => h) (Or.inl ⟨by rfl, ?_⟩) (by assumption) ?_
          rotate_left
          · (intro w hSw; (try dsimp only at hSw); go_simp <;> with_reducible rfl)
          try simp only [Act.put, List.setIfInBounds_toArray, List.set_cons_zero, List.set_cons_succ]
          refine takeG (i := 2) (oi := _) (v := ?_) (d := some 38) rfl (by kernel_rfl) (by kernel_rfl) (by kernel_rfl) (by kernel_rfl) (fun _ _ _ h => h) (Or.inl ⟨by rfl, ?_⟩) (by assumption) ?_
          rotate_left
          · (intro w hSw; (try dsimp only at hSw); go_simp <;> with_reducible rfl)
          try simp only [Act.put, List.setIfInBounds_toArray, List.set_cons_zero, List.set_cons_succ]
          refine wpAnyH_ready (rs := [1, 3]) (by kernel_rfl) (by simp) ?_
          refine AllReadyH.cons (o := _) rfl (fun K hK => ?_) (AllReadyH.cons (o := _) rfl (fun K hK => ?_) AllReadyH.nil)
          · skip
            go_simp
            refine hK.out _ _ trivial (fun hHeld => ?_)
            clear hK K hHeld
            try simp only [Act.put, List.setIfInBounds_toArray, List.set_cons_zero, List.set_cons_succ]
            refine wpAnyH_ready (rs := [3]) (by kernel_rfl) (by simp) ?_
            refine AllReadyH.cons (o := _) rfl (fun K hK => ?_) AllReadyH.nil
            · skip
              have HL : Hid (∀ j, j < 4 → ∃ y, (wd.alloc (.cells #[.int .i64 0, .int .i64 (-1), .int .i64 65536, .int .i64 7] 3)).cell? ⟨wd.heap.size, j, none⟩ = some (.int .i64 y) ∧ True) := lit_cells (fun _ => True) wd #[.int .i64 0, .int .i64 (-1), .int .i64 65536, .int .i64 7] 3 4 rfl ⟨trivial, trivial, trivial, trivial, trivial⟩
              have CE : Hid (Cur (wd.alloc (.cells #[.int .i64 0, .int .i64 (-1), .int .i64 65536, .int .i64 7] 3)) g ao n c (M + 34 + 2 + 2)) := CD.out.alloc _
              have GE : Hid (GB g W (wd.alloc (.cells #[.int .i64 0, .int .i64 (-1), .int .i64 65536, .int .i64 7] 3))) := GD.out.alloc _
              have OE : Hid (Own (wd.alloc (.cells #[.int .i64 0, .int .i64 (-1), .int .i64 65536, .int .i64 7] 3)) W.heap.size (.slice a2 q c2) ts) := OD.out.later (balloc _ _)
              have HE : Hid ((wd.alloc (.cells #[.int .i64 0, .int .i64 (-1), .int .i64 65536, .int .i64 7] 3)).heap[wf.heap.size]? = some (.cells #[.slice a2 q c2] 25 (0, 0))) := ((balloc wd _).block wf.heap.size hsd).trans HD.out
              have hse : wf.heap.size < (wd.alloc (.cells #[.int .i64 0, .int .i64 (-1), .int .i64 65536, .int .i64 7] 3)).heap.size := by simp; omega
              have hgd : g < wd.heap.size := CD.out.lt
              go_simp
              refine hK.out _ _ trivial (fun hHeld => ?_)
              clear hK K hHeld CD GD OD HD cD hsd
              try simp only [Act.put, List.setIfInBounds_toArray, List.set_cons_zero, List.set_cons_succ]
              generalize wd.alloc (.cells #[.int .i64 0, .int .i64 (-1), .int .i64 65536, .int .i64 7] 3) = we at HL CE GE OE HE hse ⊢
              have cE : we.cell? ⟨wf.heap.size, 0, none⟩ = some (.slice a2 q c2) := cell_obj HE.out
              refine wpAnyH_ready (rs := [4]) (by kernel_rfl) (by simp) ?_
              refine AllReadyH.cons (o := _) rfl (fun K hK => ?_) AllReadyH.nil
              · skip
                go_simp
                refine (among_p (fun _ => True) g ao n c _ wd.heap.size 4 _ (by omega) (by omega) HL.out (by omega) CE.out).mono ?_
                rintro e wj ⟨zz, rfl, _, hc1, hg1⟩
                have C5 : Hid (Cur wj g ao n c (M + 34 + 2 + 2 + 2)) := hc1
                have G5 : Hid (GB g W wj) := GE.out.trans hg1
                have O5 : Hid (Own wj W.heap.size (.slice a2 q c2) ts) := OE.out.kept hg1 (sep_own OE.out hgl')
                have hsj : wf.heap.size < wj.heap.size := Nat.lt_of_lt_of_le hse hg1.size
                have H5 : Hid (wj.heap[wf.heap.size]? = some (.cells #[.slice a2 q c2] 25 (0, 0))) := (hg1.block wf.heap.size hse (by simp; omega)).trans HE.out
                have cJ : wj.cell? ⟨wf.heap.size, 0, none⟩ = some (.slice a2 q c2) := cell_obj H5.out
                clear hc1 hg1 CE GE OE HE cE hse HL
                refine hK.out _ _ trivial (fun hHeld => ?_)
                clear hK K hHeld
                try simp only [Act.put, List.setIfInBounds_toArray, List.set_cons_zero, List.set_cons_succ]
                refine wpAnyH_ready (rs := [5]) (by kernel_rfl) (by simp) ?_
                refine AllReadyH.cons (o := _) rfl (fun K hK => ?_) AllReadyH.nil
                · skip
                  have cB1 : (wj.alloc (.cells #[.int .i64 zz] 3)).cell? ⟨wf.heap.size, 0, none⟩ = some (.slice a2 q c2) := calloc cJ
                  go_simp
                  refine hK.out _ _ trivial (fun hHeld => ?_)
                  clear hK K hHeld cJ
                  try simp only [Act.put, List.setIfInBounds_toArray, List.set_cons_zero, List.set_cons_succ]
                  have hown : wj.ownsRow W.heap.size 3 1 (.slice a2 q c2) q (cellsI ts) := by have h := O5.out; unfold Own at h; rw [HQ.out] at h; exact h
                  have hob : ∀ k', (Value.slice a2 q c2).ownBlock = some k' → W.heap.size ≤ k' := own_block_ge O5.out
                  have hone : ∀ u ∈ [Value.int .i64 zz], u.oneCell' = true := ints_oneCell _ [zz]
                  have hws5 : W.heap.size ≤ wj.heap.size := G5.out.size
                  clear cB1
                  refine wpAnyH_ready (rs := [6]) (by kernel_rfl) (by simp) ?_
                  refine AllReadyH.cons (o := _) rfl (fun K hK => ?_) AllReadyH.nil
                  rw [if_pos (by rfl)]
                  refine wp_append_own _ _ _ 23 rfl W.heap.size 3 i0 (.int .i64 0) 1 8 Tryd.underlying23 hi hz0 hz1 hz2 rfl (by decide) (.slice a2 q c2) q (cellsI ts) rfl (hown.alloc _) ⟨wj.heap.size, 0, none⟩ 1 1 [.int .i64 zz] rfl rfl (cell_new1 _ _ _) hone (by unfold maxLen; omega) (by omega) (by simp; omega) ?_
                  intro v' wk hown' hgrow _
                  have O6 : Own wk W.heap.size v' (ts ++ [zz]) := own_push (w := wj) (v := .slice a2 q c2) (by simpa [HQ.out] using hown')
                  have C6 : Hid (Cur wk g ao n c (M + 34 + 2 + 2 + 2)) := (C5.out.alloc _).grown hgrow hob hgl' HOW.out
                  have G6 : Hid (GB g W wk) := (G5.out.alloc _).grown hgrow hob
                  have H6 : wk.heap[wf.heap.size]? = some (.cells #[.slice a2 q c2] 25 (0, 0)) := (hgrow.block wf.heap.size (by simp; omega) (sep_ne (sep_obj O5.out H5.out))).trans (((balloc wj _).block wf.heap.size hsj).trans H5.out)
                  obtain ⟨a3, c3, hv⟩ := O6.shape
                  have hl6 : (ts ++ [zz]).length = q + 1 := by rw [List.length_append, HQ.out]; rfl
                  rw [hl6] at hv
                  subst hv
                  have cK : wk.cell? ⟨wf.heap.size, 0, none⟩ = some (.slice a2 q c2) := cell_obj H6
                  have fK : wk.frozen? ⟨wf.heap.size, 0, none⟩ = false := frozen_obj H6
                  have O7 : Hid (Own wk W.heap.size (.slice a3 (q + 1) c3) (ts ++ [zz])) := O6
                  have HSP := sep_obj O6 H6
                  clear hown' hgrow hown hob O6 C5 G5 O5 H5 hone
                  refine hK.out _ _ trivial (fun hHeld => ?_)
                  clear hK K hHeld
                  try simp only [Act.put, List.setIfInBounds_toArray, List.set_cons_zero, List.set_cons_succ]
                  refine takeG (i := 7) (oi := _) (v := ?_) (d := some 43) rfl (by kernel_rfl) (by kernel_rfl) (by kernel_rfl) (by kernel_rfl) (fun _ _ _ h => h) (Or.inl ⟨by rfl, ?_⟩) (by assumption) ?_
                  rotate_left
                  · (intro w hSw; (try dsimp only at hSw); go_simp <;> with_reducible rfl)
                  try simp only [Act.put, List.setIfInBounds_toArray, List.set_cons_zero, List.set_cons_succ]
                  have hgs : wk.grownBy (wk.setCell ⟨wf.heap.size, 0, none⟩ (.slice a3 (q + 1) c3)) (some wf.heap.size) := (GB.refl wf.heap.size wk).setCell _ _
                  have O8 : Hid (Own (wk.setCell ⟨wf.heap.size, 0, none⟩ (.slice a3 (q + 1) c3)) W.heap.size (.slice a3 (q + 1) c3) (ts ++ [zz])) := O7.out.kept hgs HSP
                  have C8 : Hid (Cur (wk.setCell ⟨wf.heap.size, 0, none⟩ (.slice a3 (q + 1) c3)) g ao n c (M + 34 + 2 + 2 + 2)) := C6.out.grown (B := W.heap.size) hgs (fun k hk => by simp at hk; omega) hgl' HOW.out
                  have G8 : Hid (GB g W (wk.setCell ⟨wf.heap.size, 0, none⟩ (.slice a3 (q + 1) c3))) := G6.out.grown hgs (fun k hk => by simp at hk; omega)
                  have c8 : (wk.setCell ⟨wf.heap.size, 0, none⟩ (.slice a3 (q + 1) c3)).cell? ⟨wf.heap.size, 0, none⟩ = some (.slice a3 (q + 1) c3) := World.cell?_setCell_same _ _ _ cK
                  clear hgs HSP C6 G6 O7 H6
                  refine wpAnyH_ready (rs := [8]) (by kernel_rfl) (by simp) ?_
                  refine AllReadyH.cons (o := _) rfl (fun K hK => ?_) AllReadyH.nil
                  go_simp
                  refine hK.out _ _ trivial (fun hHeld => ?_)
                  clear hK K hHeld cK fK
                  try simp only [Act.put, List.setIfInBounds_toArray, List.set_cons_zero, List.set_cons_succ]
                  generalize wk.setCell ⟨wf.heap.size, 0, none⟩ (.slice a3 (q + 1) c3) = wl at O8 C8 G8 c8 ⊢
                  refine wpAnyH_done (by kernel_rfl) ?_ _
                  have cR := (box_kept G8.out (r := w.heap.size) (by omega) (by omega)).1 _ hBx.1
                  have fR := (box_kept G8.out (r := w.heap.size) (by omega) (by omega)).2 hBx.2
                  go_wp2
                  obtain ⟨e1, e2, e3⟩ := big_end hWs hgl HOld.out HWG.out C8.out G8.out O8.out (.slice a3 (q + 1) c3)
                  refine bodyPost_ret (v := .agg #[.slice a3 (q + 1) c3]) (by simp [results, Tryd.results27, go_sem, cR]) rfl ⟨a3, q + 1, c3, ts ++ [zz], rfl, by omega, hl6, e1, e2.mono (by omega), e3⟩
          · skip
            have HL : Hid (∀ j, j < 4 → ∃ y, (wd.alloc (.cells #[.int .i64 0, .int .i64 (-1), .int .i64 65536, .int .i64 7] 3)).cell? ⟨wd.heap.size, j, none⟩ = some (.int .i64 y) ∧ True) := lit_cells (fun _ => True) wd #[.int .i64 0, .int .i64 (-1), .int .i64 65536, .int .i64 7] 3 4 rfl ⟨trivial, trivial, trivial, trivial, trivial⟩
            have CE : Hid (Cur (wd.alloc (.cells #[.int .i64 0, .int .i64 (-1), .int .i64 65536, .int .i64 7] 3)) g ao n c (M + 34 + 2 + 2)) := CD.out.alloc _
            have GE : Hid (GB g W (wd.alloc (.cells #[.int .i64 0, .int .i64 (-1), .int .i64 65536, .int .i64 7] 3))) := GD.out.alloc _
            have OE : Hid (Own (wd.alloc (.cells #[.int .i64 0, .int .i64 (-1), .int .i64 65536, .int .i64 7] 3)) W.heap.size (.slice a2 q c2) ts) := OD.out.later (balloc _ _)
            have HE : Hid ((wd.alloc (.cells #[.int .i64 0, .int .i64 (-1), .int .i64 65536, .int .i64 7] 3)).heap[wf.heap.size]? = some (.cells #[.slice a2 q c2] 25 (0, 0))) := ((balloc wd _).block wf.heap.size hsd).trans HD.out
            have hse : wf.heap.size < (wd.alloc (.cells #[.int .i64 0, .int .i64 (-1), .int .i64 65536, .int .i64 7] 3)).heap.size := by simp; omega
            have hgd : g < wd.heap.size := CD.out.lt
            go_simp
            refine hK.out _ _ trivial (fun hHeld => ?_)
            clear hK K hHeld CD GD OD HD cD hsd
            try simp only [Act.put, List.setIfInBounds_toArray, List.set_cons_zero, List.set_cons_succ]
            generalize wd.alloc (.cells #[.int .i64 0, .int .i64 (-1), .int .i64 65536, .int .i64 7] 3) = we at HL CE GE OE HE hse ⊢
            have cE : we.cell? ⟨wf.heap.size, 0, none⟩ = some (.slice a2 q c2) := cell_obj HE.out
            refine wpAnyH_ready (rs := [1, 4]) (by kernel_rfl) (by simp) ?_
            refine AllReadyH.cons (o := _) rfl (fun K hK => ?_) (AllReadyH.cons (o := _) rfl (fun K hK => ?_) AllReadyH.nil)
            · skip
              go_simp
              refine hK.out _ _ trivial (fun hHeld => ?_)
              clear hK K hHeld
              try simp only [Act.put, List.setIfInBounds_toArray, List.set_cons_zero, List.set_cons_succ]
              refine wpAnyH_ready (rs := [4]) (by kernel_rfl) (by simp) ?_
              refine AllReadyH.cons (o := _) rfl (fun K hK => ?_) AllReadyH.nil
              · skip
                go_simp
                refine (among_p (fun _ => True) g ao n c _ wd.heap.size 4 _ (by omega) (by omega) HL.out (by omega) CE.out).mono ?_
                rintro e wj ⟨zz, rfl, _, hc1, hg1⟩
                have C5 : Hid (Cur wj g ao n c (M + 34 + 2 + 2 + 2)) := hc1
                have G5 : Hid (GB g W wj) := GE.out.trans hg1
                have O5 : Hid (Own wj W.heap.size (.slice a2 q c2) ts) := OE.out.kept hg1 (sep_own OE.out hgl')
                have hsj : wf.heap.size < wj.heap.size := Nat.lt_of_lt_of_le hse hg1.size
                have H5 : Hid (wj.heap[wf.heap.size]? = some (.cells #[.slice a2 q c2] 25 (0, 0))) := (hg1.block wf.heap.size hse (by simp; omega)).trans HE.out
                have cJ : wj.cell? ⟨wf.heap.size, 0, none⟩ = some (.slice a2 q c2) := cell_obj H5.out
                clear hc1 hg1 CE GE OE HE cE hse HL
                refine hK.out _ _ trivial (fun hHeld => ?_)
                clear hK K hHeld
                try simp only [Act.put, List.setIfInBounds_toArray, List.set_cons_zero, List.set_cons_succ]
                refine wpAnyH_ready (rs := [5]) (by kernel_rfl) (by simp) ?_
                refine AllReadyH.cons (o := _) rfl (fun K hK => ?_) AllReadyH.nil
                · skip
                  have cB1 : (wj.alloc (.cells #[.int .i64 zz] 3)).cell? ⟨wf.heap.size, 0, none⟩ = some (.slice a2 q c2) := calloc cJ
                  go_simp
                  refine hK.out _ _ trivial (fun hHeld => ?_)
                  clear hK K hHeld cJ
                  try simp only [Act.put, List.setIfInBounds_toArray, List.set_cons_zero, List.set_cons_succ]
                  have hown : wj.ownsRow W.heap.size 3 1 (.slice a2 q c2) q (cellsI ts) := by have h := O5.out; unfold Own at h; rw [HQ.out] at h; exact h
                  have hob : ∀ k', (Value.slice a2 q c2).ownBlock = some k' → W.heap.size ≤ k' := own_block_ge O5.out
                  have hone : ∀ u ∈ [Value.int .i64 zz], u.oneCell' = true := ints_oneCell _ [zz]
                  have hws5 : W.heap.size ≤ wj.heap.size := G5.out.size
                  clear cB1
                  refine wpAnyH_ready (rs := [6]) (by kernel_rfl) (by simp) ?_
                  refine AllReadyH.cons (o := _) rfl (fun K hK => ?_) AllReadyH.nil
                  rw [if_pos (by rfl)]
                  refine wp_append_own _ _ _ 23 rfl W.heap.size 3 i0 (.int .i64 0) 1 8 Tryd.underlying23 hi hz0 hz1 hz2 rfl (by decide) (.slice a2 q c2) q (cellsI ts) rfl (hown.alloc _) ⟨wj.heap.size, 0, none⟩ 1 1 [.int .i64 zz] rfl rfl (cell_new1 _ _ _) hone (by unfold maxLen; omega) (by omega) (by simp; omega) ?_
                  intro v' wk hown' hgrow _
                  have O6 : Own wk W.heap.size v' (ts ++ [zz]) := own_push (w := wj) (v := .slice a2 q c2) (by simpa [HQ.out] using hown')
                  have C6 : Hid (Cur wk g ao n c (M + 34 + 2 + 2 + 2)) := (C5.out.alloc _).grown hgrow hob hgl' HOW.out
                  have G6 : Hid (GB g W wk) := (G5.out.alloc _).grown hgrow hob
                  have H6 : wk.heap[wf.heap.size]? = some (.cells #[.slice a2 q c2] 25 (0, 0)) := (hgrow.block wf.heap.size (by simp; omega) (sep_ne (sep_obj O5.out H5.out))).trans (((balloc wj _).block wf.heap.size hsj).trans H5.out)
                  obtain ⟨a3, c3, hv⟩ := O6.shape
                  have hl6 : (ts ++ [zz]).length = q + 1 := by rw [List.length_append, HQ.out]; rfl
                  rw [hl6] at hv
                  subst hv
                  have cK : wk.cell? ⟨wf.heap.size, 0, none⟩ = some (.slice a2 q c2) := cell_obj H6
                  have fK : wk.frozen? ⟨wf.heap.size, 0, none⟩ = false := frozen_obj H6
                  have O7 : Hid (Own wk W.heap.size (.slice a3 (q + 1) c3) (ts ++ [zz])) := O6
                  have HSP := sep_obj O6 H6
                  clear hown' hgrow hown hob O6 C5 G5 O5 H5 hone
                  refine hK.out _ _ trivial (fun hHeld => ?_)
                  clear hK K hHeld
                  try simp only [Act.put, List.setIfInBounds_toArray, List.set_cons_zero, List.set_cons_succ]
                  refine takeG (i := 7) (oi := _) (v := ?_) (d := some 43) rfl (by kernel_rfl) (by kernel_rfl) (by kernel_rfl) (by kernel_rfl) (fun _ _ _ h => h) (Or.inl ⟨by rfl, ?_⟩) (by assumption) ?_
                  rotate_left
                  · (intro w hSw; (try dsimp only at hSw); go_simp <;> with_reducible rfl)
                  try simp only [Act.put, List.setIfInBounds_toArray, List.set_cons_zero, List.set_cons_succ]
                  have hgs : wk.grownBy (wk.setCell ⟨wf.heap.size, 0, none⟩ (.slice a3 (q + 1) c3)) (some wf.heap.size) := (GB.refl wf.heap.size wk).setCell _ _
                  have O8 : Hid (Own (wk.setCell ⟨wf.heap.size, 0, none⟩ (.slice a3 (q + 1) c3)) W.heap.size (.slice a3 (q + 1) c3) (ts ++ [zz])) := O7.out.kept hgs HSP
                  have C8 : Hid (Cur (wk.setCell ⟨wf.heap.size, 0, none⟩ (.slice a3 (q + 1) c3)) g ao n c (M + 34 + 2 + 2 + 2)) := C6.out.grown (B := W.heap.size) hgs (fun k hk => by simp at hk; omega) hgl' HOW.out
                  have G8 : Hid (GB g W (wk.setCell ⟨wf.heap.size, 0, none⟩ (.slice a3 (q + 1) c3))) := G6.out.grown hgs (fun k hk => by simp at hk; omega)
                  have c8 : (wk.setCell ⟨wf.heap.size, 0, none⟩ (.slice a3 (q + 1) c3)).cell? ⟨wf.heap.size, 0, none⟩ = some (.slice a3 (q + 1) c3) := World.cell?_setCell_same _ _ _ cK
                  clear hgs HSP C6 G6 O7 H6
                  refine wpAnyH_ready (rs := [8]) (by kernel_rfl) (by simp) ?_
                  refine AllReadyH.cons (o := _) rfl (fun K hK => ?_) AllReadyH.nil
                  go_simp
                  refine hK.out _ _ trivial (fun hHeld => ?_)
                  clear hK K hHeld cK fK
                  try simp only [Act.put, List.setIfInBounds_toArray, List.set_cons_zero, List.set_cons_succ]
                  generalize wk.setCell ⟨wf.heap.size, 0, none⟩ (.slice a3 (q + 1) c3) = wl at O8 C8 G8 c8 ⊢
                  refine wpAnyH_done (by kernel_rfl) ?_ _
                  have cR := (box_kept G8.out (r := w.heap.size) (by omega) (by omega)).1 _ hBx.1
                  have fR := (box_kept G8.out (r := w.heap.size) (by omega) (by omega)).2 hBx.2
                  go_wp2
                  obtain ⟨e1, e2, e3⟩ := big_end hWs hgl HOld.out HWG.out C8.out G8.out O8.out (.slice a3 (q + 1) c3)
                  refine bodyPost_ret (v := .agg #[.slice a3 (q + 1) c3]) (by simp [results, Tryd.results27, go_sem, cR]) rfl ⟨a3, q + 1, c3, ts ++ [zz], rfl, by omega, hl6, e1, e2.mono (by omega), e3⟩
            · skip
              go_simp
              refine (among_p (fun _ => True) g ao n c _ wd.heap.size 4 _ (by omega) (by omega) HL.out (by omega) CE.out).mono ?_
              rintro e wj ⟨zz, rfl, _, hc1, hg1⟩
              have C5 : Hid (Cur wj g ao n c (M + 34 + 2 + 2 + 2)) := hc1
              have G5 : Hid (GB g W wj) := GE.out.trans hg1
              have O5 : Hid (Own wj W.heap.size (.slice a2 q c2) ts) := OE.out.kept hg1 (sep_own OE.out hgl')
              have hsj : wf.heap.size < wj.heap.size := Nat.lt_of_lt_of_le hse hg1.size
              have H5 : Hid (wj.heap[wf.heap.size]? = some (.cells #[.slice a2 q c2] 25 (0, 0))) := (hg1.block wf.heap.size hse (by simp; omega)).trans HE.out
              have cJ : wj.cell? ⟨wf.heap.size, 0, none⟩ = some (.slice a2 q c2) := cell_obj H5.out
              clear hc1 hg1 CE GE OE HE cE hse HL
              refine hK.out _ _ trivial (fun hHeld => ?_)
              clear hK K hHeld
              try simp only [Act.put, List.setIfInBounds_toArray, List.set_cons_zero, List.set_cons_succ]
              refine wpAnyH_ready (rs := [1, 5]) (by kernel_rfl) (by simp) ?_
              refine AllReadyH.cons (o := _) rfl (fun K hK => ?_) (AllReadyH.cons (o := _) rfl (fun K hK => ?_) AllReadyH.nil)
              · skip
                go_simp
                refine hK.out _ _ trivial (fun hHeld => ?_)
                clear hK K hHeld
                try simp only [Act.put, List.setIfInBounds_toArray, List.set_cons_zero, List.set_cons_succ]
                refine wpAnyH_ready (rs := [5]) (by kernel_rfl) (by simp) ?_
                refine AllReadyH.cons (o := _) rfl (fun K hK => ?_) AllReadyH.nil
                · skip
                  have cB1 : (wj.alloc (.cells #[.int .i64 zz] 3)).cell? ⟨wf.heap.size, 0, none⟩ = some (.slice a2 q c2) := calloc cJ
                  go_simp
                  refine hK.out _ _ trivial (fun hHeld => ?_)
                  clear hK K hHeld cJ
                  try simp only [Act.put, List.setIfInBounds_toArray, List.set_cons_zero, List.set_cons_succ]
                  have hown : wj.ownsRow W.heap.size 3 1 (.slice a2 q c2) q (cellsI ts) := by have h := O5.out; unfold Own at h; rw [HQ.out] at h; exact h
                  have hob : ∀ k', (Value.slice a2 q c2).ownBlock = some k' → W.heap.size ≤ k' := own_block_ge O5.out
                  have hone : ∀ u ∈ [Value.int .i64 zz], u.oneCell' = true := ints_oneCell _ [zz]
                  have hws5 : W.heap.size ≤ wj.heap.size := G5.out.size
                  clear cB1
                  refine wpAnyH_ready (rs := [6]) (by kernel_rfl) (by simp) ?_
                  refine AllReadyH.cons (o := _) rfl (fun K hK => ?_) AllReadyH.nil
                  rw [if_pos (by rfl)]
                  refine wp_append_own _ _ _ 23 rfl W.heap.size 3 i0 (.int .i64 0) 1 8 Tryd.underlying23 hi hz0 hz1 hz2 rfl (by decide) (.slice a2 q c2) q (cellsI ts) rfl (hown.alloc _) ⟨wj.heap.size, 0, none⟩ 1 1 [.int .i64 zz] rfl rfl (cell_new1 _ _ _) hone (by unfold maxLen; omega) (by omega) (by simp; omega) ?_
                  intro v' wk hown' hgrow _
                  have O6 : Own wk W.heap.size v' (ts ++ [zz]) := own_push (w := wj) (v := .slice a2 q c2) (by simpa [HQ.out] using hown')
                  have C6 : Hid (Cur wk g ao n c (M + 34 + 2 + 2 + 2)) := (C5.out.alloc _).grown hgrow hob hgl' HOW.out
                  have G6 : Hid (GB g W wk) := (G5.out.alloc _).grown hgrow hob
                  have H6 : wk.heap[wf.heap.size]? = some (.cells #[.slice a2 q c2] 25 (0, 0)) := (hgrow.block wf.heap.size (by simp; omega) (sep_ne (sep_obj O5.out H5.out))).trans (((balloc wj _).block wf.heap.size hsj).trans H5.out)
                  obtain ⟨a3, c3, hv⟩ := O6.shape
                  have hl6 : (ts ++ [zz]).length = q + 1 := by rw [List.length_append, HQ.out]; rfl
                  rw [hl6] at hv
                  subst hv
                  have cK : wk.cell? ⟨wf.heap.size, 0, none⟩ = some (.slice a2 q c2) := cell_obj H6
                  have fK : wk.frozen? ⟨wf.heap.size, 0, none⟩ = false := frozen_obj H6
                  have O7 : Hid (Own wk W.heap.size (.slice a3 (q + 1) c3) (ts ++ [zz])) := O6
                  have HSP := sep_obj O6 H6
                  clear hown' hgrow hown hob O6 C5 G5 O5 H5 hone
                  refine hK.out _ _ trivial (fun hHeld => ?_)
                  clear hK K hHeld
                  try simp only [Act.put, List.setIfInBounds_toArray, List.set_cons_zero, List.set_cons_succ]
                  refine takeG (i := 7) (oi := _) (v := ?_) (d := some 43) rfl (by kernel_rfl) (by kernel_rfl) (by kernel_rfl) (by kernel_rfl) (fun _ _ _ h => h) (Or.inl ⟨by rfl, ?_⟩) (by assumption) ?_
                  rotate_left
                  · (intro w hSw; (try dsimp only at hSw); go_simp <;> with_reducible rfl)
                  try simp only [Act.put, List.setIfInBounds_toArray, List.set_cons_zero, List.set_cons_succ]
                  have hgs : wk.grownBy (wk.setCell ⟨wf.heap.size, 0, none⟩ (.slice a3 (q + 1) c3)) (some wf.heap.size) := (GB.refl wf.heap.size wk).setCell _ _
                  have O8 : Hid (Own (wk.setCell ⟨wf.heap.size, 0, none⟩ (.slice a3 (q + 1) c3)) W.heap.size (.slice a3 (q + 1) c3) (ts ++ [zz])) := O7.out.kept hgs HSP
                  have C8 : Hid (Cur (wk.setCell ⟨wf.heap.size, 0, none⟩ (.slice a3 (q + 1) c3)) g ao n c (M + 34 + 2 + 2 + 2)) := C6.out.grown (B := W.heap.size) hgs (fun k hk => by simp at hk; omega) hgl' HOW.out
                  have G8 : Hid (GB g W (wk.setCell ⟨wf.heap.size, 0, none⟩ (.slice a3 (q + 1) c3))) := G6.out.grown hgs (fun k hk => by simp at hk; omega)
                  have c8 : (wk.setCell ⟨wf.heap.size, 0, none⟩ (.slice a3 (q + 1) c3)).cell? ⟨wf.heap.size, 0, none⟩ = some (.slice a3 (q + 1) c3) := World.cell?_setCell_same _ _ _ cK
                  clear hgs HSP C6 G6 O7 H6
                  refine wpAnyH_ready (rs := [8]) (by kernel_rfl) (by simp) ?_
                  refine AllReadyH.cons (o := _) rfl (fun K hK => ?_) AllReadyH.nil
                  go_simp
                  refine hK.out _ _ trivial (fun hHeld => ?_)
                  clear hK K hHeld cK fK
                  try simp only [Act.put, List.setIfInBounds_toArray, List.set_cons_zero, List.set_cons_succ]
                  generalize wk.setCell ⟨wf.heap.size, 0, none⟩ (.slice a3 (q + 1) c3) = wl at O8 C8 G8 c8 ⊢
                  refine wpAnyH_done (by kernel_rfl) ?_ _
                  have cR := (box_kept G8.out (r := w.heap.size) (by omega) (by omega)).1 _ hBx.1
                  have fR := (box_kept G8.out (r := w.heap.size) (by omega) (by omega)).2 hBx.2
                  go_wp2
                  obtain ⟨e1, e2, e3⟩ := big_end hWs hgl HOld.out HWG.out C8.out G8.out O8.out (.slice a3 (q + 1) c3)
                  refine bodyPost_ret (v := .agg #[.slice a3 (q + 1) c3]) (by simp [results, Tryd.results27, go_sem, cR]) rfl ⟨a3, q + 1, c3, ts ++ [zz], rfl, by omega, hl6, e1, e2.mono (by omega), e3⟩
              · skip
                have cB1 : (wj.alloc (.cells #[.int .i64 zz] 3)).cell? ⟨wf.heap.size, 0, none⟩ = some (.slice a2 q c2) := calloc cJ
                go_simp
                refine hK.out _ _ trivial (fun hHeld => ?_)
                clear hK K hHeld cJ
                try simp only [Act.put, List.setIfInBounds_toArray, List.set_cons_zero, List.set_cons_succ]
                refine wpAnyH_ready (rs := [1]) (by kernel_rfl) (by simp) ?_
                refine AllReadyH.cons (o := _) rfl (fun K hK => ?_) AllReadyH.nil
                · skip
                  go_simp
                  refine hK.out _ _ trivial (fun hHeld => ?_)
                  clear hK K hHeld
                  try simp only [Act.put, List.setIfInBounds_toArray, List.set_cons_zero, List.set_cons_succ]
                  have hown : wj.ownsRow W.heap.size 3 1 (.slice a2 q c2) q (cellsI ts) := by have h := O5.out; unfold Own at h; rw [HQ.out] at h; exact h
                  have hob : ∀ k', (Value.slice a2 q c2).ownBlock = some k' → W.heap.size ≤ k' := own_block_ge O5.out
                  have hone : ∀ u ∈ [Value.int .i64 zz], u.oneCell' = true := ints_oneCell _ [zz]
                  have hws5 : W.heap.size ≤ wj.heap.size := G5.out.size
                  clear cB1
                  refine wpAnyH_ready (rs := [6]) (by kernel_rfl) (by simp) ?_
                  refine AllReadyH.cons (o := _) rfl (fun K hK => ?_) AllReadyH.nil
                  rw [if_pos (by rfl)]
                  refine wp_append_own _ _ _ 23 rfl W.heap.size 3 i0 (.int .i64 0) 1 8 Tryd.underlying23 hi hz0 hz1 hz2 rfl (by decide) (.slice a2 q c2) q (cellsI ts) rfl (hown.alloc _) ⟨wj.heap.size, 0, none⟩ 1 1 [.int .i64 zz] rfl rfl (cell_new1 _ _ _) hone (by unfold maxLen; omega) (by omega) (by simp; omega) ?_
                  intro v' wk hown' hgrow _
                  have O6 : Own wk W.heap.size v' (ts ++ [zz]) := own_push (w := wj) (v := .slice a2 q c2) (by simpa [HQ.out] using hown')
                  have C6 : Hid (Cur wk g ao n c (M + 34 + 2 + 2 + 2)) := (C5.out.alloc _).grown hgrow hob hgl' HOW.out
                  have G6 : Hid (GB g W wk) := (G5.out.alloc _).grown hgrow hob
                  have H6 : wk.heap[wf.heap.size]? = some (.cells #[.slice a2 q c2] 25 (0, 0)) := (hgrow.block wf.heap.size (by simp; omega) (sep_ne (sep_obj O5.out H5.out))).trans (((balloc wj _).block wf.heap.size hsj).trans H5.out)
                  obtain ⟨a3, c3, hv⟩ := O6.shape
                  have hl6 : (ts ++ [zz]).length = q + 1 := by rw [List.length_append, HQ.out]; rfl
                  rw [hl6] at hv
                  subst hv
                  have cK : wk.cell? ⟨wf.heap.size, 0, none⟩ = some (.slice a2 q c2) := cell_obj H6
                  have fK : wk.frozen? ⟨wf.heap.size, 0, none⟩ = false := frozen_obj H6
                  have O7 : Hid (Own wk W.heap.size (.slice a3 (q + 1) c3) (ts ++ [zz])) := O6
                  have HSP := sep_obj O6 H6
                  clear hown' hgrow hown hob O6 C5 G5 O5 H5 hone
                  refine hK.out _ _ trivial (fun hHeld => ?_)
                  clear hK K hHeld
                  try simp only [Act.put, List.setIfInBounds_toArray, List.set_cons_zero, List.set_cons_succ]
                  refine takeG (i := 7) (oi := _) (v := ?_) (d := some 43) rfl (by kernel_rfl) (by kernel_rfl) (by kernel_rfl) (by kernel_rfl) (fun _ _ _ h => h) (Or.inl ⟨by rfl, ?_⟩) (by assumption) ?_
                  rotate_left
                  · (intro w hSw; (try dsimp only at hSw); go_simp <;> with_reducible rfl)
                  try simp only [Act.put, List.setIfInBounds_toArray, List.set_cons_zero, List.set_cons_succ]
                  have hgs : wk.grownBy (wk.setCell ⟨wf.heap.size, 0, none⟩ (.slice a3 (q + 1) c3)) (some wf.heap.size) := (GB.refl wf.heap.size wk).setCell _ _
                  have O8 : Hid (Own (wk.setCell ⟨wf.heap.size, 0, none⟩ (.slice a3 (q + 1) c3)) W.heap.size (.slice a3 (q + 1) c3) (ts ++ [zz])) := O7.out.kept hgs HSP
                  have C8 : Hid (Cur (wk.setCell ⟨wf.heap.size, 0, none⟩ (.slice a3 (q + 1) c3)) g ao n c (M + 34 + 2 + 2 + 2)) := C6.out.grown (B := W.heap.size) hgs (fun k hk => by simp at hk; omega) hgl' HOW.out
                  have G8 : Hid (GB g W (wk.setCell ⟨wf.heap.size, 0, none⟩ (.slice a3 (q + 1) c3))) := G6.out.grown hgs (fun k hk => by simp at hk; omega)
                  have c8 : (wk.setCell ⟨wf.heap.size, 0, none⟩ (.slice a3 (q + 1) c3)).cell? ⟨wf.heap.size, 0, none⟩ = some (.slice a3 (q + 1) c3) := World.cell?_setCell_same _ _ _ cK
                  clear hgs HSP C6 G6 O7 H6
                  refine wpAnyH_ready (rs := [8]) (by kernel_rfl) (by simp) ?_
                  refine AllReadyH.cons (o := _) rfl (fun K hK => ?_) AllReadyH.nil
                  go_simp
                  refine hK.out _ _ trivial (fun hHeld => ?_)
                  clear hK K hHeld cK fK
                  try simp only [Act.put, List.setIfInBounds_toArray, List.set_cons_zero, List.set_cons_succ]
                  generalize wk.setCell ⟨wf.heap.size, 0, none⟩ (.slice a3 (q + 1) c3) = wl at O8 C8 G8 c8 ⊢
                  refine wpAnyH_done (by kernel_rfl) ?_ _
                  have cR := (box_kept G8.out (r := w.heap.size) (by omega) (by omega)).1 _ hBx.1
                  have fR := (box_kept G8.out (r := w.heap.size) (by omega) (by omega)).2 hBx.2
                  go_wp2
                  obtain ⟨e1, e2, e3⟩ := big_end hWs hgl HOld.out HWG.out C8.out G8.out O8.out (.slice a3 (q + 1) c3)
                  refine bodyPost_ret (v := .agg #[.slice a3 (q + 1) c3]) (by simp [results, Tryd.results27, go_sem, cR]) rfl ⟨a3, q + 1, c3, ts ++ [zz], rfl, by omega, hl6, e1, e2.mono (by omega), e3⟩
      · have OA : Hid (Own (wc.alloc (.cells #[.int .i64 65535, .int .i64 65535, .int .i64 65535, .int .i64 65535, .int .i64 65535, .int .i64 65535] 3)) W.heap.size (.slice (some ⟨wc.heap.size, 0, none⟩) 6 6) [65535, 65535, 65535, 65535, 65535, 65535]) := own_top6 wc _ hws
        have CA : Hid (Cur (wc.alloc (.cells #[.int .i64 65535, .int .i64 65535, .int .i64 65535, .int .i64 65535, .int .i64 65535, .int .i64 65535] 3)) g ao n c (M + 34 + 2)) := C1.out.alloc _
        have GA : Hid (GB g W (wc.alloc (.cells #[.int .i64 65535, .int .i64 65535, .int .i64 65535, .int .i64 65535, .int .i64 65535, .int .i64 65535] 3))) := G1.out.alloc _
        have hDA : Hid (Digs [65535, 65535, 65535, 65535, 65535, 65535]) := by intro x hx; simp at hx; omega
        clear O1 C1 G1 hD
        obtain ⟨ts, fb, hF⟩ : ∃ ts fb, tellF (val [65535, 65535, 65535, 65535, 65535, 65535]) = (ts, fb) := ⟨_, _, rfl⟩
        have HF : Hid (tellF (val [65535, 65535, 65535, 65535, 65535, 65535]) = (ts, fb)) := hF
        obtain ⟨q, hq⟩ : ∃ q, ts.length = q := ⟨_, rfl⟩
        have HQ : Hid (ts.length = q) := hq
        have hq6 : q ≤ 6 := by rw [← hq]; exact tellF_short (val_nonneg hDA.out) hF
        clear hF hq
        go_wp2_with fail
        refine (l1Tell_c _ _ _ [65535, 65535, 65535, 65535, 65535, 65535] _ (by omega) OA.out.rdS hDA.out ts fb q HF.out HQ.out).mono ?_
        rintro e wf ⟨a2, c2, rfl, ho, hb⟩
        have C2 : Hid (Cur wf g ao n c (M + 34 + 2)) := CA.out.later hb
        have G2 : Hid (GB g W wf) := GA.out.trans (GB.of_below hb (Nat.le_refl _))
        have O2 : Hid (Own wf W.heap.size (.slice a2 q c2) ts) := ho.mono (GA.out.size)
        clear ho hb CA GA OA HF
        obtain ⟨wh, hwh⟩ : ∃ wh, wf.alloc (.cells #[.slice a2 q c2] 25) = wh := ⟨_, rfl⟩
        have C3 : Hid (Cur wh g ao n c (M + 34 + 2)) := by rw [← hwh]; exact C2.out.alloc _
        have G3 : Hid (GB g W wh) := by rw [← hwh]; exact G2.out.alloc _
        have O3 : Hid (Own wh W.heap.size (.slice a2 q c2) ts) := by rw [← hwh]; exact O2.out.later (balloc _ _)
        have hs : wf.heap.size + 1 = wh.heap.size := by rw [← hwh]; simp
        have hH : wh.heap[wf.heap.size]? = some (.cells #[.slice a2 q c2] 25 (0, 0)) := by rw [← hwh]; exact heap_new _ _ _
        have hgf : g < wf.heap.size := C2.out.lt
        have hWf : W.heap.size ≤ wf.heap.size := G2.out.size
        clear C2 G2 O2
        go_wp2_with fail
        clear hwh
        refine (one_c g ao n c (M + 34 + 2) 20 _ (by omega) (by omega) C3.out).mono ?_
        rintro e wi ⟨b2, rfl, hc1, hg1⟩
        have C4 : Hid (Cur wi g ao n c (M + 34 + 2 + 2)) := hc1
        have G4 : Hid (GB g W wi) := G3.out.trans hg1
        have O4 : Hid (Own wi W.heap.size (.slice a2 q c2) ts) := O3.out.kept hg1 (sep_own O3.out hgl')
        have hsi : wf.heap.size < wi.heap.size := by have := hg1.size; omega
        have HH : Hid (wi.heap[wf.heap.size]? = some (.cells #[.slice a2 q c2] 25 (0, 0))) := (hg1.block wf.heap.size (by omega) (by simp; omega)).trans hH
        have cB : wi.cell? ⟨wf.heap.size, 0, none⟩ = some (.slice a2 q c2) := cell_obj HH.out
        have cR := (box_kept G4.out (r := w.heap.size) (by omega) (by omega)).1 _ hBx.1
        have fR := (box_kept G4.out (r := w.heap.size) (by omega) (by omega)).2 hBx.2
        clear hc1 hg1 C3 G3 O3 hH
        cases b2
        · go_wp2
          obtain ⟨e1, e2, e3⟩ := big_end hWs hgl HOld.out HWG.out C4.out G4.out O4.out (.slice a2 q c2)
          refine bodyPost_ret (v := .agg #[.slice a2 q c2]) (by simp [results, Tryd.results27, go_sem, cR]) rfl ⟨a2, q, c2, ts, rfl, by omega, HQ.out, e1, e2.mono (by omega), e3⟩
        · skip
          clear cR fR cB
          go_wp2_with fail
          refine wp_region_held_drew (S := fun _ => True) (by kernel_rfl) ?_ (fun hHeld => ?_)
          · trivial
          clear hHeld
          have hTT : True := trivial
          have CD : Hid (Cur wi.drew g ao n c (M + 34 + 2 + 2)) := C4.out.later (Below.refl _ _).drew
          have GD : Hid (GB g W wi.drew) := G4.out.drew
          have OD : Hid (Own wi.drew W.heap.size (.slice a2 q c2) ts) := O4.out.later (Below.refl _ _).drew
          have HD : Hid (wi.drew.heap[wf.heap.size]? = some (.cells #[.slice a2 q c2] 25 (0, 0))) := HH.out
          have hsd : wf.heap.size < wi.drew.heap.size := hsi
          clear C4 G4 O4 HH hsi
          generalize wi.drew = wd at CD GD OD HD hsd ⊢
          have cD : wd.cell? ⟨wf.heap.size, 0, none⟩ = some (.slice a2 q c2) := cell_obj HD.out
          refine takeG (i := 0) (oi := _) (v := ?_) (d := some 36) rfl (by kernel_rfl) (by kernel_rfl) (by kernel_rfl) (by kernel_rfl) (fun _ _ _ h => h) (Or.inl ⟨by rfl, ?_⟩) (by assumption) ?_
          rotate_left
          · (intro w hSw; (try dsimp only at hSw); go_simp <;> with_reducible rfl)
          try simp only [Act.put, List.setIfInBounds_toArray, List.set_cons_zero, List.set_cons_succ]
          refine takeG (i := 2) (oi := _) (v := ?_) (d := some 38) rfl (by kernel_rfl) (by kernel_rfl) (by kernel_rfl) (by kernel_rfl) (fun _ _ _ h => h) (Or.inl ⟨by rfl, ?_⟩) (by assumption) ?_
          rotate_left
          · (intro w hSw; (try dsimp only at hSw); go_simp <;> with_reducible rfl)
          try simp only [Act.put, List.setIfInBounds_toArray, List.set_cons_zero, List.set_cons_succ]
          refine wpAnyH_ready (rs := [1, 3]) (by kernel_rfl) (by simp) ?_
          refine AllReadyH.cons (o := _) rfl (fun K hK => ?_) (AllReadyH.cons (o := _) rfl (fun K hK => ?_) AllReadyH.nil)
          · skip
            go_simp
            refine hK.out _ _ trivial (fun hHeld => ?_)
            clear hK K hHeld
            try simp only [Act.put, List.setIfInBounds_toArray, List.set_cons_zero, List.set_cons_succ]
            refine wpAnyH_ready (rs := [3]) (by kernel_rfl) (by simp) ?_
            refine AllReadyH.cons (o := _) rfl (fun K hK => ?_) AllReadyH.nil
            · skip
              have HL : Hid (∀ j, j < 4 → ∃ y, (wd.alloc (.cells #[.int .i64 0, .int .i64 (-1), .int .i64 65536, .int .i64 7] 3)).cell? ⟨wd.heap.size, j, none⟩ = some (.int .i64 y) ∧ True) := lit_cells (fun _ => True) wd #[.int .i64 0, .int .i64 (-1), .int .i64 65536, .int .i64 7] 3 4 rfl ⟨trivial, trivial, trivial, trivial, trivial⟩
              have CE : Hid (Cur (wd.alloc (.cells #[.int .i64 0, .int .i64 (-1), .int .i64 65536, .int .i64 7] 3)) g ao n c (M + 34 + 2 + 2)) := CD.out.alloc _
              have GE : Hid (GB g W (wd.alloc (.cells #[.int .i64 0, .int .i64 (-1), .int .i64 65536, .int .i64 7] 3))) := GD.out.alloc _
              have OE : Hid (Own (wd.alloc (.cells #[.int .i64 0, .int .i64 (-1), .int .i64 65536, .int .i64 7] 3)) W.heap.size (.slice a2 q c2) ts) := OD.out.later (balloc _ _)
              have HE : Hid ((wd.alloc (.cells #[.int .i64 0, .int .i64 (-1), .int .i64 65536, .int .i64 7] 3)).heap[wf.heap.size]? = some (.cells #[.slice a2 q c2] 25 (0, 0))) := ((balloc wd _).block wf.heap.size hsd).trans HD.out
              have hse : wf.heap.size < (wd.alloc (.cells #[.int .i64 0, .int .i64 (-1), .int .i64 65536, .int .i64 7] 3)).heap.size := by simp; omega
              have hgd : g < wd.heap.size := CD.out.lt
              go_simp
              refine hK.out _ _ trivial (fun hHeld => ?_)
              clear hK K hHeld CD GD OD HD cD hsd
              try simp only [Act.put, List.setIfInBounds_toArray, List.set_cons_zero, List.set_cons_succ]
              generalize wd.alloc (.cells #[.int .i64 0, .int .i64 (-1), .int .i64 65536, .int .i64 7] 3) = we at HL CE GE OE HE hse ⊢
              have cE : we.cell? ⟨wf.heap.size, 0, none⟩ = some (.slice a2 q c2) := cell_obj HE.out
              refine wpAnyH_ready (rs := [4]) (by kernel_rfl) (by simp) ?_
              refine AllReadyH.cons (o := _) rfl (fun K hK => ?_) AllReadyH.nil
              · skip
                go_simp
                refine (among_p (fun _ => True) g ao n c _ wd.heap.size 4 _ (by omega) (by omega) HL.out (by omega) CE.out).mono ?_
                rintro e wj ⟨zz, rfl, _, hc1, hg1⟩
                have C5 : Hid (Cur wj g ao n c (M + 34 + 2 + 2 + 2)) := hc1
                have G5 : Hid (GB g W wj) := GE.out.trans hg1
                have O5 : Hid (Own wj W.heap.size (.slice a2 q c2) ts) := OE.out.kept hg1 (sep_own OE.out hgl')
                have hsj : wf.heap.size < wj.heap.size := Nat.lt_of_lt_of_le hse hg1.size
                have H5 : Hid (wj.heap[wf.heap.size]? = some (.cells #[.slice a2 q c2] 25 (0, 0))) := (hg1.block wf.heap.size hse (by simp; omega)).trans HE.out
                have cJ : wj.cell? ⟨wf.heap.size, 0, none⟩ = some (.slice a2 q c2) := cell_obj H5.out
                clear hc1 hg1 CE GE OE HE cE hse HL
                refine hK.out _ _ trivial (fun hHeld => ?_)
                clear hK K hHeld
                try simp only [Act.put, List.setIfInBounds_toArray, List.set_cons_zero, List.set_cons_succ]
                refine wpAnyH_ready (rs := [5]) (by kernel_rfl) (by simp) ?_
                refine AllReadyH.cons (o := _) rfl (fun K hK => ?_) AllReadyH.nil
                · skip
                  have cB1 : (wj.alloc (.cells #[.int .i64 zz] 3)).cell? ⟨wf.heap.size, 0, none⟩ = some (.slice a2 q c2) := calloc cJ
                  go_simp
                  refine hK.out _ _ trivial (fun hHeld => ?_)
                  clear hK K hHeld cJ
                  try simp only [Act.put, List.setIfInBounds_toArray, List.set_cons_zero, List.set_cons_succ]
                  have hown : wj.ownsRow W.heap.size 3 1 (.slice a2 q c2) q (cellsI ts) := by have h := O5.out; unfold Own at h; rw [HQ.out] at h; exact h
                  have hob : ∀ k', (Value.slice a2 q c2).ownBlock = some k' → W.heap.size ≤ k' := own_block_ge O5.out
                  have hone : ∀ u ∈ [Value.int .i64 zz], u.oneCell' = true := ints_oneCell _ [zz]
                  have hws5 : W.heap.size ≤ wj.heap.size := G5.out.size
                  clear cB1
                  refine wpAnyH_ready (rs := [6]) (by kernel_rfl) (by simp) ?_
                  refine AllReadyH.cons (o := _) rfl (fun K hK => ?_) AllReadyH.nil
                  rw [if_pos (by rfl)]
                  refine wp_append_own _ _ _ 23 rfl W.heap.size 3 i0 (.int .i64 0) 1 8 Tryd.underlying23 hi hz0 hz1 hz2 rfl (by decide) (.slice a2 q c2) q (cellsI ts) rfl (hown.alloc _) ⟨wj.heap.size, 0, none⟩ 1 1 [.int .i64 zz] rfl rfl (cell_new1 _ _ _) hone (by unfold maxLen; omega) (by omega) (by simp; omega) ?_
                  intro v' wk hown' hgrow _
                  have O6 : Own wk W.heap.size v' (ts ++ [zz]) := own_push (w := wj) (v := .slice a2 q c2) (by simpa [HQ.out] using hown')
                  have C6 : Hid (Cur wk g ao n c (M + 34 + 2 + 2 + 2)) := (C5.out.alloc _).grown hgrow hob hgl' HOW.out
                  have G6 : Hid (GB g W wk) := (G5.out.alloc _).grown hgrow hob
                  have H6 : wk.heap[wf.heap.size]? = some (.cells #[.slice a2 q c2] 25 (0, 0)) := (hgrow.block wf.heap.size (by simp; omega) (sep_ne (sep_obj O5.out H5.out))).trans (((balloc wj _).block wf.heap.size hsj).trans H5.out)
                  obtain ⟨a3, c3, hv⟩ := O6.shape
                  have hl6 : (ts ++ [zz]).length = q + 1 := by rw [List.length_append, HQ.out]; rfl
                  rw [hl6] at hv
                  subst hv
                  have cK : wk.cell? ⟨wf.heap.size, 0, none⟩ = some (.slice a2 q c2) := cell_obj H6
                  have fK : wk.frozen? ⟨wf.heap.size, 0, none⟩ = false := frozen_obj H6
                  have O7 : Hid (Own wk W.heap.size (.slice a3 (q + 1) c3) (ts ++ [zz])) := O6
                  have HSP := sep_obj O6 H6
                  clear hown' hgrow hown hob O6 C5 G5 O5 H5 hone
                  refine hK.out _ _ trivial (fun hHeld => ?_)
                  clear hK K hHeld
                  try simp only [Act.put, List.setIfInBounds_toArray, List.set_cons_zero, List.set_cons_succ]
                  refine takeG (i := 7) (oi := _) (v := ?_) (d := some 43) rfl (by kernel_rfl) (by kernel_rfl) (by kernel_rfl) (by kernel_rfl) (fun _ _ _ h => h) (Or.inl ⟨by rfl, ?_⟩) (by assumption) ?_
                  rotate_left
                  · (intro w hSw; (try dsimp only at hSw); go_simp <;> with_reducible rfl)
                  try simp only [Act.put, List.setIfInBounds_toArray, List.set_cons_zero, List.set_cons_succ]
                  have hgs : wk.grownBy (wk.setCell ⟨wf.heap.size, 0, none⟩ (.slice a3 (q + 1) c3)) (some wf.heap.size) := (GB.refl wf.heap.size wk).setCell _ _
                  have O8 : Hid (Own (wk.setCell ⟨wf.heap.size, 0, none⟩ (.slice a3 (q + 1) c3)) W.heap.size (.slice a3 (q + 1) c3) (ts ++ [zz])) := O7.out.kept hgs HSP
                  have C8 : Hid (Cur (wk.setCell ⟨wf.heap.size, 0, none⟩ (.slice a3 (q + 1) c3)) g ao n c (M + 34 + 2 + 2 + 2)) := C6.out.grown (B := W.heap.size) hgs (fun k hk => by simp at hk; omega) hgl' HOW.out
                  have G8 : Hid (GB g W (wk.setCell ⟨wf.heap.size, 0, none⟩ (.slice a3 (q + 1) c3))) := G6.out.grown hgs (fun k hk => by simp at hk; omega)
                  have c8 : (wk.setCell ⟨wf.heap.size, 0, none⟩ (.slice a3 (q + 1) c3)).cell? ⟨wf.heap.size, 0, none⟩ = some (.slice a3 (q + 1) c3) := World.cell?_setCell_same _ _ _ cK
                  clear hgs HSP C6 G6 O7 H6
                  refine wpAnyH_ready (rs := [8]) (by kernel_rfl) (by simp) ?_
                  refine AllReadyH.cons (o := _) rfl (fun K hK => ?_) AllReadyH.nil
                  go_simp
                  refine hK.out _ _ trivial (fun hHeld => ?_)
                  clear hK K hHeld cK fK
                  try simp only [Act.put, List.setIfInBounds_toArray, List.set_cons_zero, List.set_cons_succ]
                  generalize wk.setCell ⟨wf.heap.size, 0, none⟩ (.slice a3 (q + 1) c3) = wl at O8 C8 G8 c8 ⊢
                  refine wpAnyH_done (by kernel_rfl) ?_ _
                  have cR := (box_kept G8.out (r := w.heap.size) (by omega) (by omega)).1 _ hBx.1
                  have fR := (box_kept G8.out (r := w.heap.size) (by omega) (by omega)).2 hBx.2
                  go_wp2
                  obtain ⟨e1, e2, e3⟩ := big_end hWs hgl HOld.out HWG.out C8.out G8.out O8.out (.slice a3 (q + 1) c3)
                  refine bodyPost_ret (v := .agg #[.slice a3 (q + 1) c3]) (by simp [results, Tryd.results27, go_sem, cR]) rfl ⟨a3, q + 1, c3, ts ++ [zz], rfl, by omega, hl6, e1, e2.mono (by omega), e3⟩
          · skip
            have HL : Hid (∀ j, j < 4 → ∃ y, (wd.alloc (.cells #[.int .i64 0, .int .i64 (-1), .int .i64 65536, .int .i64 7] 3)).cell? ⟨wd.heap.size, j, none⟩ = some (.int .i64 y) ∧ True) := lit_cells (fun _ => True) wd #[.int .i64 0, .int .i64 (-1), .int .i64 65536, .int .i64 7] 3 4 rfl ⟨trivial, trivial, trivial, trivial, trivial⟩
            have CE : Hid (Cur (wd.alloc (.cells #[.int .i64 0, .int .i64 (-1), .int .i64 65536, .int .i64 7] 3)) g ao n c (M + 34 + 2 + 2)) := CD.out.alloc _
            have GE : Hid (GB g W (wd.alloc (.cells #[.int .i64 0, .int .i64 (-1), .int .i64 65536, .int .i64 7] 3))) := GD.out.alloc _
            have OE : Hid (Own (wd.alloc (.cells #[.int .i64 0, .int .i64 (-1), .int .i64 65536, .int .i64 7] 3)) W.heap.size (.slice a2 q c2) ts) := OD.out.later (balloc _ _)
            have HE : Hid ((wd.alloc (.cells #[.int .i64 0, .int .i64 (-1), .int .i64 65536, .int .i64 7] 3)).heap[wf.heap.size]? = some (.cells #[.slice a2 q c2] 25 (0, 0))) := ((balloc wd _).block wf.heap.size hsd).trans HD.out
            have hse : wf.heap.size < (wd.alloc (.cells #[.int .i64 0, .int .i64 (-1), .int .i64 65536, .int .i64 7] 3)).heap.size := by simp; omega
            have hgd : g < wd.heap.size := CD.out.lt
            go_simp
            refine hK.out _ _ trivial (fun hHeld => ?_)
            clear hK K hHeld CD GD OD HD cD hsd
            try simp only [Act.put, List.setIfInBounds_toArray, List.set_cons_zero, List.set_cons_succ]
            generalize wd.alloc (.cells #[.int .i64 0, .int .i64 (-1), .int .i64 65536, .int .i64 7] 3) = we at HL CE GE OE HE hse ⊢
            have cE : we.cell? ⟨wf.heap.size, 0, none⟩ = some (.slice a2 q c2) := cell_obj HE.out
            refine wpAnyH_ready (rs := [1, 4]) (by kernel_rfl) (by simp) ?_
            refine AllReadyH.cons (o := _) rfl (fun K hK => ?_) (AllReadyH.cons (o := _) rfl (fun K hK => ?_) AllReadyH.nil)
            · skip
              go_simp
              refine hK.out _ _ trivial (fun hHeld => ?_)
              clear hK K hHeld
              try simp only [Act.put, List.setIfInBounds_toArray, List.set_cons_zero, List.set_cons_succ]
              refine wpAnyH_ready (rs := [4]) (by kernel_rfl) (by simp) ?_
              refine AllReadyH.cons (o := _) rfl (fun K hK => ?_) AllReadyH.nil
              · skip
                go_simp
                refine (among_p (fun _ => True) g ao n c _ wd.heap.size 4 _ (by omega) (by omega) HL.out (by omega) CE.out).mono ?_
                rintro e wj ⟨zz, rfl, _, hc1, hg1⟩
                have C5 : Hid (Cur wj g ao n c (M + 34 + 2 + 2 + 2)) := hc1
                have G5 : Hid (GB g W wj) := GE.out.trans hg1
                have O5 : Hid (Own wj W.heap.size (.slice a2 q c2) ts) := OE.out.kept hg1 (sep_own OE.out hgl')
                have hsj : wf.heap.size < wj.heap.size := Nat.lt_of_lt_of_le hse hg1.size
                have H5 : Hid (wj.heap[wf.heap.size]? = some (.cells #[.slice a2 q c2] 25 (0, 0))) := (hg1.block wf.heap.size hse (by simp; omega)).trans HE.out
                have cJ : wj.cell? ⟨wf.heap.size, 0, none⟩ = some (.slice a2 q c2) := cell_obj H5.out
                clear hc1 hg1 CE GE OE HE cE hse HL
                refine hK.out _ _ trivial (fun hHeld => ?_)
                clear hK K hHeld
                try simp only [Act.put, List.setIfInBounds_toArray, List.set_cons_zero, List.set_cons_succ]
                refine wpAnyH_ready (rs := [5]) (by kernel_rfl) (by simp) ?_
                refine AllReadyH.cons (o := _) rfl (fun K hK => ?_) AllReadyH.nil
                · skip
                  have cB1 : (wj.alloc (.cells #[.int .i64 zz] 3)).cell? ⟨wf.heap.size, 0, none⟩ = some (.slice a2 q c2) := calloc cJ
                  go_simp
                  refine hK.out _ _ trivial (fun hHeld => ?_)
                  clear hK K hHeld cJ
                  try simp only [Act.put, List.setIfInBounds_toArray, List.set_cons_zero, List.set_cons_succ]
                  have hown : wj.ownsRow W.heap.size 3 1 (.slice a2 q c2) q (cellsI ts) := by have h := O5.out; unfold Own at h; rw [HQ.out] at h; exact h
                  have hob : ∀ k', (Value.slice a2 q c2).ownBlock = some k' → W.heap.size ≤ k' := own_block_ge O5.out
                  have hone : ∀ u ∈ [Value.int .i64 zz], u.oneCell' = true := ints_oneCell _ [zz]
                  have hws5 : W.heap.size ≤ wj.heap.size := G5.out.size
                  clear cB1
                  refine wpAnyH_ready (rs := [6]) (by kernel_rfl) (by simp) ?_
                  refine AllReadyH.cons (o := _) rfl (fun K hK => ?_) AllReadyH.nil
                  rw [if_pos (by rfl)]
                  refine wp_append_own _ _ _ 23 rfl W.heap.size 3 i0 (.int .i64 0) 1 8 Tryd.underlying23 hi hz0 hz1 hz2 rfl (by decide) (.slice a2 q c2) q (cellsI ts) rfl (hown.alloc _) ⟨wj.heap.size, 0, none⟩ 1 1 [.int .i64 zz] rfl rfl (cell_new1 _ _ _) hone (by unfold maxLen; omega) (by omega) (by simp; omega) ?_
                  intro v' wk hown' hgrow _
                  have O6 : Own wk W.heap.size v' (ts ++ [zz]) := own_push (w := wj) (v := .slice a2 q c2) (by simpa [HQ.out] using hown')
                  have C6 : Hid (Cur wk g ao n c (M + 34 + 2 + 2 + 2)) := (C5.out.alloc _).grown hgrow hob hgl' HOW.out
                  have G6 : Hid (GB g W wk) := (G5.out.alloc _).grown hgrow hob
                  have H6 : wk.heap[wf.heap.size]? = some (.cells #[.slice a2 q c2] 25 (0, 0)) := (hgrow.block wf.heap.size (by simp; omega) (sep_ne (sep_obj O5.out H5.out))).trans (((balloc wj _).block wf.heap.size hsj).trans H5.out)
                  obtain ⟨a3, c3, hv⟩ := O6.shape
                  have hl6 : (ts ++ [zz]).length = q + 1 := by rw [List.length_append, HQ.out]; rfl
                  rw [hl6] at hv
                  subst hv
                  have cK : wk.cell? ⟨wf.heap.size, 0, none⟩ = some (.slice a2 q c2) := cell_obj H6
                  have fK : wk.frozen? ⟨wf.heap.size, 0, none⟩ = false := frozen_obj H6
                  have O7 : Hid (Own wk W.heap.size (.slice a3 (q + 1) c3) (ts ++ [zz])) := O6
                  have HSP := sep_obj O6 H6
                  clear hown' hgrow hown hob O6 C5 G5 O5 H5 hone
                  refine hK.out _ _ trivial (fun hHeld => ?_)
                  clear hK K hHeld
                  try simp only [Act.put, List.setIfInBounds_toArray, List.set_cons_zero, List.set_cons_succ]
                  refine takeG (i := 7) (oi := _) (v := ?_) (d := some 43) rfl (by kernel_rfl) (by kernel_rfl) (by kernel_rfl) (by kernel_rfl) (fun _ _ _ h => h) (Or.inl ⟨by rfl, ?_⟩) (by assumption) ?_
                  rotate_left
                  · (intro w hSw; (try dsimp only at hSw); go_simp <;> with_reducible rfl)
                  try simp only [Act.put, List.setIfInBounds_toArray, List.set_cons_zero, List.set_cons_succ]
                  have hgs : wk.grownBy (wk.setCell ⟨wf.heap.size, 0, none⟩ (.slice a3 (q + 1) c3)) (some wf.heap.size) := (GB.refl wf.heap.size wk).setCell _ _
                  have O8 : Hid (Own (wk.setCell ⟨wf.heap.size, 0, none⟩ (.slice a3 (q + 1) c3)) W.heap.size (.slice a3 (q + 1) c3) (ts ++ [zz])) := O7.out.kept hgs HSP
                  have C8 : Hid (Cur (wk.setCell ⟨wf.heap.size, 0, none⟩ (.slice a3 (q + 1) c3)) g ao n c (M + 34 + 2 + 2 + 2)) := C6.out.grown (B := W.heap.size) hgs (fun k hk => by simp at hk; omega) hgl' HOW.out
                  have G8 : Hid (GB g W (wk.setCell ⟨wf.heap.size, 0, none⟩ (.slice a3 (q + 1) c3))) := G6.out.grown hgs (fun k hk => by simp at hk; omega)
                  have c8 : (wk.setCell ⟨wf.heap.size, 0, none⟩ (.slice a3 (q + 1) c3)).cell? ⟨wf.heap.size, 0, none⟩ = some (.slice a3 (q + 1) c3) := World.cell?_setCell_same _ _ _ cK
                  clear hgs HSP C6 G6 O7 H6
                  refine wpAnyH_ready (rs := [8]) (by kernel_rfl) (by simp) ?_
                  refine AllReadyH.cons (o := _) rfl (fun K hK => ?_) AllReadyH.nil
                  go_simp
                  refine hK.out _ _ trivial (fun hHeld => ?_)
                  clear hK K hHeld cK fK
                  try simp only [Act.put, List.setIfInBounds_toArray, List.set_cons_zero, List.set_cons_succ]
                  generalize wk.setCell ⟨wf.heap.size, 0, none⟩ (.slice a3 (q + 1) c3) = wl at O8 C8 G8 c8 ⊢
                  refine wpAnyH_done (by kernel_rfl) ?_ _
                  have cR := (box_kept G8.out (r := w.heap.size) (by omega) (by omega)).1 _ hBx.1
                  have fR := (box_kept G8.out (r := w.heap.size) (by omega) (by omega)).2 hBx.2
                  go_wp2
                  obtain ⟨e1, e2, e3⟩ := big_end hWs hgl HOld.out HWG.out C8.out G8.out O8.out (.slice a3 (q + 1) c3)
                  refine bodyPost_ret (v := .agg #[.slice a3 (q + 1) c3]) (by simp [results, Tryd.results27, go_sem, cR]) rfl ⟨a3, q + 1, c3, ts ++ [zz], rfl, by omega, hl6, e1, e2.mono (by omega), e3⟩
            · skip
              go_simp
              refine (among_p (fun _ => True) g ao n c _ wd.heap.size 4 _ (by omega) (by omega) HL.out (by omega) CE.out).mono ?_
              rintro e wj ⟨zz, rfl, _, hc1, hg1⟩
              have C5 : Hid (Cur wj g ao n c (M + 34 + 2 + 2 + 2)) := hc1
              have G5 : Hid (GB g W wj) := GE.out.trans hg1
              have O5 : Hid (Own wj W.heap.size (.slice a2 q c2) ts) := OE.out.kept hg1 (sep_own OE.out hgl')
              have hsj : wf.heap.size < wj.heap.size := Nat.lt_of_lt_of_le hse hg1.size
              have H5 : Hid (wj.heap[wf.heap.size]? = some (.cells #[.slice a2 q c2] 25 (0, 0))) := (hg1.block wf.heap.size hse (by simp; omega)).trans HE.out
              have cJ : wj.cell? ⟨wf.heap.size, 0, none⟩ = some (.slice a2 q c2) := cell_obj H5.out
              clear hc1 hg1 CE GE OE HE cE hse HL
              refine hK.out _ _ trivial (fun hHeld => ?_)
              clear hK K hHeld
              try simp only [Act.put, List.setIfInBounds_toArray, List.set_cons_zero, List.set_cons_succ]
              refine wpAnyH_ready (rs := [1, 5]) (by kernel_rfl) (by simp) ?_
              refine AllReadyH.cons (o := _) rfl (fun K hK => ?_) (AllReadyH.cons (o := _) rfl (fun K hK => ?_) AllReadyH.nil)
              · skip
                go_simp
                refine hK.out _ _ trivial (fun hHeld => ?_)
                clear hK K hHeld
                try simp only [Act.put, List.setIfInBounds_toArray, List.set_cons_zero, List.set_cons_succ]
                refine wpAnyH_ready (rs := [5]) (by kernel_rfl) (by simp) ?_
                refine AllReadyH.cons (o := _) rfl (fun K hK => ?_) AllReadyH.nil
                · skip
                  have cB1 : (wj.alloc (.cells #[.int .i64 zz] 3)).cell? ⟨wf.heap.size, 0, none⟩ = some (.slice a2 q c2) := calloc cJ
                  go_simp
                  refine hK.out _ _ trivial (fun hHeld => ?_)
                  clear hK K hHeld cJ
                  try simp only [Act.put, List.setIfInBounds_toArray, List.set_cons_zero, List.set_cons_succ]
                  have hown : wj.ownsRow W.heap.size 3 1 (.slice a2 q c2) q (cellsI ts) := by have h := O5.out; unfold Own at h; rw [HQ.out] at h; exact h
                  have hob : ∀ k', (Value.slice a2 q c2).ownBlock = some k' → W.heap.size ≤ k' := own_block_ge O5.out
                  have hone : ∀ u ∈ [Value.int .i64 zz], u.oneCell' = true := ints_oneCell _ [zz]
                  have hws5 : W.heap.size ≤ wj.heap.size := G5.out.size
                  clear cB1
                  refine wpAnyH_ready (rs := [6]) (by kernel_rfl) (by simp) ?_
                  refine AllReadyH.cons (o := _) rfl (fun K hK => ?_) AllReadyH.nil
                  rw [if_pos (by rfl)]
                  refine wp_append_own _ _ _ 23 rfl W.heap.size 3 i0 (.int .i64 0) 1 8 Tryd.underlying23 hi hz0 hz1 hz2 rfl (by decide) (.slice a2 q c2) q (cellsI ts) rfl (hown.alloc _) ⟨wj.heap.size, 0, none⟩ 1 1 [.int .i64 zz] rfl rfl (cell_new1 _ _ _) hone (by unfold maxLen; omega) (by omega) (by simp; omega) ?_
                  intro v' wk hown' hgrow _
                  have O6 : Own wk W.heap.size v' (ts ++ [zz]) := own_push (w := wj) (v := .slice a2 q c2) (by simpa [HQ.out] using hown')
                  have C6 : Hid (Cur wk g ao n c (M + 34 + 2 + 2 + 2)) := (C5.out.alloc _).grown hgrow hob hgl' HOW.out
                  have G6 : Hid (GB g W wk) := (G5.out.alloc _).grown hgrow hob
                  have H6 : wk.heap[wf.heap.size]? = some (.cells #[.slice a2 q c2] 25 (0, 0)) := (hgrow.block wf.heap.size (by simp; omega) (sep_ne (sep_obj O5.out H5.out))).trans (((balloc wj _).block wf.heap.size hsj).trans H5.out)
                  obtain ⟨a3, c3, hv⟩ := O6.shape
                  have hl6 : (ts ++ [zz]).length = q + 1 := by rw [List.length_append, HQ.out]; rfl
                  rw [hl6] at hv
                  subst hv
                  have cK : wk.cell? ⟨wf.heap.size, 0, none⟩ = some (.slice a2 q c2) := cell_obj H6
                  have fK : wk.frozen? ⟨wf.heap.size, 0, none⟩ = false := frozen_obj H6
                  have O7 : Hid (Own wk W.heap.size (.slice a3 (q + 1) c3) (ts ++ [zz])) := O6
                  have HSP := sep_obj O6 H6
                  clear hown' hgrow hown hob O6 C5 G5 O5 H5 hone
                  refine hK.out _ _ trivial (fun hHeld => ?_)
                  clear hK K hHeld
                  try simp only [Act.put, List.setIfInBounds_toArray, List.set_cons_zero, List.set_cons_succ]
                  refine takeG (i := 7) (oi := _) (v := ?_) (d := some 43) rfl (by kernel_rfl) (by kernel_rfl) (by kernel_rfl) (by kernel_rfl) (fun _ _ _ h => h) (Or.inl ⟨by rfl, ?_⟩) (by assumption) ?_
                  rotate_left
                  · (intro w hSw; (try dsimp only at hSw); go_simp <;> with_reducible rfl)
                  try simp only [Act.put, List.setIfInBounds_toArray, List.set_cons_zero, List.set_cons_succ]
                  have hgs : wk.grownBy (wk.setCell ⟨wf.heap.size, 0, none⟩ (.slice a3 (q + 1) c3)) (some wf.heap.size) := (GB.refl wf.heap.size wk).setCell _ _
                  have O8 : Hid (Own (wk.setCell ⟨wf.heap.size, 0, none⟩ (.slice a3 (q + 1) c3)) W.heap.size (.slice a3 (q + 1) c3) (ts ++ [zz])) := O7.out.kept hgs HSP
                  have C8 : Hid (Cur (wk.setCell ⟨wf.heap.size, 0, none⟩ (.slice a3 (q + 1) c3)) g ao n c (M + 34 + 2 + 2 + 2)) := C6.out.grown (B := W.heap.size) hgs (fun k hk => by simp at hk; omega) hgl' HOW.out
                  have G8 : Hid (GB g W (wk.setCell ⟨wf.heap.size, 0, none⟩ (.slice a3 (q + 1) c3))) := G6.out.grown hgs (fun k hk => by simp at hk; omega)
                  have c8 : (wk.setCell ⟨wf.heap.size, 0, none⟩ (.slice a3 (q + 1) c3)).cell? ⟨wf.heap.size, 0, none⟩ = some (.slice a3 (q + 1) c3) := World.cell?_setCell_same _ _ _ cK
                  clear hgs HSP C6 G6 O7 H6
                  refine wpAnyH_ready (rs := [8]) (by kernel_rfl) (by simp) ?_
                  refine AllReadyH.cons (o := _) rfl (fun K hK => ?_) AllReadyH.nil
                  go_simp
                  refine hK.out _ _ trivial (fun hHeld => ?_)
                  clear hK K hHeld cK fK
                  try simp only [Act.put, List.setIfInBounds_toArray, List.set_cons_zero, List.set_cons_succ]
                  generalize wk.setCell ⟨wf.heap.size, 0, none⟩ (.slice a3 (q + 1) c3) = wl at O8 C8 G8 c8 ⊢
                  refine wpAnyH_done (by kernel_rfl) ?_ _
                  have cR := (box_kept G8.out (r := w.heap.size) (by omega) (by omega)).1 _ hBx.1
                  have fR := (box_kept G8.out (r := w.heap.size) (by omega) (by omega)).2 hBx.2
                  go_wp2
                  obtain ⟨e1, e2, e3⟩ := big_end hWs hgl HOld.out HWG.out C8.out G8.out O8.out (.slice a3 (q + 1) c3)
                  refine bodyPost_ret (v := .agg #[.slice a3 (q + 1) c3]) (by simp [results, Tryd.results27, go_sem, cR]) rfl ⟨a3, q + 1, c3, ts ++ [zz], rfl, by omega, hl6, e1, e2.mono (by omega), e3⟩
              · skip
                have cB1 : (wj.alloc (.cells #[.int .i64 zz] 3)).cell? ⟨wf.heap.size, 0, none⟩ = some (.slice a2 q c2) := calloc cJ
                go_simp
                refine hK.out _ _ trivial (fun hHeld => ?_)
                clear hK K hHeld cJ
                try simp only [Act.put, List.setIfInBounds_toArray, List.set_cons_zero, List.set_cons_succ]
                refine wpAnyH_ready (rs := [1]) (by kernel_rfl) (by simp) ?_
                refine AllReadyH.cons (o := _) rfl (fun K hK => ?_) AllReadyH.nil
                · skip
                  go_simp
                  refine hK.out _ _ trivial (fun hHeld => ?_)
                  clear hK K hHeld
                  try simp only [Act.put, List.setIfInBounds_toArray, List.set_cons_zero, List.set_cons_succ]
                  have hown : wj.ownsRow W.heap.size 3 1 (.slice a2 q c2) q (cellsI ts) := by have h := O5.out; unfold Own at h; rw [HQ.out] at h; exact h
                  have hob : ∀ k', (Value.slice a2 q c2).ownBlock = some k' → W.heap.size ≤ k' := own_block_ge O5.out
                  have hone : ∀ u ∈ [Value.int .i64 zz], u.oneCell' = true := ints_oneCell _ [zz]
                  have hws5 : W.heap.size ≤ wj.heap.size := G5.out.size
                  clear cB1
                  refine wpAnyH_ready (rs := [6]) (by kernel_rfl) (by simp) ?_
                  refine AllReadyH.cons (o := _) rfl (fun K hK => ?_) AllReadyH.nil
                  rw [if_pos (by rfl)]
                  refine wp_append_own _ _ _ 23 rfl W.heap.size 3 i0 (.int .i64 0) 1 8 Tryd.underlying23 hi hz0 hz1 hz2 rfl (by decide) (.slice a2 q c2) q (cellsI ts) rfl (hown.alloc _) ⟨wj.heap.size, 0, none⟩ 1 1 [.int .i64 zz] rfl rfl (cell_new1 _ _ _) hone (by unfold maxLen; omega) (by omega) (by simp; omega) ?_
                  intro v' wk hown' hgrow _
                  have O6 : Own wk W.heap.size v' (ts ++ [zz]) := own_push (w := wj) (v := .slice a2 q c2) (by simpa [HQ.out] using hown')
                  have C6 : Hid (Cur wk g ao n c (M + 34 + 2 + 2 + 2)) := (C5.out.alloc _).grown hgrow hob hgl' HOW.out
                  have G6 : Hid (GB g W wk) := (G5.out.alloc _).grown hgrow hob
                  have H6 : wk.heap[wf.heap.size]? = some (.cells #[.slice a2 q c2] 25 (0, 0)) := (hgrow.block wf.heap.size (by simp; omega) (sep_ne (sep_obj O5.out H5.out))).trans (((balloc wj _).block wf.heap.size hsj).trans H5.out)
                  obtain ⟨a3, c3, hv⟩ := O6.shape
                  have hl6 : (ts ++ [zz]).length = q + 1 := by rw [List.length_append, HQ.out]; rfl
                  rw [hl6] at hv
                  subst hv
                  have cK : wk.cell? ⟨wf.heap.size, 0, none⟩ = some (.slice a2 q c2) := cell_obj H6
                  have fK : wk.frozen? ⟨wf.heap.size, 0, none⟩ = false := frozen_obj H6
                  have O7 : Hid (Own wk W.heap.size (.slice a3 (q + 1) c3) (ts ++ [zz])) := O6
                  have HSP := sep_obj O6 H6
                  clear hown' hgrow hown hob O6 C5 G5 O5 H5 hone
                  refine hK.out _ _ trivial (fun hHeld => ?_)
                  clear hK K hHeld
                  try simp only [Act.put, List.setIfInBounds_toArray, List.set_cons_zero, List.set_cons_succ]
                  refine takeG (i := 7) (oi := _) (v := ?_) (d := some 43) rfl (by kernel_rfl) (by kernel_rfl) (by kernel_rfl) (by kernel_rfl) (fun _ _ _ h => h) (Or.inl ⟨by rfl, ?_⟩) (by assumption) ?_
                  rotate_left
                  · (intro w hSw; (try dsimp only at hSw); go_simp <;> with_reducible rfl)
                  try simp only [Act.put, List.setIfInBounds_toArray, List.set_cons_zero, List.set_cons_succ]
                  have hgs : wk.grownBy (wk.setCell ⟨wf.heap.size, 0, none⟩ (.slice a3 (q + 1) c3)) (some wf.heap.size) := (GB.refl wf.heap.size wk).setCell _ _
                  have O8 : Hid (Own (wk.setCell ⟨wf.heap.size, 0, none⟩ (.slice a3 (q + 1) c3)) W.heap.size (.slice a3 (q + 1) c3) (ts ++ [zz])) := O7.out.kept hgs HSP
                  have C8 : Hid (Cur (wk.setCell ⟨wf.heap.size, 0, none⟩ (.slice a3 (q + 1) c3)) g ao n c (M + 34 + 2 + 2 + 2)) := C6.out.grown (B := W.heap.size) hgs (fun k hk => by simp at hk; omega) hgl' HOW.out
                  have G8 : Hid (GB g W (wk.setCell ⟨wf.heap.size, 0, none⟩ (.slice a3 (q + 1) c3))) := G6.out.grown hgs (fun k hk => by simp at hk; omega)
                  have c8 : (wk.setCell ⟨wf.heap.size, 0, none⟩ (.slice a3 (q + 1) c3)).cell? ⟨wf.heap.size, 0, none⟩ = some (.slice a3 (q + 1) c3) := World.cell?_setCell_same _ _ _ cK
                  clear hgs HSP C6 G6 O7 H6
                  refine wpAnyH_ready (rs := [8]) (by kernel_rfl) (by simp) ?_
                  refine AllReadyH.cons (o := _) rfl (fun K hK => ?_) AllReadyH.nil
                  go_simp
                  refine hK.out _ _ trivial (fun hHeld => ?_)
                  clear hK K hHeld cK fK
                  try simp only [Act.put, List.setIfInBounds_toArray, List.set_cons_zero, List.set_cons_succ]
                  generalize wk.setCell ⟨wf.heap.size, 0, none⟩ (.slice a3 (q + 1) c3) = wl at O8 C8 G8 c8 ⊢
                  refine wpAnyH_done (by kernel_rfl) ?_ _
                  have cR := (box_kept G8.out (r := w.heap.size) (by omega) (by omega)).1 _ hBx.1
                  have fR := (box_kept G8.out (r := w.heap.size) (by omega) (by omega)).2 hBx.2
                  go_wp2
                  obtain ⟨e1, e2, e3⟩ := big_end hWs hgl HOld.out HWG.out C8.out G8.out O8.out (.slice a3 (q + 1) c3)
                  refine bodyPost_ret (v := .agg #[.slice a3 (q + 1) c3]) (by simp [results, Tryd.results27, go_sem, cR]) rfl ⟨a3, q + 1, c3, ts ++ [zz], rfl, by omega, hl6, e1, e2.mono (by omega), e3⟩

end Go.Proofs.YtaedplfihjfchaaDoor

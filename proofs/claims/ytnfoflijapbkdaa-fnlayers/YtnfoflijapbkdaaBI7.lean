/- Chapter 7: onions built, the program: a range over a function whose rounds write. -/
import Derived.Test.YtnfoflijapbkdaaBK7
namespace Go.Proofs.Ytnfoflijapbkdaa
set_option linter.unusedVariables false
set_option maxRecDepth 1000000
set_option linter.unusedSimpArgs false
open Go.RowKit Go.Shelf

attribute [local go_sem] Oper.semAt_some

/-- The onion behind the places pre. -/
def foldF (xs ys : List Int) (b : Bs) {n : Nat} (pre : List (Fin n)) : Bs := pre.foldl (fun s i => putB (padU (xs.getD i.val 0)) (UInt8.ofNat (ys.getD i.val 0).toNat) s) b
theorem foldF_snoc (xs ys : List Int) (b : Bs) {n : Nat} (pre : List (Fin n)) (i : Fin n) : foldF xs ys b (pre ++ [i]) = putB (padU (xs.getD i.val 0)) (UInt8.ofNat (ys.getD i.val 0).toNat) (foldF xs ys b pre) := by simp [foldF]
theorem foldF_length {xs ys : List Int} {b : Bs} {n : Nat} (hx : xs.length = n) (ha : allIn 0 65535 xs = true) (hb : b.length = 24) : ∀ (pre : List (Fin n)), (foldF xs ys b pre).length = 24 := by
  intro pre
  unfold foldF
  induction pre generalizing b with
  | nil => exact hb
  | cons i r ih =>
    rw [List.foldl_cons]
    refine ih (putB_length (padU_length ?_) hb)
    have := allIn_get ha (j := i.val) (by rw [hx]; exact i.isLt)
    unfold blockB; exact decide_eq_true this
theorem foldF_dn {xs ys : List Int} {s : Bs} {n : Nat} (hx : xs.length = n) (hy : ys.length = n) : ∀ k, k ≤ n → foldF xs ys (buildB [] s) (dnF n k) = buildB ((layersL xs ys).drop (n - k)) s
  | 0, _ => by rw [List.drop_of_length_le (by rw [layers_length (by omega), hx]; omega)]; rfl
  | k + 1, h => by
    have hlt : n - 1 - k < n := by omega
    rw [dnF_succ n k hlt, foldF_snoc, foldF_dn hx hy k (by omega), show n - (k + 1) = n - 1 - k by omega, layers_drop (by omega) (j := n - 1 - k) (by omega), buildB, show n - 1 - k + 1 = n - k by omega]

set_option maxRecDepth 100000 in
set_option maxHeartbeats 4000000 in
theorem implBuild_at (bo : Option Addr) (b off n c d : Nat) (s : ByteArray) (xs ys : List Int) (w : World) (hx : xs.length = n) (hy : ys.length = n) (h1 : 1 ≤ n) (h4 : n ≤ 4) (ha : allIn 0 65535 xs = true) (hh : allIn 1 250 ys = true) (hs : s.size < 16) (hr : Rd w (some ⟨b, off, none⟩) xs) (hq : Rd w bo ys) :
    Calls Try.prog 14 #[.slice (some ⟨b, off, none⟩) n c, .slice bo n d, .string s] w fun e w' => e = .returned (.tuple #[.string (tx (buildB (layersL xs ys) (bl s))), .bool true]) ∧ Below w.heap.size w w' := by
  have HPB : Hid (∀ wx, Calls Try.prog 24 #[.string s] wx fun e w' => e = .returned (.tuple #[.string (tx (padB (bl s))), .bool true]) ∧ Below wx.heap.size wx w') := fun wx => implPadBody_c s wx (by omega) _ _ (by unfold padBF; rw [if_pos hs])
  have HF1 : Hid (∀ wx, Rd wx (some ⟨b, off, none⟩) xs → Calls Try.prog 45 #[.slice (some ⟨b, off, none⟩) n c, .int .i64 4, .func (.func 46) #[] #[]] wx fun e w' => e = .returned (.bool true) ∧ w' = wx) := fun wx h => by
    have := areFewBlk_c _ n c xs wx hx (by omega) h
    rwa [hx, decide_eq_true h4, show xs.all (inB 0 65535) = true from ha] at this
  have HF2 : Hid (∀ wx, Rd wx bo ys → Calls Try.prog 45 #[.slice bo n d, .int .i64 4, .func (.func 47) #[] #[]] wx fun e w' => e = .returned (.bool true) ∧ w' = wx) := fun wx h => by
    have := areFewHop_c bo n d ys wx hy (by omega) h
    rwa [hy, decide_eq_true h4, show ys.all (inB 1 250) = true from hh] at this
  obtain ⟨M, hmk, hrow⟩ := make_run 24 (by omega)
  have hmk24 : ∀ W : World, (Instr.makeSlice 22 (.int .i64 24) (.int .i64 24)).run Try.prog W = .ok (.slice (some ⟨W.heap.size, 0, none⟩) 24 24) (W.alloc (.cells M 5)) := hmk
  have HROW : Hid (∀ W : World, RowB (W.alloc (.cells M 5)) W.heap.size (zeros 24)) := hrow
  have hne : ((n : Int) == 0) = false := by rw [beq_eq_false_iff_ne]; omega
  have hnn : ((n : Int) != (n : Int)) = false := by simp
  have HX : Hid (xs.length = n) := hx
  have HY : Hid (ys.length = n) := hy
  have HA : Hid (allIn 0 65535 xs = true) := ha
  have HH : Hid (allIn 1 250 ys = true) := hh
  have HBL : Hid ((bl s).length < 16) := by show _ < _; rw [bl_length]; exact hs
  have HR : Hid (Rd w (some ⟨b, off, none⟩) xs) := hr
  have HQ : Hid (Rd w bo ys) := hq
  have HB0 : Hid (Below w.heap.size w (w.alloc (.cells #[.slice bo n d] 23))) := balloc w _
  have hbx : (w.alloc (.cells #[.slice bo n d] 23)).cell? ⟨w.heap.size, 0, none⟩ = some (.slice bo n d) := by simp
  have HBX : Hid ((w.alloc (.cells #[.slice bo n d] 23)).cell? ⟨w.heap.size, 0, none⟩ = some (.slice bo n d)) := hbx
  clear hx hy ha hh hs hr hq hmk hrow hbx
  have f1 : Fence.wide.fn 24 := trivial
  have f2 : Fence.wide.fn 45 := trivial
  have f3 : Fence.wide.fn 48 := trivial
  have f4 : Fence.wide.fn 49 := trivial
  refine (callsIn_wide (n := 3)).1 ?_
  refine callsIn_of_wp_marks Try.func14 rfl trivial ?_ rfl
  simp only [Try.ntmps14, List.size_toArray, List.length_cons, List.length_nil, Nat.reduceAdd, Nat.reduceSub, Array.replicate_succ, Array.replicate_zero, List.push_toArray, List.append_toArray, List.nil_append, List.cons_append]
  gi_wp2_with (first | (gi_at_call 24; refine (callsIn_wide.2 (HPB.out _)).mono ?_; rintro e W1 ⟨rfl, hb⟩; have HB1 : Hid (Below w.heap.size w W1) := HB0.out.trans (hb.mono HB0.out.size); have hx1 : W1.cell? ⟨w.heap.size, 0, none⟩ = some (.slice bo n d) := cell_keep (S := 0) hb HBX.out; clear hb HPB HB0 HBX) | (gi_at_call 45; have _t := HF1; refine (callsIn_wide.2 (HF1.out _ (HR.out.later HB1.out))).mono ?_; clear HF1; rintro e w' ⟨rfl, hw⟩; subst w') | (gi_at_call 45; refine (callsIn_wide.2 (HF2.out _ (HQ.out.later HB1.out))).mono ?_; clear HF2; rintro e w' ⟨rfl, hw⟩; subst w'))
  have hpl : (padB (bl s)).length = 16 := padB_length HBL.out
  have hz24 : (zeros 24).length = 24 := by simp [zeros]
  have hr0 : RowB ((W1.alloc (.cells M 5)).alloc (.cells #[.slice (some ⟨W1.heap.size, 0, none⟩) 24 24] 22)) W1.heap.size (zeros 24) := (HROW.out W1).later (balloc _ _)
  have hcp : ∀ ty, (Builtin.copy_ #[22, 9] ty #[.slice (some ⟨W1.heap.size, 0, none⟩) 24 24, .string (tx (padB (bl s)))]).run Try.prog ((W1.alloc (.cells M 5)).alloc (.cells #[.slice (some ⟨W1.heap.size, 0, none⟩) 24 24] 22)) = .ok (.int .i64 16) (((W1.alloc (.cells M 5)).alloc (.cells #[.slice (some ⟨W1.heap.size, 0, none⟩) 24 24] 22)).setCells W1.heap.size 0 (cellsB (padB (bl s)))) := fun ty => by
    have h := run_copy_string (P := Try.prog) ((W1.alloc (.cells M 5)).alloc (.cells #[.slice (some ⟨W1.heap.size, 0, none⟩) 24 24] 22)) 22 9 ty 5 W1.heap.size 0 24 24 (tx (padB (bl s))) Try.underlying22 (fun w => by kernel_rfl) (by rw [tx_size, hpl]; omega) (fun j hj => by rw [tx_size, hpl] at hj; rw [Nat.zero_add, hr0.1 j (by rw [hz24]; omega)]; rfl) (fun j hj => by rw [tx_size, hpl] at hj; rw [Nat.zero_add]; exact hr0.2 j (by rw [hz24]; omega))
    rw [h, tx_size, hpl]
    rfl
  have hr1 := hr0.sets (o := 0) (m := padB (bl s)) (by rw [hz24, hpl]; omega)
  rw [show overB (zeros 24) 0 (padB (bl s)) = buildB [] (bl s) by unfold overB; rw [hpl]; rfl] at hr1
  have hg1 := grown_setCells W1.heap.size (cellsB (padB (bl s))) 0 ((W1.alloc (.cells M 5)).alloc (.cells #[.slice (some ⟨W1.heap.size, 0, none⟩) 24 24] 22))
  have hS1 : w.heap.size < W1.heap.size := World.block_lt_of_cell? _ _ hx1
  have hbx1 : ((W1.alloc (.cells M 5)).alloc (.cells #[.slice (some ⟨W1.heap.size, 0, none⟩) 24 24] 22)).cell? ⟨w.heap.size, 0, none⟩ = some (.slice bo n d) := calloc (calloc hx1)
  have hox1 : ((W1.alloc (.cells M 5)).alloc (.cells #[.slice (some ⟨W1.heap.size, 0, none⟩) 24 24] 22)).cell? ⟨W1.heap.size + 1, 0, none⟩ = some (.slice (some ⟨W1.heap.size, 0, none⟩) 24 24) := by
    simp
  have hBV0 : Below w.heap.size w ((W1.alloc (.cells M 5)).alloc (.cells #[.slice (some ⟨W1.heap.size, 0, none⟩) 24 24] 22)) := (HB1.out.alloc HB1.out.size _).alloc (by have := HB1.out.size; simp; omega) _
  have hSV0 : ((W1.alloc (.cells M 5)).alloc (.cells #[.slice (some ⟨W1.heap.size, 0, none⟩) 24 24] 22)).heap.size = W1.heap.size + 1 + 1 := by simp
  obtain ⟨V0, hV0⟩ : ∃ V0, (W1.alloc (.cells M 5)).alloc (.cells #[.slice (some ⟨W1.heap.size, 0, none⟩) 24 24] 22) = V0 := ⟨_, rfl⟩
  rw [hV0] at hcp hr1 hg1 hbx1 hox1 hBV0 hSV0 ⊢
  generalize V0.setCells W1.heap.size 0 (cellsB (padB (bl s))) = V at hcp hr1 hg1
  have hbxV : V.cell? ⟨w.heap.size, 0, none⟩ = some (.slice bo n d) := (World.cell?_of_block (w := V0) (a := ⟨w.heap.size, 0, none⟩) (hg1.block w.heap.size (by omega) (by simp; omega))).trans hbx1
  have hoxV : V.cell? ⟨W1.heap.size + 1, 0, none⟩ = some (.slice (some ⟨W1.heap.size, 0, none⟩) 24 24) := (World.cell?_of_block (w := V0) (a := ⟨W1.heap.size + 1, 0, none⟩) (hg1.block (W1.heap.size + 1) (by omega) (by simp))).trans hox1
  have hBV : Below w.heap.size w V := hBV0.trans (below_grown hg1 (by omega) (by omega))
  have hSV : W1.heap.size + 1 < V.heap.size := by have := hg1.size; omega
  have HFACT : Hid (RowB V W1.heap.size (buildB [] (bl s)) ∧ V.cell? ⟨w.heap.size, 0, none⟩ = some (.slice bo n d) ∧ V.cell? ⟨W1.heap.size + 1, 0, none⟩ = some (.slice (some ⟨W1.heap.size, 0, none⟩) 24 24) ∧ Below w.heap.size w V ∧ W1.heap.size + 1 < V.heap.size ∧ w.heap.size < W1.heap.size) := ⟨hr1, hbxV, hoxV, hBV, hSV, hS1⟩
  obtain ⟨tp, htp⟩ : ∃ tp, tx (padB (bl s)) = tp := ⟨_, rfl⟩
  rw [htp] at hcp ⊢
  clear hpl hz24 hr0 hr1 hg1 hS1 hbx1 hox1 hBV0 hSV0 hbxV hoxV hBV hSV hV0 htp hx1 HB1 HROW hmk24
  rw [hcp]
  simp only [Result.andThen_ok]
  gi_wp2_with (gi_at_call 48; refine (backward_in Fence.wide 2 trivial rfl _ _ _ _).mono ?_; rintro e w' ⟨rfl, rfl⟩)
  clear hcp
  obtain ⟨hrV, hbxV, hoxV, hBV, hSV, hS1⟩ := HFACT.out
  have hkc : ∀ j, j < n → (V.alloc (.cells #[.slice (some ⟨b, off, none⟩) n c] 23)).cell? ⟨b, off + j, none⟩ = some (.int .i64 (xs.getD j 0)) := fun j hj => by
    obtain ⟨b', o', e, hc⟩ := Rd.get7 (HR.out.later hBV) (k := j) (by rw [HX.out]; exact hj)
    cases e
    exact calloc hc
  have hbw : b < w.heap.size := by
    obtain ⟨b', o', e, hc⟩ := Rd.get7 HR.out (k := 0) (by rw [HX.out]; omega)
    cases e
    exact World.block_lt_of_cell? w _ hc
  have hcV : (V.alloc (.cells #[.slice (some ⟨b, off, none⟩) n c] 23)).cell? ⟨V.heap.size, 0, none⟩ = some (.slice (some ⟨b, off, none⟩) n c) := by simp
  refine wpIn_rangeFunc_ownG rfl (by omega) (gf := 71) (lb := #[.pointer (some ⟨V.heap.size, 0, none⟩)]) rfl trivial (enters_of Try.func71 (by kernel_rfl) rfl)
    (backward_stops Fence.wide (3 - 1) trivial rfl (by omega) V.heap.size w.heap.size b off n c xs (by omega) (V.alloc (.cells #[.slice (some ⟨b, off, none⟩) n c] 23)) (by simp) (by simp; omega) hbw hcV hkc) KpB.trans (KpB_b (by simp; omega) (by simp)) (Below.refl _ _) (fun _ => rfl)
    (fun pre W => V.heap.size + 1 ≤ W.heap.size ∧ RowB W W1.heap.size (foldF xs ys (buildB [] (bl s)) pre) ∧ W.cell? ⟨w.heap.size, 0, none⟩ = some (.slice bo n d) ∧ W.cell? ⟨W1.heap.size + 1, 0, none⟩ = some (.slice (some ⟨W1.heap.size, 0, none⟩) 24 24) ∧ W.cell? ⟨V.heap.size, 0, none⟩ = some (.slice (some ⟨b, off, none⟩) n c) ∧ Below w.heap.size w W)
    (fun _ _ _ => False)
    ?own
    (fun _ _ _ _ _ hs _ _ => hs)
    ⟨by simp, hrV.later (balloc _ _), calloc hbxV, calloc hoxV, hcV, hBV.alloc hBV.size _⟩
    (fun x => { tmps := #[.slice (some ⟨b, off, none⟩) n c, .slice bo n d, .string s, undef, .pointer (some ⟨w.heap.size, 0, none⟩), undef, .string ⟨#[]⟩, .bool false, .string tp, .bool true, .pointer (some ⟨W1.heap.size + 1, 0, none⟩), .int .i64 (x.val : Int), .int .i64 (xs.getD x.val 0), .tuple #[.string tp, .bool true], .string s, .tuple #[.string tp, .bool true], .string tp, .bool true, .bool true, .bool false, .bool false, .slice (some ⟨b, off, none⟩) n c, .int .i64 (n : Int), .bool false, .bool false, .bool false, .slice (some ⟨b, off, none⟩) n c, .int .i64 (n : Int), .slice bo n d, .int .i64 (n : Int), .bool false, .bool false, .slice (some ⟨b, off, none⟩) n c, .bool true, .bool false, .bool false, .slice bo n d, .bool true, .bool false, .bool false, .slice (some ⟨W1.heap.size, 0, none⟩) 24 24, .slice (some ⟨W1.heap.size, 0, none⟩) 24 24, .string tp, .int .i64 16, .slice (some ⟨b, off, none⟩) n c, .func (.func 71) #[] #[.pointer (some ⟨V.heap.size, 0, none⟩)], .int .i64 (x.val : Int), .int .i64 (xs.getD x.val 0), undef, undef, undef, undef, undef, undef, undef, undef, undef], defers := [] }) ?assign ?body ?done ?stop
  case own =>
    intro pre W W' row ⟨i1, i2, i3, i4, i5, i6⟩ hg hrow
    have hbl : Below (V.heap.size + 1) W W' := ⟨hg.os, hg.tape, hg.output, hg.size, fun k hk => hg.block k (by omega) (fun e => by have := (hrow k e.symm).1; simp at this; omega)⟩
    refine ⟨Nat.le_trans i1 hg.size, ⟨fun j hj => ?_, fun j hj => ?_⟩, ?_, ?_, ?_, i6.trans (hbl.mono (by omega))⟩
    · rw [hbl.cell (p := ⟨W1.heap.size, j, none⟩) (by show W1.heap.size < _; omega)]; exact i2.1 j hj
    · rw [hbl.frozen (p := ⟨W1.heap.size, j, none⟩) (by show W1.heap.size < _; omega)]; exact i2.2 j hj
    · rw [hbl.cell (p := ⟨w.heap.size, 0, none⟩) (by show w.heap.size < _; omega)]; exact i3
    · rw [hbl.cell (p := ⟨W1.heap.size + 1, 0, none⟩) (by show W1.heap.size + 1 < _; omega)]; exact i4
    · rw [hbl.cell (p := ⟨V.heap.size, 0, none⟩) (by show V.heap.size < _; omega)]; exact i5
  case assign =>
    intro l x W K hK
    gi_wp2
    exact hK
  case body =>
    rintro l pre x W ⟨i1, i2, i3, i4, i5, i6⟩ hlt
    dsimp only
    have hxn := x.isLt
    obtain ⟨b2, o2, rfl, g2⟩ := Rd.get7 (HQ.out.later i6) (k := x.val) (by rw [HY.out]; exact hxn)
    have hkey := allIn_get HA.out (j := x.val) (by rw [HX.out]; exact hxn)
    have hhop := allIn_get HH.out (j := x.val) (by rw [HY.out]; exact hxn)
    have hbk : blockB (xs.getD x.val 0) = true := by unfold blockB; exact decide_eq_true hkey
    have HLn : Hid ((foldF xs ys (buildB [] (bl s)) pre).length = 24) := foldF_length HX.out HA.out (buildB_length HBL.out [] (fun _ h => by cases h)) pre
    have HSN : Hid (foldF xs ys (buildB [] (bl s)) (pre ++ [x]) = putB (padU (xs.getD x.val 0)) (UInt8.ofNat (ys.getD x.val 0).toNat) (foldF xs ys (buildB [] (bl s)) pre)) := foldF_snoc _ _ _ _ _
    have HRB : Hid (RowB W W1.heap.size (foldF xs ys (buildB [] (bl s)) pre)) := i2
    generalize foldF xs ys (buildB [] (bl s)) pre = L at HLn HSN HRB
    generalize xs.getD x.val 0 = key at hkey hbk HSN ⊢
    generalize ys.getD x.val 0 = hop at hhop g2 HSN
    obtain ⟨H, rfl⟩ : ∃ H : Nat, hop = H := ⟨hop.toNat, by omega⟩
    rw [Int.toNat_natCast] at HSN
    have HPL : Hid (∀ wx, RowB wx W1.heap.size L → Calls Try.prog 49 #[.slice (some ⟨W1.heap.size, 0, none⟩) 24 24, .int .i64 key, .int .i64 (H : Int)] wx fun e w' => e = .returned (.tuple #[]) ∧ RowB w' W1.heap.size (putB (padU key) (UInt8.ofNat H) L) ∧ wx.grownBy w' (some W1.heap.size)) := fun wx h => putLayer_c W1.heap.size 24 H key L wx HLn.out (by omega) hbk (by omega) h
    have HI : Hid (V.heap.size + 1 ≤ W.heap.size ∧ W.cell? ⟨w.heap.size, 0, none⟩ = some (.slice (some ⟨b2, o2, none⟩) n d) ∧ W.cell? ⟨W1.heap.size + 1, 0, none⟩ = some (.slice (some ⟨W1.heap.size, 0, none⟩) 24 24) ∧ W.cell? ⟨V.heap.size, 0, none⟩ = some (.slice (some ⟨b, off, none⟩) n c) ∧ Below w.heap.size w W) := ⟨i1, i3, i4, i5, i6⟩
    have j0 : (0 : Int) ≤ (x.val : Int) := by omega
    have j1 : (x.val : Int) < (n : Int) := by omega
    have hmx : Try.prog.follows .mixedOrders = true := by kernel_rfl
    have hd : 1 ≤ 3 - 1 - 1 := by omega
    have HSS : Hid (W1.heap.size + 1 < V.heap.size ∧ w.heap.size < W1.heap.size) := ⟨hSV, hS1⟩
    have HEND : Hid (∀ w', RowB w' W1.heap.size (putB (padU key) (UInt8.ofNat H) L) → W.drew.grownBy w' (some W1.heap.size) → KeepsFrom (V.alloc (.cells #[.slice (some ⟨b, off, none⟩) n c] 23)).heap.size W w' ∧ KpB w.heap.size V.heap.size W w' ∧ V.heap.size + 1 ≤ w'.heap.size ∧ RowB w' W1.heap.size (foldF xs ys (buildB [] (bl s)) (pre ++ [x])) ∧ w'.cell? ⟨w.heap.size, 0, none⟩ = some (.slice (some ⟨b2, o2, none⟩) n d) ∧ w'.cell? ⟨W1.heap.size + 1, 0, none⟩ = some (.slice (some ⟨W1.heap.size, 0, none⟩) 24 24) ∧ w'.cell? ⟨V.heap.size, 0, none⟩ = some (.slice (some ⟨b, off, none⟩) n c) ∧ Below w.heap.size w w') := fun w' hr hg => by
      have hg' : W.grownBy w' (some W1.heap.size) := grown_trans (grown_below (Below.refl _ _).drew) hg
      have hcell : ∀ g v, g ≠ W1.heap.size → W.cell? ⟨g, 0, none⟩ = some v → w'.cell? ⟨g, 0, none⟩ = some v := fun g v hne h => by
        rw [World.cell?_of_block (w := W) (a := ⟨g, 0, none⟩) (hg'.block g (World.block_lt_of_cell? W _ h) (by simpa using hne))]; exact h
      have hbb : Below w.heap.size W w' := below_grown hg' (by omega) (by omega)
      refine ⟨⟨hg'.size, fun k o hk h1 h2 => ?_⟩, ⟨hbb, fun v hv => hcell _ _ (by omega) hv⟩, Nat.le_trans i1 hg'.size, by rw [HSN.out]; exact hr, hcell _ _ (by omega) i3, hcell _ _ (by omega) i4, hcell _ _ (by omega) i5, i6.trans hbb⟩
      have hk' : V.heap.size + 1 ≤ k := by simpa using hk
      rw [hg'.block k (Array.getElem?_eq_some_iff.1 h1).1 (by simp; omega)]
      exact h1
    clear i1 i2 i5 i6 hkey hhop hbk hlt hrV hbxV hoxV hBV hkc hcV hbw HFACT hSV hS1
    generalize hxv : x.val = xv at *
    clear hxv hxn
    gi_wp2
    gi_region_with_o (gi_at_call 49; refine (CallsIn.inRound l (callsIn_wide.2 (HPL.out _ (HRB.out.later (Below.refl _ _).drew)))).mono ?_; rintro e w' ⟨rfl, hr, hg⟩)
    all_goals gi_wp2
    all_goals exact HEND.out _ hr hg
  case done =>
    rintro D zs W hD rfl ⟨i1, i2, i3, i4, i5, i6⟩ hK
    rw [foldF_dn HX.out HY.out n (Nat.le_refl _), Nat.sub_self, List.drop_zero] at i2
    have hll : (buildB (layersL xs ys) (bl s)).length = 24 := buildB_length HBL.out _ (layers_pads HA.out)
    have hcv := i2.text 24 24 hll
    dsimp only
    obtain ⟨tn, htn⟩ : ∃ tn, tx (buildB (layersL xs ys) (bl s)) = tn := ⟨_, rfl⟩
    have HTN : Hid (tx (buildB (layersL xs ys) (bl s)) = tn) := htn
    rw [htn] at hcv
    clear htn hll i2 i1 i3 i5 hrV hbxV hoxV hkc hcV hbw HFACT
    gi_wp2
    refine ⟨by simp, .inl ⟨_, _, rfl, run_takeDeferred hK, ?_⟩⟩
    exact ⟨.tuple #[.string tn, .bool true], by simp [results, Try.results14, go_sem]; try rfl, by rw [HTN.out], i6.trans (belowK_b (w := w) (Nat.le_refl _) W D _ _ (by simp at hD; omega) hK rfl rfl)⟩
  case stop =>
    rintro D c pre W _ _ h _
    exact h.elim

set_option maxHeartbeats 1000000 in
theorem implBuild_c (ao : Option Addr) (n c : Nat) (bo : Option Addr) (m d : Nat) (s : ByteArray) (xs ys : List Int) (w : World) (hx : xs.length = n) (hy : ys.length = m) (hn : n ≤ 17592186044416) (hm : m ≤ 17592186044416) (hz : s.size ≤ 17592186044416) (hr : Rd w ao xs) (hq : Rd w bo ys) (t : ByteArray) (fb : Bool) (hF : buildF xs ys s = (t, fb)) :
    Calls Try.prog 14 #[.slice ao n c, .slice bo m d, .string s] w fun e w' => e = .returned (.tuple #[.string t, .bool fb]) ∧ Below w.heap.size w w' := by
  obtain ⟨tp, pf, hP⟩ : ∃ tp pf, padBF s = (tp, pf) := ⟨_, _, rfl⟩
  have hpf : pf = decide (s.size < 16) := by
    unfold padBF at hP
    by_cases h : s.size < 16
    · rw [if_pos h] at hP; rw [decide_eq_true h]; exact (Prod.mk.inj hP).2.symm
    · rw [if_neg h] at hP; rw [decide_eq_false h]; exact (Prod.mk.inj hP).2.symm
  have HPB : Hid (∀ wx, Calls Try.prog 24 #[.string s] wx fun e w' => e = .returned (.tuple #[.string tp, .bool pf]) ∧ Below wx.heap.size wx w') := fun wx => implPadBody_c s wx hz tp pf hP
  have HF1 : Hid (∀ wx, Rd wx ao xs → Calls Try.prog 45 #[.slice ao n c, .int .i64 4, .func (.func 46) #[] #[]] wx fun e w' => e = .returned (.bool (decide (n ≤ 4) && allIn 0 65535 xs)) ∧ w' = wx) := fun wx h => by
    have := areFewBlk_c ao n c xs wx hx hn h
    rwa [hx] at this
  have HF2 : Hid (∀ wx, Rd wx bo ys → Calls Try.prog 45 #[.slice bo m d, .int .i64 4, .func (.func 47) #[] #[]] wx fun e w' => e = .returned (.bool (decide (m ≤ 4) && allIn 1 250 ys)) ∧ w' = wx) := fun wx h => by
    have := areFewHop_c bo m d ys wx hy hm h
    rwa [hy] at this
  have HR : Hid (Rd w ao xs) := hr
  have HQ : Hid (Rd w bo ys) := hq
  have HB0 : Hid (Below w.heap.size w (w.alloc (.cells #[.slice bo m d] 23))) := balloc w _
  have HBX : Hid ((w.alloc (.cells #[.slice bo m d] 23)).cell? ⟨w.heap.size, 0, none⟩ = some (.slice bo m d)) := by show _ = _; simp
  have hgg : buildG xs ys s = (decide (1 ≤ n ∧ n ≤ 4) && (allIn 0 65535 xs && (decide (m = n) && (allIn 1 250 ys && decide (s.size < 16))))) := by unfold buildG; rw [hx, hy]
  by_cases h5 : s.size < 16
  · rw [decide_eq_true h5] at hpf
    subst hpf
    by_cases h0 : n = 0
    · have i0 : ((n : Int) == 0) = true := by rw [beq_iff_eq]; omega
      have hG : buildG xs ys s = false := by rw [hgg]; rw [decide_eq_false (show ¬ (1 ≤ n ∧ n ≤ 4) by omega)]; simp
      rw [buildF_no hG] at hF
      simp only [Prod.mk.injEq] at hF
      obtain ⟨rfl, rfl⟩ := hF
      clear hG hgg hr hq hx hy hP h5 h0
      go_enter Try.func14, Try.ntmps14
      go_wp2_with (first | (go_at_call 24; refine (HPB.out _).mono ?_; rintro e W1 ⟨rfl, hb⟩; have HB1 : Hid (Below w.heap.size w W1) := HB0.out.trans (hb.mono HB0.out.size); have hx1 : W1.cell? ⟨w.heap.size, 0, none⟩ = some (.slice bo m d) := cell_keep (S := 0) hb HBX.out; clear hb HPB HB0 HBX))
      refine bodyPost_ret (v := .tuple #[.string ByteArray.empty, .bool false]) (by simp [results, Try.results14, go_sem]; try rfl) rfl ?_
      exact ⟨rfl, HB1.out⟩
    · have i0 : ((n : Int) == 0) = false := by rw [beq_eq_false_iff_ne]; omega
      by_cases h3 : n = m
      · have i3 : ((n : Int) != (m : Int)) = false := by rw [bne_eq_false_iff_eq]; omega
        cases h2 : (decide (n ≤ 4) && allIn 0 65535 xs) with
        | false =>
          rw [h2] at HF1
          have hG : buildG xs ys s = false := by rw [hgg]; rcases Bool.and_eq_false_iff.1 h2 with h | h <;> simp_all
          rw [buildF_no hG] at hF
          simp only [Prod.mk.injEq] at hF
          obtain ⟨rfl, rfl⟩ := hF
          clear hG hgg hr hq hx hy hP h5 h0 h3 h2
          go_enter Try.func14, Try.ntmps14
          go_wp2_with (first | (go_at_call 24; refine (HPB.out _).mono ?_; rintro e W1 ⟨rfl, hb⟩; have HB1 : Hid (Below w.heap.size w W1) := HB0.out.trans (hb.mono HB0.out.size); have hx1 : W1.cell? ⟨w.heap.size, 0, none⟩ = some (.slice bo m d) := cell_keep (S := 0) hb HBX.out; clear hb HPB HB0 HBX) | (go_at_call 45; have _t := HF1; refine (HF1.out _ (HR.out.later HB1.out)).mono ?_; clear HF1; rintro e w' ⟨rfl, hw⟩; subst w'))
          refine bodyPost_ret (v := .tuple #[.string ByteArray.empty, .bool false]) (by simp [results, Try.results14, go_sem]; try rfl) rfl ?_
          exact ⟨rfl, HB1.out⟩
        | true =>
          rw [h2] at HF1
          obtain ⟨h4, ha⟩ : n ≤ 4 ∧ allIn 0 65535 xs = true := by simpa using h2
          cases h6 : (decide (m ≤ 4) && allIn 1 250 ys) with
          | false =>
            rw [h6] at HF2
            have hG : buildG xs ys s = false := by rw [hgg]; rcases Bool.and_eq_false_iff.1 h6 with h | h <;> simp_all
            rw [buildF_no hG] at hF
            simp only [Prod.mk.injEq] at hF
            obtain ⟨rfl, rfl⟩ := hF
            clear hG hgg hr hq hx hy hP h5 h0 h3 h2 h6 h4 ha
            go_enter Try.func14, Try.ntmps14
            go_wp2_with (first | (go_at_call 24; refine (HPB.out _).mono ?_; rintro e W1 ⟨rfl, hb⟩; have HB1 : Hid (Below w.heap.size w W1) := HB0.out.trans (hb.mono HB0.out.size); have hx1 : W1.cell? ⟨w.heap.size, 0, none⟩ = some (.slice bo m d) := cell_keep (S := 0) hb HBX.out; clear hb HPB HB0 HBX) | (go_at_call 45; have _t := HF1; refine (HF1.out _ (HR.out.later HB1.out)).mono ?_; clear HF1; rintro e w' ⟨rfl, hw⟩; subst w') | (go_at_call 45; refine (HF2.out _ (HQ.out.later HB1.out)).mono ?_; clear HF2; rintro e w' ⟨rfl, hw⟩; subst w'))
            refine bodyPost_ret (v := .tuple #[.string ByteArray.empty, .bool false]) (by simp [results, Try.results14, go_sem]; try rfl) rfl ?_
            exact ⟨rfl, HB1.out⟩
          | true =>
            obtain ⟨h7, hh⟩ : m ≤ 4 ∧ allIn 1 250 ys = true := by simpa using h6
            subst h3
            have hG : buildG xs ys s = true := by rw [hgg, ha, hh, decide_eq_true h5, decide_eq_true (show 1 ≤ n ∧ n ≤ 4 by omega)]; simp
            rw [buildF_yes hG] at hF
            simp only [Prod.mk.injEq] at hF
            obtain ⟨rfl, rfl⟩ := hF
            obtain ⟨b, o, rfl, _⟩ := Rd.get7 hr (k := 0) (by omega)
            exact implBuild_at bo b o n c d s xs ys w hx hy (by omega) h4 ha hh h5 hr hq
      · have i3 : ((n : Int) != (m : Int)) = true := by rw [bne_iff_ne]; omega
        have hG : buildG xs ys s = false := by rw [hgg]; rw [decide_eq_false (show ¬ m = n by omega)]; simp
        rw [buildF_no hG] at hF
        simp only [Prod.mk.injEq] at hF
        obtain ⟨rfl, rfl⟩ := hF
        clear hG hgg hr hq hx hy hP h5 h0 h3
        go_enter Try.func14, Try.ntmps14
        go_wp2_with (first | (go_at_call 24; refine (HPB.out _).mono ?_; rintro e W1 ⟨rfl, hb⟩; have HB1 : Hid (Below w.heap.size w W1) := HB0.out.trans (hb.mono HB0.out.size); have hx1 : W1.cell? ⟨w.heap.size, 0, none⟩ = some (.slice bo m d) := cell_keep (S := 0) hb HBX.out; clear hb HPB HB0 HBX))
        refine bodyPost_ret (v := .tuple #[.string ByteArray.empty, .bool false]) (by simp [results, Try.results14, go_sem]; try rfl) rfl ?_
        exact ⟨rfl, HB1.out⟩
  · rw [decide_eq_false h5] at hpf
    subst hpf
    have hG : buildG xs ys s = false := by rw [hgg]; rw [decide_eq_false h5]; simp
    rw [buildF_no hG] at hF
    simp only [Prod.mk.injEq] at hF
    obtain ⟨rfl, rfl⟩ := hF
    clear hG hgg hr hq hx hy hP h5
    go_enter Try.func14, Try.ntmps14
    go_wp2_with (first | (go_at_call 24; refine (HPB.out _).mono ?_; rintro e W1 ⟨rfl, hb⟩; have HB1 : Hid (Below w.heap.size w W1) := HB0.out.trans (hb.mono HB0.out.size); have hx1 : W1.cell? ⟨w.heap.size, 0, none⟩ = some (.slice bo m d) := cell_keep (S := 0) hb HBX.out; clear hb HPB HB0 HBX))
    refine bodyPost_ret (v := .tuple #[.string ByteArray.empty, .bool false]) (by simp [results, Try.results14, go_sem]; try rfl) rfl ?_
    exact ⟨rfl, HB1.out⟩

end Go.Proofs.Ytnfoflijapbkdaa

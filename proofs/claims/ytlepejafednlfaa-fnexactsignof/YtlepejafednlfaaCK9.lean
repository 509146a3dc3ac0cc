/- Chapter 9: LengthOf of the program. -/
import Derived.Test.YtlepejafednlfaaCJ9
import Derived.Test.YtlepejafednlfaaGL9
namespace Go.Proofs.Ytlepejafednlfaa
set_option linter.unusedVariables false
set_option maxRecDepth 1000000
set_option linter.unusedSimpArgs false
open Go.RowKit Go.Shelf

attribute [local go_sem] Oper.semAt_some

set_option maxRecDepth 100000 in
set_option maxHeartbeats 4000000 in
theorem implLength_at (ao : Option Addr) (n c : Nat) (xs : List Int) (w : World) (hx : xs.length = n) (hn : n ≤ 9) (hcx : n ≤ c ∧ c ≤ maxLen) (ho : ordB xs = true) (hr : Rd w ao xs) :
    Calls Try.prog 33 #[.slice ao n c] w fun e w' => e = .returned (.tuple #[.int .i64 (lcmL (cycL xs) : Nat), .bool true]) ∧ Below w.heap.size w w' := by
  have q1 := isOrder_c ao n c xs w hx (by omega) hcx hr
  rw [ho] at q1
  have f1 : Fence.wide.fn 62 := trivial
  have f2 : Fence.wide.fn 84 := trivial
  refine (callsIn_wide (n := 3)).1 ?_
  refine callsIn_of_wp_marks Try.func33 rfl trivial ?_ rfl
  simp only [Try.ntmps33, List.size_toArray, List.length_cons, List.length_nil, Nat.reduceAdd, Nat.reduceSub, Array.replicate_succ, Array.replicate_zero, List.push_toArray, List.append_toArray, List.nil_append, List.cons_append]
  gi_wp2_with (first | (gi_at_call 62; refine (callsIn_wide.2 q1).mono ?_; rintro e W1 ⟨rfl, hb1⟩; have HB1 : Hid (Below w.heap.size w W1) := hb1; clear hb1 q1) | (gi_at_call 84; refine (cyclesIn_in Fence.wide 2 trivial rfl _ _ _ _).mono ?_; rintro e w' ⟨rfl, rfl⟩))
  have HX : Hid (xs.length = n) := hx
  have hsz1 : w.heap.size ≤ W1.heap.size := HB1.out.size
  have hV0 : Below w.heap.size w ((W1.alloc (.cells #[.int .i64 1] 3)).alloc (.cells #[.slice ao n c] 23)) := (HB1.out.alloc HB1.out.size _).alloc (by simp; omega) _
  have bC := Boxed.new W1 3 (.int .i64 1)
  have bN := Boxed.new (W1.alloc (.cells #[.int .i64 1] 3)) 23 (.slice ao n c)
  rw [World.size_alloc] at bN
  have hR0 : RdL w.heap.size ((W1.alloc (.cells #[.int .i64 1] 3)).alloc (.cells #[.slice ao n c] 23)) ao xs := hr.toL.below hV0
  have hb1 := bC.alloc (.cells #[.slice ao n c] 23)
  have hsV : ((W1.alloc (.cells #[.int .i64 1] 3)).alloc (.cells #[.slice ao n c] 23)).heap.size = W1.heap.size + 2 := by simp
  generalize (W1.alloc (.cells #[.int .i64 1] 3)).alloc (.cells #[.slice ao n c] 23) = V at hV0 bN hR0 hb1 hsV
  refine wpIn_rangeFunc_T rfl (by omega) (gf := 103) (lb := #[.pointer (some ⟨W1.heap.size + 1, 0, none⟩)]) rfl trivial (enters_of Try.func103 (by kernel_rfl) rfl)
    (cycles_seq Fence.wide (3 - 1) trivial rfl (by omega) (W1.heap.size + 1) w.heap.size n c ao xs hx ho V bN.cell hR0 (by omega)) KpT.trans
    (fun W o => KpT_b _ _ _ W _ o (by omega) (by omega) (by omega)) (fun pre x W o h => CycX_b _ pre x W _ o (by omega) h) (Below.refl _ _) (fun _ => rfl)
    (fun pre W => Boxed W W1.heap.size 3 (.int .i64 (lcmL (pre.map (·.2)) : Nat)) ∧ Boxed W (W1.heap.size + 1) 23 (.slice ao n c) ∧ Below w.heap.size w W ∧ 0 < lcmL (pre.map (·.2)))
    ?stab ⟨hb1, bN, hV0, Nat.one_pos⟩
    (fun x => { tmps := #[.slice ao n c, undef, .int .i64 0, .bool false, .pointer (some ⟨W1.heap.size, 0, none⟩), x.1, .slice ao n c, .bool true, .bool false, .slice ao n c, .func (.func 103) #[] #[.pointer (some ⟨W1.heap.size + 1, 0, none⟩)], x.1, undef, undef, undef, undef, undef], defers := [] }) ?assign ?body ?done
  case stab =>
    rintro s X Y r ⟨i1, i2, i3, i4⟩ hg h1 h2
    exact ⟨i1.kept hg (by simp; omega), i2.kept hg (by simp; omega), i3.trans (grown_below hg (by omega) i3.size), i4⟩
  case assign =>
    intro l x W K hK
    gi_wp2
    first | exact hK | simpa using hK
  case body =>
    rintro l pre ⟨xv, xl⟩ W ⟨i1, i2, i3, hpp⟩ hC
    try dsimp only
    have hTs : V.heap.size + 2 < W.heap.size := hC.2.1
    have hxp : 0 < xl.length := hC.2.2.2.1
    have hxs : sumLen (pre.map (·.2)) + xl.length ≤ 9 := hC.2.2.1.1
    obtain ⟨a9, c9, hv9⟩ := hC.1.shape
    dsimp only at hv9
    subst hv9
    have hc := i1.cell
    have hfz := i1.frozen
    have hsm : lcmL (pre.map (·.2)) ≤ 512 := lcmL_small (s := 9) (by omega) (Nat.le_refl _)
    have H1 : Hid (Boxed W W1.heap.size 3 (.int .i64 (lcmL (pre.map (·.2)) : Nat))) := i1
    have H2 : Hid (Boxed W (W1.heap.size + 1) 23 (.slice ao n c)) := i2
    have H3 : Hid (Below w.heap.size w W) := i3
    have HLN : Hid (lcmL ((pre ++ [((.slice a9 xl.length c9 : Value), xl)]).map (·.2)) = Nat.lcm (lcmL (pre.map (·.2))) xl.length) := by show _ = _; rw [List.map_append, List.map_singleton, lcmL_app]
    have HZP : Hid (0 < Nat.lcm (lcmL (pre.map (·.2))) xl.length) := Nat.lcm_pos hpp hxp
    have ql := leastMultiple_c (lcmL (pre.map (·.2))) xl.length W hpp hsm hxp (by omega)
    clear i1 i2 i3 hC hb1 bN bC hR0 hxs
    generalize lcmL (pre.map (·.2)) = p at hc hsm H1 HLN ql HZP hpp
    generalize Nat.lcm p xl.length = z at HLN ql HZP
    have f5 : Fence.wide.fn 85 := trivial
    have hd : 1 ≤ 3 - 1 - 1 := by omega
    gi_wp2_with (gi_at_call 85; refine (CallsIn.inRound l (callsIn_wide.2 ql)).mono ?_; clear ql; rintro e w' ⟨rfl, hw⟩; subst w')
    have hgs := grownBy_setCell' W W1.heap.size (.int .i64 (z : Int))
    refine ⟨(KeepsOthers.setCell _ _ _).from _, ⟨(Below.refl _ _).setCell (p := ⟨W1.heap.size, 0, none⟩) hsz1 _, hgs.block _ (by omega) (by simp), hgs.block _ (by omega) (by simp; omega)⟩, ?_, H2.out.other (by omega) _, H3.out.setCell (p := ⟨W1.heap.size, 0, none⟩) hsz1 _, by rw [HLN.out]; exact HZP.out⟩
    rw [HLN.out]
    exact H1.out.set _
  case done =>
    rintro D ys W hD hS ⟨i1, i2, i3, i4⟩ hK
    have hc := i1.cell
    rw [hS] at hc
    have HBf : Hid (Below w.heap.size w (W.putObj D (.deferred none))) := i3.trans (belowK_b (w := w) (Nat.le_refl _) W D _ _ (by omega) hK rfl rfl)
    clear i1 i2 i3 i4 hS hb1 bN bC hR0
    obtain ⟨q, hq⟩ : ∃ q, lcmL (cycL xs) = q := ⟨_, rfl⟩
    rw [hq] at hc
    have HQ : Hid (lcmL (cycL xs) = q) := hq
    clear hq
    gi_wp2
    refine ⟨by simp, .inl ⟨_, _, rfl, run_takeDeferred hK, ?_⟩⟩
    exact ⟨.tuple #[.int .i64 (q : Int), .bool true], by simp [results, Try.results33, go_sem]; try rfl, by rw [HQ.out], HBf.out⟩

end Go.Proofs.Ytlepejafednlfaa

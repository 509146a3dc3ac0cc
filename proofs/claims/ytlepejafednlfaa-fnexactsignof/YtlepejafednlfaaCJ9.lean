/- Chapter 9: SignOf and LengthOf of the program. -/
import Derived.Test.YtlepejafednlfaaCI9
namespace Go.Proofs.Ytlepejafednlfaa
set_option linter.unusedVariables false
set_option maxRecDepth 1000000
set_option linter.unusedSimpArgs false
open Go.RowKit Go.Shelf

attribute [local go_sem] Oper.semAt_some

theorem cycles_seq (F0 : Fence) (n : Nat) (hf : F0.fn 103) (hro : F0.round = none) (hn : 1 ≤ n) (Bs n₀ m cap : Nat) (ao : Option Addr) (xs : List Int) (hx : xs.length = m) (hox : ordB xs = true) (w : World) (hBs : w.cell? ⟨Bs, 0, none⟩ = some (.slice ao m cap)) (hR : RdL n₀ w ao xs) (hn₀ : n₀ ≤ w.heap.size) :
    SeqT F0 n Try.prog 103 #[.pointer (some ⟨Bs, 0, none⟩)] (fun x : Value × List Int => #[x.1]) (KpT n₀ Bs) CycX (fun ys => ys.map (·.2) = cycL xs) w := fun l J W hW hJ hY h0 =>
  cyc1_in F0 n hf hro hn l Bs n₀ m cap ao xs hx hox J W hJ hY ((hW.cell (p := ⟨Bs, 0, none⟩) (World.block_lt_of_cell? w _ hBs)).trans hBs) (hR.below (hW.mono hn₀)) (Nat.le_trans hn₀ hW.size) h0

set_option maxHeartbeats 1000000 in
theorem cyclesIn_in (F0 : Fence) (n : Nat) (hf : F0.fn 84) (hro : F0.round = none) (a : Option Addr) (len cap : Nat) (w : World) :
    CallsIn F0 n Try.prog 84 #[.slice a len cap] w fun e w' => e = .returned (.func (.func 103) #[] #[.pointer (some ⟨w.heap.size, 0, none⟩)]) ∧ w' = w.alloc (.cells #[.slice a len cap] 23) := by
  have hmf : ∀ (fn : Fn) (first cap : Array Value) (w : World), (Instr.makeFunc fn first cap).run Try.prog w = .ok (.func fn first cap) w := fun _ _ _ _ => rfl
  refine callsIn_of_wp Try.func84 rfl hf ?_ hro
  simp only [Try.ntmps84, List.size_toArray, List.length_cons, List.length_nil, Nat.reduceAdd, Nat.reduceSub, Array.replicate_succ, Array.replicate_zero, List.push_toArray, List.append_toArray, List.nil_append, List.cons_append]
  gi_wp2
  go_ret
  exact ⟨rfl, rfl⟩

theorem KpT_b (n₀ Bs T : Nat) (W : World) (l : Nat) (o : Obj) (h1 : n₀ ≤ l) (h2 : Bs ≠ l) (h3 : T ≠ l) : KpT n₀ Bs T W (W.putObj l o) :=
  ⟨⟨rfl, rfl, rfl, by simp, fun k hk => World.putObj_heap_other (by omega)⟩, World.putObj_heap_other h2, World.putObj_heap_other h3⟩
theorem CycX_b (T : Nat) (pre : List (Value × List Int)) (x : Value × List Int) (W : World) (l : Nat) (o : Obj) (hl : l < T + 1) (h : CycX T pre x W) : CycX T pre x (W.putObj l o) := by
  obtain ⟨h1, h2, h3, h4, h5⟩ := h
  refine ⟨h1.kept (grownBy_putObj' W l o) (Or.inr fun e => ?_), by simp; omega, h3, h4, h5⟩
  have := own_block_ge h1 l e
  omega

set_option maxRecDepth 100000 in
set_option maxHeartbeats 4000000 in
theorem implSign_at (ao : Option Addr) (n c : Nat) (xs : List Int) (w : World) (hx : xs.length = n) (hn : n ≤ 9) (hcx : n ≤ c ∧ c ≤ maxLen) (ho : ordB xs = true) (hr : Rd w ao xs) :
    Calls Try.prog 32 #[.slice ao n c] w fun e w' => e = .returned (.tuple #[.int .i64 (signI xs), .bool true]) ∧ Below w.heap.size w w' := by
  have q1 := isOrder_c ao n c xs w hx (by omega) hcx hr
  rw [ho] at q1
  have f1 : Fence.wide.fn 62 := trivial
  have f2 : Fence.wide.fn 84 := trivial
  refine (callsIn_wide (n := 3)).1 ?_
  refine callsIn_of_wp_marks Try.func32 rfl trivial ?_ rfl
  simp only [Try.ntmps32, List.size_toArray, List.length_cons, List.length_nil, Nat.reduceAdd, Nat.reduceSub, Array.replicate_succ, Array.replicate_zero, List.push_toArray, List.append_toArray, List.nil_append, List.cons_append]
  gi_wp2_with (first | (gi_at_call 62; refine (callsIn_wide.2 q1).mono ?_; rintro e W1 ⟨rfl, hb1⟩; have HB1 : Hid (Below w.heap.size w W1) := hb1; clear hb1 q1) | (gi_at_call 84; refine (cyclesIn_in Fence.wide 2 trivial rfl _ _ _ _).mono ?_; rintro e w' ⟨rfl, rfl⟩))
  have HX : Hid (xs.length = n) := hx
  have hsz1 : w.heap.size ≤ W1.heap.size := HB1.out.size
  have hV0 : Below w.heap.size w ((W1.alloc (.cells #[.int .i64 0] 3)).alloc (.cells #[.slice ao n c] 23)) := (HB1.out.alloc HB1.out.size _).alloc (by simp; omega) _
  have bC := Boxed.new W1 3 (.int .i64 0)
  have bN := Boxed.new (W1.alloc (.cells #[.int .i64 0] 3)) 23 (.slice ao n c)
  rw [World.size_alloc] at bN
  have hR0 : RdL w.heap.size ((W1.alloc (.cells #[.int .i64 0] 3)).alloc (.cells #[.slice ao n c] 23)) ao xs := hr.toL.below hV0
  have hb1 := bC.alloc (.cells #[.slice ao n c] 23)
  have hsV : ((W1.alloc (.cells #[.int .i64 0] 3)).alloc (.cells #[.slice ao n c] 23)).heap.size = W1.heap.size + 2 := by simp
  generalize (W1.alloc (.cells #[.int .i64 0] 3)).alloc (.cells #[.slice ao n c] 23) = V at hV0 bN hR0 hb1 hsV
  refine wpIn_rangeFunc_T rfl (by omega) (gf := 103) (lb := #[.pointer (some ⟨W1.heap.size + 1, 0, none⟩)]) rfl trivial (enters_of Try.func103 (by kernel_rfl) rfl)
    (cycles_seq Fence.wide (3 - 1) trivial rfl (by omega) (W1.heap.size + 1) w.heap.size n c ao xs hx ho V bN.cell hR0 (by omega)) KpT.trans
    (fun W o => KpT_b _ _ _ W _ o (by omega) (by omega) (by omega)) (fun pre x W o h => CycX_b _ pre x W _ o (by omega) h) (Below.refl _ _) (fun _ => rfl)
    (fun pre W => Boxed W W1.heap.size 3 (.int .i64 (pre.length : Int)) ∧ Boxed W (W1.heap.size + 1) 23 (.slice ao n c) ∧ Below w.heap.size w W)
    ?stab ⟨hb1, bN, hV0⟩
    (fun x => { tmps := #[.slice ao n c, undef, .int .i64 0, .bool false, .pointer (some ⟨W1.heap.size, 0, none⟩), .slice ao n c, .bool true, .bool false, .slice ao n c, .func (.func 103) #[] #[.pointer (some ⟨W1.heap.size + 1, 0, none⟩)], x.1, undef, undef, undef, undef, undef, undef, undef, undef], defers := [] }) ?assign ?body ?done
  case stab =>
    rintro s X Y r ⟨i1, i2, i3⟩ hg h1 h2
    exact ⟨i1.kept hg (by simp; omega), i2.kept hg (by simp; omega), i3.trans (grown_below hg (by omega) i3.size)⟩
  case assign =>
    intro l x W K hK
    gi_wp2
    first | exact hK | simpa using hK
  case body =>
    rintro l pre x W ⟨i1, i2, i3⟩ hC
    have hpl : pre.length < 9 := hC.2.2.1.2
    have hTs : V.heap.size + 2 < W.heap.size := hC.2.1
    have hc := i1.cell
    have hfz := i1.frozen
    have H1 : Hid (Boxed W W1.heap.size 3 (.int .i64 (pre.length : Int))) := i1
    have H2 : Hid (Boxed W (W1.heap.size + 1) 23 (.slice ao n c)) := i2
    have H3 : Hid (Below w.heap.size w W) := i3
    have HLN : Hid ((pre ++ [x]).length = pre.length + 1) := by show _ = _; simp
    clear i1 i2 i3 hC hb1 bN bC hR0
    generalize pre.length = p at hc hpl H1 HLN
    gi_wp2
    have hgs := grownBy_setCell' W W1.heap.size (.int .i64 ((p : Int) + 1))
    refine ⟨(KeepsOthers.setCell _ _ _).from _, ⟨(Below.refl _ _).setCell (p := ⟨W1.heap.size, 0, none⟩) hsz1 _, hgs.block _ (by omega) (by simp), hgs.block _ (by omega) (by simp; omega)⟩, ?_, H2.out.other (by omega) _, H3.out.setCell (p := ⟨W1.heap.size, 0, none⟩) hsz1 _⟩
    rw [HLN.out]
    exact H1.out.set _
  case done =>
    rintro D ys W hD hS ⟨i1, i2, i3⟩ hK
    have hc := i1.cell
    have hyl : ys.length = (cycL xs).length := by rw [← hS]; simp
    have hfew := cycs_few xs xs.length
    rw [hyl] at hc
    have HSG : Hid (signI xs = if (n - (cycL xs).length) % 2 = 1 then -1 else 1) := by show _ = _; rw [signI, HX.out]
    rw [show (cycs xs xs.length).1 = cycL xs from rfl, HX.out] at hfew
    have HBf : Hid (Below w.heap.size w (W.putObj D (.deferred none))) := i3.trans (belowK_b (w := w) (Nat.le_refl _) W D _ _ (by omega) hK rfl rfl)
    clear i1 i2 i3 hS hyl hb1 bN bC hR0
    generalize (cycL xs).length = q at hc hfew HSG
    obtain ⟨d, hd⟩ : ∃ d : Nat, n - q = d := ⟨_, rfl⟩
    rw [hd] at HSG
    have hdi : (n : Int) - (q : Int) = (d : Int) := by omega
    have hdm : (d : Int) % 2 = ((d % 2 : Nat) : Int) := by omega
    have hdt : Int.tmod (d : Int) 2 = ((d % 2 : Nat) : Int) := by rw [Int.tmod_eq_emod_of_nonneg (by omega)]; exact hdm
    have hd9 : d ≤ 9 := by omega
    by_cases h1 : d % 2 = 1
    · rw [if_pos h1] at HSG
      have hb : (Int.tmod (d : Int) 2 == 1) = true := by rw [hdt, h1]; rfl
      have hb2 : ((d : Int) % 2 == 1) = true := by rw [hdm, h1]; rfl
      gi_wp2
      refine ⟨by simp, .inl ⟨_, _, rfl, run_takeDeferred hK, ?_⟩⟩
      exact ⟨.tuple #[.int .i64 (-1), .bool true], by simp [results, Try.results32, go_sem]; try rfl, by rw [HSG.out], HBf.out⟩
    · rw [if_neg h1] at HSG
      have h0 : d % 2 = 0 := by omega
      have hb : (Int.tmod (d : Int) 2 == 1) = false := by rw [hdt, h0]; rfl
      have hb2 : ((d : Int) % 2 == 1) = false := by rw [hdm, h0]; rfl
      gi_wp2
      refine ⟨by simp, .inl ⟨_, _, rfl, run_takeDeferred hK, ?_⟩⟩
      exact ⟨.tuple #[.int .i64 1, .bool true], by simp [results, Try.results32, go_sem]; try rfl, by rw [HSG.out], HBf.out⟩

end Go.Proofs.Ytlepejafednlfaa

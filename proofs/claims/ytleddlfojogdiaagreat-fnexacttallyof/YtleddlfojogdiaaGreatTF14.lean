/- Chapter 14: talliesFor; the functions that sum two tallies. -/
import Derived.Test.YtleddlfojogdiaaGreatE14
import Derived.Test.YtleddlfojogdiaaGreatS14
import Derived.Deep.RegionWith
import Derived.Deep.RegionLaw
import Derived.Lib.SliceRun
import Derived.Lib.AppendZeros
namespace Go.Proofs.YtleddlfojogdiaaGreat
set_option linter.unusedVariables false
set_option maxRecDepth 1000000
set_option linter.unusedSimpArgs false
open Go.RowKit

theorem step_append_run {P : Program} {ops : Array Oper} {o : Oper} {a : Act} {w : World} {K : Act → World → Prop} {Q : Exit → Act → World → Prop} {E : Prop}
    (hg : o.guard = none) (d x : Operand) (dT sT : TypeId) (hop : o.op = Op.call { callee := Callee.builtin Builtin.append, args := #[d, x], argTypes := #[dT, sT] })
    (v u : Value) (hd : a.eval d = v) (hx : a.eval x = u) {v' : Value} {w' : World} (hr : (Builtin.append_ #[dT, sT] o.type #[v, u]).run P w = .ok v' w') (hK : K (a.put o.dst v') w') :
    if Region.wanted o (yielded ops a.tmps) = true then Oper.wp P o a w K Q else E := by
  have hw : Region.wanted o (yielded ops a.tmps) = true := by simp [Region.wanted, hg]
  rw [if_pos hw]
  exact Lib.wp_append_run w d x dT sT hop v u hd hx v' w' hr hK

/-- Tallies by two functions of a hand. -/
def talT (n : Nat) (vg vb : Nat → Int) : List Ta := (List.range n).map fun k : Nat => ((k : Int), vg k, vb k)

def talV (n : Nat) (vg vb : Nat → Int) : List Ta := if tasB (talT n vg vb) = true then talT n vg vb else []

theorem talT_succ (n : Nat) (vg vb : Nat → Int) : talT (n + 1) vg vb = talT n vg vb ++ [((n : Int), vg n, vb n)] := by
  unfold talT
  rw [List.range_succ, List.map_append]
  rfl

theorem talT_length (n : Nat) (vg vb : Nat → Int) : (talT n vg vb).length = n := by simp [talT]

theorem talT_addT (a b : List Ta) : talT a.length (fun i => (a.getD i (0, 0, 0)).2.1 + (b.getD i (0, 0, 0)).2.1) (fun i => (a.getD i (0, 0, 0)).2.2 + (b.getD i (0, 0, 0)).2.2) = addT a b := rfl

set_option maxHeartbeats 4000000 in
theorem scalesOfBoth1_c (pa pb : Nat) (ao : Option Addr) (n c : Nat) (bo : Option Addr) (d : Nat) (xs ys : List Ta) (k : Nat) (wx : World) (hk : k < n) (hx : xs.length = n) (hy : ys.length = n) (hn : n ≤ 12) (ha : wx.cell? ⟨pa, 0, none⟩ = some (.slice ao n c)) (hb : wx.cell? ⟨pb, 0, none⟩ = some (.slice bo n d)) (hr : RdU wx ao xs) (hs : RdU wx bo ys) (h0 : 0 ≤ (xs.getD k (0, 0, 0)).2.1 ∧ (xs.getD k (0, 0, 0)).2.1 ≤ 100) (h1 : 0 ≤ (ys.getD k (0, 0, 0)).2.1 ∧ (ys.getD k (0, 0, 0)).2.1 ≤ 100) :
    Calls Tryz.prog 79 #[.int .i64 (k : Nat), .pointer (some ⟨pa, 0, none⟩), .pointer (some ⟨pb, 0, none⟩)] wx fun e w' => e = .returned (.int .i64 ((xs.getD k (0, 0, 0)).2.1 + (ys.getD k (0, 0, 0)).2.1)) ∧ Below wx.heap.size wx w' := by
  obtain ⟨b1, o1, rfl, g0, g1, g2⟩ := hr.get (k := k) (by omega)
  obtain ⟨b2, o2, rfl, f0, f1, f2⟩ := hs.get (k := k) (by omega)
  have hk1 : (k : Int) < (n : Int) := by omega
  have hk0 : (0 : Int) ≤ (k : Int) := by omega
  generalize (xs.getD k (0, 0, 0)).2.1 = x at g1 g2 h0 ⊢
  generalize (ys.getD k (0, 0, 0)).2.1 = y at f1 f2 h1 ⊢
  have hs0 : 0 ≤ x + y ∧ x + y ≤ 200 := by omega
  clear hx hy hr hs h0 h1
  go_enter Tryz.func79, Tryz.ntmps79
  go_wp2_with fail
  go_quiet (fail)
  go_wp2
  have hw : IntKind.i64.wrap (x + y) = x + y := by simp [IntKind.wrap, IntKind.bits, IntKind.signed]; omega
  go_ret
  exact ⟨by first | rfl | rw [hw] | simp [hw], below_drewM (Below.refl _ _) _⟩

set_option maxHeartbeats 4000000 in
theorem scalesOfBoth2_c (pa pb : Nat) (ao : Option Addr) (n c : Nat) (bo : Option Addr) (d : Nat) (xs ys : List Ta) (k : Nat) (wx : World) (hk : k < n) (hx : xs.length = n) (hy : ys.length = n) (hn : n ≤ 12) (ha : wx.cell? ⟨pa, 0, none⟩ = some (.slice ao n c)) (hb : wx.cell? ⟨pb, 0, none⟩ = some (.slice bo n d)) (hr : RdU wx ao xs) (hs : RdU wx bo ys) (h0 : 0 ≤ (xs.getD k (0, 0, 0)).2.2 ∧ (xs.getD k (0, 0, 0)).2.2 ≤ 100) (h1 : 0 ≤ (ys.getD k (0, 0, 0)).2.2 ∧ (ys.getD k (0, 0, 0)).2.2 ≤ 100) :
    Calls Tryz.prog 80 #[.int .i64 (k : Nat), .pointer (some ⟨pa, 0, none⟩), .pointer (some ⟨pb, 0, none⟩)] wx fun e w' => e = .returned (.int .i64 ((xs.getD k (0, 0, 0)).2.2 + (ys.getD k (0, 0, 0)).2.2)) ∧ Below wx.heap.size wx w' := by
  obtain ⟨b1, o1, rfl, g0, g1, g2⟩ := hr.get (k := k) (by omega)
  obtain ⟨b2, o2, rfl, f0, f1, f2⟩ := hs.get (k := k) (by omega)
  have hk1 : (k : Int) < (n : Int) := by omega
  have hk0 : (0 : Int) ≤ (k : Int) := by omega
  generalize (xs.getD k (0, 0, 0)).2.2 = x at g1 g2 h0 ⊢
  generalize (ys.getD k (0, 0, 0)).2.2 = y at f1 f2 h1 ⊢
  have hs0 : 0 ≤ x + y ∧ x + y ≤ 200 := by omega
  clear hx hy hr hs h0 h1
  go_enter Tryz.func80, Tryz.ntmps80
  go_wp2_with fail
  go_quiet (fail)
  go_wp2
  have hw : IntKind.i64.wrap (x + y) = x + y := by simp [IntKind.wrap, IntKind.bits, IntKind.signed]; omega
  go_ret
  exact ⟨by first | rfl | rw [hw] | simp [hw], below_drewM (Below.refl _ _) _⟩

set_option maxHeartbeats 8000000 in
/-- The tallies of the first hands, one weighed behind the other. -/
theorem talliesBoth_c (pa pb : Nat) (n : Nat) (vg vb : Nat → Int) (w : World) (hn : n ≤ 12)
    (h1 : ∀ k wx, k < n → Below w.heap.size w wx → Calls Tryz.prog 79 #[.int .i64 (k : Nat), .pointer (some ⟨pa, 0, none⟩), .pointer (some ⟨pb, 0, none⟩)] wx fun e w' => e = .returned (.int .i64 (vg k)) ∧ Below wx.heap.size wx w')
    (h2 : ∀ k wx, k < n → Below w.heap.size w wx → Calls Tryz.prog 80 #[.int .i64 (k : Nat), .pointer (some ⟨pa, 0, none⟩), .pointer (some ⟨pb, 0, none⟩)] wx fun e w' => e = .returned (.int .i64 (vb k)) ∧ Below wx.heap.size wx w') (q : Nat) (hq : (talV n vg vb).length = q) :
    Calls Tryz.prog 37 #[.agg #[.func (.func 79) #[] #[.pointer (some ⟨pa, 0, none⟩), .pointer (some ⟨pb, 0, none⟩)], .func (.func 80) #[] #[.pointer (some ⟨pa, 0, none⟩), .pointer (some ⟨pb, 0, none⟩)]], .int .i64 n] w fun e w' => ∃ a' c', e = .returned (.tuple #[.slice a' q c', .bool (tasB (talT n vg vb))]) ∧ OwnU w' w.heap.size (.slice a' q c') (talV n vg vb) ∧ Below w.heap.size w w' := by
  have H1 : Hid (∀ k wx, k < n → Below w.heap.size w wx → Calls Tryz.prog 79 #[.int .i64 (k : Nat), .pointer (some ⟨pa, 0, none⟩), .pointer (some ⟨pb, 0, none⟩)] wx fun e w' => e = .returned (.int .i64 (vg k)) ∧ Below wx.heap.size wx w') := h1
  have H2 : Hid (∀ k wx, k < n → Below w.heap.size w wx → Calls Tryz.prog 80 #[.int .i64 (k : Nat), .pointer (some ⟨pa, 0, none⟩), .pointer (some ⟨pb, 0, none⟩)] wx fun e w' => e = .returned (.int .i64 (vb k)) ∧ Below wx.heap.size wx w') := h2
  have HQ : Hid ((talV n vg vb).length = q) := hq
  have hB0 := balloc w (.cells #[.func (.func 79) #[] #[.pointer (some ⟨pa, 0, none⟩), .pointer (some ⟨pb, 0, none⟩)], .func (.func 80) #[] #[.pointer (some ⟨pa, 0, none⟩), .pointer (some ⟨pb, 0, none⟩)]] 72)
  have hX0 := x2_new w (.func (.func 79) #[] #[.pointer (some ⟨pa, 0, none⟩), .pointer (some ⟨pb, 0, none⟩)]) (.func (.func 80) #[] #[.pointer (some ⟨pa, 0, none⟩), .pointer (some ⟨pb, 0, none⟩)]) 72 w.heap.size rfl
  obtain ⟨W0, hW0⟩ : ∃ W0, w.alloc (.cells #[.func (.func 79) #[] #[.pointer (some ⟨pa, 0, none⟩), .pointer (some ⟨pb, 0, none⟩)], .func (.func 80) #[] #[.pointer (some ⟨pa, 0, none⟩), .pointer (some ⟨pb, 0, none⟩)]] 72) = W0 := ⟨_, rfl⟩
  rw [hW0] at hB0 hX0
  have HB0 : Hid (Below w.heap.size w W0) := hB0
  have HBX : Hid (X2 W0 w.heap.size (.func (.func 79) #[] #[.pointer (some ⟨pa, 0, none⟩), .pointer (some ⟨pb, 0, none⟩)]) (.func (.func 80) #[] #[.pointer (some ⟨pa, 0, none⟩), .pointer (some ⟨pb, 0, none⟩)])) := hX0
  clear h1 h2 hq hB0 hX0
  go_enter Tryz.func37, Tryz.ntmps37
  go_wp2_with fail
  clear hW0
  go_loopw [6, 9] (fun v iv wq => ∃ k : Nat, k ≤ n ∧ iv = .int .i64 k ∧ Hid (OwnU wq W0.heap.size v (talT k vg vb)) ∧ Hid (Below W0.heap.size W0 wq)) (fun _ iv _ => n - (intOf iv).toNat)
  case atStart => exact ⟨0, Nat.zero_le _, rfl, own_nilU _ _, Below.refl _ _⟩
  case round =>
    obtain ⟨k, hk, rfl, hO, hB⟩ := hrel
    by_cases hlt : k < n
    · have hk1 : (k : Int) < (n : Int) := by omega
      have H1k : Hid (∀ wx, Below W0.heap.size W0 wx → Calls Tryz.prog 79 #[.int .i64 (k : Nat), .pointer (some ⟨pa, 0, none⟩), .pointer (some ⟨pb, 0, none⟩)] wx fun e w' => e = .returned (.int .i64 (vg k)) ∧ Below wx.heap.size wx w') := fun wx hb => H1.out k wx hlt (HB0.out.trans (hb.mono HB0.out.size))
      have H2k : Hid (∀ wx, Below W0.heap.size W0 wx → Calls Tryz.prog 80 #[.int .i64 (k : Nat), .pointer (some ⟨pa, 0, none⟩), .pointer (some ⟨pb, 0, none⟩)] wx fun e w' => e = .returned (.int .i64 (vb k)) ∧ Below wx.heap.size wx w') := fun wx hb => H2.out k wx hlt (HB0.out.trans (hb.mono HB0.out.size))
      have HS : Hid (talT (k + 1) vg vb = talT k vg vb ++ [((k : Int), vg k, vb k)]) := talT_succ k vg vb
      have HLn : Hid ((talT k vg vb).length = k) := talT_length k vg vb
      generalize talT k vg vb = out at hO HS HLn
      generalize vg k = g1 at H1k HS
      generalize vb k = b1 at H2k HS
      have HBt : Hid (Below W0.heap.size W0 wr) := hB.out
      obtain ⟨a9, c9, hv⟩ := hO.out.shape
      rw [HLn.out] at hv
      subst hv
      have HO9 : Hid (OwnU wr W0.heap.size (.slice a9 k c9) out) := hO.out
      obtain ⟨⟨x0, x1⟩, _⟩ := HBX.out.later HBt.out
      clear hO hB
      go_wp2_with fail
      go_region_law (first
        | (go_simp; go_at_call 79; refine (H1k.out _ (by first | exact HBt.out.drew | exact HBt.out)).mono ?_; rintro e w1 ⟨rfl, hb0⟩; have hb : Below wr.heap.size wr w1 := (by first | exact hb0 | exact ((Below.refl wr.heap.size wr).drew).trans hb0); have HB1 : Hid (Below W0.heap.size W0 w1) := HBt.out.trans (hb.mono HBt.out.size); have HO1 : Hid (OwnU w1 W0.heap.size (.slice a9 k c9) out) := HO9.out.later hb; obtain ⟨⟨d0, d1⟩, _⟩ := HBX.out.later HB1.out; clear hb hb0)
        | (go_simp; go_at_call 80; refine (H2k.out _ HB1.out).mono ?_; rintro e w2 ⟨rfl, hb⟩; have HB2 : Hid (Below W0.heap.size W0 w2) := HB1.out.trans (hb.mono HB1.out.size); have bA := balloc w2 (.cells #[.int .i64 (k : Int), .int .i64 g1, .int .i64 b1] 37); obtain ⟨v5, w5, r1, o5, g5, b5⟩ := appendU_run (w2.alloc (.cells #[.int .i64 (k : Int), .int .i64 g1, .int .i64 b1] 37)) W0.heap.size (.slice a9 k c9) out [((k : Int), g1, b1)] (some ⟨w2.heap.size, 0, none⟩) 1 1 ((HO1.out.later hb).later bA) (litU w2 _ _ _) rfl (fun h => by cases h) (by rw [HLn.out]; omega) (by have := HB2.out.size; have := bA.size; omega); have HO5 : Hid (OwnU w5 W0.heap.size v5 (out ++ [((k : Int), g1, b1)])) := o5; have HB5 : Hid (Below W0.heap.size W0 w5) := (HB2.out.trans (bA.mono HB2.out.size)).trans b5; obtain ⟨⟨e0, e1⟩, _⟩ := HBX.out.later HB2.out; obtain ⟨⟨f0, f1⟩, _⟩ := (HBX.out.later HB2.out).later bA; clear hb bA o5 g5 b5)
        | (refine step_append_run rfl (.tmp 12) (.tmp 23) 27 27 rfl (.slice a9 k c9) (.slice (some ⟨w2.heap.size, 0, none⟩) 1 1) (by simp [Act.eval, Act.put]) (by simp [Act.eval, Act.put]) (r1 _) ?_))
      all_goals go_wp2
      all_goals go_roundw
      all_goals first | exact ⟨k + 1, by omega, by go_num, by show OwnU _ _ _ _; rw [HS.out]; exact HO5.out, HB5⟩ | (simp [intOf]; omega)
    · obtain rfl : n = k := by omega
      have hx : ¬ (n : Int) < (n : Int) := by omega
      have HLn : Hid ((talT n vg vb).length = n) := talT_length n vg vb
      obtain ⟨a9, c9, hv⟩ := hO.out.shape
      rw [HLn.out] at hv
      subst hv
      have q3 := implGoodT_c a9 n c9 (talT n vg vb) wr HLn.out (by omega) hO.out.rd'.2
      have HV : Hid (tasB (talT n vg vb) = true → talV n vg vb = talT n vg vb) := fun h => by unfold talV; rw [if_pos h]
      have HN : Hid (tasB (talT n vg vb) = false → talV n vg vb = []) := fun h => by unfold talV; rw [h]; rfl
      have HT : Hid (tasB (talT n vg vb) = tasB (talT n vg vb)) := rfl
      obtain ⟨fb, hfb⟩ : ∃ fb, tasB (talT n vg vb) = fb := ⟨_, rfl⟩
      have HFB : Hid (tasB (talT n vg vb) = fb) := hfb
      rw [hfb] at q3
      clear hfb
      cases fb
      · have e2 := HN.out HFB.out
        have hq0 : q = 0 := by have := HQ.out; rw [e2] at this; exact this.symm
        have HE2 : Hid (talV n vg vb = []) := e2
        subst hq0
        clear e2
        go_wp2_with fail
        refine q3.mono ?_
        clear q3
        rintro e w3 ⟨rfl, hb⟩
        go_wp2
        refine bodyPost_ret (v := .tuple #[.slice none 0 0, .bool false]) (by simp [results, Tryz.results37, go_sem]; try rfl) rfl ?_
        exact ⟨none, 0, by rw [HFB.out], by rw [HE2.out]; exact own_nilU _ _, (HB0.out.trans (hB.out.mono HB0.out.size)).trans (hb.mono (by have := HB0.out.size; have := hB.out.size; omega))⟩
      · have e2 := HV.out HFB.out
        have hq0 : q = n := by have := HQ.out; rw [e2, HLn.out] at this; exact this.symm
        have HE2 : Hid (talV n vg vb = talT n vg vb) := e2
        subst hq0
        clear e2
        go_wp2_with fail
        refine q3.mono ?_
        clear q3
        rintro e w3 ⟨rfl, hb⟩
        go_wp2
        refine bodyPost_ret (v := .tuple #[.slice a9 q c9, .bool true]) (by simp [results, Tryz.results37, go_sem]; try rfl) rfl ?_
        exact ⟨a9, c9, by rw [HFB.out], by rw [HE2.out]; exact (hO.out.later hb).mono HB0.out.size, (HB0.out.trans (hB.out.mono HB0.out.size)).trans (hb.mono (by have := HB0.out.size; have := hB.out.size; omega))⟩

end Go.Proofs.YtleddlfojogdiaaGreat

/- Chapter 14: talliesFor over the evidence. -/
import Derived.Test.YtleddlfojogdiaaGreatEV14
import Derived.Test.YtleddlfojogdiaaGreatS14
import Derived.Deep.RegionWith
import Derived.Deep.RegionLaw
import Derived.Lib.SliceRun
import Derived.Lib.AppendZeros
namespace Go.Proofs.YtleddlfojogdiaaGreat
set_option linter.unusedVariables false
set_option maxRecDepth 1000000
set_option linter.unusedSimpArgs false
open Go.RowKit

set_option maxHeartbeats 8000000 in
/-- The tallies of the first hands, one weighed behind the other. -/
theorem talliesEv_c (pc pd : Nat) (n : Nat) (vg vb : Nat → Int) (w : World) (hn : n ≤ 12)
    (h1 : ∀ k wx, k < n → Below w.heap.size w wx → Calls Tryz.prog 63 #[.int .i64 (k : Nat), .pointer (some ⟨pc, 0, none⟩), .pointer (some ⟨pd, 0, none⟩)] wx fun e w' => e = .returned (.int .i64 (vg k)) ∧ Below wx.heap.size wx w')
    (h2 : ∀ k wx, k < n → Below w.heap.size w wx → Calls Tryz.prog 65 #[.int .i64 (k : Nat), .pointer (some ⟨pd, 0, none⟩)] wx fun e w' => e = .returned (.int .i64 (vb k)) ∧ Below wx.heap.size wx w') (q : Nat) (hq : (talV n vg vb).length = q) :
    Calls Tryz.prog 37 #[.agg #[.func (.func 63) #[] #[.pointer (some ⟨pc, 0, none⟩), .pointer (some ⟨pd, 0, none⟩)], .func (.func 65) #[] #[.pointer (some ⟨pd, 0, none⟩)]], .int .i64 n] w fun e w' => ∃ a' c', e = .returned (.tuple #[.slice a' q c', .bool (tasB (talT n vg vb))]) ∧ OwnU w' w.heap.size (.slice a' q c') (talV n vg vb) ∧ Below w.heap.size w w' := by
  have H1 : Hid (∀ k wx, k < n → Below w.heap.size w wx → Calls Tryz.prog 63 #[.int .i64 (k : Nat), .pointer (some ⟨pc, 0, none⟩), .pointer (some ⟨pd, 0, none⟩)] wx fun e w' => e = .returned (.int .i64 (vg k)) ∧ Below wx.heap.size wx w') := h1
  have H2 : Hid (∀ k wx, k < n → Below w.heap.size w wx → Calls Tryz.prog 65 #[.int .i64 (k : Nat), .pointer (some ⟨pd, 0, none⟩)] wx fun e w' => e = .returned (.int .i64 (vb k)) ∧ Below wx.heap.size wx w') := h2
  have HQ : Hid ((talV n vg vb).length = q) := hq
  have hB0 := balloc w (.cells #[.func (.func 63) #[] #[.pointer (some ⟨pc, 0, none⟩), .pointer (some ⟨pd, 0, none⟩)], .func (.func 65) #[] #[.pointer (some ⟨pd, 0, none⟩)]] 72)
  have hX0 := x2_new w (.func (.func 63) #[] #[.pointer (some ⟨pc, 0, none⟩), .pointer (some ⟨pd, 0, none⟩)]) (.func (.func 65) #[] #[.pointer (some ⟨pd, 0, none⟩)]) 72 w.heap.size rfl
  obtain ⟨W0, hW0⟩ : ∃ W0, w.alloc (.cells #[.func (.func 63) #[] #[.pointer (some ⟨pc, 0, none⟩), .pointer (some ⟨pd, 0, none⟩)], .func (.func 65) #[] #[.pointer (some ⟨pd, 0, none⟩)]] 72) = W0 := ⟨_, rfl⟩
  rw [hW0] at hB0 hX0
  have HB0 : Hid (Below w.heap.size w W0) := hB0
  have HBX : Hid (X2 W0 w.heap.size (.func (.func 63) #[] #[.pointer (some ⟨pc, 0, none⟩), .pointer (some ⟨pd, 0, none⟩)]) (.func (.func 65) #[] #[.pointer (some ⟨pd, 0, none⟩)])) := hX0
  clear h1 h2 hq hB0 hX0
  go_enter Tryz.func37, Tryz.ntmps37
  go_wp2_with fail
  clear hW0
  go_loopw [6, 9] (fun v iv wq => ∃ k : Nat, k ≤ n ∧ iv = .int .i64 k ∧ Hid (OwnU wq W0.heap.size v (talT k vg vb)) ∧ Hid (Below W0.heap.size W0 wq)) (fun _ iv _ => n - (intOf iv).toNat)
  case atStart => exact ⟨0, Nat.zero_le _, rfl, own_nilU _ _, Below.refl _ _⟩
  case round =>
    obtain ⟨k, hk, rfl, hO, hB⟩ := hrel
    by_cases hlt : k < n
    · have hk1 : (k : Int) < (n : Int) := by omega
      have H1k : Hid (∀ wx, Below W0.heap.size W0 wx → Calls Tryz.prog 63 #[.int .i64 (k : Nat), .pointer (some ⟨pc, 0, none⟩), .pointer (some ⟨pd, 0, none⟩)] wx fun e w' => e = .returned (.int .i64 (vg k)) ∧ Below wx.heap.size wx w') := fun wx hb => H1.out k wx hlt (HB0.out.trans (hb.mono HB0.out.size))
      have H2k : Hid (∀ wx, Below W0.heap.size W0 wx → Calls Tryz.prog 65 #[.int .i64 (k : Nat), .pointer (some ⟨pd, 0, none⟩)] wx fun e w' => e = .returned (.int .i64 (vb k)) ∧ Below wx.heap.size wx w') := fun wx hb => H2.out k wx hlt (HB0.out.trans (hb.mono HB0.out.size))
      have HS : Hid (talT (k + 1) vg vb = talT k vg vb ++ [((k : Int), vg k, vb k)]) := talT_succ k vg vb
      have HLn : Hid ((talT k vg vb).length = k) := talT_length k vg vb
      generalize talT k vg vb = out at hO HS HLn
      generalize vg k = g1 at H1k HS
      generalize vb k = b1 at H2k HS
      have HBt : Hid (Below W0.heap.size W0 wr) := hB.out
      obtain ⟨a9, c9, hv⟩ := hO.out.shape
      rw [HLn.out] at hv
      subst hv
      have HO9 : Hid (OwnU wr W0.heap.size (.slice a9 k c9) out) := hO.out
      obtain ⟨⟨x0, x1⟩, _⟩ := HBX.out.later HBt.out
      clear hO hB
      go_wp2_with fail
      go_region_law (first
        | (go_simp; go_at_call 63; refine (H1k.out _ (by first | exact HBt.out.drew | exact HBt.out)).mono ?_; rintro e w1 ⟨rfl, hb0⟩; have hb : Below wr.heap.size wr w1 := (by first | exact hb0 | exact ((Below.refl wr.heap.size wr).drew).trans hb0); have HB1 : Hid (Below W0.heap.size W0 w1) := HBt.out.trans (hb.mono HBt.out.size); have HO1 : Hid (OwnU w1 W0.heap.size (.slice a9 k c9) out) := HO9.out.later hb; obtain ⟨⟨d0, d1⟩, _⟩ := HBX.out.later HB1.out; clear hb hb0)
        | (go_simp; go_at_call 65; refine (H2k.out _ HB1.out).mono ?_; rintro e w2 ⟨rfl, hb⟩; have HB2 : Hid (Below W0.heap.size W0 w2) := HB1.out.trans (hb.mono HB1.out.size); have bA := balloc w2 (.cells #[.int .i64 (k : Int), .int .i64 g1, .int .i64 b1] 37); obtain ⟨v5, w5, r1, o5, g5, b5⟩ := appendU_run (w2.alloc (.cells #[.int .i64 (k : Int), .int .i64 g1, .int .i64 b1] 37)) W0.heap.size (.slice a9 k c9) out [((k : Int), g1, b1)] (some ⟨w2.heap.size, 0, none⟩) 1 1 ((HO1.out.later hb).later bA) (litU w2 _ _ _) rfl (fun h => by cases h) (by rw [HLn.out]; omega) (by have := HB2.out.size; have := bA.size; omega); have HO5 : Hid (OwnU w5 W0.heap.size v5 (out ++ [((k : Int), g1, b1)])) := o5; have HB5 : Hid (Below W0.heap.size W0 w5) := (HB2.out.trans (bA.mono HB2.out.size)).trans b5; obtain ⟨⟨e0, e1⟩, _⟩ := HBX.out.later HB2.out; obtain ⟨⟨f0, f1⟩, _⟩ := (HBX.out.later HB2.out).later bA; clear hb bA o5 g5 b5)
        | (refine step_append_run rfl (.tmp 12) (.tmp 23) 27 27 rfl (.slice a9 k c9) (.slice (some ⟨w2.heap.size, 0, none⟩) 1 1) (by simp [Act.eval, Act.put]) (by simp [Act.eval, Act.put]) (r1 _) ?_))
      all_goals go_wp2
      all_goals go_roundw
      all_goals first | exact ⟨k + 1, by omega, by go_num, by show OwnU _ _ _ _; rw [HS.out]; exact HO5.out, HB5⟩ | (simp [intOf]; omega)
    · obtain rfl : n = k := by omega
      have hx : ¬ (n : Int) < (n : Int) := by omega
      have HLn : Hid ((talT n vg vb).length = n) := talT_length n vg vb
      obtain ⟨a9, c9, hv⟩ := hO.out.shape
      rw [HLn.out] at hv
      subst hv
      have q3 := implGoodT_c a9 n c9 (talT n vg vb) wr HLn.out (by omega) hO.out.rd'.2
      have HV : Hid (tasB (talT n vg vb) = true → talV n vg vb = talT n vg vb) := fun h => by unfold talV; rw [if_pos h]
      have HN : Hid (tasB (talT n vg vb) = false → talV n vg vb = []) := fun h => by unfold talV; rw [h]; rfl
      have HT : Hid (tasB (talT n vg vb) = tasB (talT n vg vb)) := rfl
      obtain ⟨fb, hfb⟩ : ∃ fb, tasB (talT n vg vb) = fb := ⟨_, rfl⟩
      have HFB : Hid (tasB (talT n vg vb) = fb) := hfb
      rw [hfb] at q3
      clear hfb
      cases fb
      · have e2 := HN.out HFB.out
        have hq0 : q = 0 := by have := HQ.out; rw [e2] at this; exact this.symm
        have HE2 : Hid (talV n vg vb = []) := e2
        subst hq0
        clear e2
        go_wp2_with fail
        refine q3.mono ?_
        clear q3
        rintro e w3 ⟨rfl, hb⟩
        go_wp2
        refine bodyPost_ret (v := .tuple #[.slice none 0 0, .bool false]) (by simp [results, Tryz.results37, go_sem]; try rfl) rfl ?_
        exact ⟨none, 0, by rw [HFB.out], by rw [HE2.out]; exact own_nilU _ _, (HB0.out.trans (hB.out.mono HB0.out.size)).trans (hb.mono (by have := HB0.out.size; have := hB.out.size; omega))⟩
      · have e2 := HV.out HFB.out
        have hq0 : q = n := by have := HQ.out; rw [e2, HLn.out] at this; exact this.symm
        have HE2 : Hid (talV n vg vb = talT n vg vb) := e2
        subst hq0
        clear e2
        go_wp2_with fail
        refine q3.mono ?_
        clear q3
        rintro e w3 ⟨rfl, hb⟩
        go_wp2
        refine bodyPost_ret (v := .tuple #[.slice a9 q c9, .bool true]) (by simp [results, Tryz.results37, go_sem]; try rfl) rfl ?_
        exact ⟨a9, c9, by rw [HFB.out], by rw [HE2.out]; exact (hO.out.later hb).mono HB0.out.size, (HB0.out.trans (hB.out.mono HB0.out.size)).trans (hb.mono (by have := HB0.out.size; have := hB.out.size; omega))⟩

end Go.Proofs.YtleddlfojogdiaaGreat

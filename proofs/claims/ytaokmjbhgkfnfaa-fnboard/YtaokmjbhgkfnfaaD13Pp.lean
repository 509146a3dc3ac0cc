/- Chapter 13: DrawPlayBoard, DrawNewBoard, DrawQuorumFor. -/
import Derived.Test.YtaokmjbhgkfnfaaSM13p
namespace Go.Proofs.Ytaokmjbhgkfnfaa
set_option linter.unusedVariables false
set_option maxRecDepth 1000000
set_option linter.unusedSimpArgs false
open Go.RowKit

/-- What DrawPlayBoard draws. -/
def DrawnPl (w : World) (r : Ending) (w' : World) : Prop := ∃ (f : Int) (pa : Option Addr) (pn pc : Nat) (qi : List Int) (lo : Option Addr) (q lc : Nat) (l : List (Int × Int × Int)), r = .returned (.tuple #[.int .i64 f, .slice pa pn pc, .slice lo q lc]) ∧ pn ≤ 5 ∧ q ≤ 61 ∧ Own w' w.heap.size (.slice pa pn pc) qi ∧ OwnT w' w.heap.size (.slice lo q lc) l ∧ Below w.heap.size w w'
set_option maxHeartbeats 4000000 in
theorem drawPlay_c (ao : Option Addr) (n c : Nat) (w : World) (hn : n ≤ 9223372036854775807) (h : CodeOk w w.heap.size ao n) :
    Calls Try.prog 12 #[.slice ao n c] w fun r w' => DrawnPl w r w' := by
  have bC := balloc w (.cells #[.slice ao n c, .int .i64 0, .int .u64 0] 82)
  have hC := cur_new (c := c) 82 hn h
  have hs := (by simp : (w.alloc (.cells #[.slice ao n c, .int .i64 0, .int .u64 0] 82)).heap.size = w.heap.size + 1)
  obtain ⟨w0, hw0⟩ : ∃ V, w.alloc (.cells #[.slice ao n c, .int .i64 0, .int .u64 0] 82) = V := ⟨_, rfl⟩
  rw [hw0] at bC hC hs
  have C0 : Hid (Cur w0 w.heap.size ao n c 0) := hC
  have B0 : Hid (Below w.heap.size w w0) := bC
  have S0 : Hid (w0.heap.size = w.heap.size + 1) := hs
  clear bC hC hs h
  go_enter Try.func12, Try.ntmps12
  go_wp2_with fail
  clear hw0
  refine (boardOf_c w.heap.size ao n c 0 _ (by omega) C0.out).mono ?_
  rintro e0 w1 ⟨f, pa, pn, pc, qi, rfl, hpn, ho, hc, hg⟩
  have C1 : Hid (Cur w1 w.heap.size ao n c 60) := hc.mono (by omega)
  have G1 : Hid (GB w.heap.size w0 w1) := hg
  have P1 : Hid (Own w1 w0.heap.size (.slice pa pn pc) qi) := ho
  clear hc hg ho C0
  go_wp2_with fail
  refine (boardSteps_c w.heap.size ao n c _ _ (by omega) C1.out).mono ?_
  rintro e0 w2 ⟨lo, q, lc, l, rfl, hq, ho, hc, hg⟩
  have G2 : Hid (GB w.heap.size w0 w2) := G1.out.trans hg
  have P2 : Hid (Own w2 w.heap.size (.slice pa pn pc) qi) := (P1.out.kept hg (sep_own P1.out (by have := S0.out; omega))).mono B0.out.size
  have L2 : Hid (OwnT w2 w.heap.size (.slice lo q lc) l) := ho.mono (by have := S0.out; have := G1.out.size; omega)
  have B2 : Hid (Below w.heap.size w w2) := B0.out.trans (G2.out.below B0.out.size (Nat.le_refl _))
  clear hc hg ho C1 G1 P1
  go_wp2
  refine bodyPost_ret (v := .tuple #[.int .i64 f, .slice pa pn pc, .slice lo q lc]) (by simp [results, Try.results12, go_sem]; try rfl) rfl ?_
  exact ⟨f, pa, pn, pc, qi, lo, q, lc, l, rfl, hpn, hq, P2.out, L2.out, B2.out⟩
end Go.Proofs.Ytaokmjbhgkfnfaa

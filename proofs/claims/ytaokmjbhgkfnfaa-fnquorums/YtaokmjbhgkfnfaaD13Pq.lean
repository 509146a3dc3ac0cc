/- Chapter 13: DrawPlayBoard, DrawNewBoard, DrawQuorumFor. -/
import Derived.Test.YtaokmjbhgkfnfaaSM13q
namespace Go.Proofs.Ytaokmjbhgkfnfaa
set_option linter.unusedVariables false
set_option maxRecDepth 1000000
set_option linter.unusedSimpArgs false
open Go.RowKit

def DrawnNw (w : World) (r : Ending) (w' : World) : Prop := ∃ (f : Int) (pa : Option Addr) (pn pc : Nat) (qi : List Int), r = .returned (.tuple #[.int .i64 f, .slice pa pn pc]) ∧ pn ≤ 5 ∧ Own w' w.heap.size (.slice pa pn pc) qi ∧ Below w.heap.size w w'
set_option maxHeartbeats 4000000 in
theorem drawNew_c (ao : Option Addr) (n c : Nat) (w : World) (hn : n ≤ 9223372036854775807) (h : CodeOk w w.heap.size ao n) :
  Calls Try.prog 32 #[.slice ao n c] w fun r w' => DrawnNw w r w' := by
 have bC := balloc w (.cells #[.slice ao n c, .int .i64 0, .int .u64 0] 82)
 have hC := cur_new (c := c) 82 hn h
 have hs := (by simp : (w.alloc (.cells #[.slice ao n c, .int .i64 0, .int .u64 0] 82)).heap.size = w.heap.size + 1)
 obtain ⟨w0, hw0⟩ : ∃ V, w.alloc (.cells #[.slice ao n c, .int .i64 0, .int .u64 0] 82) = V := ⟨_, rfl⟩
 rw [hw0] at bC hC hs
 have C0 : Hid (Cur w0 w.heap.size ao n c 0) := hC
 have B0 : Hid (Below w.heap.size w w0) := bC
 have S0 : Hid (w0.heap.size = w.heap.size + 1) := hs
 clear bC hC hs h
 go_enter Try.func32, Try.ntmps32
 go_wp2_with fail
 clear hw0
 refine (boardOf_c w.heap.size ao n c 0 _ (by omega) C0.out).mono ?_
 rintro e0 w1 ⟨f, pa, pn, pc, qi, rfl, hpn, ho, hc, hg⟩
 have P1 : Hid (Own w1 w.heap.size (.slice pa pn pc) qi) := ho.mono B0.out.size
 have B1 : Hid (Below w.heap.size w w1) := B0.out.trans (hg.below B0.out.size (Nat.le_refl _))
 clear hc hg ho C0
 go_wp2
 refine bodyPost_ret (v := .tuple #[.int .i64 f, .slice pa pn pc]) (by simp [results, Try.results32, go_sem]; try rfl) rfl ?_
 exact ⟨f, pa, pn, pc, qi, rfl, hpn, P1.out, B1.out⟩
set_option maxHeartbeats 4000000 in
theorem drawQuo_c (ao : Option Addr) (n c : Nat) (w : World) (hn : n ≤ 9223372036854775807) (h : CodeOk w w.heap.size ao n) :
  Calls Try.prog 29 #[.slice ao n c] w fun r w' => ∃ f : Int, r = .returned (.int .i64 f) ∧ Below w.heap.size w w' := by
 have bC := balloc w (.cells #[.slice ao n c, .int .i64 0, .int .u64 0] 82)
 have hC := cur_new (c := c) 82 hn h
 have hs := (by simp : (w.alloc (.cells #[.slice ao n c, .int .i64 0, .int .u64 0] 82)).heap.size = w.heap.size + 1)
 obtain ⟨w0, hw0⟩ : ∃ V, w.alloc (.cells #[.slice ao n c, .int .i64 0, .int .u64 0] 82) = V := ⟨_, rfl⟩
 rw [hw0] at bC hC hs
 have C0 : Hid (Cur w0 w.heap.size ao n c 0) := hC
 have B0 : Hid (Below w.heap.size w w0) := bC
 have S0 : Hid (w0.heap.size = w.heap.size + 1) := hs
 clear bC hC hs h
 go_enter Try.func29, Try.ntmps29
 go_wp2_with fail
 clear hw0
 refine (pick_c w.heap.size ao n c 0 5 _ (by omega) (by omega) C0.out).mono ?_
 rintro e0 w1 ⟨f, rfl, h0, h1, hc, hg⟩
 have B1 : Hid (Below w.heap.size w w1) := B0.out.trans (hg.below B0.out.size (Nat.le_refl _))
 clear hc hg C0
 go_wp2
 go_ret
 exact ⟨f - 1, rfl, B1.out⟩

end Go.Proofs.Ytaokmjbhgkfnfaa

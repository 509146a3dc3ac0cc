/-
  No cell of these rows narrows 'for every input' (looked for: loops, veiled, ifaces, maps, wideKeys, modest, calm, conditions, laid).
  DERIVED. THE GIVEN ROWS OF THIS SEAT. 12 by the template 'for every input the law returns true; each argument reads behind the call as it read before'; 0 by the template 'total and deterministic' (their statements: YtlepejafednlfaaTotals.lean).
  GIVEN WITH THE SEED: the statements are not yours to turn. If you find one false, say at which input.
  Laid BY PROGRAM, IN A SANDBOX (cutbox-rows.mjs): the forced cells as the released guide's own fill.sh prints them over the translation 1972535cd2d6be9b… (all of the seat's roots in one cut). By AI agents, Wed Nov 11 2026. No macro, syntax, notation, axiom, sorry.
-/
import Derived.Test.YtlepejafednlfaaChecked
import GoSem.Claim
import GoSem.ClaimJoined
import GoSem.ClaimMapViews
import Derived.JoinedTies
import Derived.KernelRfl
namespace Go.Proofs.Ytlepejafednlfaa
/- THE CELL 'sum', in the pinned program and in every row, IS THE sha256 OF THE DUMP (.gsa) THAT YtlepejafednlfaaProg.lean LOADS. Nothing in Lean hashes anything: it is a label: what it is worth is what the hold of that sum in a sandbox is worth. -/
noncomputable def Try.pinned : Pinned := { name := "ytlepejafednlfaa", sum := "1972535cd2d6be9b593c9817b55e81a117b2a58a6628e7eb4032d5bf2787ca01", checked := Try.checked }
namespace Rows
def none {H : Type} : Left H := { results := [], args := [] }

/-- 'laws.FnSwitches': WHATEVER THE INPUT: true; the input reads as it did. -/
def fnSwitchesSpec : ChangeSpec := { name := "fnSwitches", fn := fun _ => fun
  | [d1, d2] => { results := [.lit (.bool true)], args := [d1, d2] }
  | _ => none }
def fnSwitchesRow : OpenClaim := { program := "ytlepejafednlfaa", sum := "1972535cd2d6be9b593c9817b55e81a117b2a58a6628e7eb4032d5bf2787ca01", func := "loop.example/g00549/laws.FnSwitches", spec := "fnSwitches", unfollowed := true, recurses := true, apart := false }
def FnSwitchesSaid : Prop := fnSwitchesRow.holds Try.pinned (OpenSpec.ofChange fnSwitchesSpec)

/-- ITS FALSE NEIGHBOUR: 'it returns false'. Refute it at one input. -/
def fnSwitchesWrong : ChangeSpec := { name := "fnSwitches", fn := fun _ => fun
  | [d1, d2] => { results := [.lit (.bool false)], args := [d1, d2] }
  | _ => none }
def FnSwitchesWrongFalsely : Prop := fnSwitchesRow.holds Try.pinned (OpenSpec.ofChange fnSwitchesWrong)

/-- 'laws.FnCycles': WHATEVER THE INPUT: true; the input reads as it did. -/
def fnCyclesSpec : ChangeSpec := { name := "fnCycles", fn := fun _ => fun
  | [d1, d2] => { results := [.lit (.bool true)], args := [d1, d2] }
  | _ => none }
def fnCyclesRow : OpenClaim := { program := "ytlepejafednlfaa", sum := "1972535cd2d6be9b593c9817b55e81a117b2a58a6628e7eb4032d5bf2787ca01", func := "loop.example/g00549/laws.FnCycles", spec := "fnCycles", unfollowed := true, recurses := true, apart := false }
def FnCyclesSaid : Prop := fnCyclesRow.holds Try.pinned (OpenSpec.ofChange fnCyclesSpec)

/-- ITS FALSE NEIGHBOUR: 'it returns false'. Refute it at one input. -/
def fnCyclesWrong : ChangeSpec := { name := "fnCycles", fn := fun _ => fun
  | [d1, d2] => { results := [.lit (.bool false)], args := [d1, d2] }
  | _ => none }
def FnCyclesWrongFalsely : Prop := fnCyclesRow.holds Try.pinned (OpenSpec.ofChange fnCyclesWrong)

/-- 'laws.FnExactIsOrder': WHATEVER THE INPUT: true; the input reads as it did. -/
def fnExactIsOrderSpec : ChangeSpec := { name := "fnExactIsOrder", fn := fun _ => fun
  | [d] => { results := [.lit (.bool true)], args := [d] }
  | _ => none }
def fnExactIsOrderRow : OpenClaim := { program := "ytlepejafednlfaa", sum := "1972535cd2d6be9b593c9817b55e81a117b2a58a6628e7eb4032d5bf2787ca01", func := "loop.example/g00549/laws.FnExactIsOrder", spec := "fnExactIsOrder", apart := false }
def FnExactIsOrderSaid : Prop := fnExactIsOrderRow.holds Try.pinned (OpenSpec.ofChange fnExactIsOrderSpec)

/-- ITS FALSE NEIGHBOUR: 'it returns false'. Refute it at one input. -/
def fnExactIsOrderWrong : ChangeSpec := { name := "fnExactIsOrder", fn := fun _ => fun
  | [d] => { results := [.lit (.bool false)], args := [d] }
  | _ => none }
def FnExactIsOrderWrongFalsely : Prop := fnExactIsOrderRow.holds Try.pinned (OpenSpec.ofChange fnExactIsOrderWrong)

/-- 'laws.FnExactThenOrder': WHATEVER THE INPUT: true; the input reads as it did. -/
def fnExactThenOrderSpec : ChangeSpec := { name := "fnExactThenOrder", fn := fun _ => fun
  | [d1, d2] => { results := [.lit (.bool true)], args := [d1, d2] }
  | _ => none }
def fnExactThenOrderRow : OpenClaim := { program := "ytlepejafednlfaa", sum := "1972535cd2d6be9b593c9817b55e81a117b2a58a6628e7eb4032d5bf2787ca01", func := "loop.example/g00549/laws.FnExactThenOrder", spec := "fnExactThenOrder", apart := false }
def FnExactThenOrderSaid : Prop := fnExactThenOrderRow.holds Try.pinned (OpenSpec.ofChange fnExactThenOrderSpec)

/-- ITS FALSE NEIGHBOUR: 'it returns false'. Refute it at one input. -/
def fnExactThenOrderWrong : ChangeSpec := { name := "fnExactThenOrder", fn := fun _ => fun
  | [d1, d2] => { results := [.lit (.bool false)], args := [d1, d2] }
  | _ => none }
def FnExactThenOrderWrongFalsely : Prop := fnExactThenOrderRow.holds Try.pinned (OpenSpec.ofChange fnExactThenOrderWrong)

/-- 'laws.FnExactBackOrder': WHATEVER THE INPUT: true; the input reads as it did. -/
def fnExactBackOrderSpec : ChangeSpec := { name := "fnExactBackOrder", fn := fun _ => fun
  | [d] => { results := [.lit (.bool true)], args := [d] }
  | _ => none }
def fnExactBackOrderRow : OpenClaim := { program := "ytlepejafednlfaa", sum := "1972535cd2d6be9b593c9817b55e81a117b2a58a6628e7eb4032d5bf2787ca01", func := "loop.example/g00549/laws.FnExactBackOrder", spec := "fnExactBackOrder", apart := false }
def FnExactBackOrderSaid : Prop := fnExactBackOrderRow.holds Try.pinned (OpenSpec.ofChange fnExactBackOrderSpec)

/-- ITS FALSE NEIGHBOUR: 'it returns false'. Refute it at one input. -/
def fnExactBackOrderWrong : ChangeSpec := { name := "fnExactBackOrder", fn := fun _ => fun
  | [d] => { results := [.lit (.bool false)], args := [d] }
  | _ => none }
def FnExactBackOrderWrongFalsely : Prop := fnExactBackOrderRow.holds Try.pinned (OpenSpec.ofChange fnExactBackOrderWrong)

/-- 'laws.FnExactCyclesOf': WHATEVER THE INPUT: true; the input reads as it did. -/
def fnExactCyclesOfSpec : ChangeSpec := { name := "fnExactCyclesOf", fn := fun _ => fun
  | [d] => { results := [.lit (.bool true)], args := [d] }
  | _ => none }
def fnExactCyclesOfRow : OpenClaim := { program := "ytlepejafednlfaa", sum := "1972535cd2d6be9b593c9817b55e81a117b2a58a6628e7eb4032d5bf2787ca01", func := "loop.example/g00549/laws.FnExactCyclesOf", spec := "fnExactCyclesOf", unfollowed := true, recurses := true, apart := false }
def FnExactCyclesOfSaid : Prop := fnExactCyclesOfRow.holds Try.pinned (OpenSpec.ofChange fnExactCyclesOfSpec)

/-- ITS FALSE NEIGHBOUR: 'it returns false'. Refute it at one input. -/
def fnExactCyclesOfWrong : ChangeSpec := { name := "fnExactCyclesOf", fn := fun _ => fun
  | [d] => { results := [.lit (.bool false)], args := [d] }
  | _ => none }
def FnExactCyclesOfWrongFalsely : Prop := fnExactCyclesOfRow.holds Try.pinned (OpenSpec.ofChange fnExactCyclesOfWrong)

/-- 'laws.FnExactSignOf': WHATEVER THE INPUT: true; the input reads as it did. -/
def fnExactSignOfSpec : ChangeSpec := { name := "fnExactSignOf", fn := fun _ => fun
  | [d] => { results := [.lit (.bool true)], args := [d] }
  | _ => none }
def fnExactSignOfRow : OpenClaim := { program := "ytlepejafednlfaa", sum := "1972535cd2d6be9b593c9817b55e81a117b2a58a6628e7eb4032d5bf2787ca01", func := "loop.example/g00549/laws.FnExactSignOf", spec := "fnExactSignOf", unfollowed := true, recurses := true, apart := false }
def FnExactSignOfSaid : Prop := fnExactSignOfRow.holds Try.pinned (OpenSpec.ofChange fnExactSignOfSpec)

/-- ITS FALSE NEIGHBOUR: 'it returns false'. Refute it at one input. -/
def fnExactSignOfWrong : ChangeSpec := { name := "fnExactSignOf", fn := fun _ => fun
  | [d] => { results := [.lit (.bool false)], args := [d] }
  | _ => none }
def FnExactSignOfWrongFalsely : Prop := fnExactSignOfRow.holds Try.pinned (OpenSpec.ofChange fnExactSignOfWrong)

/-- 'laws.FnExactLengthOf': WHATEVER THE INPUT: true; the input reads as it did. -/
def fnExactLengthOfSpec : ChangeSpec := { name := "fnExactLengthOf", fn := fun _ => fun
  | [d] => { results := [.lit (.bool true)], args := [d] }
  | _ => none }
def fnExactLengthOfRow : OpenClaim := { program := "ytlepejafednlfaa", sum := "1972535cd2d6be9b593c9817b55e81a117b2a58a6628e7eb4032d5bf2787ca01", func := "loop.example/g00549/laws.FnExactLengthOf", spec := "fnExactLengthOf", unfollowed := true, recurses := true, apart := false }
def FnExactLengthOfSaid : Prop := fnExactLengthOfRow.holds Try.pinned (OpenSpec.ofChange fnExactLengthOfSpec)

/-- ITS FALSE NEIGHBOUR: 'it returns false'. Refute it at one input. -/
def fnExactLengthOfWrong : ChangeSpec := { name := "fnExactLengthOf", fn := fun _ => fun
  | [d] => { results := [.lit (.bool false)], args := [d] }
  | _ => none }
def FnExactLengthOfWrongFalsely : Prop := fnExactLengthOfRow.holds Try.pinned (OpenSpec.ofChange fnExactLengthOfWrong)

/-- 'laws.FnExactApplyOrder': WHATEVER THE INPUT: true; the input reads as it did. -/
def fnExactApplyOrderSpec : ChangeSpec := { name := "fnExactApplyOrder", fn := fun _ => fun
  | [d1, d2] => { results := [.lit (.bool true)], args := [d1, d2] }
  | _ => none }
def fnExactApplyOrderRow : OpenClaim := { program := "ytlepejafednlfaa", sum := "1972535cd2d6be9b593c9817b55e81a117b2a58a6628e7eb4032d5bf2787ca01", func := "loop.example/g00549/laws.FnExactApplyOrder", spec := "fnExactApplyOrder", apart := false }
def FnExactApplyOrderSaid : Prop := fnExactApplyOrderRow.holds Try.pinned (OpenSpec.ofChange fnExactApplyOrderSpec)

/-- ITS FALSE NEIGHBOUR: 'it returns false'. Refute it at one input. -/
def fnExactApplyOrderWrong : ChangeSpec := { name := "fnExactApplyOrder", fn := fun _ => fun
  | [d1, d2] => { results := [.lit (.bool false)], args := [d1, d2] }
  | _ => none }
def FnExactApplyOrderWrongFalsely : Prop := fnExactApplyOrderRow.holds Try.pinned (OpenSpec.ofChange fnExactApplyOrderWrong)

/-- 'laws.FnExactSwitchCount': WHATEVER THE INPUT: true; the input reads as it did. -/
def fnExactSwitchCountSpec : ChangeSpec := { name := "fnExactSwitchCount", fn := fun _ => fun
  | [d] => { results := [.lit (.bool true)], args := [d] }
  | _ => none }
def fnExactSwitchCountRow : OpenClaim := { program := "ytlepejafednlfaa", sum := "1972535cd2d6be9b593c9817b55e81a117b2a58a6628e7eb4032d5bf2787ca01", func := "loop.example/g00549/laws.FnExactSwitchCount", spec := "fnExactSwitchCount", recurses := true, apart := false }
def FnExactSwitchCountSaid : Prop := fnExactSwitchCountRow.holds Try.pinned (OpenSpec.ofChange fnExactSwitchCountSpec)

/-- ITS FALSE NEIGHBOUR: 'it returns false'. Refute it at one input. -/
def fnExactSwitchCountWrong : ChangeSpec := { name := "fnExactSwitchCount", fn := fun _ => fun
  | [d] => { results := [.lit (.bool false)], args := [d] }
  | _ => none }
def FnExactSwitchCountWrongFalsely : Prop := fnExactSwitchCountRow.holds Try.pinned (OpenSpec.ofChange fnExactSwitchCountWrong)

/-- 'laws.FnExactRouteOrder': WHATEVER THE INPUT: true; the input reads as it did. -/
def fnExactRouteOrderSpec : ChangeSpec := { name := "fnExactRouteOrder", fn := fun _ => fun
  | [d] => { results := [.lit (.bool true)], args := [d] }
  | _ => none }
def fnExactRouteOrderRow : OpenClaim := { program := "ytlepejafednlfaa", sum := "1972535cd2d6be9b593c9817b55e81a117b2a58a6628e7eb4032d5bf2787ca01", func := "loop.example/g00549/laws.FnExactRouteOrder", spec := "fnExactRouteOrder", unfollowed := true, recurses := true, apart := false }
def FnExactRouteOrderSaid : Prop := fnExactRouteOrderRow.holds Try.pinned (OpenSpec.ofChange fnExactRouteOrderSpec)

/-- ITS FALSE NEIGHBOUR: 'it returns false'. Refute it at one input. -/
def fnExactRouteOrderWrong : ChangeSpec := { name := "fnExactRouteOrder", fn := fun _ => fun
  | [d] => { results := [.lit (.bool false)], args := [d] }
  | _ => none }
def FnExactRouteOrderWrongFalsely : Prop := fnExactRouteOrderRow.holds Try.pinned (OpenSpec.ofChange fnExactRouteOrderWrong)

/-- 'laws.FnExactRunSwitches': WHATEVER THE INPUT: true; the input reads as it did. -/
def fnExactRunSwitchesSpec : ChangeSpec := { name := "fnExactRunSwitches", fn := fun _ => fun
  | [d1, d2, d3] => { results := [.lit (.bool true)], args := [d1, d2, d3] }
  | _ => none }
def fnExactRunSwitchesRow : OpenClaim := { program := "ytlepejafednlfaa", sum := "1972535cd2d6be9b593c9817b55e81a117b2a58a6628e7eb4032d5bf2787ca01", func := "loop.example/g00549/laws.FnExactRunSwitches", spec := "fnExactRunSwitches", unfollowed := true, recurses := true, apart := false }
def FnExactRunSwitchesSaid : Prop := fnExactRunSwitchesRow.holds Try.pinned (OpenSpec.ofChange fnExactRunSwitchesSpec)

/-- ITS FALSE NEIGHBOUR: 'it returns false'. Refute it at one input. -/
def fnExactRunSwitchesWrong : ChangeSpec := { name := "fnExactRunSwitches", fn := fun _ => fun
  | [d1, d2, d3] => { results := [.lit (.bool false)], args := [d1, d2, d3] }
  | _ => none }
def FnExactRunSwitchesWrongFalsely : Prop := fnExactRunSwitchesRow.holds Try.pinned (OpenSpec.ofChange fnExactRunSwitchesWrong)

/- THE SECOND FORM. 'bulk': how many values and letters a reading holds, each counted each time it is reached (what is shared counts as often as it is met; a slice's spare places count too). A statement '..UptoSaid' is the law's where the arguments, and the package variables that the reading takes, are together of bulk at most 1048576: NARROWER than '..Said'. Prove '..Said' where nothing that the law and all that it calls make is longer than what came in: it says more and counts as full. Else prove '..UptoSaid'. A law counts once. -/
mutual
def uptoBulk {H : Type} : DataW H → Nat
  | .lit (.string bytes) => bytes.length + 1
  | .lit _ => 1
  | .nil => 1
  | .ptr d => uptoBulk d + 1
  | .slice elems spare => uptoBulkAll elems + uptoBulkAll spare + 1
  | .agg parts => uptoBulkAll parts + 1
  | .iface _ d => uptoBulk d + 1
  | .map entries => uptoBulkEntries entries + 1
  | .held _ => 1
def uptoBulkAll {H : Type} : List (DataW H) → Nat
  | [] => 0
  | d :: r => uptoBulk d + uptoBulkAll r
def uptoBulkEntries {H : Type} : List (Lit × DataW H) → Nat
  | [] => 0
  | x :: r => uptoBulkEntry x + uptoBulkEntries r
def uptoBulkEntry {H : Type} : Lit × DataW H → Nat
  | (.string bytes, d) => bytes.length + uptoBulk d + 1
  | (_, d) => uptoBulk d + 1
 end
def uptoSmall : (H : Type) → List (DataW H) → Bool := fun _ ds => decide (uptoBulkAll ds ≤ 1048576)
def OpenSpec.upto (s : _root_.Go.ChangeSpec) : _root_.Go.OpenSpec := { _root_.Go.OpenSpec.ofChange s with cond := some uptoSmall }

/-- 'laws.FnSwitches', WHERE WHAT IT READS IS OF BULK AT MOST 1048576: true; the input reads as it did. -/
def fnSwitchesUptoRow : OpenClaim := { program := "ytlepejafednlfaa", sum := "1972535cd2d6be9b593c9817b55e81a117b2a58a6628e7eb4032d5bf2787ca01", func := "loop.example/g00549/laws.FnSwitches", spec := "fnSwitches", unfollowed := true, recurses := true, apart := false, narrowed := true }
def FnSwitchesUptoSaid : Prop := fnSwitchesUptoRow.holds Try.pinned (OpenSpec.upto fnSwitchesSpec)

/-- 'laws.FnCycles', WHERE WHAT IT READS IS OF BULK AT MOST 1048576: true; the input reads as it did. -/
def fnCyclesUptoRow : OpenClaim := { program := "ytlepejafednlfaa", sum := "1972535cd2d6be9b593c9817b55e81a117b2a58a6628e7eb4032d5bf2787ca01", func := "loop.example/g00549/laws.FnCycles", spec := "fnCycles", unfollowed := true, recurses := true, apart := false, narrowed := true }
def FnCyclesUptoSaid : Prop := fnCyclesUptoRow.holds Try.pinned (OpenSpec.upto fnCyclesSpec)

/-- 'laws.FnExactIsOrder', WHERE WHAT IT READS IS OF BULK AT MOST 1048576: true; the input reads as it did. -/
def fnExactIsOrderUptoRow : OpenClaim := { program := "ytlepejafednlfaa", sum := "1972535cd2d6be9b593c9817b55e81a117b2a58a6628e7eb4032d5bf2787ca01", func := "loop.example/g00549/laws.FnExactIsOrder", spec := "fnExactIsOrder", apart := false, narrowed := true }
def FnExactIsOrderUptoSaid : Prop := fnExactIsOrderUptoRow.holds Try.pinned (OpenSpec.upto fnExactIsOrderSpec)

/-- 'laws.FnExactThenOrder', WHERE WHAT IT READS IS OF BULK AT MOST 1048576: true; the input reads as it did. -/
def fnExactThenOrderUptoRow : OpenClaim := { program := "ytlepejafednlfaa", sum := "1972535cd2d6be9b593c9817b55e81a117b2a58a6628e7eb4032d5bf2787ca01", func := "loop.example/g00549/laws.FnExactThenOrder", spec := "fnExactThenOrder", apart := false, narrowed := true }
def FnExactThenOrderUptoSaid : Prop := fnExactThenOrderUptoRow.holds Try.pinned (OpenSpec.upto fnExactThenOrderSpec)

/-- 'laws.FnExactBackOrder', WHERE WHAT IT READS IS OF BULK AT MOST 1048576: true; the input reads as it did. -/
def fnExactBackOrderUptoRow : OpenClaim := { program := "ytlepejafednlfaa", sum := "1972535cd2d6be9b593c9817b55e81a117b2a58a6628e7eb4032d5bf2787ca01", func := "loop.example/g00549/laws.FnExactBackOrder", spec := "fnExactBackOrder", apart := false, narrowed := true }
def FnExactBackOrderUptoSaid : Prop := fnExactBackOrderUptoRow.holds Try.pinned (OpenSpec.upto fnExactBackOrderSpec)

/-- 'laws.FnExactCyclesOf', WHERE WHAT IT READS IS OF BULK AT MOST 1048576: true; the input reads as it did. -/
def fnExactCyclesOfUptoRow : OpenClaim := { program := "ytlepejafednlfaa", sum := "1972535cd2d6be9b593c9817b55e81a117b2a58a6628e7eb4032d5bf2787ca01", func := "loop.example/g00549/laws.FnExactCyclesOf", spec := "fnExactCyclesOf", unfollowed := true, recurses := true, apart := false, narrowed := true }
def FnExactCyclesOfUptoSaid : Prop := fnExactCyclesOfUptoRow.holds Try.pinned (OpenSpec.upto fnExactCyclesOfSpec)

/-- 'laws.FnExactSignOf', WHERE WHAT IT READS IS OF BULK AT MOST 1048576: true; the input reads as it did. -/
def fnExactSignOfUptoRow : OpenClaim := { program := "ytlepejafednlfaa", sum := "1972535cd2d6be9b593c9817b55e81a117b2a58a6628e7eb4032d5bf2787ca01", func := "loop.example/g00549/laws.FnExactSignOf", spec := "fnExactSignOf", unfollowed := true, recurses := true, apart := false, narrowed := true }
def FnExactSignOfUptoSaid : Prop := fnExactSignOfUptoRow.holds Try.pinned (OpenSpec.upto fnExactSignOfSpec)

/-- 'laws.FnExactLengthOf', WHERE WHAT IT READS IS OF BULK AT MOST 1048576: true; the input reads as it did. -/
def fnExactLengthOfUptoRow : OpenClaim := { program := "ytlepejafednlfaa", sum := "1972535cd2d6be9b593c9817b55e81a117b2a58a6628e7eb4032d5bf2787ca01", func := "loop.example/g00549/laws.FnExactLengthOf", spec := "fnExactLengthOf", unfollowed := true, recurses := true, apart := false, narrowed := true }
def FnExactLengthOfUptoSaid : Prop := fnExactLengthOfUptoRow.holds Try.pinned (OpenSpec.upto fnExactLengthOfSpec)

/-- 'laws.FnExactApplyOrder', WHERE WHAT IT READS IS OF BULK AT MOST 1048576: true; the input reads as it did. -/
def fnExactApplyOrderUptoRow : OpenClaim := { program := "ytlepejafednlfaa", sum := "1972535cd2d6be9b593c9817b55e81a117b2a58a6628e7eb4032d5bf2787ca01", func := "loop.example/g00549/laws.FnExactApplyOrder", spec := "fnExactApplyOrder", apart := false, narrowed := true }
def FnExactApplyOrderUptoSaid : Prop := fnExactApplyOrderUptoRow.holds Try.pinned (OpenSpec.upto fnExactApplyOrderSpec)

/-- 'laws.FnExactSwitchCount', WHERE WHAT IT READS IS OF BULK AT MOST 1048576: true; the input reads as it did. -/
def fnExactSwitchCountUptoRow : OpenClaim := { program := "ytlepejafednlfaa", sum := "1972535cd2d6be9b593c9817b55e81a117b2a58a6628e7eb4032d5bf2787ca01", func := "loop.example/g00549/laws.FnExactSwitchCount", spec := "fnExactSwitchCount", recurses := true, apart := false, narrowed := true }
def FnExactSwitchCountUptoSaid : Prop := fnExactSwitchCountUptoRow.holds Try.pinned (OpenSpec.upto fnExactSwitchCountSpec)

/-- 'laws.FnExactRouteOrder', WHERE WHAT IT READS IS OF BULK AT MOST 1048576: true; the input reads as it did. -/
def fnExactRouteOrderUptoRow : OpenClaim := { program := "ytlepejafednlfaa", sum := "1972535cd2d6be9b593c9817b55e81a117b2a58a6628e7eb4032d5bf2787ca01", func := "loop.example/g00549/laws.FnExactRouteOrder", spec := "fnExactRouteOrder", unfollowed := true, recurses := true, apart := false, narrowed := true }
def FnExactRouteOrderUptoSaid : Prop := fnExactRouteOrderUptoRow.holds Try.pinned (OpenSpec.upto fnExactRouteOrderSpec)

/-- 'laws.FnExactRunSwitches', WHERE WHAT IT READS IS OF BULK AT MOST 1048576: true; the input reads as it did. -/
def fnExactRunSwitchesUptoRow : OpenClaim := { program := "ytlepejafednlfaa", sum := "1972535cd2d6be9b593c9817b55e81a117b2a58a6628e7eb4032d5bf2787ca01", func := "loop.example/g00549/laws.FnExactRunSwitches", spec := "fnExactRunSwitches", unfollowed := true, recurses := true, apart := false, narrowed := true }
def FnExactRunSwitchesUptoSaid : Prop := fnExactRunSwitchesUptoRow.holds Try.pinned (OpenSpec.upto fnExactRunSwitchesSpec)

end Rows
end Go.Proofs.Ytlepejafednlfaa

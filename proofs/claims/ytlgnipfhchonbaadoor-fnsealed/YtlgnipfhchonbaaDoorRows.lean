/-
  NARROWER THAN 'FOR EVERY INPUT', by the rows' own cells (each row's printed sentence says how): FnShared: laid · FnSealed: laid · FnExactPublicFor: laid · FnExactSealNumber: laid · FnExactSealAgain: laid.
  DERIVED. THE GIVEN ROWS OF THIS SEAT. 5 by the template 'for every input the law returns true; each argument reads behind the call as it read before'; 0 by the template 'total and deterministic' (their statements: YtlgnipfhchonbaaDoorTotals.lean).
  GIVEN WITH THE SEED: the statements are not yours to turn. If you find one false, say at which input.
  Laid BY PROGRAM, IN A SANDBOX (cutbox-rows.mjs): the forced cells as the released guide's own fill.sh prints them over the translation 494be2d4a8f82926… (all of the seat's roots in one cut). By AI agents, Wed Nov 11 2026. No macro, syntax, notation, axiom, sorry.
-/
import Derived.Test.YtlgnipfhchonbaaDoorChecked
import GoSem.Claim
import GoSem.ClaimJoined
import GoSem.ClaimMapViews
import Derived.JoinedTies
import Derived.KernelRfl
namespace Go.Proofs.YtlgnipfhchonbaaDoor
/- THE CELL 'sum', in the pinned program and in every row, IS THE sha256 OF THE DUMP (.gsa) THAT YtlgnipfhchonbaaDoorProg.lean LOADS. Nothing in Lean hashes anything: it is a label: what it is worth is what the hold of that sum in a sandbox is worth. -/
noncomputable def Tryd.pinned : Pinned := { name := "ytlgnipfhchonbaadoor", sum := "494be2d4a8f82926568d40b8b34c5de41e4fcd35b65114de243f5b1ea5778617", checked := Tryd.checked }
namespace Rows
def none {H : Type} : Left H := { results := [], args := [] }

/- WHAT THE LISTED PACKAGE-LEVEL VARIABLES READ AS WHEN THE CALL BEGINS. Each datum BY PROGRAM (the guide's laid-datum.mjs) off the statement by which the dump's own 'gosem.cut.vars' lays the variable. In a bare row this is a premise. The card (YtlgnipfhchonbaaDoorCards.lean) ties it to the program's text. -/
def laid_loop_example_g00549_impl_rootSquares {H : Type} : DataW H := .agg [.lit (.int .i64 4), .lit (.int .i64 16), .lit (.int .i64 256), .lit (.int .i64 2557), .lit (.int .i64 429), .lit (.int .i64 1102), .lit (.int .i64 2808), .lit (.int .i64 493), .lit (.int .i64 130), .lit (.int .i64 1905), .lit (.int .i64 235)]

/-- 'laws.FnShared': WHATEVER THE INPUT: true; the input reads as it did. -/
def fnSharedSpec : ChangeSpec := { name := "fnShared", vars := ["loop.example/g00549/impl.rootSquares"], fn := fun _ => fun
  | [d1, d2, g1] => { results := [.lit (.bool true)], args := [d1, d2], vars := [g1] }
  | _ => none }
def fnSharedRow : OpenClaim := { program := "ytlgnipfhchonbaadoor", sum := "494be2d4a8f82926568d40b8b34c5de41e4fcd35b65114de243f5b1ea5778617", func := "loop.example/g00549/laws.FnShared", spec := "fnShared", named := ["loop.example/g00549/impl.rootSquares"], apart := false, laid := [("loop.example/g00549/impl.rootSquares", laid_loop_example_g00549_impl_rootSquares)] }
def FnSharedSaid : Prop := fnSharedRow.holds Tryd.pinned (OpenSpec.ofChange fnSharedSpec)

/-- ITS FALSE NEIGHBOUR: 'it returns false'. Refute it at one input. -/
def fnSharedWrong : ChangeSpec := { name := "fnShared", vars := ["loop.example/g00549/impl.rootSquares"], fn := fun _ => fun
  | [d1, d2, g1] => { results := [.lit (.bool false)], args := [d1, d2], vars := [g1] }
  | _ => none }
def FnSharedWrongFalsely : Prop := fnSharedRow.holds Tryd.pinned (OpenSpec.ofChange fnSharedWrong)

/-- 'laws.FnSealed': WHATEVER THE INPUT: true; the input reads as it did. -/
def fnSealedSpec : ChangeSpec := { name := "fnSealed", vars := ["loop.example/g00549/impl.rootSquares"], fn := fun _ => fun
  | [d1, d2, g1] => { results := [.lit (.bool true)], args := [d1, d2], vars := [g1] }
  | _ => none }
def fnSealedRow : OpenClaim := { program := "ytlgnipfhchonbaadoor", sum := "494be2d4a8f82926568d40b8b34c5de41e4fcd35b65114de243f5b1ea5778617", func := "loop.example/g00549/laws.FnSealed", spec := "fnSealed", named := ["loop.example/g00549/impl.rootSquares"], apart := false, laid := [("loop.example/g00549/impl.rootSquares", laid_loop_example_g00549_impl_rootSquares)] }
def FnSealedSaid : Prop := fnSealedRow.holds Tryd.pinned (OpenSpec.ofChange fnSealedSpec)

/-- ITS FALSE NEIGHBOUR: 'it returns false'. Refute it at one input. -/
def fnSealedWrong : ChangeSpec := { name := "fnSealed", vars := ["loop.example/g00549/impl.rootSquares"], fn := fun _ => fun
  | [d1, d2, g1] => { results := [.lit (.bool false)], args := [d1, d2], vars := [g1] }
  | _ => none }
def FnSealedWrongFalsely : Prop := fnSealedRow.holds Tryd.pinned (OpenSpec.ofChange fnSealedWrong)

/-- 'laws.FnExactPublicFor': WHATEVER THE INPUT: true; the input reads as it did. -/
def fnExactPublicForSpec : ChangeSpec := { name := "fnExactPublicFor", vars := ["loop.example/g00549/impl.rootSquares"], fn := fun _ => fun
  | [d, g1] => { results := [.lit (.bool true)], args := [d], vars := [g1] }
  | _ => none }
def fnExactPublicForRow : OpenClaim := { program := "ytlgnipfhchonbaadoor", sum := "494be2d4a8f82926568d40b8b34c5de41e4fcd35b65114de243f5b1ea5778617", func := "loop.example/g00549/laws.FnExactPublicFor", spec := "fnExactPublicFor", named := ["loop.example/g00549/impl.rootSquares"], apart := false, laid := [("loop.example/g00549/impl.rootSquares", laid_loop_example_g00549_impl_rootSquares)] }
def FnExactPublicForSaid : Prop := fnExactPublicForRow.holds Tryd.pinned (OpenSpec.ofChange fnExactPublicForSpec)

/-- ITS FALSE NEIGHBOUR: 'it returns false'. Refute it at one input. -/
def fnExactPublicForWrong : ChangeSpec := { name := "fnExactPublicFor", vars := ["loop.example/g00549/impl.rootSquares"], fn := fun _ => fun
  | [d, g1] => { results := [.lit (.bool false)], args := [d], vars := [g1] }
  | _ => none }
def FnExactPublicForWrongFalsely : Prop := fnExactPublicForRow.holds Tryd.pinned (OpenSpec.ofChange fnExactPublicForWrong)

/-- 'laws.FnExactSealNumber': WHATEVER THE INPUT: true; the input reads as it did. -/
def fnExactSealNumberSpec : ChangeSpec := { name := "fnExactSealNumber", vars := ["loop.example/g00549/impl.rootSquares"], fn := fun _ => fun
  | [d1, d2, d3, g1] => { results := [.lit (.bool true)], args := [d1, d2, d3], vars := [g1] }
  | _ => none }
def fnExactSealNumberRow : OpenClaim := { program := "ytlgnipfhchonbaadoor", sum := "494be2d4a8f82926568d40b8b34c5de41e4fcd35b65114de243f5b1ea5778617", func := "loop.example/g00549/laws.FnExactSealNumber", spec := "fnExactSealNumber", named := ["loop.example/g00549/impl.rootSquares"], apart := false, laid := [("loop.example/g00549/impl.rootSquares", laid_loop_example_g00549_impl_rootSquares)] }
def FnExactSealNumberSaid : Prop := fnExactSealNumberRow.holds Tryd.pinned (OpenSpec.ofChange fnExactSealNumberSpec)

/-- ITS FALSE NEIGHBOUR: 'it returns false'. Refute it at one input. -/
def fnExactSealNumberWrong : ChangeSpec := { name := "fnExactSealNumber", vars := ["loop.example/g00549/impl.rootSquares"], fn := fun _ => fun
  | [d1, d2, d3, g1] => { results := [.lit (.bool false)], args := [d1, d2, d3], vars := [g1] }
  | _ => none }
def FnExactSealNumberWrongFalsely : Prop := fnExactSealNumberRow.holds Tryd.pinned (OpenSpec.ofChange fnExactSealNumberWrong)

/-- 'laws.FnExactSealAgain': WHATEVER THE INPUT: true; the input reads as it did. -/
def fnExactSealAgainSpec : ChangeSpec := { name := "fnExactSealAgain", vars := ["loop.example/g00549/impl.rootSquares"], fn := fun _ => fun
  | [d1, d2, d3, g1] => { results := [.lit (.bool true)], args := [d1, d2, d3], vars := [g1] }
  | _ => none }
def fnExactSealAgainRow : OpenClaim := { program := "ytlgnipfhchonbaadoor", sum := "494be2d4a8f82926568d40b8b34c5de41e4fcd35b65114de243f5b1ea5778617", func := "loop.example/g00549/laws.FnExactSealAgain", spec := "fnExactSealAgain", named := ["loop.example/g00549/impl.rootSquares"], apart := false, laid := [("loop.example/g00549/impl.rootSquares", laid_loop_example_g00549_impl_rootSquares)] }
def FnExactSealAgainSaid : Prop := fnExactSealAgainRow.holds Tryd.pinned (OpenSpec.ofChange fnExactSealAgainSpec)

/-- ITS FALSE NEIGHBOUR: 'it returns false'. Refute it at one input. -/
def fnExactSealAgainWrong : ChangeSpec := { name := "fnExactSealAgain", vars := ["loop.example/g00549/impl.rootSquares"], fn := fun _ => fun
  | [d1, d2, d3, g1] => { results := [.lit (.bool false)], args := [d1, d2, d3], vars := [g1] }
  | _ => none }
def FnExactSealAgainWrongFalsely : Prop := fnExactSealAgainRow.holds Tryd.pinned (OpenSpec.ofChange fnExactSealAgainWrong)

/- THE SECOND FORM. 'bulk': how many values and letters a reading holds, each counted each time it is reached (what is shared counts as often as it is met; a slice's spare places count too). A statement '..UptoSaid' is the law's where the arguments, and the package variables that the reading takes, are together of bulk at most 1048576: NARROWER than '..Said'. Prove '..Said' where nothing that the law and all that it calls make is longer than what came in: it says more and counts as full. Else prove '..UptoSaid'. A law counts once. -/
mutual
def uptoBulk {H : Type} : DataW H → Nat
  | .lit (.string bytes) => bytes.length + 1
  | .lit _ => 1
  | .nil => 1
  | .ptr d => uptoBulk d + 1
  | .slice elems spare => uptoBulkAll elems + uptoBulkAll spare + 1
  | .agg parts => uptoBulkAll parts + 1
  | .iface _ d => uptoBulk d + 1
  | .map entries => uptoBulkEntries entries + 1
  | .held _ => 1
def uptoBulkAll {H : Type} : List (DataW H) → Nat
  | [] => 0
  | d :: r => uptoBulk d + uptoBulkAll r
def uptoBulkEntries {H : Type} : List (Lit × DataW H) → Nat
  | [] => 0
  | x :: r => uptoBulkEntry x + uptoBulkEntries r
def uptoBulkEntry {H : Type} : Lit × DataW H → Nat
  | (.string bytes, d) => bytes.length + uptoBulk d + 1
  | (_, d) => uptoBulk d + 1
 end
def uptoSmall : (H : Type) → List (DataW H) → Bool := fun _ ds => decide (uptoBulkAll ds ≤ 1048576)
def OpenSpec.upto (s : _root_.Go.ChangeSpec) : _root_.Go.OpenSpec := { _root_.Go.OpenSpec.ofChange s with cond := some uptoSmall }

/-- 'laws.FnShared', WHERE WHAT IT READS IS OF BULK AT MOST 1048576: true; the input reads as it did. -/
def fnSharedUptoRow : OpenClaim := { program := "ytlgnipfhchonbaadoor", sum := "494be2d4a8f82926568d40b8b34c5de41e4fcd35b65114de243f5b1ea5778617", func := "loop.example/g00549/laws.FnShared", spec := "fnShared", named := ["loop.example/g00549/impl.rootSquares"], apart := false, laid := [("loop.example/g00549/impl.rootSquares", laid_loop_example_g00549_impl_rootSquares)], narrowed := true }
def FnSharedUptoSaid : Prop := fnSharedUptoRow.holds Tryd.pinned (OpenSpec.upto fnSharedSpec)

/-- 'laws.FnSealed', WHERE WHAT IT READS IS OF BULK AT MOST 1048576: true; the input reads as it did. -/
def fnSealedUptoRow : OpenClaim := { program := "ytlgnipfhchonbaadoor", sum := "494be2d4a8f82926568d40b8b34c5de41e4fcd35b65114de243f5b1ea5778617", func := "loop.example/g00549/laws.FnSealed", spec := "fnSealed", named := ["loop.example/g00549/impl.rootSquares"], apart := false, laid := [("loop.example/g00549/impl.rootSquares", laid_loop_example_g00549_impl_rootSquares)], narrowed := true }
def FnSealedUptoSaid : Prop := fnSealedUptoRow.holds Tryd.pinned (OpenSpec.upto fnSealedSpec)

/-- 'laws.FnExactPublicFor', WHERE WHAT IT READS IS OF BULK AT MOST 1048576: true; the input reads as it did. -/
def fnExactPublicForUptoRow : OpenClaim := { program := "ytlgnipfhchonbaadoor", sum := "494be2d4a8f82926568d40b8b34c5de41e4fcd35b65114de243f5b1ea5778617", func := "loop.example/g00549/laws.FnExactPublicFor", spec := "fnExactPublicFor", named := ["loop.example/g00549/impl.rootSquares"], apart := false, laid := [("loop.example/g00549/impl.rootSquares", laid_loop_example_g00549_impl_rootSquares)], narrowed := true }
def FnExactPublicForUptoSaid : Prop := fnExactPublicForUptoRow.holds Tryd.pinned (OpenSpec.upto fnExactPublicForSpec)

/-- 'laws.FnExactSealNumber', WHERE WHAT IT READS IS OF BULK AT MOST 1048576: true; the input reads as it did. -/
def fnExactSealNumberUptoRow : OpenClaim := { program := "ytlgnipfhchonbaadoor", sum := "494be2d4a8f82926568d40b8b34c5de41e4fcd35b65114de243f5b1ea5778617", func := "loop.example/g00549/laws.FnExactSealNumber", spec := "fnExactSealNumber", named := ["loop.example/g00549/impl.rootSquares"], apart := false, laid := [("loop.example/g00549/impl.rootSquares", laid_loop_example_g00549_impl_rootSquares)], narrowed := true }
def FnExactSealNumberUptoSaid : Prop := fnExactSealNumberUptoRow.holds Tryd.pinned (OpenSpec.upto fnExactSealNumberSpec)

/-- 'laws.FnExactSealAgain', WHERE WHAT IT READS IS OF BULK AT MOST 1048576: true; the input reads as it did. -/
def fnExactSealAgainUptoRow : OpenClaim := { program := "ytlgnipfhchonbaadoor", sum := "494be2d4a8f82926568d40b8b34c5de41e4fcd35b65114de243f5b1ea5778617", func := "loop.example/g00549/laws.FnExactSealAgain", spec := "fnExactSealAgain", named := ["loop.example/g00549/impl.rootSquares"], apart := false, laid := [("loop.example/g00549/impl.rootSquares", laid_loop_example_g00549_impl_rootSquares)], narrowed := true }
def FnExactSealAgainUptoSaid : Prop := fnExactSealAgainUptoRow.holds Tryd.pinned (OpenSpec.upto fnExactSealAgainSpec)

end Rows
end Go.Proofs.YtlgnipfhchonbaaDoor

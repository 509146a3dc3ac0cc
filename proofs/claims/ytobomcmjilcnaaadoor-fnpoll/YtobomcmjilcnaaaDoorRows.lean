/-
  NARROWER THAN 'FOR EVERY INPUT', by the rows' own cells (each row's printed sentence says how): FnPoll: laid · FnExactKeyOf: laid · FnExactCastVote: laid · FnExactCountPoll: laid.
  DERIVED. THE GIVEN ROWS OF THIS SEAT. 4 by the template 'for every input the law returns true; each argument reads behind the call as it read before'; 0 by the template 'total and deterministic' (their statements: YtobomcmjilcnaaaDoorTotals.lean).
  GIVEN WITH THE SEED: the statements are not yours to turn. If you find one false, say at which input.
  Laid BY PROGRAM, IN A SANDBOX (cutbox-rows.mjs): the forced cells as the released guide's own fill.sh prints them over the translation 52cae72f236b330d… (all of the seat's roots in one cut). By AI agents, Wed Nov 11 2026. No macro, syntax, notation, axiom, sorry.
-/
import Derived.Test.YtobomcmjilcnaaaDoorChecked
import GoSem.Claim
import GoSem.ClaimJoined
import GoSem.ClaimMapViews
import Derived.JoinedTies
import Derived.KernelRfl
namespace Go.Proofs.YtobomcmjilcnaaaDoor
/- THE CELL 'sum', in the pinned program and in every row, IS THE sha256 OF THE DUMP (.gsa) THAT YtobomcmjilcnaaaDoorProg.lean LOADS. Nothing in Lean hashes anything: it is a label: what it is worth is what the hold of that sum in a sandbox is worth. -/
noncomputable def Tryd.pinned : Pinned := { name := "ytobomcmjilcnaaadoor", sum := "52cae72f236b330d45441520d22b83637ad5b53216d821ba9aeec6324d7604af", checked := Tryd.checked }
namespace Rows
def none {H : Type} : Left H := { results := [], args := [] }

/- WHAT THE LISTED PACKAGE-LEVEL VARIABLES READ AS WHEN THE CALL BEGINS. Each datum BY PROGRAM (the guide's laid-datum.mjs) off the statement by which the dump's own 'gosem.cut.vars' lays the variable. In a bare row this is a premise. The card (YtobomcmjilcnaaaDoorCards.lean) ties it to the program's text. -/
def laid_loop_example_g00549_impl_rootSquares {H : Type} : DataW H := .agg [.lit (.int .i64 4), .lit (.int .i64 16), .lit (.int .i64 256), .lit (.int .i64 2557), .lit (.int .i64 429), .lit (.int .i64 1102), .lit (.int .i64 2808), .lit (.int .i64 493), .lit (.int .i64 130), .lit (.int .i64 1905), .lit (.int .i64 235)]

/-- 'laws.FnPoll': WHATEVER THE INPUT: true; the input reads as it did. -/
def fnPollSpec : ChangeSpec := { name := "fnPoll", vars := ["loop.example/g00549/impl.rootSquares"], fn := fun _ => fun
  | [d1, d2, g1] => { results := [.lit (.bool true)], args := [d1, d2], vars := [g1] }
  | _ => none }
def fnPollRow : OpenClaim := { program := "ytobomcmjilcnaaadoor", sum := "52cae72f236b330d45441520d22b83637ad5b53216d821ba9aeec6324d7604af", func := "loop.example/g00549/laws.FnPoll", spec := "fnPoll", unfollowed := true, recurses := true, named := ["loop.example/g00549/impl.rootSquares"], apart := false, laid := [("loop.example/g00549/impl.rootSquares", laid_loop_example_g00549_impl_rootSquares)] }
def FnPollSaid : Prop := fnPollRow.holds Tryd.pinned (OpenSpec.ofChange fnPollSpec)

/-- ITS FALSE NEIGHBOUR: 'it returns false'. Refute it at one input. -/
def fnPollWrong : ChangeSpec := { name := "fnPoll", vars := ["loop.example/g00549/impl.rootSquares"], fn := fun _ => fun
  | [d1, d2, g1] => { results := [.lit (.bool false)], args := [d1, d2], vars := [g1] }
  | _ => none }
def FnPollWrongFalsely : Prop := fnPollRow.holds Tryd.pinned (OpenSpec.ofChange fnPollWrong)

/-- 'laws.FnExactKeyOf': WHATEVER THE INPUT: true; the input reads as it did. -/
def fnExactKeyOfSpec : ChangeSpec := { name := "fnExactKeyOf", vars := ["loop.example/g00549/impl.rootSquares"], fn := fun _ => fun
  | [d, g1] => { results := [.lit (.bool true)], args := [d], vars := [g1] }
  | _ => none }
def fnExactKeyOfRow : OpenClaim := { program := "ytobomcmjilcnaaadoor", sum := "52cae72f236b330d45441520d22b83637ad5b53216d821ba9aeec6324d7604af", func := "loop.example/g00549/laws.FnExactKeyOf", spec := "fnExactKeyOf", unfollowed := true, recurses := true, named := ["loop.example/g00549/impl.rootSquares"], apart := false, laid := [("loop.example/g00549/impl.rootSquares", laid_loop_example_g00549_impl_rootSquares)] }
def FnExactKeyOfSaid : Prop := fnExactKeyOfRow.holds Tryd.pinned (OpenSpec.ofChange fnExactKeyOfSpec)

/-- ITS FALSE NEIGHBOUR: 'it returns false'. Refute it at one input. -/
def fnExactKeyOfWrong : ChangeSpec := { name := "fnExactKeyOf", vars := ["loop.example/g00549/impl.rootSquares"], fn := fun _ => fun
  | [d, g1] => { results := [.lit (.bool false)], args := [d], vars := [g1] }
  | _ => none }
def FnExactKeyOfWrongFalsely : Prop := fnExactKeyOfRow.holds Tryd.pinned (OpenSpec.ofChange fnExactKeyOfWrong)

/-- 'laws.FnExactCastVote': WHATEVER THE INPUT: true; the input reads as it did. -/
def fnExactCastVoteSpec : ChangeSpec := { name := "fnExactCastVote", vars := ["loop.example/g00549/impl.rootSquares"], fn := fun _ => fun
  | [d1, d2, d3, g1] => { results := [.lit (.bool true)], args := [d1, d2, d3], vars := [g1] }
  | _ => none }
def fnExactCastVoteRow : OpenClaim := { program := "ytobomcmjilcnaaadoor", sum := "52cae72f236b330d45441520d22b83637ad5b53216d821ba9aeec6324d7604af", func := "loop.example/g00549/laws.FnExactCastVote", spec := "fnExactCastVote", named := ["loop.example/g00549/impl.rootSquares"], apart := false, laid := [("loop.example/g00549/impl.rootSquares", laid_loop_example_g00549_impl_rootSquares)] }
def FnExactCastVoteSaid : Prop := fnExactCastVoteRow.holds Tryd.pinned (OpenSpec.ofChange fnExactCastVoteSpec)

/-- ITS FALSE NEIGHBOUR: 'it returns false'. Refute it at one input. -/
def fnExactCastVoteWrong : ChangeSpec := { name := "fnExactCastVote", vars := ["loop.example/g00549/impl.rootSquares"], fn := fun _ => fun
  | [d1, d2, d3, g1] => { results := [.lit (.bool false)], args := [d1, d2, d3], vars := [g1] }
  | _ => none }
def FnExactCastVoteWrongFalsely : Prop := fnExactCastVoteRow.holds Tryd.pinned (OpenSpec.ofChange fnExactCastVoteWrong)

/-- 'laws.FnExactCountPoll': WHATEVER THE INPUT: true; the input reads as it did. -/
def fnExactCountPollSpec : ChangeSpec := { name := "fnExactCountPoll", vars := ["loop.example/g00549/impl.rootSquares"], fn := fun _ => fun
  | [d1, d2, d3, g1] => { results := [.lit (.bool true)], args := [d1, d2, d3], vars := [g1] }
  | _ => none }
def fnExactCountPollRow : OpenClaim := { program := "ytobomcmjilcnaaadoor", sum := "52cae72f236b330d45441520d22b83637ad5b53216d821ba9aeec6324d7604af", func := "loop.example/g00549/laws.FnExactCountPoll", spec := "fnExactCountPoll", unfollowed := true, recurses := true, named := ["loop.example/g00549/impl.rootSquares"], apart := false, laid := [("loop.example/g00549/impl.rootSquares", laid_loop_example_g00549_impl_rootSquares)] }
def FnExactCountPollSaid : Prop := fnExactCountPollRow.holds Tryd.pinned (OpenSpec.ofChange fnExactCountPollSpec)

/-- ITS FALSE NEIGHBOUR: 'it returns false'. Refute it at one input. -/
def fnExactCountPollWrong : ChangeSpec := { name := "fnExactCountPoll", vars := ["loop.example/g00549/impl.rootSquares"], fn := fun _ => fun
  | [d1, d2, d3, g1] => { results := [.lit (.bool false)], args := [d1, d2, d3], vars := [g1] }
  | _ => none }
def FnExactCountPollWrongFalsely : Prop := fnExactCountPollRow.holds Tryd.pinned (OpenSpec.ofChange fnExactCountPollWrong)

/- THE SECOND FORM. 'bulk': how many values and letters a reading holds, each counted each time it is reached (what is shared counts as often as it is met; a slice's spare places count too). A statement '..UptoSaid' is the law's where the arguments, and the package variables that the reading takes, are together of bulk at most 1048576: NARROWER than '..Said'. Prove '..Said' where nothing that the law and all that it calls make is longer than what came in: it says more and counts as full. Else prove '..UptoSaid'. A law counts once. -/
mutual
def uptoBulk {H : Type} : DataW H → Nat
  | .lit (.string bytes) => bytes.length + 1
  | .lit _ => 1
  | .nil => 1
  | .ptr d => uptoBulk d + 1
  | .slice elems spare => uptoBulkAll elems + uptoBulkAll spare + 1
  | .agg parts => uptoBulkAll parts + 1
  | .iface _ d => uptoBulk d + 1
  | .map entries => uptoBulkEntries entries + 1
  | .held _ => 1
def uptoBulkAll {H : Type} : List (DataW H) → Nat
  | [] => 0
  | d :: r => uptoBulk d + uptoBulkAll r
def uptoBulkEntries {H : Type} : List (Lit × DataW H) → Nat
  | [] => 0
  | x :: r => uptoBulkEntry x + uptoBulkEntries r
def uptoBulkEntry {H : Type} : Lit × DataW H → Nat
  | (.string bytes, d) => bytes.length + uptoBulk d + 1
  | (_, d) => uptoBulk d + 1
 end
def uptoSmall : (H : Type) → List (DataW H) → Bool := fun _ ds => decide (uptoBulkAll ds ≤ 1048576)
def OpenSpec.upto (s : _root_.Go.ChangeSpec) : _root_.Go.OpenSpec := { _root_.Go.OpenSpec.ofChange s with cond := some uptoSmall }

/-- 'laws.FnPoll', WHERE WHAT IT READS IS OF BULK AT MOST 1048576: true; the input reads as it did. -/
def fnPollUptoRow : OpenClaim := { program := "ytobomcmjilcnaaadoor", sum := "52cae72f236b330d45441520d22b83637ad5b53216d821ba9aeec6324d7604af", func := "loop.example/g00549/laws.FnPoll", spec := "fnPoll", unfollowed := true, recurses := true, named := ["loop.example/g00549/impl.rootSquares"], apart := false, laid := [("loop.example/g00549/impl.rootSquares", laid_loop_example_g00549_impl_rootSquares)], narrowed := true }
def FnPollUptoSaid : Prop := fnPollUptoRow.holds Tryd.pinned (OpenSpec.upto fnPollSpec)

/-- 'laws.FnExactKeyOf', WHERE WHAT IT READS IS OF BULK AT MOST 1048576: true; the input reads as it did. -/
def fnExactKeyOfUptoRow : OpenClaim := { program := "ytobomcmjilcnaaadoor", sum := "52cae72f236b330d45441520d22b83637ad5b53216d821ba9aeec6324d7604af", func := "loop.example/g00549/laws.FnExactKeyOf", spec := "fnExactKeyOf", unfollowed := true, recurses := true, named := ["loop.example/g00549/impl.rootSquares"], apart := false, laid := [("loop.example/g00549/impl.rootSquares", laid_loop_example_g00549_impl_rootSquares)], narrowed := true }
def FnExactKeyOfUptoSaid : Prop := fnExactKeyOfUptoRow.holds Tryd.pinned (OpenSpec.upto fnExactKeyOfSpec)

/-- 'laws.FnExactCastVote', WHERE WHAT IT READS IS OF BULK AT MOST 1048576: true; the input reads as it did. -/
def fnExactCastVoteUptoRow : OpenClaim := { program := "ytobomcmjilcnaaadoor", sum := "52cae72f236b330d45441520d22b83637ad5b53216d821ba9aeec6324d7604af", func := "loop.example/g00549/laws.FnExactCastVote", spec := "fnExactCastVote", named := ["loop.example/g00549/impl.rootSquares"], apart := false, laid := [("loop.example/g00549/impl.rootSquares", laid_loop_example_g00549_impl_rootSquares)], narrowed := true }
def FnExactCastVoteUptoSaid : Prop := fnExactCastVoteUptoRow.holds Tryd.pinned (OpenSpec.upto fnExactCastVoteSpec)

/-- 'laws.FnExactCountPoll', WHERE WHAT IT READS IS OF BULK AT MOST 1048576: true; the input reads as it did. -/
def fnExactCountPollUptoRow : OpenClaim := { program := "ytobomcmjilcnaaadoor", sum := "52cae72f236b330d45441520d22b83637ad5b53216d821ba9aeec6324d7604af", func := "loop.example/g00549/laws.FnExactCountPoll", spec := "fnExactCountPoll", unfollowed := true, recurses := true, named := ["loop.example/g00549/impl.rootSquares"], apart := false, laid := [("loop.example/g00549/impl.rootSquares", laid_loop_example_g00549_impl_rootSquares)], narrowed := true }
def FnExactCountPollUptoSaid : Prop := fnExactCountPollUptoRow.holds Tryd.pinned (OpenSpec.upto fnExactCountPollSpec)

end Rows
end Go.Proofs.YtobomcmjilcnaaaDoor

/-
  No cell of these rows narrows 'for every input' (looked for: loops, veiled, ifaces, maps, wideKeys, modest, calm, conditions, laid).
  DERIVED. THE GIVEN ROWS OF THIS SEAT. 9 by the template 'for every input the law returns true; each argument reads behind the call as it read before'; 0 by the template 'total and deterministic' (their statements: YtofdlggohnfgaaaTotals.lean).
  GIVEN WITH THE SEED: the statements are not yours to turn. If you find one false, say at which input.
  Laid BY PROGRAM, IN A SANDBOX (cutbox-rows.mjs): the forced cells as the released guide's own fill.sh prints them over the translation cd006577f4678de9… (all of the seat's roots in one cut). By AI agents, Wed Nov 11 2026. No macro, syntax, notation, axiom, sorry.
-/
import Derived.Test.YtofdlggohnfgaaaChecked
import GoSem.Claim
import GoSem.ClaimJoined
import GoSem.ClaimMapViews
import Derived.JoinedTies
import Derived.KernelRfl
namespace Go.Proofs.Ytofdlggohnfgaaa
/- THE CELL 'sum', in the pinned program and in every row, IS THE sha256 OF THE DUMP (.gsa) THAT YtofdlggohnfgaaaProg.lean LOADS. Nothing in Lean hashes anything: it is a label: what it is worth is what the hold of that sum in a sandbox is worth. -/
noncomputable def Try.pinned : Pinned := { name := "ytofdlggohnfgaaa", sum := "cd006577f4678de9c76eaa395b7d8d8d50c41b2e5e7359431ccfbe2263fdba8c", checked := Try.checked }
namespace Rows
def none {H : Type} : Left H := { results := [], args := [] }

/-- 'laws.FnProved': WHATEVER THE INPUT: true; the input reads as it did. -/
def fnProvedSpec : ChangeSpec := { name := "fnProved", fn := fun _ => fun
  | [d1, d2] => { results := [.lit (.bool true)], args := [d1, d2] }
  | _ => none }
def fnProvedRow : OpenClaim := { program := "ytofdlggohnfgaaa", sum := "cd006577f4678de9c76eaa395b7d8d8d50c41b2e5e7359431ccfbe2263fdba8c", func := "loop.example/g00549/laws.FnProved", spec := "fnProved", unfollowed := true, recurses := true, apart := false }
def FnProvedSaid : Prop := fnProvedRow.holds Try.pinned (OpenSpec.ofChange fnProvedSpec)

/-- ITS FALSE NEIGHBOUR: 'it returns false'. Refute it at one input. -/
def fnProvedWrong : ChangeSpec := { name := "fnProved", fn := fun _ => fun
  | [d1, d2] => { results := [.lit (.bool false)], args := [d1, d2] }
  | _ => none }
def FnProvedWrongFalsely : Prop := fnProvedRow.holds Try.pinned (OpenSpec.ofChange fnProvedWrong)

/-- 'laws.FnStated': WHATEVER THE INPUT: true; the input reads as it did. -/
def fnStatedSpec : ChangeSpec := { name := "fnStated", fn := fun _ => fun
  | [d1, d2] => { results := [.lit (.bool true)], args := [d1, d2] }
  | _ => none }
def fnStatedRow : OpenClaim := { program := "ytofdlggohnfgaaa", sum := "cd006577f4678de9c76eaa395b7d8d8d50c41b2e5e7359431ccfbe2263fdba8c", func := "loop.example/g00549/laws.FnStated", spec := "fnStated", unfollowed := true, recurses := true, apart := false }
def FnStatedSaid : Prop := fnStatedRow.holds Try.pinned (OpenSpec.ofChange fnStatedSpec)

/-- ITS FALSE NEIGHBOUR: 'it returns false'. Refute it at one input. -/
def fnStatedWrong : ChangeSpec := { name := "fnStated", fn := fun _ => fun
  | [d1, d2] => { results := [.lit (.bool false)], args := [d1, d2] }
  | _ => none }
def FnStatedWrongFalsely : Prop := fnStatedRow.holds Try.pinned (OpenSpec.ofChange fnStatedWrong)

/-- 'laws.FnExactGoodClaim': WHATEVER THE INPUT: true; the input reads as it did. -/
def fnExactGoodClaimSpec : ChangeSpec := { name := "fnExactGoodClaim", fn := fun _ => fun
  | [d] => { results := [.lit (.bool true)], args := [d] }
  | _ => none }
def fnExactGoodClaimRow : OpenClaim := { program := "ytofdlggohnfgaaa", sum := "cd006577f4678de9c76eaa395b7d8d8d50c41b2e5e7359431ccfbe2263fdba8c", func := "loop.example/g00549/laws.FnExactGoodClaim", spec := "fnExactGoodClaim", apart := false }
def FnExactGoodClaimSaid : Prop := fnExactGoodClaimRow.holds Try.pinned (OpenSpec.ofChange fnExactGoodClaimSpec)

/-- ITS FALSE NEIGHBOUR: 'it returns false'. Refute it at one input. -/
def fnExactGoodClaimWrong : ChangeSpec := { name := "fnExactGoodClaim", fn := fun _ => fun
  | [d] => { results := [.lit (.bool false)], args := [d] }
  | _ => none }
def FnExactGoodClaimWrongFalsely : Prop := fnExactGoodClaimRow.holds Try.pinned (OpenSpec.ofChange fnExactGoodClaimWrong)

/-- 'laws.FnExactStateFor': WHATEVER THE INPUT: true; the input reads as it did. -/
def fnExactStateForSpec : ChangeSpec := { name := "fnExactStateFor", fn := fun _ => fun
  | [d1, d2, d3] => { results := [.lit (.bool true)], args := [d1, d2, d3] }
  | _ => none }
def fnExactStateForRow : OpenClaim := { program := "ytofdlggohnfgaaa", sum := "cd006577f4678de9c76eaa395b7d8d8d50c41b2e5e7359431ccfbe2263fdba8c", func := "loop.example/g00549/laws.FnExactStateFor", spec := "fnExactStateFor", apart := false }
def FnExactStateForSaid : Prop := fnExactStateForRow.holds Try.pinned (OpenSpec.ofChange fnExactStateForSpec)

/-- ITS FALSE NEIGHBOUR: 'it returns false'. Refute it at one input. -/
def fnExactStateForWrong : ChangeSpec := { name := "fnExactStateFor", fn := fun _ => fun
  | [d1, d2, d3] => { results := [.lit (.bool false)], args := [d1, d2, d3] }
  | _ => none }
def FnExactStateForWrongFalsely : Prop := fnExactStateForRow.holds Try.pinned (OpenSpec.ofChange fnExactStateForWrong)

/-- 'laws.FnExactRefusedBy': WHATEVER THE INPUT: true; the input reads as it did. -/
def fnExactRefusedBySpec : ChangeSpec := { name := "fnExactRefusedBy", fn := fun _ => fun
  | [d1, d2] => { results := [.lit (.bool true)], args := [d1, d2] }
  | _ => none }
def fnExactRefusedByRow : OpenClaim := { program := "ytofdlggohnfgaaa", sum := "cd006577f4678de9c76eaa395b7d8d8d50c41b2e5e7359431ccfbe2263fdba8c", func := "loop.example/g00549/laws.FnExactRefusedBy", spec := "fnExactRefusedBy", unfollowed := true, recurses := true, apart := false }
def FnExactRefusedBySaid : Prop := fnExactRefusedByRow.holds Try.pinned (OpenSpec.ofChange fnExactRefusedBySpec)

/-- ITS FALSE NEIGHBOUR: 'it returns false'. Refute it at one input. -/
def fnExactRefusedByWrong : ChangeSpec := { name := "fnExactRefusedBy", fn := fun _ => fun
  | [d1, d2] => { results := [.lit (.bool false)], args := [d1, d2] }
  | _ => none }
def FnExactRefusedByWrongFalsely : Prop := fnExactRefusedByRow.holds Try.pinned (OpenSpec.ofChange fnExactRefusedByWrong)

/-- 'laws.FnExactIsProved': WHATEVER THE INPUT: true; the input reads as it did. -/
def fnExactIsProvedSpec : ChangeSpec := { name := "fnExactIsProved", fn := fun _ => fun
  | [d1, d2, d3] => { results := [.lit (.bool true)], args := [d1, d2, d3] }
  | _ => none }
def fnExactIsProvedRow : OpenClaim := { program := "ytofdlggohnfgaaa", sum := "cd006577f4678de9c76eaa395b7d8d8d50c41b2e5e7359431ccfbe2263fdba8c", func := "loop.example/g00549/laws.FnExactIsProved", spec := "fnExactIsProved", unfollowed := true, recurses := true, apart := false }
def FnExactIsProvedSaid : Prop := fnExactIsProvedRow.holds Try.pinned (OpenSpec.ofChange fnExactIsProvedSpec)

/-- ITS FALSE NEIGHBOUR: 'it returns false'. Refute it at one input. -/
def fnExactIsProvedWrong : ChangeSpec := { name := "fnExactIsProved", fn := fun _ => fun
  | [d1, d2, d3] => { results := [.lit (.bool false)], args := [d1, d2, d3] }
  | _ => none }
def FnExactIsProvedWrongFalsely : Prop := fnExactIsProvedRow.holds Try.pinned (OpenSpec.ofChange fnExactIsProvedWrong)

/-- 'laws.FnExactClaimsIn': WHATEVER THE INPUT: true; the input reads as it did. -/
def fnExactClaimsInSpec : ChangeSpec := { name := "fnExactClaimsIn", fn := fun _ => fun
  | [d] => { results := [.lit (.bool true)], args := [d] }
  | _ => none }
def fnExactClaimsInRow : OpenClaim := { program := "ytofdlggohnfgaaa", sum := "cd006577f4678de9c76eaa395b7d8d8d50c41b2e5e7359431ccfbe2263fdba8c", func := "loop.example/g00549/laws.FnExactClaimsIn", spec := "fnExactClaimsIn", unfollowed := true, recurses := true, apart := false }
def FnExactClaimsInSaid : Prop := fnExactClaimsInRow.holds Try.pinned (OpenSpec.ofChange fnExactClaimsInSpec)

/-- ITS FALSE NEIGHBOUR: 'it returns false'. Refute it at one input. -/
def fnExactClaimsInWrong : ChangeSpec := { name := "fnExactClaimsIn", fn := fun _ => fun
  | [d] => { results := [.lit (.bool false)], args := [d] }
  | _ => none }
def FnExactClaimsInWrongFalsely : Prop := fnExactClaimsInRow.holds Try.pinned (OpenSpec.ofChange fnExactClaimsInWrong)

/-- 'laws.FnExactRunClaim': WHATEVER THE INPUT: true; the input reads as it did. -/
def fnExactRunClaimSpec : ChangeSpec := { name := "fnExactRunClaim", fn := fun _ => fun
  | [d1, d2, d3] => { results := [.lit (.bool true)], args := [d1, d2, d3] }
  | _ => none }
def fnExactRunClaimRow : OpenClaim := { program := "ytofdlggohnfgaaa", sum := "cd006577f4678de9c76eaa395b7d8d8d50c41b2e5e7359431ccfbe2263fdba8c", func := "loop.example/g00549/laws.FnExactRunClaim", spec := "fnExactRunClaim", apart := false }
def FnExactRunClaimSaid : Prop := fnExactRunClaimRow.holds Try.pinned (OpenSpec.ofChange fnExactRunClaimSpec)

/-- ITS FALSE NEIGHBOUR: 'it returns false'. Refute it at one input. -/
def fnExactRunClaimWrong : ChangeSpec := { name := "fnExactRunClaim", fn := fun _ => fun
  | [d1, d2, d3] => { results := [.lit (.bool false)], args := [d1, d2, d3] }
  | _ => none }
def FnExactRunClaimWrongFalsely : Prop := fnExactRunClaimRow.holds Try.pinned (OpenSpec.ofChange fnExactRunClaimWrong)

/-- 'laws.FnExactMergeStatements': WHATEVER THE INPUT: true; the input reads as it did. -/
def fnExactMergeStatementsSpec : ChangeSpec := { name := "fnExactMergeStatements", fn := fun _ => fun
  | [d1, d2] => { results := [.lit (.bool true)], args := [d1, d2] }
  | _ => none }
def fnExactMergeStatementsRow : OpenClaim := { program := "ytofdlggohnfgaaa", sum := "cd006577f4678de9c76eaa395b7d8d8d50c41b2e5e7359431ccfbe2263fdba8c", func := "loop.example/g00549/laws.FnExactMergeStatements", spec := "fnExactMergeStatements", unfollowed := true, recurses := true, apart := false }
def FnExactMergeStatementsSaid : Prop := fnExactMergeStatementsRow.holds Try.pinned (OpenSpec.ofChange fnExactMergeStatementsSpec)

/-- ITS FALSE NEIGHBOUR: 'it returns false'. Refute it at one input. -/
def fnExactMergeStatementsWrong : ChangeSpec := { name := "fnExactMergeStatements", fn := fun _ => fun
  | [d1, d2] => { results := [.lit (.bool false)], args := [d1, d2] }
  | _ => none }
def FnExactMergeStatementsWrongFalsely : Prop := fnExactMergeStatementsRow.holds Try.pinned (OpenSpec.ofChange fnExactMergeStatementsWrong)

/- THE SECOND FORM. 'bulk': how many values and letters a reading holds, each counted each time it is reached (what is shared counts as often as it is met; a slice's spare places count too). A statement '..UptoSaid' is the law's where the arguments, and the package variables that the reading takes, are together of bulk at most 1048576: NARROWER than '..Said'. Prove '..Said' where nothing that the law and all that it calls make is longer than what came in: it says more and counts as full. Else prove '..UptoSaid'. A law counts once. -/
mutual
def uptoBulk {H : Type} : DataW H → Nat
  | .lit (.string bytes) => bytes.length + 1
  | .lit _ => 1
  | .nil => 1
  | .ptr d => uptoBulk d + 1
  | .slice elems spare => uptoBulkAll elems + uptoBulkAll spare + 1
  | .agg parts => uptoBulkAll parts + 1
  | .iface _ d => uptoBulk d + 1
  | .map entries => uptoBulkEntries entries + 1
  | .held _ => 1
def uptoBulkAll {H : Type} : List (DataW H) → Nat
  | [] => 0
  | d :: r => uptoBulk d + uptoBulkAll r
def uptoBulkEntries {H : Type} : List (Lit × DataW H) → Nat
  | [] => 0
  | x :: r => uptoBulkEntry x + uptoBulkEntries r
def uptoBulkEntry {H : Type} : Lit × DataW H → Nat
  | (.string bytes, d) => bytes.length + uptoBulk d + 1
  | (_, d) => uptoBulk d + 1
 end
def uptoSmall : (H : Type) → List (DataW H) → Bool := fun _ ds => decide (uptoBulkAll ds ≤ 1048576)
def OpenSpec.upto (s : _root_.Go.ChangeSpec) : _root_.Go.OpenSpec := { _root_.Go.OpenSpec.ofChange s with cond := some uptoSmall }

/-- 'laws.FnProved', WHERE WHAT IT READS IS OF BULK AT MOST 1048576: true; the input reads as it did. -/
def fnProvedUptoRow : OpenClaim := { program := "ytofdlggohnfgaaa", sum := "cd006577f4678de9c76eaa395b7d8d8d50c41b2e5e7359431ccfbe2263fdba8c", func := "loop.example/g00549/laws.FnProved", spec := "fnProved", unfollowed := true, recurses := true, apart := false, narrowed := true }
def FnProvedUptoSaid : Prop := fnProvedUptoRow.holds Try.pinned (OpenSpec.upto fnProvedSpec)

/-- 'laws.FnStated', WHERE WHAT IT READS IS OF BULK AT MOST 1048576: true; the input reads as it did. -/
def fnStatedUptoRow : OpenClaim := { program := "ytofdlggohnfgaaa", sum := "cd006577f4678de9c76eaa395b7d8d8d50c41b2e5e7359431ccfbe2263fdba8c", func := "loop.example/g00549/laws.FnStated", spec := "fnStated", unfollowed := true, recurses := true, apart := false, narrowed := true }
def FnStatedUptoSaid : Prop := fnStatedUptoRow.holds Try.pinned (OpenSpec.upto fnStatedSpec)

/-- 'laws.FnExactGoodClaim', WHERE WHAT IT READS IS OF BULK AT MOST 1048576: true; the input reads as it did. -/
def fnExactGoodClaimUptoRow : OpenClaim := { program := "ytofdlggohnfgaaa", sum := "cd006577f4678de9c76eaa395b7d8d8d50c41b2e5e7359431ccfbe2263fdba8c", func := "loop.example/g00549/laws.FnExactGoodClaim", spec := "fnExactGoodClaim", apart := false, narrowed := true }
def FnExactGoodClaimUptoSaid : Prop := fnExactGoodClaimUptoRow.holds Try.pinned (OpenSpec.upto fnExactGoodClaimSpec)

/-- 'laws.FnExactStateFor', WHERE WHAT IT READS IS OF BULK AT MOST 1048576: true; the input reads as it did. -/
def fnExactStateForUptoRow : OpenClaim := { program := "ytofdlggohnfgaaa", sum := "cd006577f4678de9c76eaa395b7d8d8d50c41b2e5e7359431ccfbe2263fdba8c", func := "loop.example/g00549/laws.FnExactStateFor", spec := "fnExactStateFor", apart := false, narrowed := true }
def FnExactStateForUptoSaid : Prop := fnExactStateForUptoRow.holds Try.pinned (OpenSpec.upto fnExactStateForSpec)

/-- 'laws.FnExactRefusedBy', WHERE WHAT IT READS IS OF BULK AT MOST 1048576: true; the input reads as it did. -/
def fnExactRefusedByUptoRow : OpenClaim := { program := "ytofdlggohnfgaaa", sum := "cd006577f4678de9c76eaa395b7d8d8d50c41b2e5e7359431ccfbe2263fdba8c", func := "loop.example/g00549/laws.FnExactRefusedBy", spec := "fnExactRefusedBy", unfollowed := true, recurses := true, apart := false, narrowed := true }
def FnExactRefusedByUptoSaid : Prop := fnExactRefusedByUptoRow.holds Try.pinned (OpenSpec.upto fnExactRefusedBySpec)

/-- 'laws.FnExactIsProved', WHERE WHAT IT READS IS OF BULK AT MOST 1048576: true; the input reads as it did. -/
def fnExactIsProvedUptoRow : OpenClaim := { program := "ytofdlggohnfgaaa", sum := "cd006577f4678de9c76eaa395b7d8d8d50c41b2e5e7359431ccfbe2263fdba8c", func := "loop.example/g00549/laws.FnExactIsProved", spec := "fnExactIsProved", unfollowed := true, recurses := true, apart := false, narrowed := true }
def FnExactIsProvedUptoSaid : Prop := fnExactIsProvedUptoRow.holds Try.pinned (OpenSpec.upto fnExactIsProvedSpec)

/-- 'laws.FnExactClaimsIn', WHERE WHAT IT READS IS OF BULK AT MOST 1048576: true; the input reads as it did. -/
def fnExactClaimsInUptoRow : OpenClaim := { program := "ytofdlggohnfgaaa", sum := "cd006577f4678de9c76eaa395b7d8d8d50c41b2e5e7359431ccfbe2263fdba8c", func := "loop.example/g00549/laws.FnExactClaimsIn", spec := "fnExactClaimsIn", unfollowed := true, recurses := true, apart := false, narrowed := true }
def FnExactClaimsInUptoSaid : Prop := fnExactClaimsInUptoRow.holds Try.pinned (OpenSpec.upto fnExactClaimsInSpec)

/-- 'laws.FnExactRunClaim', WHERE WHAT IT READS IS OF BULK AT MOST 1048576: true; the input reads as it did. -/
def fnExactRunClaimUptoRow : OpenClaim := { program := "ytofdlggohnfgaaa", sum := "cd006577f4678de9c76eaa395b7d8d8d50c41b2e5e7359431ccfbe2263fdba8c", func := "loop.example/g00549/laws.FnExactRunClaim", spec := "fnExactRunClaim", apart := false, narrowed := true }
def FnExactRunClaimUptoSaid : Prop := fnExactRunClaimUptoRow.holds Try.pinned (OpenSpec.upto fnExactRunClaimSpec)

/-- 'laws.FnExactMergeStatements', WHERE WHAT IT READS IS OF BULK AT MOST 1048576: true; the input reads as it did. -/
def fnExactMergeStatementsUptoRow : OpenClaim := { program := "ytofdlggohnfgaaa", sum := "cd006577f4678de9c76eaa395b7d8d8d50c41b2e5e7359431ccfbe2263fdba8c", func := "loop.example/g00549/laws.FnExactMergeStatements", spec := "fnExactMergeStatements", unfollowed := true, recurses := true, apart := false, narrowed := true }
def FnExactMergeStatementsUptoSaid : Prop := fnExactMergeStatementsUptoRow.holds Try.pinned (OpenSpec.upto fnExactMergeStatementsSpec)

end Rows
end Go.Proofs.Ytofdlggohnfgaaa

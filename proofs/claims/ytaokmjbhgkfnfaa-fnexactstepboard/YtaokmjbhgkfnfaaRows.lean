/-
  No cell of these rows narrows 'for every input' (looked for: loops, veiled, ifaces, maps, wideKeys, modest, calm, conditions, laid).
  DERIVED. THE GIVEN ROWS OF THIS SEAT. 9 by the template 'for every input the law returns true; each argument reads behind the call as it read before'; 0 by the template 'total and deterministic' (their statements: YtaokmjbhgkfnfaaTotals.lean).
  GIVEN WITH THE SEED: the statements are not yours to turn. If you find one false, say at which input.
  Laid BY PROGRAM, IN A SANDBOX (cutbox-rows.mjs): the forced cells as the released guide's own fill.sh prints them over the translation 54531b5c4f288ff2… (all of the seat's roots in one cut). By AI agents, Wed Nov 11 2026. No macro, syntax, notation, axiom, sorry.
-/
import Derived.Test.YtaokmjbhgkfnfaaChecked
import GoSem.Claim
import GoSem.ClaimJoined
import GoSem.ClaimMapViews
import Derived.JoinedTies
import Derived.KernelRfl
namespace Go.Proofs.Ytaokmjbhgkfnfaa
/- THE CELL 'sum', in the pinned program and in every row, IS THE sha256 OF THE DUMP (.gsa) THAT YtaokmjbhgkfnfaaProg.lean LOADS. Nothing in Lean hashes anything: it is a label: what it is worth is what the hold of that sum in a sandbox is worth. -/
noncomputable def Try.pinned : Pinned := { name := "ytaokmjbhgkfnfaa", sum := "54531b5c4f288ff20d866a5f43c660ea6ea9fafb8792ebb18c5ecb0936e65bf5", checked := Try.checked }
namespace Rows
def none {H : Type} : Left H := { results := [], args := [] }

/-- 'laws.FnBoard': WHATEVER THE INPUT: true; the input reads as it did. -/
def fnBoardSpec : ChangeSpec := { name := "fnBoard", fn := fun _ => fun
  | [d] => { results := [.lit (.bool true)], args := [d] }
  | _ => none }
def fnBoardRow : OpenClaim := { program := "ytaokmjbhgkfnfaa", sum := "54531b5c4f288ff20d866a5f43c660ea6ea9fafb8792ebb18c5ecb0936e65bf5", func := "loop.example/g00549/laws.FnBoard", spec := "fnBoard", inPlace := ["slices.overlaps[int]"], unfollowed := true, recurses := true, apart := false }
def FnBoardSaid : Prop := fnBoardRow.holds Try.pinned (OpenSpec.ofChange fnBoardSpec)

/-- ITS FALSE NEIGHBOUR: 'it returns false'. Refute it at one input. -/
def fnBoardWrong : ChangeSpec := { name := "fnBoard", fn := fun _ => fun
  | [d] => { results := [.lit (.bool false)], args := [d] }
  | _ => none }
def FnBoardWrongFalsely : Prop := fnBoardRow.holds Try.pinned (OpenSpec.ofChange fnBoardWrong)

/-- 'laws.FnQuorums': WHATEVER THE INPUT: true; the input reads as it did. -/
def fnQuorumsSpec : ChangeSpec := { name := "fnQuorums", fn := fun _ => fun
  | [d1, d2] => { results := [.lit (.bool true)], args := [d1, d2] }
  | _ => none }
def fnQuorumsRow : OpenClaim := { program := "ytaokmjbhgkfnfaa", sum := "54531b5c4f288ff20d866a5f43c660ea6ea9fafb8792ebb18c5ecb0936e65bf5", func := "loop.example/g00549/laws.FnQuorums", spec := "fnQuorums", inPlace := ["slices.overlaps[int]"], unfollowed := true, recurses := true, apart := false }
def FnQuorumsSaid : Prop := fnQuorumsRow.holds Try.pinned (OpenSpec.ofChange fnQuorumsSpec)

/-- ITS FALSE NEIGHBOUR: 'it returns false'. Refute it at one input. -/
def fnQuorumsWrong : ChangeSpec := { name := "fnQuorums", fn := fun _ => fun
  | [d1, d2] => { results := [.lit (.bool false)], args := [d1, d2] }
  | _ => none }
def FnQuorumsWrongFalsely : Prop := fnQuorumsRow.holds Try.pinned (OpenSpec.ofChange fnQuorumsWrong)

/-- 'laws.FnExactNewBoard': WHATEVER THE INPUT: true; the input reads as it did. -/
def fnExactNewBoardSpec : ChangeSpec := { name := "fnExactNewBoard", fn := fun _ => fun
  | [d1, d2] => { results := [.lit (.bool true)], args := [d1, d2] }
  | _ => none }
def fnExactNewBoardRow : OpenClaim := { program := "ytaokmjbhgkfnfaa", sum := "54531b5c4f288ff20d866a5f43c660ea6ea9fafb8792ebb18c5ecb0936e65bf5", func := "loop.example/g00549/laws.FnExactNewBoard", spec := "fnExactNewBoard", unfollowed := true, recurses := true, apart := false }
def FnExactNewBoardSaid : Prop := fnExactNewBoardRow.holds Try.pinned (OpenSpec.ofChange fnExactNewBoardSpec)

/-- ITS FALSE NEIGHBOUR: 'it returns false'. Refute it at one input. -/
def fnExactNewBoardWrong : ChangeSpec := { name := "fnExactNewBoard", fn := fun _ => fun
  | [d1, d2] => { results := [.lit (.bool false)], args := [d1, d2] }
  | _ => none }
def FnExactNewBoardWrongFalsely : Prop := fnExactNewBoardRow.holds Try.pinned (OpenSpec.ofChange fnExactNewBoardWrong)

/-- 'laws.FnExactGoodBoard': WHATEVER THE INPUT: true; the input reads as it did. -/
def fnExactGoodBoardSpec : ChangeSpec := { name := "fnExactGoodBoard", fn := fun _ => fun
  | [d] => { results := [.lit (.bool true)], args := [d] }
  | _ => none }
def fnExactGoodBoardRow : OpenClaim := { program := "ytaokmjbhgkfnfaa", sum := "54531b5c4f288ff20d866a5f43c660ea6ea9fafb8792ebb18c5ecb0936e65bf5", func := "loop.example/g00549/laws.FnExactGoodBoard", spec := "fnExactGoodBoard", inPlace := ["slices.overlaps[int]"], unfollowed := true, recurses := true, apart := false }
def FnExactGoodBoardSaid : Prop := fnExactGoodBoardRow.holds Try.pinned (OpenSpec.ofChange fnExactGoodBoardSpec)

/-- ITS FALSE NEIGHBOUR: 'it returns false'. Refute it at one input. -/
def fnExactGoodBoardWrong : ChangeSpec := { name := "fnExactGoodBoard", fn := fun _ => fun
  | [d] => { results := [.lit (.bool false)], args := [d] }
  | _ => none }
def FnExactGoodBoardWrongFalsely : Prop := fnExactGoodBoardRow.holds Try.pinned (OpenSpec.ofChange fnExactGoodBoardWrong)

/-- 'laws.FnExactStepBoard': WHATEVER THE INPUT: true; the input reads as it did. -/
def fnExactStepBoardSpec : ChangeSpec := { name := "fnExactStepBoard", fn := fun _ => fun
  | [d1, d2] => { results := [.lit (.bool true)], args := [d1, d2] }
  | _ => none }
def fnExactStepBoardRow : OpenClaim := { program := "ytaokmjbhgkfnfaa", sum := "54531b5c4f288ff20d866a5f43c660ea6ea9fafb8792ebb18c5ecb0936e65bf5", func := "loop.example/g00549/laws.FnExactStepBoard", spec := "fnExactStepBoard", inPlace := ["slices.overlaps[int]"], unfollowed := true, recurses := true, apart := false }
def FnExactStepBoardSaid : Prop := fnExactStepBoardRow.holds Try.pinned (OpenSpec.ofChange fnExactStepBoardSpec)

/-- ITS FALSE NEIGHBOUR: 'it returns false'. Refute it at one input. -/
def fnExactStepBoardWrong : ChangeSpec := { name := "fnExactStepBoard", fn := fun _ => fun
  | [d1, d2] => { results := [.lit (.bool false)], args := [d1, d2] }
  | _ => none }
def FnExactStepBoardWrongFalsely : Prop := fnExactStepBoardRow.holds Try.pinned (OpenSpec.ofChange fnExactStepBoardWrong)

/-- 'laws.FnExactPlayBoard': WHATEVER THE INPUT: true; the input reads as it did. -/
def fnExactPlayBoardSpec : ChangeSpec := { name := "fnExactPlayBoard", fn := fun _ => fun
  | [d1, d2, d3] => { results := [.lit (.bool true)], args := [d1, d2, d3] }
  | _ => none }
def fnExactPlayBoardRow : OpenClaim := { program := "ytaokmjbhgkfnfaa", sum := "54531b5c4f288ff20d866a5f43c660ea6ea9fafb8792ebb18c5ecb0936e65bf5", func := "loop.example/g00549/laws.FnExactPlayBoard", spec := "fnExactPlayBoard", inPlace := ["slices.overlaps[int]"], unfollowed := true, recurses := true, apart := false }
def FnExactPlayBoardSaid : Prop := fnExactPlayBoardRow.holds Try.pinned (OpenSpec.ofChange fnExactPlayBoardSpec)

/-- ITS FALSE NEIGHBOUR: 'it returns false'. Refute it at one input. -/
def fnExactPlayBoardWrong : ChangeSpec := { name := "fnExactPlayBoard", fn := fun _ => fun
  | [d1, d2, d3] => { results := [.lit (.bool false)], args := [d1, d2, d3] }
  | _ => none }
def FnExactPlayBoardWrongFalsely : Prop := fnExactPlayBoardRow.holds Try.pinned (OpenSpec.ofChange fnExactPlayBoardWrong)

/-- 'laws.FnExactQuorumFor': WHATEVER THE INPUT: true; the input reads as it did. -/
def fnExactQuorumForSpec : ChangeSpec := { name := "fnExactQuorumFor", fn := fun _ => fun
  | [d] => { results := [.lit (.bool true)], args := [d] }
  | _ => none }
def fnExactQuorumForRow : OpenClaim := { program := "ytaokmjbhgkfnfaa", sum := "54531b5c4f288ff20d866a5f43c660ea6ea9fafb8792ebb18c5ecb0936e65bf5", func := "loop.example/g00549/laws.FnExactQuorumFor", spec := "fnExactQuorumFor", apart := false }
def FnExactQuorumForSaid : Prop := fnExactQuorumForRow.holds Try.pinned (OpenSpec.ofChange fnExactQuorumForSpec)

/-- ITS FALSE NEIGHBOUR: 'it returns false'. Refute it at one input. -/
def fnExactQuorumForWrong : ChangeSpec := { name := "fnExactQuorumFor", fn := fun _ => fun
  | [d] => { results := [.lit (.bool false)], args := [d] }
  | _ => none }
def FnExactQuorumForWrongFalsely : Prop := fnExactQuorumForRow.holds Try.pinned (OpenSpec.ofChange fnExactQuorumForWrong)

/-- 'laws.FnExactCertifiedIn': WHATEVER THE INPUT: true; the input reads as it did. -/
def fnExactCertifiedInSpec : ChangeSpec := { name := "fnExactCertifiedIn", fn := fun _ => fun
  | [d1, d2] => { results := [.lit (.bool true)], args := [d1, d2] }
  | _ => none }
def fnExactCertifiedInRow : OpenClaim := { program := "ytaokmjbhgkfnfaa", sum := "54531b5c4f288ff20d866a5f43c660ea6ea9fafb8792ebb18c5ecb0936e65bf5", func := "loop.example/g00549/laws.FnExactCertifiedIn", spec := "fnExactCertifiedIn", inPlace := ["slices.overlaps[int]"], unfollowed := true, recurses := true, apart := false }
def FnExactCertifiedInSaid : Prop := fnExactCertifiedInRow.holds Try.pinned (OpenSpec.ofChange fnExactCertifiedInSpec)

/-- ITS FALSE NEIGHBOUR: 'it returns false'. Refute it at one input. -/
def fnExactCertifiedInWrong : ChangeSpec := { name := "fnExactCertifiedIn", fn := fun _ => fun
  | [d1, d2] => { results := [.lit (.bool false)], args := [d1, d2] }
  | _ => none }
def FnExactCertifiedInWrongFalsely : Prop := fnExactCertifiedInRow.holds Try.pinned (OpenSpec.ofChange fnExactCertifiedInWrong)

/-- 'laws.FnExactCommonHonest': WHATEVER THE INPUT: true; the input reads as it did. -/
def fnExactCommonHonestSpec : ChangeSpec := { name := "fnExactCommonHonest", fn := fun _ => fun
  | [d1, d2, d3, d4] => { results := [.lit (.bool true)], args := [d1, d2, d3, d4] }
  | _ => none }
def fnExactCommonHonestRow : OpenClaim := { program := "ytaokmjbhgkfnfaa", sum := "54531b5c4f288ff20d866a5f43c660ea6ea9fafb8792ebb18c5ecb0936e65bf5", func := "loop.example/g00549/laws.FnExactCommonHonest", spec := "fnExactCommonHonest", inPlace := ["slices.overlaps[int]"], unfollowed := true, recurses := true, apart := false }
def FnExactCommonHonestSaid : Prop := fnExactCommonHonestRow.holds Try.pinned (OpenSpec.ofChange fnExactCommonHonestSpec)

/-- ITS FALSE NEIGHBOUR: 'it returns false'. Refute it at one input. -/
def fnExactCommonHonestWrong : ChangeSpec := { name := "fnExactCommonHonest", fn := fun _ => fun
  | [d1, d2, d3, d4] => { results := [.lit (.bool false)], args := [d1, d2, d3, d4] }
  | _ => none }
def FnExactCommonHonestWrongFalsely : Prop := fnExactCommonHonestRow.holds Try.pinned (OpenSpec.ofChange fnExactCommonHonestWrong)

/- THE SECOND FORM. 'bulk': how many values and letters a reading holds, each counted each time it is reached (what is shared counts as often as it is met; a slice's spare places count too). A statement '..UptoSaid' is the law's where the arguments, and the package variables that the reading takes, are together of bulk at most 1048576: NARROWER than '..Said'. Prove '..Said' where nothing that the law and all that it calls make is longer than what came in: it says more and counts as full. Else prove '..UptoSaid'. A law counts once. -/
mutual
def uptoBulk {H : Type} : DataW H → Nat
  | .lit (.string bytes) => bytes.length + 1
  | .lit _ => 1
  | .nil => 1
  | .ptr d => uptoBulk d + 1
  | .slice elems spare => uptoBulkAll elems + uptoBulkAll spare + 1
  | .agg parts => uptoBulkAll parts + 1
  | .iface _ d => uptoBulk d + 1
  | .map entries => uptoBulkEntries entries + 1
  | .held _ => 1
def uptoBulkAll {H : Type} : List (DataW H) → Nat
  | [] => 0
  | d :: r => uptoBulk d + uptoBulkAll r
def uptoBulkEntries {H : Type} : List (Lit × DataW H) → Nat
  | [] => 0
  | x :: r => uptoBulkEntry x + uptoBulkEntries r
def uptoBulkEntry {H : Type} : Lit × DataW H → Nat
  | (.string bytes, d) => bytes.length + uptoBulk d + 1
  | (_, d) => uptoBulk d + 1
 end
def uptoSmall : (H : Type) → List (DataW H) → Bool := fun _ ds => decide (uptoBulkAll ds ≤ 1048576)
def OpenSpec.upto (s : _root_.Go.ChangeSpec) : _root_.Go.OpenSpec := { _root_.Go.OpenSpec.ofChange s with cond := some uptoSmall }

/-- 'laws.FnBoard', WHERE WHAT IT READS IS OF BULK AT MOST 1048576: true; the input reads as it did. -/
def fnBoardUptoRow : OpenClaim := { program := "ytaokmjbhgkfnfaa", sum := "54531b5c4f288ff20d866a5f43c660ea6ea9fafb8792ebb18c5ecb0936e65bf5", func := "loop.example/g00549/laws.FnBoard", spec := "fnBoard", inPlace := ["slices.overlaps[int]"], unfollowed := true, recurses := true, apart := false, narrowed := true }
def FnBoardUptoSaid : Prop := fnBoardUptoRow.holds Try.pinned (OpenSpec.upto fnBoardSpec)

/-- 'laws.FnQuorums', WHERE WHAT IT READS IS OF BULK AT MOST 1048576: true; the input reads as it did. -/
def fnQuorumsUptoRow : OpenClaim := { program := "ytaokmjbhgkfnfaa", sum := "54531b5c4f288ff20d866a5f43c660ea6ea9fafb8792ebb18c5ecb0936e65bf5", func := "loop.example/g00549/laws.FnQuorums", spec := "fnQuorums", inPlace := ["slices.overlaps[int]"], unfollowed := true, recurses := true, apart := false, narrowed := true }
def FnQuorumsUptoSaid : Prop := fnQuorumsUptoRow.holds Try.pinned (OpenSpec.upto fnQuorumsSpec)

/-- 'laws.FnExactNewBoard', WHERE WHAT IT READS IS OF BULK AT MOST 1048576: true; the input reads as it did. -/
def fnExactNewBoardUptoRow : OpenClaim := { program := "ytaokmjbhgkfnfaa", sum := "54531b5c4f288ff20d866a5f43c660ea6ea9fafb8792ebb18c5ecb0936e65bf5", func := "loop.example/g00549/laws.FnExactNewBoard", spec := "fnExactNewBoard", unfollowed := true, recurses := true, apart := false, narrowed := true }
def FnExactNewBoardUptoSaid : Prop := fnExactNewBoardUptoRow.holds Try.pinned (OpenSpec.upto fnExactNewBoardSpec)

/-- 'laws.FnExactGoodBoard', WHERE WHAT IT READS IS OF BULK AT MOST 1048576: true; the input reads as it did. -/
def fnExactGoodBoardUptoRow : OpenClaim := { program := "ytaokmjbhgkfnfaa", sum := "54531b5c4f288ff20d866a5f43c660ea6ea9fafb8792ebb18c5ecb0936e65bf5", func := "loop.example/g00549/laws.FnExactGoodBoard", spec := "fnExactGoodBoard", inPlace := ["slices.overlaps[int]"], unfollowed := true, recurses := true, apart := false, narrowed := true }
def FnExactGoodBoardUptoSaid : Prop := fnExactGoodBoardUptoRow.holds Try.pinned (OpenSpec.upto fnExactGoodBoardSpec)

/-- 'laws.FnExactStepBoard', WHERE WHAT IT READS IS OF BULK AT MOST 1048576: true; the input reads as it did. -/
def fnExactStepBoardUptoRow : OpenClaim := { program := "ytaokmjbhgkfnfaa", sum := "54531b5c4f288ff20d866a5f43c660ea6ea9fafb8792ebb18c5ecb0936e65bf5", func := "loop.example/g00549/laws.FnExactStepBoard", spec := "fnExactStepBoard", inPlace := ["slices.overlaps[int]"], unfollowed := true, recurses := true, apart := false, narrowed := true }
def FnExactStepBoardUptoSaid : Prop := fnExactStepBoardUptoRow.holds Try.pinned (OpenSpec.upto fnExactStepBoardSpec)

/-- 'laws.FnExactPlayBoard', WHERE WHAT IT READS IS OF BULK AT MOST 1048576: true; the input reads as it did. -/
def fnExactPlayBoardUptoRow : OpenClaim := { program := "ytaokmjbhgkfnfaa", sum := "54531b5c4f288ff20d866a5f43c660ea6ea9fafb8792ebb18c5ecb0936e65bf5", func := "loop.example/g00549/laws.FnExactPlayBoard", spec := "fnExactPlayBoard", inPlace := ["slices.overlaps[int]"], unfollowed := true, recurses := true, apart := false, narrowed := true }
def FnExactPlayBoardUptoSaid : Prop := fnExactPlayBoardUptoRow.holds Try.pinned (OpenSpec.upto fnExactPlayBoardSpec)

/-- 'laws.FnExactQuorumFor', WHERE WHAT IT READS IS OF BULK AT MOST 1048576: true; the input reads as it did. -/
def fnExactQuorumForUptoRow : OpenClaim := { program := "ytaokmjbhgkfnfaa", sum := "54531b5c4f288ff20d866a5f43c660ea6ea9fafb8792ebb18c5ecb0936e65bf5", func := "loop.example/g00549/laws.FnExactQuorumFor", spec := "fnExactQuorumFor", apart := false, narrowed := true }
def FnExactQuorumForUptoSaid : Prop := fnExactQuorumForUptoRow.holds Try.pinned (OpenSpec.upto fnExactQuorumForSpec)

/-- 'laws.FnExactCertifiedIn', WHERE WHAT IT READS IS OF BULK AT MOST 1048576: true; the input reads as it did. -/
def fnExactCertifiedInUptoRow : OpenClaim := { program := "ytaokmjbhgkfnfaa", sum := "54531b5c4f288ff20d866a5f43c660ea6ea9fafb8792ebb18c5ecb0936e65bf5", func := "loop.example/g00549/laws.FnExactCertifiedIn", spec := "fnExactCertifiedIn", inPlace := ["slices.overlaps[int]"], unfollowed := true, recurses := true, apart := false, narrowed := true }
def FnExactCertifiedInUptoSaid : Prop := fnExactCertifiedInUptoRow.holds Try.pinned (OpenSpec.upto fnExactCertifiedInSpec)

/-- 'laws.FnExactCommonHonest', WHERE WHAT IT READS IS OF BULK AT MOST 1048576: true; the input reads as it did. -/
def fnExactCommonHonestUptoRow : OpenClaim := { program := "ytaokmjbhgkfnfaa", sum := "54531b5c4f288ff20d866a5f43c660ea6ea9fafb8792ebb18c5ecb0936e65bf5", func := "loop.example/g00549/laws.FnExactCommonHonest", spec := "fnExactCommonHonest", inPlace := ["slices.overlaps[int]"], unfollowed := true, recurses := true, apart := false, narrowed := true }
def FnExactCommonHonestUptoSaid : Prop := fnExactCommonHonestUptoRow.holds Try.pinned (OpenSpec.upto fnExactCommonHonestSpec)

end Rows
end Go.Proofs.Ytaokmjbhgkfnfaa

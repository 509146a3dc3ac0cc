/-
  No cell of these rows narrows 'for every input' (looked for: loops, veiled, ifaces, maps, wideKeys, modest, calm, conditions, laid).
  DERIVED. THE GIVEN ROWS OF THIS SEAT. 10 by the template 'for every input the law returns true; each argument reads behind the call as it read before'; 0 by the template 'total and deterministic' (their statements: YtnppmgnfignbcaaTotals.lean).
  GIVEN WITH THE SEED: the statements are not yours to turn. If you find one false, say at which input.
  Laid BY PROGRAM, IN A SANDBOX (cutbox-rows.mjs): the forced cells as the released guide's own fill.sh prints them over the translation 069606302ba27d20… (all of the seat's roots in one cut). By AI agents, Wed Nov 11 2026. No macro, syntax, notation, axiom, sorry.
-/
import Derived.Test.YtnppmgnfignbcaaChecked
import GoSem.Claim
import GoSem.ClaimJoined
import GoSem.ClaimMapViews
import Derived.JoinedTies
import Derived.KernelRfl
namespace Go.Proofs.Ytnppmgnfignbcaa
/- THE CELL 'sum', in the pinned program and in every row, IS THE sha256 OF THE DUMP (.gsa) THAT YtnppmgnfignbcaaProg.lean LOADS. Nothing in Lean hashes anything: it is a label: what it is worth is what the hold of that sum in a sandbox is worth. -/
noncomputable def Try.pinned : Pinned := { name := "ytnppmgnfignbcaa", sum := "069606302ba27d2064d8ce7a314956f849dda90ff8fb9ccdeb5fa258f16da5de", checked := Try.checked }
namespace Rows
def none {H : Type} : Left H := { results := [], args := [] }

/-- 'laws.FnMixes': WHATEVER THE INPUT: true; the input reads as it did. -/
def fnMixesSpec : ChangeSpec := { name := "fnMixes", fn := fun _ => fun
  | [d1, d2] => { results := [.lit (.bool true)], args := [d1, d2] }
  | _ => none }
def fnMixesRow : OpenClaim := { program := "ytnppmgnfignbcaa", sum := "069606302ba27d2064d8ce7a314956f849dda90ff8fb9ccdeb5fa258f16da5de", func := "loop.example/g00549/laws.FnMixes", spec := "fnMixes", inPlace := ["slices.overlaps[int]", "slices.overlaps[string]"], unfollowed := true, recurses := true, apart := false }
def FnMixesSaid : Prop := fnMixesRow.holds Try.pinned (OpenSpec.ofChange fnMixesSpec)

/-- ITS FALSE NEIGHBOUR: 'it returns false'. Refute it at one input. -/
def fnMixesWrong : ChangeSpec := { name := "fnMixes", fn := fun _ => fun
  | [d1, d2] => { results := [.lit (.bool false)], args := [d1, d2] }
  | _ => none }
def FnMixesWrongFalsely : Prop := fnMixesRow.holds Try.pinned (OpenSpec.ofChange fnMixesWrong)

/-- 'laws.FnPools': WHATEVER THE INPUT: true; the input reads as it did. -/
def fnPoolsSpec : ChangeSpec := { name := "fnPools", fn := fun _ => fun
  | [d1, d2] => { results := [.lit (.bool true)], args := [d1, d2] }
  | _ => none }
def fnPoolsRow : OpenClaim := { program := "ytnppmgnfignbcaa", sum := "069606302ba27d2064d8ce7a314956f849dda90ff8fb9ccdeb5fa258f16da5de", func := "loop.example/g00549/laws.FnPools", spec := "fnPools", inPlace := ["slices.overlaps[int]", "slices.overlaps[string]"], unfollowed := true, recurses := true, apart := false }
def FnPoolsSaid : Prop := fnPoolsRow.holds Try.pinned (OpenSpec.ofChange fnPoolsSpec)

/-- ITS FALSE NEIGHBOUR: 'it returns false'. Refute it at one input. -/
def fnPoolsWrong : ChangeSpec := { name := "fnPools", fn := fun _ => fun
  | [d1, d2] => { results := [.lit (.bool false)], args := [d1, d2] }
  | _ => none }
def FnPoolsWrongFalsely : Prop := fnPoolsRow.holds Try.pinned (OpenSpec.ofChange fnPoolsWrong)

/-- 'laws.FnExactNewMix': WHATEVER THE INPUT: true; the input reads as it did. -/
def fnExactNewMixSpec : ChangeSpec := { name := "fnExactNewMix", fn := fun _ => fun
  | [d1, d2] => { results := [.lit (.bool true)], args := [d1, d2] }
  | _ => none }
def fnExactNewMixRow : OpenClaim := { program := "ytnppmgnfignbcaa", sum := "069606302ba27d2064d8ce7a314956f849dda90ff8fb9ccdeb5fa258f16da5de", func := "loop.example/g00549/laws.FnExactNewMix", spec := "fnExactNewMix", apart := false }
def FnExactNewMixSaid : Prop := fnExactNewMixRow.holds Try.pinned (OpenSpec.ofChange fnExactNewMixSpec)

/-- ITS FALSE NEIGHBOUR: 'it returns false'. Refute it at one input. -/
def fnExactNewMixWrong : ChangeSpec := { name := "fnExactNewMix", fn := fun _ => fun
  | [d1, d2] => { results := [.lit (.bool false)], args := [d1, d2] }
  | _ => none }
def FnExactNewMixWrongFalsely : Prop := fnExactNewMixRow.holds Try.pinned (OpenSpec.ofChange fnExactNewMixWrong)

/-- 'laws.FnExactGoodMix': WHATEVER THE INPUT: true; the input reads as it did. -/
def fnExactGoodMixSpec : ChangeSpec := { name := "fnExactGoodMix", fn := fun _ => fun
  | [d] => { results := [.lit (.bool true)], args := [d] }
  | _ => none }
def fnExactGoodMixRow : OpenClaim := { program := "ytnppmgnfignbcaa", sum := "069606302ba27d2064d8ce7a314956f849dda90ff8fb9ccdeb5fa258f16da5de", func := "loop.example/g00549/laws.FnExactGoodMix", spec := "fnExactGoodMix", inPlace := ["slices.overlaps[int]"], unfollowed := true, recurses := true, apart := false }
def FnExactGoodMixSaid : Prop := fnExactGoodMixRow.holds Try.pinned (OpenSpec.ofChange fnExactGoodMixSpec)

/-- ITS FALSE NEIGHBOUR: 'it returns false'. Refute it at one input. -/
def fnExactGoodMixWrong : ChangeSpec := { name := "fnExactGoodMix", fn := fun _ => fun
  | [d] => { results := [.lit (.bool false)], args := [d] }
  | _ => none }
def FnExactGoodMixWrongFalsely : Prop := fnExactGoodMixRow.holds Try.pinned (OpenSpec.ofChange fnExactGoodMixWrong)

/-- 'laws.FnExactPutMix': WHATEVER THE INPUT: true; the input reads as it did. -/
def fnExactPutMixSpec : ChangeSpec := { name := "fnExactPutMix", fn := fun _ => fun
  | [d1, d2] => { results := [.lit (.bool true)], args := [d1, d2] }
  | _ => none }
def fnExactPutMixRow : OpenClaim := { program := "ytnppmgnfignbcaa", sum := "069606302ba27d2064d8ce7a314956f849dda90ff8fb9ccdeb5fa258f16da5de", func := "loop.example/g00549/laws.FnExactPutMix", spec := "fnExactPutMix", inPlace := ["slices.overlaps[int]", "slices.overlaps[string]"], unfollowed := true, recurses := true, apart := false }
def FnExactPutMixSaid : Prop := fnExactPutMixRow.holds Try.pinned (OpenSpec.ofChange fnExactPutMixSpec)

/-- ITS FALSE NEIGHBOUR: 'it returns false'. Refute it at one input. -/
def fnExactPutMixWrong : ChangeSpec := { name := "fnExactPutMix", fn := fun _ => fun
  | [d1, d2] => { results := [.lit (.bool false)], args := [d1, d2] }
  | _ => none }
def FnExactPutMixWrongFalsely : Prop := fnExactPutMixRow.holds Try.pinned (OpenSpec.ofChange fnExactPutMixWrong)

/-- 'laws.FnExactTickMix': WHATEVER THE INPUT: true; the input reads as it did. -/
def fnExactTickMixSpec : ChangeSpec := { name := "fnExactTickMix", fn := fun _ => fun
  | [d] => { results := [.lit (.bool true)], args := [d] }
  | _ => none }
def fnExactTickMixRow : OpenClaim := { program := "ytnppmgnfignbcaa", sum := "069606302ba27d2064d8ce7a314956f849dda90ff8fb9ccdeb5fa258f16da5de", func := "loop.example/g00549/laws.FnExactTickMix", spec := "fnExactTickMix", inPlace := ["slices.overlaps[int]"], unfollowed := true, recurses := true, apart := false }
def FnExactTickMixSaid : Prop := fnExactTickMixRow.holds Try.pinned (OpenSpec.ofChange fnExactTickMixSpec)

/-- ITS FALSE NEIGHBOUR: 'it returns false'. Refute it at one input. -/
def fnExactTickMixWrong : ChangeSpec := { name := "fnExactTickMix", fn := fun _ => fun
  | [d] => { results := [.lit (.bool false)], args := [d] }
  | _ => none }
def FnExactTickMixWrongFalsely : Prop := fnExactTickMixRow.holds Try.pinned (OpenSpec.ofChange fnExactTickMixWrong)

/-- 'laws.FnExactPlayMix': WHATEVER THE INPUT: true; the input reads as it did. -/
def fnExactPlayMixSpec : ChangeSpec := { name := "fnExactPlayMix", fn := fun _ => fun
  | [d1, d2, d3] => { results := [.lit (.bool true)], args := [d1, d2, d3] }
  | _ => none }
def fnExactPlayMixRow : OpenClaim := { program := "ytnppmgnfignbcaa", sum := "069606302ba27d2064d8ce7a314956f849dda90ff8fb9ccdeb5fa258f16da5de", func := "loop.example/g00549/laws.FnExactPlayMix", spec := "fnExactPlayMix", inPlace := ["slices.overlaps[int]", "slices.overlaps[string]"], unfollowed := true, recurses := true, apart := false }
def FnExactPlayMixSaid : Prop := fnExactPlayMixRow.holds Try.pinned (OpenSpec.ofChange fnExactPlayMixSpec)

/-- ITS FALSE NEIGHBOUR: 'it returns false'. Refute it at one input. -/
def fnExactPlayMixWrong : ChangeSpec := { name := "fnExactPlayMix", fn := fun _ => fun
  | [d1, d2, d3] => { results := [.lit (.bool false)], args := [d1, d2, d3] }
  | _ => none }
def FnExactPlayMixWrongFalsely : Prop := fnExactPlayMixRow.holds Try.pinned (OpenSpec.ofChange fnExactPlayMixWrong)

/-- 'laws.FnExactTagOf': WHATEVER THE INPUT: true; the input reads as it did. -/
def fnExactTagOfSpec : ChangeSpec := { name := "fnExactTagOf", fn := fun _ => fun
  | [d] => { results := [.lit (.bool true)], args := [d] }
  | _ => none }
def fnExactTagOfRow : OpenClaim := { program := "ytnppmgnfignbcaa", sum := "069606302ba27d2064d8ce7a314956f849dda90ff8fb9ccdeb5fa258f16da5de", func := "loop.example/g00549/laws.FnExactTagOf", spec := "fnExactTagOf", apart := false }
def FnExactTagOfSaid : Prop := fnExactTagOfRow.holds Try.pinned (OpenSpec.ofChange fnExactTagOfSpec)

/-- ITS FALSE NEIGHBOUR: 'it returns false'. Refute it at one input. -/
def fnExactTagOfWrong : ChangeSpec := { name := "fnExactTagOf", fn := fun _ => fun
  | [d] => { results := [.lit (.bool false)], args := [d] }
  | _ => none }
def FnExactTagOfWrongFalsely : Prop := fnExactTagOfRow.holds Try.pinned (OpenSpec.ofChange fnExactTagOfWrong)

/-- 'laws.FnExactSortTexts': WHATEVER THE INPUT: true; the input reads as it did. -/
def fnExactSortTextsSpec : ChangeSpec := { name := "fnExactSortTexts", fn := fun _ => fun
  | [d] => { results := [.lit (.bool true)], args := [d] }
  | _ => none }
def fnExactSortTextsRow : OpenClaim := { program := "ytnppmgnfignbcaa", sum := "069606302ba27d2064d8ce7a314956f849dda90ff8fb9ccdeb5fa258f16da5de", func := "loop.example/g00549/laws.FnExactSortTexts", spec := "fnExactSortTexts", unfollowed := true, recurses := true, apart := false }
def FnExactSortTextsSaid : Prop := fnExactSortTextsRow.holds Try.pinned (OpenSpec.ofChange fnExactSortTextsSpec)

/-- ITS FALSE NEIGHBOUR: 'it returns false'. Refute it at one input. -/
def fnExactSortTextsWrong : ChangeSpec := { name := "fnExactSortTexts", fn := fun _ => fun
  | [d] => { results := [.lit (.bool false)], args := [d] }
  | _ => none }
def FnExactSortTextsWrongFalsely : Prop := fnExactSortTextsRow.holds Try.pinned (OpenSpec.ofChange fnExactSortTextsWrong)

/-- 'laws.FnExactSetSize': WHATEVER THE INPUT: true; the input reads as it did. -/
def fnExactSetSizeSpec : ChangeSpec := { name := "fnExactSetSize", fn := fun _ => fun
  | [d1, d2] => { results := [.lit (.bool true)], args := [d1, d2] }
  | _ => none }
def fnExactSetSizeRow : OpenClaim := { program := "ytnppmgnfignbcaa", sum := "069606302ba27d2064d8ce7a314956f849dda90ff8fb9ccdeb5fa258f16da5de", func := "loop.example/g00549/laws.FnExactSetSize", spec := "fnExactSetSize", apart := false }
def FnExactSetSizeSaid : Prop := fnExactSetSizeRow.holds Try.pinned (OpenSpec.ofChange fnExactSetSizeSpec)

/-- ITS FALSE NEIGHBOUR: 'it returns false'. Refute it at one input. -/
def fnExactSetSizeWrong : ChangeSpec := { name := "fnExactSetSize", fn := fun _ => fun
  | [d1, d2] => { results := [.lit (.bool false)], args := [d1, d2] }
  | _ => none }
def FnExactSetSizeWrongFalsely : Prop := fnExactSetSizeRow.holds Try.pinned (OpenSpec.ofChange fnExactSetSizeWrong)

/- THE SECOND FORM. 'bulk': how many values and letters a reading holds, each counted each time it is reached (what is shared counts as often as it is met; a slice's spare places count too). A statement '..UptoSaid' is the law's where the arguments, and the package variables that the reading takes, are together of bulk at most 1048576: NARROWER than '..Said'. Prove '..Said' where nothing that the law and all that it calls make is longer than what came in: it says more and counts as full. Else prove '..UptoSaid'. A law counts once. -/
mutual
def uptoBulk {H : Type} : DataW H → Nat
  | .lit (.string bytes) => bytes.length + 1
  | .lit _ => 1
  | .nil => 1
  | .ptr d => uptoBulk d + 1
  | .slice elems spare => uptoBulkAll elems + uptoBulkAll spare + 1
  | .agg parts => uptoBulkAll parts + 1
  | .iface _ d => uptoBulk d + 1
  | .map entries => uptoBulkEntries entries + 1
  | .held _ => 1
def uptoBulkAll {H : Type} : List (DataW H) → Nat
  | [] => 0
  | d :: r => uptoBulk d + uptoBulkAll r
def uptoBulkEntries {H : Type} : List (Lit × DataW H) → Nat
  | [] => 0
  | x :: r => uptoBulkEntry x + uptoBulkEntries r
def uptoBulkEntry {H : Type} : Lit × DataW H → Nat
  | (.string bytes, d) => bytes.length + uptoBulk d + 1
  | (_, d) => uptoBulk d + 1
 end
def uptoSmall : (H : Type) → List (DataW H) → Bool := fun _ ds => decide (uptoBulkAll ds ≤ 1048576)
def OpenSpec.upto (s : _root_.Go.ChangeSpec) : _root_.Go.OpenSpec := { _root_.Go.OpenSpec.ofChange s with cond := some uptoSmall }

/-- 'laws.FnMixes', WHERE WHAT IT READS IS OF BULK AT MOST 1048576: true; the input reads as it did. -/
def fnMixesUptoRow : OpenClaim := { program := "ytnppmgnfignbcaa", sum := "069606302ba27d2064d8ce7a314956f849dda90ff8fb9ccdeb5fa258f16da5de", func := "loop.example/g00549/laws.FnMixes", spec := "fnMixes", inPlace := ["slices.overlaps[int]", "slices.overlaps[string]"], unfollowed := true, recurses := true, apart := false, narrowed := true }
def FnMixesUptoSaid : Prop := fnMixesUptoRow.holds Try.pinned (OpenSpec.upto fnMixesSpec)

/-- 'laws.FnPools', WHERE WHAT IT READS IS OF BULK AT MOST 1048576: true; the input reads as it did. -/
def fnPoolsUptoRow : OpenClaim := { program := "ytnppmgnfignbcaa", sum := "069606302ba27d2064d8ce7a314956f849dda90ff8fb9ccdeb5fa258f16da5de", func := "loop.example/g00549/laws.FnPools", spec := "fnPools", inPlace := ["slices.overlaps[int]", "slices.overlaps[string]"], unfollowed := true, recurses := true, apart := false, narrowed := true }
def FnPoolsUptoSaid : Prop := fnPoolsUptoRow.holds Try.pinned (OpenSpec.upto fnPoolsSpec)

/-- 'laws.FnExactNewMix', WHERE WHAT IT READS IS OF BULK AT MOST 1048576: true; the input reads as it did. -/
def fnExactNewMixUptoRow : OpenClaim := { program := "ytnppmgnfignbcaa", sum := "069606302ba27d2064d8ce7a314956f849dda90ff8fb9ccdeb5fa258f16da5de", func := "loop.example/g00549/laws.FnExactNewMix", spec := "fnExactNewMix", apart := false, narrowed := true }
def FnExactNewMixUptoSaid : Prop := fnExactNewMixUptoRow.holds Try.pinned (OpenSpec.upto fnExactNewMixSpec)

/-- 'laws.FnExactGoodMix', WHERE WHAT IT READS IS OF BULK AT MOST 1048576: true; the input reads as it did. -/
def fnExactGoodMixUptoRow : OpenClaim := { program := "ytnppmgnfignbcaa", sum := "069606302ba27d2064d8ce7a314956f849dda90ff8fb9ccdeb5fa258f16da5de", func := "loop.example/g00549/laws.FnExactGoodMix", spec := "fnExactGoodMix", inPlace := ["slices.overlaps[int]"], unfollowed := true, recurses := true, apart := false, narrowed := true }
def FnExactGoodMixUptoSaid : Prop := fnExactGoodMixUptoRow.holds Try.pinned (OpenSpec.upto fnExactGoodMixSpec)

/-- 'laws.FnExactPutMix', WHERE WHAT IT READS IS OF BULK AT MOST 1048576: true; the input reads as it did. -/
def fnExactPutMixUptoRow : OpenClaim := { program := "ytnppmgnfignbcaa", sum := "069606302ba27d2064d8ce7a314956f849dda90ff8fb9ccdeb5fa258f16da5de", func := "loop.example/g00549/laws.FnExactPutMix", spec := "fnExactPutMix", inPlace := ["slices.overlaps[int]", "slices.overlaps[string]"], unfollowed := true, recurses := true, apart := false, narrowed := true }
def FnExactPutMixUptoSaid : Prop := fnExactPutMixUptoRow.holds Try.pinned (OpenSpec.upto fnExactPutMixSpec)

/-- 'laws.FnExactTickMix', WHERE WHAT IT READS IS OF BULK AT MOST 1048576: true; the input reads as it did. -/
def fnExactTickMixUptoRow : OpenClaim := { program := "ytnppmgnfignbcaa", sum := "069606302ba27d2064d8ce7a314956f849dda90ff8fb9ccdeb5fa258f16da5de", func := "loop.example/g00549/laws.FnExactTickMix", spec := "fnExactTickMix", inPlace := ["slices.overlaps[int]"], unfollowed := true, recurses := true, apart := false, narrowed := true }
def FnExactTickMixUptoSaid : Prop := fnExactTickMixUptoRow.holds Try.pinned (OpenSpec.upto fnExactTickMixSpec)

/-- 'laws.FnExactPlayMix', WHERE WHAT IT READS IS OF BULK AT MOST 1048576: true; the input reads as it did. -/
def fnExactPlayMixUptoRow : OpenClaim := { program := "ytnppmgnfignbcaa", sum := "069606302ba27d2064d8ce7a314956f849dda90ff8fb9ccdeb5fa258f16da5de", func := "loop.example/g00549/laws.FnExactPlayMix", spec := "fnExactPlayMix", inPlace := ["slices.overlaps[int]", "slices.overlaps[string]"], unfollowed := true, recurses := true, apart := false, narrowed := true }
def FnExactPlayMixUptoSaid : Prop := fnExactPlayMixUptoRow.holds Try.pinned (OpenSpec.upto fnExactPlayMixSpec)

/-- 'laws.FnExactTagOf', WHERE WHAT IT READS IS OF BULK AT MOST 1048576: true; the input reads as it did. -/
def fnExactTagOfUptoRow : OpenClaim := { program := "ytnppmgnfignbcaa", sum := "069606302ba27d2064d8ce7a314956f849dda90ff8fb9ccdeb5fa258f16da5de", func := "loop.example/g00549/laws.FnExactTagOf", spec := "fnExactTagOf", apart := false, narrowed := true }
def FnExactTagOfUptoSaid : Prop := fnExactTagOfUptoRow.holds Try.pinned (OpenSpec.upto fnExactTagOfSpec)

/-- 'laws.FnExactSortTexts', WHERE WHAT IT READS IS OF BULK AT MOST 1048576: true; the input reads as it did. -/
def fnExactSortTextsUptoRow : OpenClaim := { program := "ytnppmgnfignbcaa", sum := "069606302ba27d2064d8ce7a314956f849dda90ff8fb9ccdeb5fa258f16da5de", func := "loop.example/g00549/laws.FnExactSortTexts", spec := "fnExactSortTexts", unfollowed := true, recurses := true, apart := false, narrowed := true }
def FnExactSortTextsUptoSaid : Prop := fnExactSortTextsUptoRow.holds Try.pinned (OpenSpec.upto fnExactSortTextsSpec)

/-- 'laws.FnExactSetSize', WHERE WHAT IT READS IS OF BULK AT MOST 1048576: true; the input reads as it did. -/
def fnExactSetSizeUptoRow : OpenClaim := { program := "ytnppmgnfignbcaa", sum := "069606302ba27d2064d8ce7a314956f849dda90ff8fb9ccdeb5fa258f16da5de", func := "loop.example/g00549/laws.FnExactSetSize", spec := "fnExactSetSize", apart := false, narrowed := true }
def FnExactSetSizeUptoSaid : Prop := fnExactSetSizeUptoRow.holds Try.pinned (OpenSpec.upto fnExactSetSizeSpec)

end Rows
end Go.Proofs.Ytnppmgnfignbcaa

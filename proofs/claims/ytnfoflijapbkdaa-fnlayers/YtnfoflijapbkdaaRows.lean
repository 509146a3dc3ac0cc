/-
  No cell of these rows narrows 'for every input' (looked for: loops, veiled, ifaces, maps, wideKeys, modest, calm, conditions, laid).
  DERIVED. THE GIVEN ROWS OF THIS SEAT. 10 by the template 'for every input the law returns true; each argument reads behind the call as it read before'; 0 by the template 'total and deterministic' (their statements: YtnfoflijapbkdaaTotals.lean).
  GIVEN WITH THE SEED: the statements are not yours to turn. If you find one false, say at which input.
  Laid BY PROGRAM, IN A SANDBOX (cutbox-rows.mjs): the forced cells as the released guide's own fill.sh prints them over the translation 8a7eccead6169c42… (all of the seat's roots in one cut). By AI agents, Wed Nov 11 2026. No macro, syntax, notation, axiom, sorry.
-/
import Derived.Test.YtnfoflijapbkdaaChecked
import GoSem.Claim
import GoSem.ClaimJoined
import GoSem.ClaimMapViews
import Derived.JoinedTies
import Derived.KernelRfl
namespace Go.Proofs.Ytnfoflijapbkdaa
/- THE CELL 'sum', in the pinned program and in every row, IS THE sha256 OF THE DUMP (.gsa) THAT YtnfoflijapbkdaaProg.lean LOADS. Nothing in Lean hashes anything: it is a label: what it is worth is what the hold of that sum in a sandbox is worth. -/
noncomputable def Try.pinned : Pinned := { name := "ytnfoflijapbkdaa", sum := "8a7eccead6169c42010610467dd193d4e1953d797ab0e5f32c6776f6ed35bfba", checked := Try.checked }
namespace Rows
def none {H : Type} : Left H := { results := [], args := [] }

/-- 'laws.FnLayers': WHATEVER THE INPUT: true; the input reads as it did. -/
def fnLayersSpec : ChangeSpec := { name := "fnLayers", fn := fun _ => fun
  | [d1, d2] => { results := [.lit (.bool true)], args := [d1, d2] }
  | _ => none }
def fnLayersRow : OpenClaim := { program := "ytnfoflijapbkdaa", sum := "8a7eccead6169c42010610467dd193d4e1953d797ab0e5f32c6776f6ed35bfba", func := "loop.example/g00549/laws.FnLayers", spec := "fnLayers", unfollowed := true, recurses := true, apart := false }
def FnLayersSaid : Prop := fnLayersRow.holds Try.pinned (OpenSpec.ofChange fnLayersSpec)

/-- ITS FALSE NEIGHBOUR: 'it returns false'. Refute it at one input. -/
def fnLayersWrong : ChangeSpec := { name := "fnLayers", fn := fun _ => fun
  | [d1, d2] => { results := [.lit (.bool false)], args := [d1, d2] }
  | _ => none }
def FnLayersWrongFalsely : Prop := fnLayersRow.holds Try.pinned (OpenSpec.ofChange fnLayersWrong)

/-- 'laws.FnBodies': WHATEVER THE INPUT: true; the input reads as it did. -/
def fnBodiesSpec : ChangeSpec := { name := "fnBodies", fn := fun _ => fun
  | [d1, d2] => { results := [.lit (.bool true)], args := [d1, d2] }
  | _ => none }
def fnBodiesRow : OpenClaim := { program := "ytnfoflijapbkdaa", sum := "8a7eccead6169c42010610467dd193d4e1953d797ab0e5f32c6776f6ed35bfba", func := "loop.example/g00549/laws.FnBodies", spec := "fnBodies", unfollowed := true, recurses := true, apart := false }
def FnBodiesSaid : Prop := fnBodiesRow.holds Try.pinned (OpenSpec.ofChange fnBodiesSpec)

/-- ITS FALSE NEIGHBOUR: 'it returns false'. Refute it at one input. -/
def fnBodiesWrong : ChangeSpec := { name := "fnBodies", fn := fun _ => fun
  | [d1, d2] => { results := [.lit (.bool false)], args := [d1, d2] }
  | _ => none }
def FnBodiesWrongFalsely : Prop := fnBodiesRow.holds Try.pinned (OpenSpec.ofChange fnBodiesWrong)

/-- 'laws.FnExactPadFor': WHATEVER THE INPUT: true; the input reads as it did. -/
def fnExactPadForSpec : ChangeSpec := { name := "fnExactPadFor", fn := fun _ => fun
  | [d1, d2] => { results := [.lit (.bool true)], args := [d1, d2] }
  | _ => none }
def fnExactPadForRow : OpenClaim := { program := "ytnfoflijapbkdaa", sum := "8a7eccead6169c42010610467dd193d4e1953d797ab0e5f32c6776f6ed35bfba", func := "loop.example/g00549/laws.FnExactPadFor", spec := "fnExactPadFor", unfollowed := true, recurses := true, apart := false }
def FnExactPadForSaid : Prop := fnExactPadForRow.holds Try.pinned (OpenSpec.ofChange fnExactPadForSpec)

/-- ITS FALSE NEIGHBOUR: 'it returns false'. Refute it at one input. -/
def fnExactPadForWrong : ChangeSpec := { name := "fnExactPadFor", fn := fun _ => fun
  | [d1, d2] => { results := [.lit (.bool false)], args := [d1, d2] }
  | _ => none }
def FnExactPadForWrongFalsely : Prop := fnExactPadForRow.holds Try.pinned (OpenSpec.ofChange fnExactPadForWrong)

/-- 'laws.FnExactXorTexts': WHATEVER THE INPUT: true; the input reads as it did. -/
def fnExactXorTextsSpec : ChangeSpec := { name := "fnExactXorTexts", fn := fun _ => fun
  | [d1, d2] => { results := [.lit (.bool true)], args := [d1, d2] }
  | _ => none }
def fnExactXorTextsRow : OpenClaim := { program := "ytnfoflijapbkdaa", sum := "8a7eccead6169c42010610467dd193d4e1953d797ab0e5f32c6776f6ed35bfba", func := "loop.example/g00549/laws.FnExactXorTexts", spec := "fnExactXorTexts", apart := false }
def FnExactXorTextsSaid : Prop := fnExactXorTextsRow.holds Try.pinned (OpenSpec.ofChange fnExactXorTextsSpec)

/-- ITS FALSE NEIGHBOUR: 'it returns false'. Refute it at one input. -/
def fnExactXorTextsWrong : ChangeSpec := { name := "fnExactXorTexts", fn := fun _ => fun
  | [d1, d2] => { results := [.lit (.bool false)], args := [d1, d2] }
  | _ => none }
def FnExactXorTextsWrongFalsely : Prop := fnExactXorTextsRow.holds Try.pinned (OpenSpec.ofChange fnExactXorTextsWrong)

/-- 'laws.FnExactBuildOnion': WHATEVER THE INPUT: true; the input reads as it did. -/
def fnExactBuildOnionSpec : ChangeSpec := { name := "fnExactBuildOnion", fn := fun _ => fun
  | [d1, d2, d3] => { results := [.lit (.bool true)], args := [d1, d2, d3] }
  | _ => none }
def fnExactBuildOnionRow : OpenClaim := { program := "ytnfoflijapbkdaa", sum := "8a7eccead6169c42010610467dd193d4e1953d797ab0e5f32c6776f6ed35bfba", func := "loop.example/g00549/laws.FnExactBuildOnion", spec := "fnExactBuildOnion", unfollowed := true, recurses := true, apart := false }
def FnExactBuildOnionSaid : Prop := fnExactBuildOnionRow.holds Try.pinned (OpenSpec.ofChange fnExactBuildOnionSpec)

/-- ITS FALSE NEIGHBOUR: 'it returns false'. Refute it at one input. -/
def fnExactBuildOnionWrong : ChangeSpec := { name := "fnExactBuildOnion", fn := fun _ => fun
  | [d1, d2, d3] => { results := [.lit (.bool false)], args := [d1, d2, d3] }
  | _ => none }
def FnExactBuildOnionWrongFalsely : Prop := fnExactBuildOnionRow.holds Try.pinned (OpenSpec.ofChange fnExactBuildOnionWrong)

/-- 'laws.FnExactPeelOnion': WHATEVER THE INPUT: true; the input reads as it did. -/
def fnExactPeelOnionSpec : ChangeSpec := { name := "fnExactPeelOnion", fn := fun _ => fun
  | [d1, d2] => { results := [.lit (.bool true)], args := [d1, d2] }
  | _ => none }
def fnExactPeelOnionRow : OpenClaim := { program := "ytnfoflijapbkdaa", sum := "8a7eccead6169c42010610467dd193d4e1953d797ab0e5f32c6776f6ed35bfba", func := "loop.example/g00549/laws.FnExactPeelOnion", spec := "fnExactPeelOnion", unfollowed := true, recurses := true, apart := false }
def FnExactPeelOnionSaid : Prop := fnExactPeelOnionRow.holds Try.pinned (OpenSpec.ofChange fnExactPeelOnionSpec)

/-- ITS FALSE NEIGHBOUR: 'it returns false'. Refute it at one input. -/
def fnExactPeelOnionWrong : ChangeSpec := { name := "fnExactPeelOnion", fn := fun _ => fun
  | [d1, d2] => { results := [.lit (.bool false)], args := [d1, d2] }
  | _ => none }
def FnExactPeelOnionWrongFalsely : Prop := fnExactPeelOnionRow.holds Try.pinned (OpenSpec.ofChange fnExactPeelOnionWrong)

/-- 'laws.FnExactWalkOnion': WHATEVER THE INPUT: true; the input reads as it did. -/
def fnExactWalkOnionSpec : ChangeSpec := { name := "fnExactWalkOnion", fn := fun _ => fun
  | [d1, d2] => { results := [.lit (.bool true)], args := [d1, d2] }
  | _ => none }
def fnExactWalkOnionRow : OpenClaim := { program := "ytnfoflijapbkdaa", sum := "8a7eccead6169c42010610467dd193d4e1953d797ab0e5f32c6776f6ed35bfba", func := "loop.example/g00549/laws.FnExactWalkOnion", spec := "fnExactWalkOnion", unfollowed := true, recurses := true, apart := false }
def FnExactWalkOnionSaid : Prop := fnExactWalkOnionRow.holds Try.pinned (OpenSpec.ofChange fnExactWalkOnionSpec)

/-- ITS FALSE NEIGHBOUR: 'it returns false'. Refute it at one input. -/
def fnExactWalkOnionWrong : ChangeSpec := { name := "fnExactWalkOnion", fn := fun _ => fun
  | [d1, d2] => { results := [.lit (.bool false)], args := [d1, d2] }
  | _ => none }
def FnExactWalkOnionWrongFalsely : Prop := fnExactWalkOnionRow.holds Try.pinned (OpenSpec.ofChange fnExactWalkOnionWrong)

/-- 'laws.FnExactPadBody': WHATEVER THE INPUT: true; the input reads as it did. -/
def fnExactPadBodySpec : ChangeSpec := { name := "fnExactPadBody", fn := fun _ => fun
  | [d] => { results := [.lit (.bool true)], args := [d] }
  | _ => none }
def fnExactPadBodyRow : OpenClaim := { program := "ytnfoflijapbkdaa", sum := "8a7eccead6169c42010610467dd193d4e1953d797ab0e5f32c6776f6ed35bfba", func := "loop.example/g00549/laws.FnExactPadBody", spec := "fnExactPadBody", apart := false }
def FnExactPadBodySaid : Prop := fnExactPadBodyRow.holds Try.pinned (OpenSpec.ofChange fnExactPadBodySpec)

/-- ITS FALSE NEIGHBOUR: 'it returns false'. Refute it at one input. -/
def fnExactPadBodyWrong : ChangeSpec := { name := "fnExactPadBody", fn := fun _ => fun
  | [d] => { results := [.lit (.bool false)], args := [d] }
  | _ => none }
def FnExactPadBodyWrongFalsely : Prop := fnExactPadBodyRow.holds Try.pinned (OpenSpec.ofChange fnExactPadBodyWrong)

/-- 'laws.FnExactUnpadBody': WHATEVER THE INPUT: true; the input reads as it did. -/
def fnExactUnpadBodySpec : ChangeSpec := { name := "fnExactUnpadBody", fn := fun _ => fun
  | [d] => { results := [.lit (.bool true)], args := [d] }
  | _ => none }
def fnExactUnpadBodyRow : OpenClaim := { program := "ytnfoflijapbkdaa", sum := "8a7eccead6169c42010610467dd193d4e1953d797ab0e5f32c6776f6ed35bfba", func := "loop.example/g00549/laws.FnExactUnpadBody", spec := "fnExactUnpadBody", apart := false }
def FnExactUnpadBodySaid : Prop := fnExactUnpadBodyRow.holds Try.pinned (OpenSpec.ofChange fnExactUnpadBodySpec)

/-- ITS FALSE NEIGHBOUR: 'it returns false'. Refute it at one input. -/
def fnExactUnpadBodyWrong : ChangeSpec := { name := "fnExactUnpadBody", fn := fun _ => fun
  | [d] => { results := [.lit (.bool false)], args := [d] }
  | _ => none }
def FnExactUnpadBodyWrongFalsely : Prop := fnExactUnpadBodyRow.holds Try.pinned (OpenSpec.ofChange fnExactUnpadBodyWrong)

/-- 'laws.FnExactCheckOf': WHATEVER THE INPUT: true; the input reads as it did. -/
def fnExactCheckOfSpec : ChangeSpec := { name := "fnExactCheckOf", fn := fun _ => fun
  | [d] => { results := [.lit (.bool true)], args := [d] }
  | _ => none }
def fnExactCheckOfRow : OpenClaim := { program := "ytnfoflijapbkdaa", sum := "8a7eccead6169c42010610467dd193d4e1953d797ab0e5f32c6776f6ed35bfba", func := "loop.example/g00549/laws.FnExactCheckOf", spec := "fnExactCheckOf", apart := false }
def FnExactCheckOfSaid : Prop := fnExactCheckOfRow.holds Try.pinned (OpenSpec.ofChange fnExactCheckOfSpec)

/-- ITS FALSE NEIGHBOUR: 'it returns false'. Refute it at one input. -/
def fnExactCheckOfWrong : ChangeSpec := { name := "fnExactCheckOf", fn := fun _ => fun
  | [d] => { results := [.lit (.bool false)], args := [d] }
  | _ => none }
def FnExactCheckOfWrongFalsely : Prop := fnExactCheckOfRow.holds Try.pinned (OpenSpec.ofChange fnExactCheckOfWrong)

/- THE SECOND FORM. 'bulk': how many values and letters a reading holds, each counted each time it is reached (what is shared counts as often as it is met; a slice's spare places count too). A statement '..UptoSaid' is the law's where the arguments, and the package variables that the reading takes, are together of bulk at most 1048576: NARROWER than '..Said'. Prove '..Said' where nothing that the law and all that it calls make is longer than what came in: it says more and counts as full. Else prove '..UptoSaid'. A law counts once. -/
mutual
def uptoBulk {H : Type} : DataW H → Nat
  | .lit (.string bytes) => bytes.length + 1
  | .lit _ => 1
  | .nil => 1
  | .ptr d => uptoBulk d + 1
  | .slice elems spare => uptoBulkAll elems + uptoBulkAll spare + 1
  | .agg parts => uptoBulkAll parts + 1
  | .iface _ d => uptoBulk d + 1
  | .map entries => uptoBulkEntries entries + 1
  | .held _ => 1
def uptoBulkAll {H : Type} : List (DataW H) → Nat
  | [] => 0
  | d :: r => uptoBulk d + uptoBulkAll r
def uptoBulkEntries {H : Type} : List (Lit × DataW H) → Nat
  | [] => 0
  | x :: r => uptoBulkEntry x + uptoBulkEntries r
def uptoBulkEntry {H : Type} : Lit × DataW H → Nat
  | (.string bytes, d) => bytes.length + uptoBulk d + 1
  | (_, d) => uptoBulk d + 1
 end
def uptoSmall : (H : Type) → List (DataW H) → Bool := fun _ ds => decide (uptoBulkAll ds ≤ 1048576)
def OpenSpec.upto (s : _root_.Go.ChangeSpec) : _root_.Go.OpenSpec := { _root_.Go.OpenSpec.ofChange s with cond := some uptoSmall }

/-- 'laws.FnLayers', WHERE WHAT IT READS IS OF BULK AT MOST 1048576: true; the input reads as it did. -/
def fnLayersUptoRow : OpenClaim := { program := "ytnfoflijapbkdaa", sum := "8a7eccead6169c42010610467dd193d4e1953d797ab0e5f32c6776f6ed35bfba", func := "loop.example/g00549/laws.FnLayers", spec := "fnLayers", unfollowed := true, recurses := true, apart := false, narrowed := true }
def FnLayersUptoSaid : Prop := fnLayersUptoRow.holds Try.pinned (OpenSpec.upto fnLayersSpec)

/-- 'laws.FnBodies', WHERE WHAT IT READS IS OF BULK AT MOST 1048576: true; the input reads as it did. -/
def fnBodiesUptoRow : OpenClaim := { program := "ytnfoflijapbkdaa", sum := "8a7eccead6169c42010610467dd193d4e1953d797ab0e5f32c6776f6ed35bfba", func := "loop.example/g00549/laws.FnBodies", spec := "fnBodies", unfollowed := true, recurses := true, apart := false, narrowed := true }
def FnBodiesUptoSaid : Prop := fnBodiesUptoRow.holds Try.pinned (OpenSpec.upto fnBodiesSpec)

/-- 'laws.FnExactPadFor', WHERE WHAT IT READS IS OF BULK AT MOST 1048576: true; the input reads as it did. -/
def fnExactPadForUptoRow : OpenClaim := { program := "ytnfoflijapbkdaa", sum := "8a7eccead6169c42010610467dd193d4e1953d797ab0e5f32c6776f6ed35bfba", func := "loop.example/g00549/laws.FnExactPadFor", spec := "fnExactPadFor", unfollowed := true, recurses := true, apart := false, narrowed := true }
def FnExactPadForUptoSaid : Prop := fnExactPadForUptoRow.holds Try.pinned (OpenSpec.upto fnExactPadForSpec)

/-- 'laws.FnExactXorTexts', WHERE WHAT IT READS IS OF BULK AT MOST 1048576: true; the input reads as it did. -/
def fnExactXorTextsUptoRow : OpenClaim := { program := "ytnfoflijapbkdaa", sum := "8a7eccead6169c42010610467dd193d4e1953d797ab0e5f32c6776f6ed35bfba", func := "loop.example/g00549/laws.FnExactXorTexts", spec := "fnExactXorTexts", apart := false, narrowed := true }
def FnExactXorTextsUptoSaid : Prop := fnExactXorTextsUptoRow.holds Try.pinned (OpenSpec.upto fnExactXorTextsSpec)

/-- 'laws.FnExactBuildOnion', WHERE WHAT IT READS IS OF BULK AT MOST 1048576: true; the input reads as it did. -/
def fnExactBuildOnionUptoRow : OpenClaim := { program := "ytnfoflijapbkdaa", sum := "8a7eccead6169c42010610467dd193d4e1953d797ab0e5f32c6776f6ed35bfba", func := "loop.example/g00549/laws.FnExactBuildOnion", spec := "fnExactBuildOnion", unfollowed := true, recurses := true, apart := false, narrowed := true }
def FnExactBuildOnionUptoSaid : Prop := fnExactBuildOnionUptoRow.holds Try.pinned (OpenSpec.upto fnExactBuildOnionSpec)

/-- 'laws.FnExactPeelOnion', WHERE WHAT IT READS IS OF BULK AT MOST 1048576: true; the input reads as it did. -/
def fnExactPeelOnionUptoRow : OpenClaim := { program := "ytnfoflijapbkdaa", sum := "8a7eccead6169c42010610467dd193d4e1953d797ab0e5f32c6776f6ed35bfba", func := "loop.example/g00549/laws.FnExactPeelOnion", spec := "fnExactPeelOnion", unfollowed := true, recurses := true, apart := false, narrowed := true }
def FnExactPeelOnionUptoSaid : Prop := fnExactPeelOnionUptoRow.holds Try.pinned (OpenSpec.upto fnExactPeelOnionSpec)

/-- 'laws.FnExactWalkOnion', WHERE WHAT IT READS IS OF BULK AT MOST 1048576: true; the input reads as it did. -/
def fnExactWalkOnionUptoRow : OpenClaim := { program := "ytnfoflijapbkdaa", sum := "8a7eccead6169c42010610467dd193d4e1953d797ab0e5f32c6776f6ed35bfba", func := "loop.example/g00549/laws.FnExactWalkOnion", spec := "fnExactWalkOnion", unfollowed := true, recurses := true, apart := false, narrowed := true }
def FnExactWalkOnionUptoSaid : Prop := fnExactWalkOnionUptoRow.holds Try.pinned (OpenSpec.upto fnExactWalkOnionSpec)

/-- 'laws.FnExactPadBody', WHERE WHAT IT READS IS OF BULK AT MOST 1048576: true; the input reads as it did. -/
def fnExactPadBodyUptoRow : OpenClaim := { program := "ytnfoflijapbkdaa", sum := "8a7eccead6169c42010610467dd193d4e1953d797ab0e5f32c6776f6ed35bfba", func := "loop.example/g00549/laws.FnExactPadBody", spec := "fnExactPadBody", apart := false, narrowed := true }
def FnExactPadBodyUptoSaid : Prop := fnExactPadBodyUptoRow.holds Try.pinned (OpenSpec.upto fnExactPadBodySpec)

/-- 'laws.FnExactUnpadBody', WHERE WHAT IT READS IS OF BULK AT MOST 1048576: true; the input reads as it did. -/
def fnExactUnpadBodyUptoRow : OpenClaim := { program := "ytnfoflijapbkdaa", sum := "8a7eccead6169c42010610467dd193d4e1953d797ab0e5f32c6776f6ed35bfba", func := "loop.example/g00549/laws.FnExactUnpadBody", spec := "fnExactUnpadBody", apart := false, narrowed := true }
def FnExactUnpadBodyUptoSaid : Prop := fnExactUnpadBodyUptoRow.holds Try.pinned (OpenSpec.upto fnExactUnpadBodySpec)

/-- 'laws.FnExactCheckOf', WHERE WHAT IT READS IS OF BULK AT MOST 1048576: true; the input reads as it did. -/
def fnExactCheckOfUptoRow : OpenClaim := { program := "ytnfoflijapbkdaa", sum := "8a7eccead6169c42010610467dd193d4e1953d797ab0e5f32c6776f6ed35bfba", func := "loop.example/g00549/laws.FnExactCheckOf", spec := "fnExactCheckOf", apart := false, narrowed := true }
def FnExactCheckOfUptoSaid : Prop := fnExactCheckOfUptoRow.holds Try.pinned (OpenSpec.upto fnExactCheckOfSpec)

end Rows
end Go.Proofs.Ytnfoflijapbkdaa

/-
  No cell of these rows narrows 'for every input' (looked for: loops, veiled, ifaces, maps, wideKeys, modest, calm, conditions, laid).
  DERIVED. THE GIVEN ROWS OF THIS SEAT. 11 by the template 'for every input the law returns true; each argument reads behind the call as it read before'; 0 by the template 'total and deterministic' (their statements: YtlmamlhpjakcoaaTotals.lean).
  GIVEN WITH THE SEED: the statements are not yours to turn. If you find one false, say at which input.
  Laid BY PROGRAM, IN A SANDBOX (cutbox-rows.mjs): the forced cells as the released guide's own fill.sh prints them over the translation 770307dcd06b776a… (all of the seat's roots in one cut). By AI agents, Wed Nov 11 2026. No macro, syntax, notation, axiom, sorry.
-/
import Derived.Test.YtlmamlhpjakcoaaChecked
import GoSem.Claim
import GoSem.ClaimJoined
import GoSem.ClaimMapViews
import Derived.JoinedTies
import Derived.KernelRfl
namespace Go.Proofs.Ytlmamlhpjakcoaa
/- THE CELL 'sum', in the pinned program and in every row, IS THE sha256 OF THE DUMP (.gsa) THAT YtlmamlhpjakcoaaProg.lean LOADS. Nothing in Lean hashes anything: it is a label: what it is worth is what the hold of that sum in a sandbox is worth. -/
noncomputable def Try.pinned : Pinned := { name := "ytlmamlhpjakcoaa", sum := "770307dcd06b776acdc668515da3e30e3e165e8788c55a60d7ceccaed5787f1f", checked := Try.checked }
namespace Rows
def none {H : Type} : Left H := { results := [], args := [] }

/-- 'laws.FnMixed': WHATEVER THE INPUT: true; the input reads as it did. -/
def fnMixedSpec : ChangeSpec := { name := "fnMixed", fn := fun _ => fun
  | [d1, d2] => { results := [.lit (.bool true)], args := [d1, d2] }
  | _ => none }
def fnMixedRow : OpenClaim := { program := "ytlmamlhpjakcoaa", sum := "770307dcd06b776acdc668515da3e30e3e165e8788c55a60d7ceccaed5787f1f", func := "loop.example/g00549/laws.FnMixed", spec := "fnMixed", unfollowed := true, recurses := true, apart := false }
def FnMixedSaid : Prop := fnMixedRow.holds Try.pinned (OpenSpec.ofChange fnMixedSpec)

/-- ITS FALSE NEIGHBOUR: 'it returns false'. Refute it at one input. -/
def fnMixedWrong : ChangeSpec := { name := "fnMixed", fn := fun _ => fun
  | [d1, d2] => { results := [.lit (.bool false)], args := [d1, d2] }
  | _ => none }
def FnMixedWrongFalsely : Prop := fnMixedRow.holds Try.pinned (OpenSpec.ofChange fnMixedWrong)

/-- 'laws.FnOrders': WHATEVER THE INPUT: true; the input reads as it did. -/
def fnOrdersSpec : ChangeSpec := { name := "fnOrders", fn := fun _ => fun
  | [d1, d2] => { results := [.lit (.bool true)], args := [d1, d2] }
  | _ => none }
def fnOrdersRow : OpenClaim := { program := "ytlmamlhpjakcoaa", sum := "770307dcd06b776acdc668515da3e30e3e165e8788c55a60d7ceccaed5787f1f", func := "loop.example/g00549/laws.FnOrders", spec := "fnOrders", apart := false }
def FnOrdersSaid : Prop := fnOrdersRow.holds Try.pinned (OpenSpec.ofChange fnOrdersSpec)

/-- ITS FALSE NEIGHBOUR: 'it returns false'. Refute it at one input. -/
def fnOrdersWrong : ChangeSpec := { name := "fnOrders", fn := fun _ => fun
  | [d1, d2] => { results := [.lit (.bool false)], args := [d1, d2] }
  | _ => none }
def FnOrdersWrongFalsely : Prop := fnOrdersRow.holds Try.pinned (OpenSpec.ofChange fnOrdersWrong)

/-- 'laws.FnExactRoundOf': WHATEVER THE INPUT: true; the input reads as it did. -/
def fnExactRoundOfSpec : ChangeSpec := { name := "fnExactRoundOf", fn := fun _ => fun
  | [d1, d2] => { results := [.lit (.bool true)], args := [d1, d2] }
  | _ => none }
def fnExactRoundOfRow : OpenClaim := { program := "ytlmamlhpjakcoaa", sum := "770307dcd06b776acdc668515da3e30e3e165e8788c55a60d7ceccaed5787f1f", func := "loop.example/g00549/laws.FnExactRoundOf", spec := "fnExactRoundOf", apart := false }
def FnExactRoundOfSaid : Prop := fnExactRoundOfRow.holds Try.pinned (OpenSpec.ofChange fnExactRoundOfSpec)

/-- ITS FALSE NEIGHBOUR: 'it returns false'. Refute it at one input. -/
def fnExactRoundOfWrong : ChangeSpec := { name := "fnExactRoundOf", fn := fun _ => fun
  | [d1, d2] => { results := [.lit (.bool false)], args := [d1, d2] }
  | _ => none }
def FnExactRoundOfWrongFalsely : Prop := fnExactRoundOfRow.holds Try.pinned (OpenSpec.ofChange fnExactRoundOfWrong)

/-- 'laws.FnExactMixBlock': WHATEVER THE INPUT: true; the input reads as it did. -/
def fnExactMixBlockSpec : ChangeSpec := { name := "fnExactMixBlock", fn := fun _ => fun
  | [d1, d2] => { results := [.lit (.bool true)], args := [d1, d2] }
  | _ => none }
def fnExactMixBlockRow : OpenClaim := { program := "ytlmamlhpjakcoaa", sum := "770307dcd06b776acdc668515da3e30e3e165e8788c55a60d7ceccaed5787f1f", func := "loop.example/g00549/laws.FnExactMixBlock", spec := "fnExactMixBlock", unfollowed := true, recurses := true, apart := false }
def FnExactMixBlockSaid : Prop := fnExactMixBlockRow.holds Try.pinned (OpenSpec.ofChange fnExactMixBlockSpec)

/-- ITS FALSE NEIGHBOUR: 'it returns false'. Refute it at one input. -/
def fnExactMixBlockWrong : ChangeSpec := { name := "fnExactMixBlock", fn := fun _ => fun
  | [d1, d2] => { results := [.lit (.bool false)], args := [d1, d2] }
  | _ => none }
def FnExactMixBlockWrongFalsely : Prop := fnExactMixBlockRow.holds Try.pinned (OpenSpec.ofChange fnExactMixBlockWrong)

/-- 'laws.FnExactUnmixBlock': WHATEVER THE INPUT: true; the input reads as it did. -/
def fnExactUnmixBlockSpec : ChangeSpec := { name := "fnExactUnmixBlock", fn := fun _ => fun
  | [d1, d2] => { results := [.lit (.bool true)], args := [d1, d2] }
  | _ => none }
def fnExactUnmixBlockRow : OpenClaim := { program := "ytlmamlhpjakcoaa", sum := "770307dcd06b776acdc668515da3e30e3e165e8788c55a60d7ceccaed5787f1f", func := "loop.example/g00549/laws.FnExactUnmixBlock", spec := "fnExactUnmixBlock", unfollowed := true, recurses := true, apart := false }
def FnExactUnmixBlockSaid : Prop := fnExactUnmixBlockRow.holds Try.pinned (OpenSpec.ofChange fnExactUnmixBlockSpec)

/-- ITS FALSE NEIGHBOUR: 'it returns false'. Refute it at one input. -/
def fnExactUnmixBlockWrong : ChangeSpec := { name := "fnExactUnmixBlock", fn := fun _ => fun
  | [d1, d2] => { results := [.lit (.bool false)], args := [d1, d2] }
  | _ => none }
def FnExactUnmixBlockWrongFalsely : Prop := fnExactUnmixBlockRow.holds Try.pinned (OpenSpec.ofChange fnExactUnmixBlockWrong)

/-- 'laws.FnExactMixText': WHATEVER THE INPUT: true; the input reads as it did. -/
def fnExactMixTextSpec : ChangeSpec := { name := "fnExactMixText", fn := fun _ => fun
  | [d1, d2, d3] => { results := [.lit (.bool true)], args := [d1, d2, d3] }
  | _ => none }
def fnExactMixTextRow : OpenClaim := { program := "ytlmamlhpjakcoaa", sum := "770307dcd06b776acdc668515da3e30e3e165e8788c55a60d7ceccaed5787f1f", func := "loop.example/g00549/laws.FnExactMixText", spec := "fnExactMixText", unfollowed := true, recurses := true, apart := false }
def FnExactMixTextSaid : Prop := fnExactMixTextRow.holds Try.pinned (OpenSpec.ofChange fnExactMixTextSpec)

/-- ITS FALSE NEIGHBOUR: 'it returns false'. Refute it at one input. -/
def fnExactMixTextWrong : ChangeSpec := { name := "fnExactMixText", fn := fun _ => fun
  | [d1, d2, d3] => { results := [.lit (.bool false)], args := [d1, d2, d3] }
  | _ => none }
def FnExactMixTextWrongFalsely : Prop := fnExactMixTextRow.holds Try.pinned (OpenSpec.ofChange fnExactMixTextWrong)

/-- 'laws.FnExactUnmixText': WHATEVER THE INPUT: true; the input reads as it did. -/
def fnExactUnmixTextSpec : ChangeSpec := { name := "fnExactUnmixText", fn := fun _ => fun
  | [d1, d2, d3] => { results := [.lit (.bool true)], args := [d1, d2, d3] }
  | _ => none }
def fnExactUnmixTextRow : OpenClaim := { program := "ytlmamlhpjakcoaa", sum := "770307dcd06b776acdc668515da3e30e3e165e8788c55a60d7ceccaed5787f1f", func := "loop.example/g00549/laws.FnExactUnmixText", spec := "fnExactUnmixText", unfollowed := true, recurses := true, apart := false }
def FnExactUnmixTextSaid : Prop := fnExactUnmixTextRow.holds Try.pinned (OpenSpec.ofChange fnExactUnmixTextSpec)

/-- ITS FALSE NEIGHBOUR: 'it returns false'. Refute it at one input. -/
def fnExactUnmixTextWrong : ChangeSpec := { name := "fnExactUnmixText", fn := fun _ => fun
  | [d1, d2, d3] => { results := [.lit (.bool false)], args := [d1, d2, d3] }
  | _ => none }
def FnExactUnmixTextWrongFalsely : Prop := fnExactUnmixTextRow.holds Try.pinned (OpenSpec.ofChange fnExactUnmixTextWrong)

/-- 'laws.FnExactOrderAt': WHATEVER THE INPUT: true; the input reads as it did. -/
def fnExactOrderAtSpec : ChangeSpec := { name := "fnExactOrderAt", fn := fun _ => fun
  | [d1, d2] => { results := [.lit (.bool true)], args := [d1, d2] }
  | _ => none }
def fnExactOrderAtRow : OpenClaim := { program := "ytlmamlhpjakcoaa", sum := "770307dcd06b776acdc668515da3e30e3e165e8788c55a60d7ceccaed5787f1f", func := "loop.example/g00549/laws.FnExactOrderAt", spec := "fnExactOrderAt", apart := false }
def FnExactOrderAtSaid : Prop := fnExactOrderAtRow.holds Try.pinned (OpenSpec.ofChange fnExactOrderAtSpec)

/-- ITS FALSE NEIGHBOUR: 'it returns false'. Refute it at one input. -/
def fnExactOrderAtWrong : ChangeSpec := { name := "fnExactOrderAt", fn := fun _ => fun
  | [d1, d2] => { results := [.lit (.bool false)], args := [d1, d2] }
  | _ => none }
def FnExactOrderAtWrongFalsely : Prop := fnExactOrderAtRow.holds Try.pinned (OpenSpec.ofChange fnExactOrderAtWrong)

/-- 'laws.FnExactNumberOf': WHATEVER THE INPUT: true; the input reads as it did. -/
def fnExactNumberOfSpec : ChangeSpec := { name := "fnExactNumberOf", fn := fun _ => fun
  | [d] => { results := [.lit (.bool true)], args := [d] }
  | _ => none }
def fnExactNumberOfRow : OpenClaim := { program := "ytlmamlhpjakcoaa", sum := "770307dcd06b776acdc668515da3e30e3e165e8788c55a60d7ceccaed5787f1f", func := "loop.example/g00549/laws.FnExactNumberOf", spec := "fnExactNumberOf", apart := false }
def FnExactNumberOfSaid : Prop := fnExactNumberOfRow.holds Try.pinned (OpenSpec.ofChange fnExactNumberOfSpec)

/-- ITS FALSE NEIGHBOUR: 'it returns false'. Refute it at one input. -/
def fnExactNumberOfWrong : ChangeSpec := { name := "fnExactNumberOf", fn := fun _ => fun
  | [d] => { results := [.lit (.bool false)], args := [d] }
  | _ => none }
def FnExactNumberOfWrongFalsely : Prop := fnExactNumberOfRow.holds Try.pinned (OpenSpec.ofChange fnExactNumberOfWrong)

/-- 'laws.FnExactShuffleBy': WHATEVER THE INPUT: true; the input reads as it did. -/
def fnExactShuffleBySpec : ChangeSpec := { name := "fnExactShuffleBy", fn := fun _ => fun
  | [d1, d2] => { results := [.lit (.bool true)], args := [d1, d2] }
  | _ => none }
def fnExactShuffleByRow : OpenClaim := { program := "ytlmamlhpjakcoaa", sum := "770307dcd06b776acdc668515da3e30e3e165e8788c55a60d7ceccaed5787f1f", func := "loop.example/g00549/laws.FnExactShuffleBy", spec := "fnExactShuffleBy", apart := false }
def FnExactShuffleBySaid : Prop := fnExactShuffleByRow.holds Try.pinned (OpenSpec.ofChange fnExactShuffleBySpec)

/-- ITS FALSE NEIGHBOUR: 'it returns false'. Refute it at one input. -/
def fnExactShuffleByWrong : ChangeSpec := { name := "fnExactShuffleBy", fn := fun _ => fun
  | [d1, d2] => { results := [.lit (.bool false)], args := [d1, d2] }
  | _ => none }
def FnExactShuffleByWrongFalsely : Prop := fnExactShuffleByRow.holds Try.pinned (OpenSpec.ofChange fnExactShuffleByWrong)

/-- 'laws.FnExactOrdersOf': WHATEVER THE INPUT: true; the input reads as it did. -/
def fnExactOrdersOfSpec : ChangeSpec := { name := "fnExactOrdersOf", fn := fun _ => fun
  | [d] => { results := [.lit (.bool true)], args := [d] }
  | _ => none }
def fnExactOrdersOfRow : OpenClaim := { program := "ytlmamlhpjakcoaa", sum := "770307dcd06b776acdc668515da3e30e3e165e8788c55a60d7ceccaed5787f1f", func := "loop.example/g00549/laws.FnExactOrdersOf", spec := "fnExactOrdersOf", apart := false }
def FnExactOrdersOfSaid : Prop := fnExactOrdersOfRow.holds Try.pinned (OpenSpec.ofChange fnExactOrdersOfSpec)

/-- ITS FALSE NEIGHBOUR: 'it returns false'. Refute it at one input. -/
def fnExactOrdersOfWrong : ChangeSpec := { name := "fnExactOrdersOf", fn := fun _ => fun
  | [d] => { results := [.lit (.bool false)], args := [d] }
  | _ => none }
def FnExactOrdersOfWrongFalsely : Prop := fnExactOrdersOfRow.holds Try.pinned (OpenSpec.ofChange fnExactOrdersOfWrong)

/- THE SECOND FORM. 'bulk': how many values and letters a reading holds, each counted each time it is reached (what is shared counts as often as it is met; a slice's spare places count too). A statement '..UptoSaid' is the law's where the arguments, and the package variables that the reading takes, are together of bulk at most 1048576: NARROWER than '..Said'. Prove '..Said' where nothing that the law and all that it calls make is longer than what came in: it says more and counts as full. Else prove '..UptoSaid'. A law counts once. -/
mutual
def uptoBulk {H : Type} : DataW H → Nat
  | .lit (.string bytes) => bytes.length + 1
  | .lit _ => 1
  | .nil => 1
  | .ptr d => uptoBulk d + 1
  | .slice elems spare => uptoBulkAll elems + uptoBulkAll spare + 1
  | .agg parts => uptoBulkAll parts + 1
  | .iface _ d => uptoBulk d + 1
  | .map entries => uptoBulkEntries entries + 1
  | .held _ => 1
def uptoBulkAll {H : Type} : List (DataW H) → Nat
  | [] => 0
  | d :: r => uptoBulk d + uptoBulkAll r
def uptoBulkEntries {H : Type} : List (Lit × DataW H) → Nat
  | [] => 0
  | x :: r => uptoBulkEntry x + uptoBulkEntries r
def uptoBulkEntry {H : Type} : Lit × DataW H → Nat
  | (.string bytes, d) => bytes.length + uptoBulk d + 1
  | (_, d) => uptoBulk d + 1
 end
def uptoSmall : (H : Type) → List (DataW H) → Bool := fun _ ds => decide (uptoBulkAll ds ≤ 1048576)
def OpenSpec.upto (s : _root_.Go.ChangeSpec) : _root_.Go.OpenSpec := { _root_.Go.OpenSpec.ofChange s with cond := some uptoSmall }

/-- 'laws.FnMixed', WHERE WHAT IT READS IS OF BULK AT MOST 1048576: true; the input reads as it did. -/
def fnMixedUptoRow : OpenClaim := { program := "ytlmamlhpjakcoaa", sum := "770307dcd06b776acdc668515da3e30e3e165e8788c55a60d7ceccaed5787f1f", func := "loop.example/g00549/laws.FnMixed", spec := "fnMixed", unfollowed := true, recurses := true, apart := false, narrowed := true }
def FnMixedUptoSaid : Prop := fnMixedUptoRow.holds Try.pinned (OpenSpec.upto fnMixedSpec)

/-- 'laws.FnOrders', WHERE WHAT IT READS IS OF BULK AT MOST 1048576: true; the input reads as it did. -/
def fnOrdersUptoRow : OpenClaim := { program := "ytlmamlhpjakcoaa", sum := "770307dcd06b776acdc668515da3e30e3e165e8788c55a60d7ceccaed5787f1f", func := "loop.example/g00549/laws.FnOrders", spec := "fnOrders", apart := false, narrowed := true }
def FnOrdersUptoSaid : Prop := fnOrdersUptoRow.holds Try.pinned (OpenSpec.upto fnOrdersSpec)

/-- 'laws.FnExactRoundOf', WHERE WHAT IT READS IS OF BULK AT MOST 1048576: true; the input reads as it did. -/
def fnExactRoundOfUptoRow : OpenClaim := { program := "ytlmamlhpjakcoaa", sum := "770307dcd06b776acdc668515da3e30e3e165e8788c55a60d7ceccaed5787f1f", func := "loop.example/g00549/laws.FnExactRoundOf", spec := "fnExactRoundOf", apart := false, narrowed := true }
def FnExactRoundOfUptoSaid : Prop := fnExactRoundOfUptoRow.holds Try.pinned (OpenSpec.upto fnExactRoundOfSpec)

/-- 'laws.FnExactMixBlock', WHERE WHAT IT READS IS OF BULK AT MOST 1048576: true; the input reads as it did. -/
def fnExactMixBlockUptoRow : OpenClaim := { program := "ytlmamlhpjakcoaa", sum := "770307dcd06b776acdc668515da3e30e3e165e8788c55a60d7ceccaed5787f1f", func := "loop.example/g00549/laws.FnExactMixBlock", spec := "fnExactMixBlock", unfollowed := true, recurses := true, apart := false, narrowed := true }
def FnExactMixBlockUptoSaid : Prop := fnExactMixBlockUptoRow.holds Try.pinned (OpenSpec.upto fnExactMixBlockSpec)

/-- 'laws.FnExactUnmixBlock', WHERE WHAT IT READS IS OF BULK AT MOST 1048576: true; the input reads as it did. -/
def fnExactUnmixBlockUptoRow : OpenClaim := { program := "ytlmamlhpjakcoaa", sum := "770307dcd06b776acdc668515da3e30e3e165e8788c55a60d7ceccaed5787f1f", func := "loop.example/g00549/laws.FnExactUnmixBlock", spec := "fnExactUnmixBlock", unfollowed := true, recurses := true, apart := false, narrowed := true }
def FnExactUnmixBlockUptoSaid : Prop := fnExactUnmixBlockUptoRow.holds Try.pinned (OpenSpec.upto fnExactUnmixBlockSpec)

/-- 'laws.FnExactMixText', WHERE WHAT IT READS IS OF BULK AT MOST 1048576: true; the input reads as it did. -/
def fnExactMixTextUptoRow : OpenClaim := { program := "ytlmamlhpjakcoaa", sum := "770307dcd06b776acdc668515da3e30e3e165e8788c55a60d7ceccaed5787f1f", func := "loop.example/g00549/laws.FnExactMixText", spec := "fnExactMixText", unfollowed := true, recurses := true, apart := false, narrowed := true }
def FnExactMixTextUptoSaid : Prop := fnExactMixTextUptoRow.holds Try.pinned (OpenSpec.upto fnExactMixTextSpec)

/-- 'laws.FnExactUnmixText', WHERE WHAT IT READS IS OF BULK AT MOST 1048576: true; the input reads as it did. -/
def fnExactUnmixTextUptoRow : OpenClaim := { program := "ytlmamlhpjakcoaa", sum := "770307dcd06b776acdc668515da3e30e3e165e8788c55a60d7ceccaed5787f1f", func := "loop.example/g00549/laws.FnExactUnmixText", spec := "fnExactUnmixText", unfollowed := true, recurses := true, apart := false, narrowed := true }
def FnExactUnmixTextUptoSaid : Prop := fnExactUnmixTextUptoRow.holds Try.pinned (OpenSpec.upto fnExactUnmixTextSpec)

/-- 'laws.FnExactOrderAt', WHERE WHAT IT READS IS OF BULK AT MOST 1048576: true; the input reads as it did. -/
def fnExactOrderAtUptoRow : OpenClaim := { program := "ytlmamlhpjakcoaa", sum := "770307dcd06b776acdc668515da3e30e3e165e8788c55a60d7ceccaed5787f1f", func := "loop.example/g00549/laws.FnExactOrderAt", spec := "fnExactOrderAt", apart := false, narrowed := true }
def FnExactOrderAtUptoSaid : Prop := fnExactOrderAtUptoRow.holds Try.pinned (OpenSpec.upto fnExactOrderAtSpec)

/-- 'laws.FnExactNumberOf', WHERE WHAT IT READS IS OF BULK AT MOST 1048576: true; the input reads as it did. -/
def fnExactNumberOfUptoRow : OpenClaim := { program := "ytlmamlhpjakcoaa", sum := "770307dcd06b776acdc668515da3e30e3e165e8788c55a60d7ceccaed5787f1f", func := "loop.example/g00549/laws.FnExactNumberOf", spec := "fnExactNumberOf", apart := false, narrowed := true }
def FnExactNumberOfUptoSaid : Prop := fnExactNumberOfUptoRow.holds Try.pinned (OpenSpec.upto fnExactNumberOfSpec)

/-- 'laws.FnExactShuffleBy', WHERE WHAT IT READS IS OF BULK AT MOST 1048576: true; the input reads as it did. -/
def fnExactShuffleByUptoRow : OpenClaim := { program := "ytlmamlhpjakcoaa", sum := "770307dcd06b776acdc668515da3e30e3e165e8788c55a60d7ceccaed5787f1f", func := "loop.example/g00549/laws.FnExactShuffleBy", spec := "fnExactShuffleBy", apart := false, narrowed := true }
def FnExactShuffleByUptoSaid : Prop := fnExactShuffleByUptoRow.holds Try.pinned (OpenSpec.upto fnExactShuffleBySpec)

/-- 'laws.FnExactOrdersOf', WHERE WHAT IT READS IS OF BULK AT MOST 1048576: true; the input reads as it did. -/
def fnExactOrdersOfUptoRow : OpenClaim := { program := "ytlmamlhpjakcoaa", sum := "770307dcd06b776acdc668515da3e30e3e165e8788c55a60d7ceccaed5787f1f", func := "loop.example/g00549/laws.FnExactOrdersOf", spec := "fnExactOrdersOf", apart := false, narrowed := true }
def FnExactOrdersOfUptoSaid : Prop := fnExactOrdersOfUptoRow.holds Try.pinned (OpenSpec.upto fnExactOrdersOfSpec)

end Rows
end Go.Proofs.Ytlmamlhpjakcoaa

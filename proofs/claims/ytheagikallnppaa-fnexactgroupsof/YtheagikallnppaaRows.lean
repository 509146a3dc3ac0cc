/-
  No cell of these rows narrows 'for every input' (looked for: loops, veiled, ifaces, maps, wideKeys, modest, calm, conditions, laid).
  DERIVED. THE GIVEN ROWS OF THIS SEAT. 10 by the template 'for every input the law returns true; each argument reads behind the call as it read before'; 0 by the template 'total and deterministic' (their statements: YtheagikallnppaaTotals.lean).
  GIVEN WITH THE SEED: the statements are not yours to turn. If you find one false, say at which input.
  Laid BY PROGRAM, IN A SANDBOX (cutbox-rows.mjs): the forced cells as the released guide's own fill.sh prints them over the translation e5e7e958a6f82b36… (all of the seat's roots in one cut). By AI agents, Wed Nov 11 2026. No macro, syntax, notation, axiom, sorry.
-/
import Derived.Test.YtheagikallnppaaChecked
import GoSem.Claim
import GoSem.ClaimJoined
import GoSem.ClaimMapViews
import Derived.JoinedTies
import Derived.KernelRfl
namespace Go.Proofs.Ytheagikallnppaa
/- THE CELL 'sum', in the pinned program and in every row, IS THE sha256 OF THE DUMP (.gsa) THAT YtheagikallnppaaProg.lean LOADS. Nothing in Lean hashes anything: it is a label: what it is worth is what the hold of that sum in a sandbox is worth. -/
noncomputable def Try.pinned : Pinned := { name := "ytheagikallnppaa", sum := "e5e7e958a6f82b3647845058ac39a39229e89bc2e086a9fbdf1dda5216994312", checked := Try.checked }
namespace Rows
def none {H : Type} : Left H := { results := [], args := [] }

/-- 'laws.FnTable': WHATEVER THE INPUT: true; the input reads as it did. -/
def fnTableSpec : ChangeSpec := { name := "fnTable", fn := fun _ => fun
  | [d1, d2] => { results := [.lit (.bool true)], args := [d1, d2] }
  | _ => none }
def fnTableRow : OpenClaim := { program := "ytheagikallnppaa", sum := "e5e7e958a6f82b3647845058ac39a39229e89bc2e086a9fbdf1dda5216994312", func := "loop.example/g00549/laws.FnTable", spec := "fnTable", unfollowed := true, recurses := true, apart := false }
def FnTableSaid : Prop := fnTableRow.holds Try.pinned (OpenSpec.ofChange fnTableSpec)

/-- ITS FALSE NEIGHBOUR: 'it returns false'. Refute it at one input. -/
def fnTableWrong : ChangeSpec := { name := "fnTable", fn := fun _ => fun
  | [d1, d2] => { results := [.lit (.bool false)], args := [d1, d2] }
  | _ => none }
def FnTableWrongFalsely : Prop := fnTableRow.holds Try.pinned (OpenSpec.ofChange fnTableWrong)

/-- 'laws.FnGroups': WHATEVER THE INPUT: true; the input reads as it did. -/
def fnGroupsSpec : ChangeSpec := { name := "fnGroups", fn := fun _ => fun
  | [d1, d2] => { results := [.lit (.bool true)], args := [d1, d2] }
  | _ => none }
def fnGroupsRow : OpenClaim := { program := "ytheagikallnppaa", sum := "e5e7e958a6f82b3647845058ac39a39229e89bc2e086a9fbdf1dda5216994312", func := "loop.example/g00549/laws.FnGroups", spec := "fnGroups", unfollowed := true, recurses := true, apart := false }
def FnGroupsSaid : Prop := fnGroupsRow.holds Try.pinned (OpenSpec.ofChange fnGroupsSpec)

/-- ITS FALSE NEIGHBOUR: 'it returns false'. Refute it at one input. -/
def fnGroupsWrong : ChangeSpec := { name := "fnGroups", fn := fun _ => fun
  | [d1, d2] => { results := [.lit (.bool false)], args := [d1, d2] }
  | _ => none }
def FnGroupsWrongFalsely : Prop := fnGroupsRow.holds Try.pinned (OpenSpec.ofChange fnGroupsWrong)

/-- 'laws.FnExactGoodTable': WHATEVER THE INPUT: true; the input reads as it did. -/
def fnExactGoodTableSpec : ChangeSpec := { name := "fnExactGoodTable", fn := fun _ => fun
  | [d] => { results := [.lit (.bool true)], args := [d] }
  | _ => none }
def fnExactGoodTableRow : OpenClaim := { program := "ytheagikallnppaa", sum := "e5e7e958a6f82b3647845058ac39a39229e89bc2e086a9fbdf1dda5216994312", func := "loop.example/g00549/laws.FnExactGoodTable", spec := "fnExactGoodTable", unfollowed := true, recurses := true, apart := false }
def FnExactGoodTableSaid : Prop := fnExactGoodTableRow.holds Try.pinned (OpenSpec.ofChange fnExactGoodTableSpec)

/-- ITS FALSE NEIGHBOUR: 'it returns false'. Refute it at one input. -/
def fnExactGoodTableWrong : ChangeSpec := { name := "fnExactGoodTable", fn := fun _ => fun
  | [d] => { results := [.lit (.bool false)], args := [d] }
  | _ => none }
def FnExactGoodTableWrongFalsely : Prop := fnExactGoodTableRow.holds Try.pinned (OpenSpec.ofChange fnExactGoodTableWrong)

/-- 'laws.FnExactSayAt': WHATEVER THE INPUT: true; the input reads as it did. -/
def fnExactSayAtSpec : ChangeSpec := { name := "fnExactSayAt", fn := fun _ => fun
  | [d1, d2, d3, d4] => { results := [.lit (.bool true)], args := [d1, d2, d3, d4] }
  | _ => none }
def fnExactSayAtRow : OpenClaim := { program := "ytheagikallnppaa", sum := "e5e7e958a6f82b3647845058ac39a39229e89bc2e086a9fbdf1dda5216994312", func := "loop.example/g00549/laws.FnExactSayAt", spec := "fnExactSayAt", unfollowed := true, recurses := true, apart := false }
def FnExactSayAtSaid : Prop := fnExactSayAtRow.holds Try.pinned (OpenSpec.ofChange fnExactSayAtSpec)

/-- ITS FALSE NEIGHBOUR: 'it returns false'. Refute it at one input. -/
def fnExactSayAtWrong : ChangeSpec := { name := "fnExactSayAt", fn := fun _ => fun
  | [d1, d2, d3, d4] => { results := [.lit (.bool false)], args := [d1, d2, d3, d4] }
  | _ => none }
def FnExactSayAtWrongFalsely : Prop := fnExactSayAtRow.holds Try.pinned (OpenSpec.ofChange fnExactSayAtWrong)

/-- 'laws.FnExactAllSay': WHATEVER THE INPUT: true; the input reads as it did. -/
def fnExactAllSaySpec : ChangeSpec := { name := "fnExactAllSay", fn := fun _ => fun
  | [d1, d2, d3] => { results := [.lit (.bool true)], args := [d1, d2, d3] }
  | _ => none }
def fnExactAllSayRow : OpenClaim := { program := "ytheagikallnppaa", sum := "e5e7e958a6f82b3647845058ac39a39229e89bc2e086a9fbdf1dda5216994312", func := "loop.example/g00549/laws.FnExactAllSay", spec := "fnExactAllSay", unfollowed := true, recurses := true, apart := false }
def FnExactAllSaySaid : Prop := fnExactAllSayRow.holds Try.pinned (OpenSpec.ofChange fnExactAllSaySpec)

/-- ITS FALSE NEIGHBOUR: 'it returns false'. Refute it at one input. -/
def fnExactAllSayWrong : ChangeSpec := { name := "fnExactAllSay", fn := fun _ => fun
  | [d1, d2, d3] => { results := [.lit (.bool false)], args := [d1, d2, d3] }
  | _ => none }
def FnExactAllSayWrongFalsely : Prop := fnExactAllSayRow.holds Try.pinned (OpenSpec.ofChange fnExactAllSayWrong)

/-- 'laws.FnExactSumOf': WHATEVER THE INPUT: true; the input reads as it did. -/
def fnExactSumOfSpec : ChangeSpec := { name := "fnExactSumOf", fn := fun _ => fun
  | [d] => { results := [.lit (.bool true)], args := [d] }
  | _ => none }
def fnExactSumOfRow : OpenClaim := { program := "ytheagikallnppaa", sum := "e5e7e958a6f82b3647845058ac39a39229e89bc2e086a9fbdf1dda5216994312", func := "loop.example/g00549/laws.FnExactSumOf", spec := "fnExactSumOf", unfollowed := true, recurses := true, apart := false }
def FnExactSumOfSaid : Prop := fnExactSumOfRow.holds Try.pinned (OpenSpec.ofChange fnExactSumOfSpec)

/-- ITS FALSE NEIGHBOUR: 'it returns false'. Refute it at one input. -/
def fnExactSumOfWrong : ChangeSpec := { name := "fnExactSumOf", fn := fun _ => fun
  | [d] => { results := [.lit (.bool false)], args := [d] }
  | _ => none }
def FnExactSumOfWrongFalsely : Prop := fnExactSumOfRow.holds Try.pinned (OpenSpec.ofChange fnExactSumOfWrong)

/-- 'laws.FnExactWayBetween': WHATEVER THE INPUT: true; the input reads as it did. -/
def fnExactWayBetweenSpec : ChangeSpec := { name := "fnExactWayBetween", fn := fun _ => fun
  | [d1, d2, d3] => { results := [.lit (.bool true)], args := [d1, d2, d3] }
  | _ => none }
def fnExactWayBetweenRow : OpenClaim := { program := "ytheagikallnppaa", sum := "e5e7e958a6f82b3647845058ac39a39229e89bc2e086a9fbdf1dda5216994312", func := "loop.example/g00549/laws.FnExactWayBetween", spec := "fnExactWayBetween", unfollowed := true, recurses := true, apart := false }
def FnExactWayBetweenSaid : Prop := fnExactWayBetweenRow.holds Try.pinned (OpenSpec.ofChange fnExactWayBetweenSpec)

/-- ITS FALSE NEIGHBOUR: 'it returns false'. Refute it at one input. -/
def fnExactWayBetweenWrong : ChangeSpec := { name := "fnExactWayBetween", fn := fun _ => fun
  | [d1, d2, d3] => { results := [.lit (.bool false)], args := [d1, d2, d3] }
  | _ => none }
def FnExactWayBetweenWrongFalsely : Prop := fnExactWayBetweenRow.holds Try.pinned (OpenSpec.ofChange fnExactWayBetweenWrong)

/-- 'laws.FnExactOtherCoins': WHATEVER THE INPUT: true; the input reads as it did. -/
def fnExactOtherCoinsSpec : ChangeSpec := { name := "fnExactOtherCoins", fn := fun _ => fun
  | [d1, d2, d3, d4] => { results := [.lit (.bool true)], args := [d1, d2, d3, d4] }
  | _ => none }
def fnExactOtherCoinsRow : OpenClaim := { program := "ytheagikallnppaa", sum := "e5e7e958a6f82b3647845058ac39a39229e89bc2e086a9fbdf1dda5216994312", func := "loop.example/g00549/laws.FnExactOtherCoins", spec := "fnExactOtherCoins", unfollowed := true, recurses := true, apart := false }
def FnExactOtherCoinsSaid : Prop := fnExactOtherCoinsRow.holds Try.pinned (OpenSpec.ofChange fnExactOtherCoinsSpec)

/-- ITS FALSE NEIGHBOUR: 'it returns false'. Refute it at one input. -/
def fnExactOtherCoinsWrong : ChangeSpec := { name := "fnExactOtherCoins", fn := fun _ => fun
  | [d1, d2, d3, d4] => { results := [.lit (.bool false)], args := [d1, d2, d3, d4] }
  | _ => none }
def FnExactOtherCoinsWrongFalsely : Prop := fnExactOtherCoinsRow.holds Try.pinned (OpenSpec.ofChange fnExactOtherCoinsWrong)

/-- 'laws.FnExactTogetherSay': WHATEVER THE INPUT: true; the input reads as it did. -/
def fnExactTogetherSaySpec : ChangeSpec := { name := "fnExactTogetherSay", fn := fun _ => fun
  | [d1, d2] => { results := [.lit (.bool true)], args := [d1, d2] }
  | _ => none }
def fnExactTogetherSayRow : OpenClaim := { program := "ytheagikallnppaa", sum := "e5e7e958a6f82b3647845058ac39a39229e89bc2e086a9fbdf1dda5216994312", func := "loop.example/g00549/laws.FnExactTogetherSay", spec := "fnExactTogetherSay", unfollowed := true, recurses := true, apart := false }
def FnExactTogetherSaySaid : Prop := fnExactTogetherSayRow.holds Try.pinned (OpenSpec.ofChange fnExactTogetherSaySpec)

/-- ITS FALSE NEIGHBOUR: 'it returns false'. Refute it at one input. -/
def fnExactTogetherSayWrong : ChangeSpec := { name := "fnExactTogetherSay", fn := fun _ => fun
  | [d1, d2] => { results := [.lit (.bool false)], args := [d1, d2] }
  | _ => none }
def FnExactTogetherSayWrongFalsely : Prop := fnExactTogetherSayRow.holds Try.pinned (OpenSpec.ofChange fnExactTogetherSayWrong)

/-- 'laws.FnExactGroupsOf': WHATEVER THE INPUT: true; the input reads as it did. -/
def fnExactGroupsOfSpec : ChangeSpec := { name := "fnExactGroupsOf", fn := fun _ => fun
  | [d] => { results := [.lit (.bool true)], args := [d] }
  | _ => none }
def fnExactGroupsOfRow : OpenClaim := { program := "ytheagikallnppaa", sum := "e5e7e958a6f82b3647845058ac39a39229e89bc2e086a9fbdf1dda5216994312", func := "loop.example/g00549/laws.FnExactGroupsOf", spec := "fnExactGroupsOf", unfollowed := true, recurses := true, apart := false }
def FnExactGroupsOfSaid : Prop := fnExactGroupsOfRow.holds Try.pinned (OpenSpec.ofChange fnExactGroupsOfSpec)

/-- ITS FALSE NEIGHBOUR: 'it returns false'. Refute it at one input. -/
def fnExactGroupsOfWrong : ChangeSpec := { name := "fnExactGroupsOf", fn := fun _ => fun
  | [d] => { results := [.lit (.bool false)], args := [d] }
  | _ => none }
def FnExactGroupsOfWrongFalsely : Prop := fnExactGroupsOfRow.holds Try.pinned (OpenSpec.ofChange fnExactGroupsOfWrong)

/- THE SECOND FORM. 'bulk': how many values and letters a reading holds, each counted each time it is reached (what is shared counts as often as it is met; a slice's spare places count too). A statement '..UptoSaid' is the law's where the arguments, and the package variables that the reading takes, are together of bulk at most 1048576: NARROWER than '..Said'. Prove '..Said' where nothing that the law and all that it calls make is longer than what came in: it says more and counts as full. Else prove '..UptoSaid'. A law counts once. -/
mutual
def uptoBulk {H : Type} : DataW H → Nat
  | .lit (.string bytes) => bytes.length + 1
  | .lit _ => 1
  | .nil => 1
  | .ptr d => uptoBulk d + 1
  | .slice elems spare => uptoBulkAll elems + uptoBulkAll spare + 1
  | .agg parts => uptoBulkAll parts + 1
  | .iface _ d => uptoBulk d + 1
  | .map entries => uptoBulkEntries entries + 1
  | .held _ => 1
def uptoBulkAll {H : Type} : List (DataW H) → Nat
  | [] => 0
  | d :: r => uptoBulk d + uptoBulkAll r
def uptoBulkEntries {H : Type} : List (Lit × DataW H) → Nat
  | [] => 0
  | x :: r => uptoBulkEntry x + uptoBulkEntries r
def uptoBulkEntry {H : Type} : Lit × DataW H → Nat
  | (.string bytes, d) => bytes.length + uptoBulk d + 1
  | (_, d) => uptoBulk d + 1
 end
def uptoSmall : (H : Type) → List (DataW H) → Bool := fun _ ds => decide (uptoBulkAll ds ≤ 1048576)
def OpenSpec.upto (s : _root_.Go.ChangeSpec) : _root_.Go.OpenSpec := { _root_.Go.OpenSpec.ofChange s with cond := some uptoSmall }

/-- 'laws.FnTable', WHERE WHAT IT READS IS OF BULK AT MOST 1048576: true; the input reads as it did. -/
def fnTableUptoRow : OpenClaim := { program := "ytheagikallnppaa", sum := "e5e7e958a6f82b3647845058ac39a39229e89bc2e086a9fbdf1dda5216994312", func := "loop.example/g00549/laws.FnTable", spec := "fnTable", unfollowed := true, recurses := true, apart := false, narrowed := true }
def FnTableUptoSaid : Prop := fnTableUptoRow.holds Try.pinned (OpenSpec.upto fnTableSpec)

/-- 'laws.FnGroups', WHERE WHAT IT READS IS OF BULK AT MOST 1048576: true; the input reads as it did. -/
def fnGroupsUptoRow : OpenClaim := { program := "ytheagikallnppaa", sum := "e5e7e958a6f82b3647845058ac39a39229e89bc2e086a9fbdf1dda5216994312", func := "loop.example/g00549/laws.FnGroups", spec := "fnGroups", unfollowed := true, recurses := true, apart := false, narrowed := true }
def FnGroupsUptoSaid : Prop := fnGroupsUptoRow.holds Try.pinned (OpenSpec.upto fnGroupsSpec)

/-- 'laws.FnExactGoodTable', WHERE WHAT IT READS IS OF BULK AT MOST 1048576: true; the input reads as it did. -/
def fnExactGoodTableUptoRow : OpenClaim := { program := "ytheagikallnppaa", sum := "e5e7e958a6f82b3647845058ac39a39229e89bc2e086a9fbdf1dda5216994312", func := "loop.example/g00549/laws.FnExactGoodTable", spec := "fnExactGoodTable", unfollowed := true, recurses := true, apart := false, narrowed := true }
def FnExactGoodTableUptoSaid : Prop := fnExactGoodTableUptoRow.holds Try.pinned (OpenSpec.upto fnExactGoodTableSpec)

/-- 'laws.FnExactSayAt', WHERE WHAT IT READS IS OF BULK AT MOST 1048576: true; the input reads as it did. -/
def fnExactSayAtUptoRow : OpenClaim := { program := "ytheagikallnppaa", sum := "e5e7e958a6f82b3647845058ac39a39229e89bc2e086a9fbdf1dda5216994312", func := "loop.example/g00549/laws.FnExactSayAt", spec := "fnExactSayAt", unfollowed := true, recurses := true, apart := false, narrowed := true }
def FnExactSayAtUptoSaid : Prop := fnExactSayAtUptoRow.holds Try.pinned (OpenSpec.upto fnExactSayAtSpec)

/-- 'laws.FnExactAllSay', WHERE WHAT IT READS IS OF BULK AT MOST 1048576: true; the input reads as it did. -/
def fnExactAllSayUptoRow : OpenClaim := { program := "ytheagikallnppaa", sum := "e5e7e958a6f82b3647845058ac39a39229e89bc2e086a9fbdf1dda5216994312", func := "loop.example/g00549/laws.FnExactAllSay", spec := "fnExactAllSay", unfollowed := true, recurses := true, apart := false, narrowed := true }
def FnExactAllSayUptoSaid : Prop := fnExactAllSayUptoRow.holds Try.pinned (OpenSpec.upto fnExactAllSaySpec)

/-- 'laws.FnExactSumOf', WHERE WHAT IT READS IS OF BULK AT MOST 1048576: true; the input reads as it did. -/
def fnExactSumOfUptoRow : OpenClaim := { program := "ytheagikallnppaa", sum := "e5e7e958a6f82b3647845058ac39a39229e89bc2e086a9fbdf1dda5216994312", func := "loop.example/g00549/laws.FnExactSumOf", spec := "fnExactSumOf", unfollowed := true, recurses := true, apart := false, narrowed := true }
def FnExactSumOfUptoSaid : Prop := fnExactSumOfUptoRow.holds Try.pinned (OpenSpec.upto fnExactSumOfSpec)

/-- 'laws.FnExactWayBetween', WHERE WHAT IT READS IS OF BULK AT MOST 1048576: true; the input reads as it did. -/
def fnExactWayBetweenUptoRow : OpenClaim := { program := "ytheagikallnppaa", sum := "e5e7e958a6f82b3647845058ac39a39229e89bc2e086a9fbdf1dda5216994312", func := "loop.example/g00549/laws.FnExactWayBetween", spec := "fnExactWayBetween", unfollowed := true, recurses := true, apart := false, narrowed := true }
def FnExactWayBetweenUptoSaid : Prop := fnExactWayBetweenUptoRow.holds Try.pinned (OpenSpec.upto fnExactWayBetweenSpec)

/-- 'laws.FnExactOtherCoins', WHERE WHAT IT READS IS OF BULK AT MOST 1048576: true; the input reads as it did. -/
def fnExactOtherCoinsUptoRow : OpenClaim := { program := "ytheagikallnppaa", sum := "e5e7e958a6f82b3647845058ac39a39229e89bc2e086a9fbdf1dda5216994312", func := "loop.example/g00549/laws.FnExactOtherCoins", spec := "fnExactOtherCoins", unfollowed := true, recurses := true, apart := false, narrowed := true }
def FnExactOtherCoinsUptoSaid : Prop := fnExactOtherCoinsUptoRow.holds Try.pinned (OpenSpec.upto fnExactOtherCoinsSpec)

/-- 'laws.FnExactTogetherSay', WHERE WHAT IT READS IS OF BULK AT MOST 1048576: true; the input reads as it did. -/
def fnExactTogetherSayUptoRow : OpenClaim := { program := "ytheagikallnppaa", sum := "e5e7e958a6f82b3647845058ac39a39229e89bc2e086a9fbdf1dda5216994312", func := "loop.example/g00549/laws.FnExactTogetherSay", spec := "fnExactTogetherSay", unfollowed := true, recurses := true, apart := false, narrowed := true }
def FnExactTogetherSayUptoSaid : Prop := fnExactTogetherSayUptoRow.holds Try.pinned (OpenSpec.upto fnExactTogetherSaySpec)

/-- 'laws.FnExactGroupsOf', WHERE WHAT IT READS IS OF BULK AT MOST 1048576: true; the input reads as it did. -/
def fnExactGroupsOfUptoRow : OpenClaim := { program := "ytheagikallnppaa", sum := "e5e7e958a6f82b3647845058ac39a39229e89bc2e086a9fbdf1dda5216994312", func := "loop.example/g00549/laws.FnExactGroupsOf", spec := "fnExactGroupsOf", unfollowed := true, recurses := true, apart := false, narrowed := true }
def FnExactGroupsOfUptoSaid : Prop := fnExactGroupsOfUptoRow.holds Try.pinned (OpenSpec.upto fnExactGroupsOfSpec)

end Rows
end Go.Proofs.Ytheagikallnppaa

/-
  No cell of these rows narrows 'for every input' (looked for: loops, veiled, ifaces, maps, wideKeys, modest, calm, conditions, laid).
  DERIVED. THE GIVEN ROWS OF THIS SEAT. 9 by the template 'for every input the law returns true; each argument reads behind the call as it read before'; 0 by the template 'total and deterministic' (their statements: YtleddlfojogdiaaTotals.lean).
  GIVEN WITH THE SEED: the statements are not yours to turn. If you find one false, say at which input.
  Laid BY PROGRAM, IN A SANDBOX (cutbox-rows.mjs): the forced cells as the released guide's own fill.sh prints them over the translation 848097fb0e00bd55… (all of the seat's roots in one cut). By AI agents, Wed Nov 11 2026. No macro, syntax, notation, axiom, sorry.
-/
import Derived.Test.YtleddlfojogdiaaChecked
import GoSem.Claim
import GoSem.ClaimJoined
import GoSem.ClaimMapViews
import Derived.JoinedTies
import Derived.KernelRfl
namespace Go.Proofs.Ytleddlfojogdiaa
/- THE CELL 'sum', in the pinned program and in every row, IS THE sha256 OF THE DUMP (.gsa) THAT YtleddlfojogdiaaProg.lean LOADS. Nothing in Lean hashes anything: it is a label: what it is worth is what the hold of that sum in a sandbox is worth. -/
noncomputable def Try.pinned : Pinned := { name := "ytleddlfojogdiaa", sum := "848097fb0e00bd559de49119e9db2da538d249a3fe5b9045d99f2c011cbc2a8f", checked := Try.checked }
namespace Rows
def none {H : Type} : Left H := { results := [], args := [] }

/-- 'laws.FnWays': WHATEVER THE INPUT: true; the input reads as it did. -/
def fnWaysSpec : ChangeSpec := { name := "fnWays", fn := fun _ => fun
  | [d1, d2] => { results := [.lit (.bool true)], args := [d1, d2] }
  | _ => none }
def fnWaysRow : OpenClaim := { program := "ytleddlfojogdiaa", sum := "848097fb0e00bd559de49119e9db2da538d249a3fe5b9045d99f2c011cbc2a8f", func := "loop.example/g00549/laws.FnWays", spec := "fnWays", unfollowed := true, recurses := true, apart := false }
def FnWaysSaid : Prop := fnWaysRow.holds Try.pinned (OpenSpec.ofChange fnWaysSpec)

/-- ITS FALSE NEIGHBOUR: 'it returns false'. Refute it at one input. -/
def fnWaysWrong : ChangeSpec := { name := "fnWays", fn := fun _ => fun
  | [d1, d2] => { results := [.lit (.bool false)], args := [d1, d2] }
  | _ => none }
def FnWaysWrongFalsely : Prop := fnWaysRow.holds Try.pinned (OpenSpec.ofChange fnWaysWrong)

/-- 'laws.FnExactScoreOf': WHATEVER THE INPUT: true; the input reads as it did. -/
def fnExactScoreOfSpec : ChangeSpec := { name := "fnExactScoreOf", fn := fun _ => fun
  | [d] => { results := [.lit (.bool true)], args := [d] }
  | _ => none }
def fnExactScoreOfRow : OpenClaim := { program := "ytleddlfojogdiaa", sum := "848097fb0e00bd559de49119e9db2da538d249a3fe5b9045d99f2c011cbc2a8f", func := "loop.example/g00549/laws.FnExactScoreOf", spec := "fnExactScoreOf", apart := false }
def FnExactScoreOfSaid : Prop := fnExactScoreOfRow.holds Try.pinned (OpenSpec.ofChange fnExactScoreOfSpec)

/-- ITS FALSE NEIGHBOUR: 'it returns false'. Refute it at one input. -/
def fnExactScoreOfWrong : ChangeSpec := { name := "fnExactScoreOf", fn := fun _ => fun
  | [d] => { results := [.lit (.bool false)], args := [d] }
  | _ => none }
def FnExactScoreOfWrongFalsely : Prop := fnExactScoreOfRow.holds Try.pinned (OpenSpec.ofChange fnExactScoreOfWrong)

/-- 'laws.FnExactRankHands': WHATEVER THE INPUT: true; the input reads as it did. -/
def fnExactRankHandsSpec : ChangeSpec := { name := "fnExactRankHands", fn := fun _ => fun
  | [d] => { results := [.lit (.bool true)], args := [d] }
  | _ => none }
def fnExactRankHandsRow : OpenClaim := { program := "ytleddlfojogdiaa", sum := "848097fb0e00bd559de49119e9db2da538d249a3fe5b9045d99f2c011cbc2a8f", func := "loop.example/g00549/laws.FnExactRankHands", spec := "fnExactRankHands", unfollowed := true, recurses := true, apart := false }
def FnExactRankHandsSaid : Prop := fnExactRankHandsRow.holds Try.pinned (OpenSpec.ofChange fnExactRankHandsSpec)

/-- ITS FALSE NEIGHBOUR: 'it returns false'. Refute it at one input. -/
def fnExactRankHandsWrong : ChangeSpec := { name := "fnExactRankHands", fn := fun _ => fun
  | [d] => { results := [.lit (.bool false)], args := [d] }
  | _ => none }
def FnExactRankHandsWrongFalsely : Prop := fnExactRankHandsRow.holds Try.pinned (OpenSpec.ofChange fnExactRankHandsWrong)

/-- 'laws.FnExactWaysOf': WHATEVER THE INPUT: true; the input reads as it did. -/
def fnExactWaysOfSpec : ChangeSpec := { name := "fnExactWaysOf", fn := fun _ => fun
  | [d1, d2] => { results := [.lit (.bool true)], args := [d1, d2] }
  | _ => none }
def fnExactWaysOfRow : OpenClaim := { program := "ytleddlfojogdiaa", sum := "848097fb0e00bd559de49119e9db2da538d249a3fe5b9045d99f2c011cbc2a8f", func := "loop.example/g00549/laws.FnExactWaysOf", spec := "fnExactWaysOf", unfollowed := true, recurses := true, apart := false }
def FnExactWaysOfSaid : Prop := fnExactWaysOfRow.holds Try.pinned (OpenSpec.ofChange fnExactWaysOfSpec)

/-- ITS FALSE NEIGHBOUR: 'it returns false'. Refute it at one input. -/
def fnExactWaysOfWrong : ChangeSpec := { name := "fnExactWaysOf", fn := fun _ => fun
  | [d1, d2] => { results := [.lit (.bool false)], args := [d1, d2] }
  | _ => none }
def FnExactWaysOfWrongFalsely : Prop := fnExactWaysOfRow.holds Try.pinned (OpenSpec.ofChange fnExactWaysOfWrong)

/-- 'laws.FnExactGoodTallies': WHATEVER THE INPUT: true; the input reads as it did. -/
def fnExactGoodTalliesSpec : ChangeSpec := { name := "fnExactGoodTallies", fn := fun _ => fun
  | [d] => { results := [.lit (.bool true)], args := [d] }
  | _ => none }
def fnExactGoodTalliesRow : OpenClaim := { program := "ytleddlfojogdiaa", sum := "848097fb0e00bd559de49119e9db2da538d249a3fe5b9045d99f2c011cbc2a8f", func := "loop.example/g00549/laws.FnExactGoodTallies", spec := "fnExactGoodTallies", unfollowed := true, recurses := true, apart := false }
def FnExactGoodTalliesSaid : Prop := fnExactGoodTalliesRow.holds Try.pinned (OpenSpec.ofChange fnExactGoodTalliesSpec)

/-- ITS FALSE NEIGHBOUR: 'it returns false'. Refute it at one input. -/
def fnExactGoodTalliesWrong : ChangeSpec := { name := "fnExactGoodTallies", fn := fun _ => fun
  | [d] => { results := [.lit (.bool false)], args := [d] }
  | _ => none }
def FnExactGoodTalliesWrongFalsely : Prop := fnExactGoodTalliesRow.holds Try.pinned (OpenSpec.ofChange fnExactGoodTalliesWrong)

/-- 'laws.FnExactAddTallies': WHATEVER THE INPUT: true; the input reads as it did. -/
def fnExactAddTalliesSpec : ChangeSpec := { name := "fnExactAddTallies", fn := fun _ => fun
  | [d1, d2] => { results := [.lit (.bool true)], args := [d1, d2] }
  | _ => none }
def fnExactAddTalliesRow : OpenClaim := { program := "ytleddlfojogdiaa", sum := "848097fb0e00bd559de49119e9db2da538d249a3fe5b9045d99f2c011cbc2a8f", func := "loop.example/g00549/laws.FnExactAddTallies", spec := "fnExactAddTallies", unfollowed := true, recurses := true, apart := false }
def FnExactAddTalliesSaid : Prop := fnExactAddTalliesRow.holds Try.pinned (OpenSpec.ofChange fnExactAddTalliesSpec)

/-- ITS FALSE NEIGHBOUR: 'it returns false'. Refute it at one input. -/
def fnExactAddTalliesWrong : ChangeSpec := { name := "fnExactAddTallies", fn := fun _ => fun
  | [d1, d2] => { results := [.lit (.bool false)], args := [d1, d2] }
  | _ => none }
def FnExactAddTalliesWrongFalsely : Prop := fnExactAddTalliesRow.holds Try.pinned (OpenSpec.ofChange fnExactAddTalliesWrong)

/-- 'laws.FnExactDebitsFor': WHATEVER THE INPUT: true; the input reads as it did. -/
def fnExactDebitsForSpec : ChangeSpec := { name := "fnExactDebitsFor", fn := fun _ => fun
  | [d1, d2, d3] => { results := [.lit (.bool true)], args := [d1, d2, d3] }
  | _ => none }
def fnExactDebitsForRow : OpenClaim := { program := "ytleddlfojogdiaa", sum := "848097fb0e00bd559de49119e9db2da538d249a3fe5b9045d99f2c011cbc2a8f", func := "loop.example/g00549/laws.FnExactDebitsFor", spec := "fnExactDebitsFor", unfollowed := true, recurses := true, apart := false }
def FnExactDebitsForSaid : Prop := fnExactDebitsForRow.holds Try.pinned (OpenSpec.ofChange fnExactDebitsForSpec)

/-- ITS FALSE NEIGHBOUR: 'it returns false'. Refute it at one input. -/
def fnExactDebitsForWrong : ChangeSpec := { name := "fnExactDebitsFor", fn := fun _ => fun
  | [d1, d2, d3] => { results := [.lit (.bool false)], args := [d1, d2, d3] }
  | _ => none }
def FnExactDebitsForWrongFalsely : Prop := fnExactDebitsForRow.holds Try.pinned (OpenSpec.ofChange fnExactDebitsForWrong)

/-- 'laws.FnStated': WHATEVER THE INPUT: true; the input reads as it did. -/
def fnStatedSpec : ChangeSpec := { name := "fnStated", fn := fun _ => fun
  | [d1, d2] => { results := [.lit (.bool true)], args := [d1, d2] }
  | _ => none }
def fnStatedRow : OpenClaim := { program := "ytleddlfojogdiaa", sum := "848097fb0e00bd559de49119e9db2da538d249a3fe5b9045d99f2c011cbc2a8f", func := "loop.example/g00549/laws.FnStated", spec := "fnStated", unfollowed := true, recurses := true, apart := false }
def FnStatedSaid : Prop := fnStatedRow.holds Try.pinned (OpenSpec.ofChange fnStatedSpec)

/-- ITS FALSE NEIGHBOUR: 'it returns false'. Refute it at one input. -/
def fnStatedWrong : ChangeSpec := { name := "fnStated", fn := fun _ => fun
  | [d1, d2] => { results := [.lit (.bool false)], args := [d1, d2] }
  | _ => none }
def FnStatedWrongFalsely : Prop := fnStatedRow.holds Try.pinned (OpenSpec.ofChange fnStatedWrong)

/-- 'laws.FnExactClaimsIn': WHATEVER THE INPUT: true; the input reads as it did. -/
def fnExactClaimsInSpec : ChangeSpec := { name := "fnExactClaimsIn", fn := fun _ => fun
  | [d] => { results := [.lit (.bool true)], args := [d] }
  | _ => none }
def fnExactClaimsInRow : OpenClaim := { program := "ytleddlfojogdiaa", sum := "848097fb0e00bd559de49119e9db2da538d249a3fe5b9045d99f2c011cbc2a8f", func := "loop.example/g00549/laws.FnExactClaimsIn", spec := "fnExactClaimsIn", unfollowed := true, recurses := true, apart := false }
def FnExactClaimsInSaid : Prop := fnExactClaimsInRow.holds Try.pinned (OpenSpec.ofChange fnExactClaimsInSpec)

/-- ITS FALSE NEIGHBOUR: 'it returns false'. Refute it at one input. -/
def fnExactClaimsInWrong : ChangeSpec := { name := "fnExactClaimsIn", fn := fun _ => fun
  | [d] => { results := [.lit (.bool false)], args := [d] }
  | _ => none }
def FnExactClaimsInWrongFalsely : Prop := fnExactClaimsInRow.holds Try.pinned (OpenSpec.ofChange fnExactClaimsInWrong)

/- THE SECOND FORM. 'bulk': how many values and letters a reading holds, each counted each time it is reached (what is shared counts as often as it is met; a slice's spare places count too). A statement '..UptoSaid' is the law's where the arguments, and the package variables that the reading takes, are together of bulk at most 1048576: NARROWER than '..Said'. Prove '..Said' where nothing that the law and all that it calls make is longer than what came in: it says more and counts as full. Else prove '..UptoSaid'. A law counts once. -/
mutual
def uptoBulk {H : Type} : DataW H → Nat
  | .lit (.string bytes) => bytes.length + 1
  | .lit _ => 1
  | .nil => 1
  | .ptr d => uptoBulk d + 1
  | .slice elems spare => uptoBulkAll elems + uptoBulkAll spare + 1
  | .agg parts => uptoBulkAll parts + 1
  | .iface _ d => uptoBulk d + 1
  | .map entries => uptoBulkEntries entries + 1
  | .held _ => 1
def uptoBulkAll {H : Type} : List (DataW H) → Nat
  | [] => 0
  | d :: r => uptoBulk d + uptoBulkAll r
def uptoBulkEntries {H : Type} : List (Lit × DataW H) → Nat
  | [] => 0
  | x :: r => uptoBulkEntry x + uptoBulkEntries r
def uptoBulkEntry {H : Type} : Lit × DataW H → Nat
  | (.string bytes, d) => bytes.length + uptoBulk d + 1
  | (_, d) => uptoBulk d + 1
 end
def uptoSmall : (H : Type) → List (DataW H) → Bool := fun _ ds => decide (uptoBulkAll ds ≤ 1048576)
def OpenSpec.upto (s : _root_.Go.ChangeSpec) : _root_.Go.OpenSpec := { _root_.Go.OpenSpec.ofChange s with cond := some uptoSmall }

/-- 'laws.FnWays', WHERE WHAT IT READS IS OF BULK AT MOST 1048576: true; the input reads as it did. -/
def fnWaysUptoRow : OpenClaim := { program := "ytleddlfojogdiaa", sum := "848097fb0e00bd559de49119e9db2da538d249a3fe5b9045d99f2c011cbc2a8f", func := "loop.example/g00549/laws.FnWays", spec := "fnWays", unfollowed := true, recurses := true, apart := false, narrowed := true }
def FnWaysUptoSaid : Prop := fnWaysUptoRow.holds Try.pinned (OpenSpec.upto fnWaysSpec)

/-- 'laws.FnExactScoreOf', WHERE WHAT IT READS IS OF BULK AT MOST 1048576: true; the input reads as it did. -/
def fnExactScoreOfUptoRow : OpenClaim := { program := "ytleddlfojogdiaa", sum := "848097fb0e00bd559de49119e9db2da538d249a3fe5b9045d99f2c011cbc2a8f", func := "loop.example/g00549/laws.FnExactScoreOf", spec := "fnExactScoreOf", apart := false, narrowed := true }
def FnExactScoreOfUptoSaid : Prop := fnExactScoreOfUptoRow.holds Try.pinned (OpenSpec.upto fnExactScoreOfSpec)

/-- 'laws.FnExactRankHands', WHERE WHAT IT READS IS OF BULK AT MOST 1048576: true; the input reads as it did. -/
def fnExactRankHandsUptoRow : OpenClaim := { program := "ytleddlfojogdiaa", sum := "848097fb0e00bd559de49119e9db2da538d249a3fe5b9045d99f2c011cbc2a8f", func := "loop.example/g00549/laws.FnExactRankHands", spec := "fnExactRankHands", unfollowed := true, recurses := true, apart := false, narrowed := true }
def FnExactRankHandsUptoSaid : Prop := fnExactRankHandsUptoRow.holds Try.pinned (OpenSpec.upto fnExactRankHandsSpec)

/-- 'laws.FnExactWaysOf', WHERE WHAT IT READS IS OF BULK AT MOST 1048576: true; the input reads as it did. -/
def fnExactWaysOfUptoRow : OpenClaim := { program := "ytleddlfojogdiaa", sum := "848097fb0e00bd559de49119e9db2da538d249a3fe5b9045d99f2c011cbc2a8f", func := "loop.example/g00549/laws.FnExactWaysOf", spec := "fnExactWaysOf", unfollowed := true, recurses := true, apart := false, narrowed := true }
def FnExactWaysOfUptoSaid : Prop := fnExactWaysOfUptoRow.holds Try.pinned (OpenSpec.upto fnExactWaysOfSpec)

/-- 'laws.FnExactGoodTallies', WHERE WHAT IT READS IS OF BULK AT MOST 1048576: true; the input reads as it did. -/
def fnExactGoodTalliesUptoRow : OpenClaim := { program := "ytleddlfojogdiaa", sum := "848097fb0e00bd559de49119e9db2da538d249a3fe5b9045d99f2c011cbc2a8f", func := "loop.example/g00549/laws.FnExactGoodTallies", spec := "fnExactGoodTallies", unfollowed := true, recurses := true, apart := false, narrowed := true }
def FnExactGoodTalliesUptoSaid : Prop := fnExactGoodTalliesUptoRow.holds Try.pinned (OpenSpec.upto fnExactGoodTalliesSpec)

/-- 'laws.FnExactAddTallies', WHERE WHAT IT READS IS OF BULK AT MOST 1048576: true; the input reads as it did. -/
def fnExactAddTalliesUptoRow : OpenClaim := { program := "ytleddlfojogdiaa", sum := "848097fb0e00bd559de49119e9db2da538d249a3fe5b9045d99f2c011cbc2a8f", func := "loop.example/g00549/laws.FnExactAddTallies", spec := "fnExactAddTallies", unfollowed := true, recurses := true, apart := false, narrowed := true }
def FnExactAddTalliesUptoSaid : Prop := fnExactAddTalliesUptoRow.holds Try.pinned (OpenSpec.upto fnExactAddTalliesSpec)

/-- 'laws.FnExactDebitsFor', WHERE WHAT IT READS IS OF BULK AT MOST 1048576: true; the input reads as it did. -/
def fnExactDebitsForUptoRow : OpenClaim := { program := "ytleddlfojogdiaa", sum := "848097fb0e00bd559de49119e9db2da538d249a3fe5b9045d99f2c011cbc2a8f", func := "loop.example/g00549/laws.FnExactDebitsFor", spec := "fnExactDebitsFor", unfollowed := true, recurses := true, apart := false, narrowed := true }
def FnExactDebitsForUptoSaid : Prop := fnExactDebitsForUptoRow.holds Try.pinned (OpenSpec.upto fnExactDebitsForSpec)

/-- 'laws.FnStated', WHERE WHAT IT READS IS OF BULK AT MOST 1048576: true; the input reads as it did. -/
def fnStatedUptoRow : OpenClaim := { program := "ytleddlfojogdiaa", sum := "848097fb0e00bd559de49119e9db2da538d249a3fe5b9045d99f2c011cbc2a8f", func := "loop.example/g00549/laws.FnStated", spec := "fnStated", unfollowed := true, recurses := true, apart := false, narrowed := true }
def FnStatedUptoSaid : Prop := fnStatedUptoRow.holds Try.pinned (OpenSpec.upto fnStatedSpec)

/-- 'laws.FnExactClaimsIn', WHERE WHAT IT READS IS OF BULK AT MOST 1048576: true; the input reads as it did. -/
def fnExactClaimsInUptoRow : OpenClaim := { program := "ytleddlfojogdiaa", sum := "848097fb0e00bd559de49119e9db2da538d249a3fe5b9045d99f2c011cbc2a8f", func := "loop.example/g00549/laws.FnExactClaimsIn", spec := "fnExactClaimsIn", unfollowed := true, recurses := true, apart := false, narrowed := true }
def FnExactClaimsInUptoSaid : Prop := fnExactClaimsInUptoRow.holds Try.pinned (OpenSpec.upto fnExactClaimsInSpec)

end Rows
end Go.Proofs.Ytleddlfojogdiaa

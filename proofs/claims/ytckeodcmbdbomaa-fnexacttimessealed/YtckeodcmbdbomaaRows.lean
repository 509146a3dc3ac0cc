/-
  No cell of these rows narrows 'for every input' (looked for: loops, veiled, ifaces, maps, wideKeys, modest, calm, conditions, laid).
  DERIVED. THE GIVEN ROWS OF THIS SEAT. 6 by the template 'for every input the law returns true; each argument reads behind the call as it read before'; 0 by the template 'total and deterministic' (their statements: YtckeodcmbdbomaaTotals.lean).
  GIVEN WITH THE SEED: the statements are not yours to turn. If you find one false, say at which input.
  Laid BY PROGRAM, IN A SANDBOX (cutbox-rows.mjs): the forced cells as the released guide's own fill.sh prints them over the translation 0a83af98672b9f52… (all of the seat's roots in one cut). By AI agents, Wed Nov 11 2026. No macro, syntax, notation, axiom, sorry.
-/
import Derived.Test.YtckeodcmbdbomaaChecked
import GoSem.Claim
import GoSem.ClaimJoined
import GoSem.ClaimMapViews
import Derived.JoinedTies
import Derived.KernelRfl
namespace Go.Proofs.Ytckeodcmbdbomaa
/- THE CELL 'sum', in the pinned program and in every row, IS THE sha256 OF THE DUMP (.gsa) THAT YtckeodcmbdbomaaProg.lean LOADS. Nothing in Lean hashes anything: it is a label: what it is worth is what the hold of that sum in a sandbox is worth. -/
noncomputable def Try.pinned : Pinned := { name := "ytckeodcmbdbomaa", sum := "0a83af98672b9f52abf1e19c110d1fe57e9e768cf4dc620e22c64ea1c2ada953", checked := Try.checked }
namespace Rows
def none {H : Type} : Left H := { results := [], args := [] }

/-- 'laws.FnExactPowerOf': WHATEVER THE INPUT: true; the input reads as it did. -/
def fnExactPowerOfSpec : ChangeSpec := { name := "fnExactPowerOf", fn := fun _ => fun
  | [d1, d2] => { results := [.lit (.bool true)], args := [d1, d2] }
  | _ => none }
def fnExactPowerOfRow : OpenClaim := { program := "ytckeodcmbdbomaa", sum := "0a83af98672b9f52abf1e19c110d1fe57e9e768cf4dc620e22c64ea1c2ada953", func := "loop.example/g00549/laws.FnExactPowerOf", spec := "fnExactPowerOf", apart := false }
def FnExactPowerOfSaid : Prop := fnExactPowerOfRow.holds Try.pinned (OpenSpec.ofChange fnExactPowerOfSpec)

/-- ITS FALSE NEIGHBOUR: 'it returns false'. Refute it at one input. -/
def fnExactPowerOfWrong : ChangeSpec := { name := "fnExactPowerOf", fn := fun _ => fun
  | [d1, d2] => { results := [.lit (.bool false)], args := [d1, d2] }
  | _ => none }
def FnExactPowerOfWrongFalsely : Prop := fnExactPowerOfRow.holds Try.pinned (OpenSpec.ofChange fnExactPowerOfWrong)

/-- 'laws.FnExactSharedOf': WHATEVER THE INPUT: true; the input reads as it did. -/
def fnExactSharedOfSpec : ChangeSpec := { name := "fnExactSharedOf", fn := fun _ => fun
  | [d1, d2] => { results := [.lit (.bool true)], args := [d1, d2] }
  | _ => none }
def fnExactSharedOfRow : OpenClaim := { program := "ytckeodcmbdbomaa", sum := "0a83af98672b9f52abf1e19c110d1fe57e9e768cf4dc620e22c64ea1c2ada953", func := "loop.example/g00549/laws.FnExactSharedOf", spec := "fnExactSharedOf", apart := false }
def FnExactSharedOfSaid : Prop := fnExactSharedOfRow.holds Try.pinned (OpenSpec.ofChange fnExactSharedOfSpec)

/-- ITS FALSE NEIGHBOUR: 'it returns false'. Refute it at one input. -/
def fnExactSharedOfWrong : ChangeSpec := { name := "fnExactSharedOf", fn := fun _ => fun
  | [d1, d2] => { results := [.lit (.bool false)], args := [d1, d2] }
  | _ => none }
def FnExactSharedOfWrongFalsely : Prop := fnExactSharedOfRow.holds Try.pinned (OpenSpec.ofChange fnExactSharedOfWrong)

/-- 'laws.FnExactIsMember': WHATEVER THE INPUT: true; the input reads as it did. -/
def fnExactIsMemberSpec : ChangeSpec := { name := "fnExactIsMember", fn := fun _ => fun
  | [d] => { results := [.lit (.bool true)], args := [d] }
  | _ => none }
def fnExactIsMemberRow : OpenClaim := { program := "ytckeodcmbdbomaa", sum := "0a83af98672b9f52abf1e19c110d1fe57e9e768cf4dc620e22c64ea1c2ada953", func := "loop.example/g00549/laws.FnExactIsMember", spec := "fnExactIsMember", apart := false }
def FnExactIsMemberSaid : Prop := fnExactIsMemberRow.holds Try.pinned (OpenSpec.ofChange fnExactIsMemberSpec)

/-- ITS FALSE NEIGHBOUR: 'it returns false'. Refute it at one input. -/
def fnExactIsMemberWrong : ChangeSpec := { name := "fnExactIsMember", fn := fun _ => fun
  | [d] => { results := [.lit (.bool false)], args := [d] }
  | _ => none }
def FnExactIsMemberWrongFalsely : Prop := fnExactIsMemberRow.holds Try.pinned (OpenSpec.ofChange fnExactIsMemberWrong)

/-- 'laws.FnExactOpenNumber': WHATEVER THE INPUT: true; the input reads as it did. -/
def fnExactOpenNumberSpec : ChangeSpec := { name := "fnExactOpenNumber", fn := fun _ => fun
  | [d1, d2] => { results := [.lit (.bool true)], args := [d1, d2] }
  | _ => none }
def fnExactOpenNumberRow : OpenClaim := { program := "ytckeodcmbdbomaa", sum := "0a83af98672b9f52abf1e19c110d1fe57e9e768cf4dc620e22c64ea1c2ada953", func := "loop.example/g00549/laws.FnExactOpenNumber", spec := "fnExactOpenNumber", apart := false }
def FnExactOpenNumberSaid : Prop := fnExactOpenNumberRow.holds Try.pinned (OpenSpec.ofChange fnExactOpenNumberSpec)

/-- ITS FALSE NEIGHBOUR: 'it returns false'. Refute it at one input. -/
def fnExactOpenNumberWrong : ChangeSpec := { name := "fnExactOpenNumber", fn := fun _ => fun
  | [d1, d2] => { results := [.lit (.bool false)], args := [d1, d2] }
  | _ => none }
def FnExactOpenNumberWrongFalsely : Prop := fnExactOpenNumberRow.holds Try.pinned (OpenSpec.ofChange fnExactOpenNumberWrong)

/-- 'laws.FnExactTimesSealed': WHATEVER THE INPUT: true; the input reads as it did. -/
def fnExactTimesSealedSpec : ChangeSpec := { name := "fnExactTimesSealed", fn := fun _ => fun
  | [d1, d2] => { results := [.lit (.bool true)], args := [d1, d2] }
  | _ => none }
def fnExactTimesSealedRow : OpenClaim := { program := "ytckeodcmbdbomaa", sum := "0a83af98672b9f52abf1e19c110d1fe57e9e768cf4dc620e22c64ea1c2ada953", func := "loop.example/g00549/laws.FnExactTimesSealed", spec := "fnExactTimesSealed", apart := false }
def FnExactTimesSealedSaid : Prop := fnExactTimesSealedRow.holds Try.pinned (OpenSpec.ofChange fnExactTimesSealedSpec)

/-- ITS FALSE NEIGHBOUR: 'it returns false'. Refute it at one input. -/
def fnExactTimesSealedWrong : ChangeSpec := { name := "fnExactTimesSealed", fn := fun _ => fun
  | [d1, d2] => { results := [.lit (.bool false)], args := [d1, d2] }
  | _ => none }
def FnExactTimesSealedWrongFalsely : Prop := fnExactTimesSealedRow.holds Try.pinned (OpenSpec.ofChange fnExactTimesSealedWrong)

/-- 'laws.FnExactInverseOf': WHATEVER THE INPUT: true; the input reads as it did. -/
def fnExactInverseOfSpec : ChangeSpec := { name := "fnExactInverseOf", fn := fun _ => fun
  | [d] => { results := [.lit (.bool true)], args := [d] }
  | _ => none }
def fnExactInverseOfRow : OpenClaim := { program := "ytckeodcmbdbomaa", sum := "0a83af98672b9f52abf1e19c110d1fe57e9e768cf4dc620e22c64ea1c2ada953", func := "loop.example/g00549/laws.FnExactInverseOf", spec := "fnExactInverseOf", apart := false }
def FnExactInverseOfSaid : Prop := fnExactInverseOfRow.holds Try.pinned (OpenSpec.ofChange fnExactInverseOfSpec)

/-- ITS FALSE NEIGHBOUR: 'it returns false'. Refute it at one input. -/
def fnExactInverseOfWrong : ChangeSpec := { name := "fnExactInverseOf", fn := fun _ => fun
  | [d] => { results := [.lit (.bool false)], args := [d] }
  | _ => none }
def FnExactInverseOfWrongFalsely : Prop := fnExactInverseOfRow.holds Try.pinned (OpenSpec.ofChange fnExactInverseOfWrong)

/- THE SECOND FORM. 'bulk': how many values and letters a reading holds, each counted each time it is reached (what is shared counts as often as it is met; a slice's spare places count too). A statement '..UptoSaid' is the law's where the arguments, and the package variables that the reading takes, are together of bulk at most 1048576: NARROWER than '..Said'. Prove '..Said' where nothing that the law and all that it calls make is longer than what came in: it says more and counts as full. Else prove '..UptoSaid'. A law counts once. -/
mutual
def uptoBulk {H : Type} : DataW H → Nat
  | .lit (.string bytes) => bytes.length + 1
  | .lit _ => 1
  | .nil => 1
  | .ptr d => uptoBulk d + 1
  | .slice elems spare => uptoBulkAll elems + uptoBulkAll spare + 1
  | .agg parts => uptoBulkAll parts + 1
  | .iface _ d => uptoBulk d + 1
  | .map entries => uptoBulkEntries entries + 1
  | .held _ => 1
def uptoBulkAll {H : Type} : List (DataW H) → Nat
  | [] => 0
  | d :: r => uptoBulk d + uptoBulkAll r
def uptoBulkEntries {H : Type} : List (Lit × DataW H) → Nat
  | [] => 0
  | x :: r => uptoBulkEntry x + uptoBulkEntries r
def uptoBulkEntry {H : Type} : Lit × DataW H → Nat
  | (.string bytes, d) => bytes.length + uptoBulk d + 1
  | (_, d) => uptoBulk d + 1
 end
def uptoSmall : (H : Type) → List (DataW H) → Bool := fun _ ds => decide (uptoBulkAll ds ≤ 1048576)
def OpenSpec.upto (s : _root_.Go.ChangeSpec) : _root_.Go.OpenSpec := { _root_.Go.OpenSpec.ofChange s with cond := some uptoSmall }

/-- 'laws.FnExactPowerOf', WHERE WHAT IT READS IS OF BULK AT MOST 1048576: true; the input reads as it did. -/
def fnExactPowerOfUptoRow : OpenClaim := { program := "ytckeodcmbdbomaa", sum := "0a83af98672b9f52abf1e19c110d1fe57e9e768cf4dc620e22c64ea1c2ada953", func := "loop.example/g00549/laws.FnExactPowerOf", spec := "fnExactPowerOf", apart := false, narrowed := true }
def FnExactPowerOfUptoSaid : Prop := fnExactPowerOfUptoRow.holds Try.pinned (OpenSpec.upto fnExactPowerOfSpec)

/-- 'laws.FnExactSharedOf', WHERE WHAT IT READS IS OF BULK AT MOST 1048576: true; the input reads as it did. -/
def fnExactSharedOfUptoRow : OpenClaim := { program := "ytckeodcmbdbomaa", sum := "0a83af98672b9f52abf1e19c110d1fe57e9e768cf4dc620e22c64ea1c2ada953", func := "loop.example/g00549/laws.FnExactSharedOf", spec := "fnExactSharedOf", apart := false, narrowed := true }
def FnExactSharedOfUptoSaid : Prop := fnExactSharedOfUptoRow.holds Try.pinned (OpenSpec.upto fnExactSharedOfSpec)

/-- 'laws.FnExactIsMember', WHERE WHAT IT READS IS OF BULK AT MOST 1048576: true; the input reads as it did. -/
def fnExactIsMemberUptoRow : OpenClaim := { program := "ytckeodcmbdbomaa", sum := "0a83af98672b9f52abf1e19c110d1fe57e9e768cf4dc620e22c64ea1c2ada953", func := "loop.example/g00549/laws.FnExactIsMember", spec := "fnExactIsMember", apart := false, narrowed := true }
def FnExactIsMemberUptoSaid : Prop := fnExactIsMemberUptoRow.holds Try.pinned (OpenSpec.upto fnExactIsMemberSpec)

/-- 'laws.FnExactOpenNumber', WHERE WHAT IT READS IS OF BULK AT MOST 1048576: true; the input reads as it did. -/
def fnExactOpenNumberUptoRow : OpenClaim := { program := "ytckeodcmbdbomaa", sum := "0a83af98672b9f52abf1e19c110d1fe57e9e768cf4dc620e22c64ea1c2ada953", func := "loop.example/g00549/laws.FnExactOpenNumber", spec := "fnExactOpenNumber", apart := false, narrowed := true }
def FnExactOpenNumberUptoSaid : Prop := fnExactOpenNumberUptoRow.holds Try.pinned (OpenSpec.upto fnExactOpenNumberSpec)

/-- 'laws.FnExactTimesSealed', WHERE WHAT IT READS IS OF BULK AT MOST 1048576: true; the input reads as it did. -/
def fnExactTimesSealedUptoRow : OpenClaim := { program := "ytckeodcmbdbomaa", sum := "0a83af98672b9f52abf1e19c110d1fe57e9e768cf4dc620e22c64ea1c2ada953", func := "loop.example/g00549/laws.FnExactTimesSealed", spec := "fnExactTimesSealed", apart := false, narrowed := true }
def FnExactTimesSealedUptoSaid : Prop := fnExactTimesSealedUptoRow.holds Try.pinned (OpenSpec.upto fnExactTimesSealedSpec)

/-- 'laws.FnExactInverseOf', WHERE WHAT IT READS IS OF BULK AT MOST 1048576: true; the input reads as it did. -/
def fnExactInverseOfUptoRow : OpenClaim := { program := "ytckeodcmbdbomaa", sum := "0a83af98672b9f52abf1e19c110d1fe57e9e768cf4dc620e22c64ea1c2ada953", func := "loop.example/g00549/laws.FnExactInverseOf", spec := "fnExactInverseOf", apart := false, narrowed := true }
def FnExactInverseOfUptoSaid : Prop := fnExactInverseOfUptoRow.holds Try.pinned (OpenSpec.upto fnExactInverseOfSpec)

end Rows
end Go.Proofs.Ytckeodcmbdbomaa

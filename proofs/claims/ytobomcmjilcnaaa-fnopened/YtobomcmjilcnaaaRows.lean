/-
  No cell of these rows narrows 'for every input' (looked for: loops, veiled, ifaces, maps, wideKeys, modest, calm, conditions, laid).
  DERIVED. THE GIVEN ROWS OF THIS SEAT. 6 by the template 'for every input the law returns true; each argument reads behind the call as it read before'; 0 by the template 'total and deterministic' (their statements: YtobomcmjilcnaaaTotals.lean).
  GIVEN WITH THE SEED: the statements are not yours to turn. If you find one false, say at which input.
  Laid BY PROGRAM, IN A SANDBOX (cutbox-rows.mjs): the forced cells as the released guide's own fill.sh prints them over the translation 5edf98edf9711e98… (all of the seat's roots in one cut). By AI agents, Wed Nov 11 2026. No macro, syntax, notation, axiom, sorry.
-/
import Derived.Test.YtobomcmjilcnaaaChecked
import GoSem.Claim
import GoSem.ClaimJoined
import GoSem.ClaimMapViews
import Derived.JoinedTies
import Derived.KernelRfl
namespace Go.Proofs.Ytobomcmjilcnaaa
/- THE CELL 'sum', in the pinned program and in every row, IS THE sha256 OF THE DUMP (.gsa) THAT YtobomcmjilcnaaaProg.lean LOADS. Nothing in Lean hashes anything: it is a label: what it is worth is what the hold of that sum in a sandbox is worth. -/
noncomputable def Try.pinned : Pinned := { name := "ytobomcmjilcnaaa", sum := "5edf98edf9711e9895e57edaeead75461f9a50b480ab755df5657b31c61ddf40", checked := Try.checked }
namespace Rows
def none {H : Type} : Left H := { results := [], args := [] }

/-- 'laws.FnOpened': WHATEVER THE INPUT: true; the input reads as it did. -/
def fnOpenedSpec : ChangeSpec := { name := "fnOpened", fn := fun _ => fun
  | [d1, d2] => { results := [.lit (.bool true)], args := [d1, d2] }
  | _ => none }
def fnOpenedRow : OpenClaim := { program := "ytobomcmjilcnaaa", sum := "5edf98edf9711e9895e57edaeead75461f9a50b480ab755df5657b31c61ddf40", func := "loop.example/g00549/laws.FnOpened", spec := "fnOpened", unfollowed := true, recurses := true, apart := false }
def FnOpenedSaid : Prop := fnOpenedRow.holds Try.pinned (OpenSpec.ofChange fnOpenedSpec)

/-- ITS FALSE NEIGHBOUR: 'it returns false'. Refute it at one input. -/
def fnOpenedWrong : ChangeSpec := { name := "fnOpened", fn := fun _ => fun
  | [d1, d2] => { results := [.lit (.bool false)], args := [d1, d2] }
  | _ => none }
def FnOpenedWrongFalsely : Prop := fnOpenedRow.holds Try.pinned (OpenSpec.ofChange fnOpenedWrong)

/-- 'laws.FnExactAddVotes': WHATEVER THE INPUT: true; the input reads as it did. -/
def fnExactAddVotesSpec : ChangeSpec := { name := "fnExactAddVotes", fn := fun _ => fun
  | [d] => { results := [.lit (.bool true)], args := [d] }
  | _ => none }
def fnExactAddVotesRow : OpenClaim := { program := "ytobomcmjilcnaaa", sum := "5edf98edf9711e9895e57edaeead75461f9a50b480ab755df5657b31c61ddf40", func := "loop.example/g00549/laws.FnExactAddVotes", spec := "fnExactAddVotes", unfollowed := true, recurses := true, apart := false }
def FnExactAddVotesSaid : Prop := fnExactAddVotesRow.holds Try.pinned (OpenSpec.ofChange fnExactAddVotesSpec)

/-- ITS FALSE NEIGHBOUR: 'it returns false'. Refute it at one input. -/
def fnExactAddVotesWrong : ChangeSpec := { name := "fnExactAddVotes", fn := fun _ => fun
  | [d] => { results := [.lit (.bool false)], args := [d] }
  | _ => none }
def FnExactAddVotesWrongFalsely : Prop := fnExactAddVotesRow.holds Try.pinned (OpenSpec.ofChange fnExactAddVotesWrong)

/-- 'laws.FnExactOpenPart': WHATEVER THE INPUT: true; the input reads as it did. -/
def fnExactOpenPartSpec : ChangeSpec := { name := "fnExactOpenPart", fn := fun _ => fun
  | [d1, d2] => { results := [.lit (.bool true)], args := [d1, d2] }
  | _ => none }
def fnExactOpenPartRow : OpenClaim := { program := "ytobomcmjilcnaaa", sum := "5edf98edf9711e9895e57edaeead75461f9a50b480ab755df5657b31c61ddf40", func := "loop.example/g00549/laws.FnExactOpenPart", spec := "fnExactOpenPart", apart := false }
def FnExactOpenPartSaid : Prop := fnExactOpenPartRow.holds Try.pinned (OpenSpec.ofChange fnExactOpenPartSpec)

/-- ITS FALSE NEIGHBOUR: 'it returns false'. Refute it at one input. -/
def fnExactOpenPartWrong : ChangeSpec := { name := "fnExactOpenPart", fn := fun _ => fun
  | [d1, d2] => { results := [.lit (.bool false)], args := [d1, d2] }
  | _ => none }
def FnExactOpenPartWrongFalsely : Prop := fnExactOpenPartRow.holds Try.pinned (OpenSpec.ofChange fnExactOpenPartWrong)

/-- 'laws.FnExactOpenSum': WHATEVER THE INPUT: true; the input reads as it did. -/
def fnExactOpenSumSpec : ChangeSpec := { name := "fnExactOpenSum", fn := fun _ => fun
  | [d1, d2, d3] => { results := [.lit (.bool true)], args := [d1, d2, d3] }
  | _ => none }
def fnExactOpenSumRow : OpenClaim := { program := "ytobomcmjilcnaaa", sum := "5edf98edf9711e9895e57edaeead75461f9a50b480ab755df5657b31c61ddf40", func := "loop.example/g00549/laws.FnExactOpenSum", spec := "fnExactOpenSum", unfollowed := true, recurses := true, apart := false }
def FnExactOpenSumSaid : Prop := fnExactOpenSumRow.holds Try.pinned (OpenSpec.ofChange fnExactOpenSumSpec)

/-- ITS FALSE NEIGHBOUR: 'it returns false'. Refute it at one input. -/
def fnExactOpenSumWrong : ChangeSpec := { name := "fnExactOpenSum", fn := fun _ => fun
  | [d1, d2, d3] => { results := [.lit (.bool false)], args := [d1, d2, d3] }
  | _ => none }
def FnExactOpenSumWrongFalsely : Prop := fnExactOpenSumRow.holds Try.pinned (OpenSpec.ofChange fnExactOpenSumWrong)

/-- 'laws.FnExactLogOf': WHATEVER THE INPUT: true; the input reads as it did. -/
def fnExactLogOfSpec : ChangeSpec := { name := "fnExactLogOf", fn := fun _ => fun
  | [d1, d2] => { results := [.lit (.bool true)], args := [d1, d2] }
  | _ => none }
def fnExactLogOfRow : OpenClaim := { program := "ytobomcmjilcnaaa", sum := "5edf98edf9711e9895e57edaeead75461f9a50b480ab755df5657b31c61ddf40", func := "loop.example/g00549/laws.FnExactLogOf", spec := "fnExactLogOf", apart := false }
def FnExactLogOfSaid : Prop := fnExactLogOfRow.holds Try.pinned (OpenSpec.ofChange fnExactLogOfSpec)

/-- ITS FALSE NEIGHBOUR: 'it returns false'. Refute it at one input. -/
def fnExactLogOfWrong : ChangeSpec := { name := "fnExactLogOf", fn := fun _ => fun
  | [d1, d2] => { results := [.lit (.bool false)], args := [d1, d2] }
  | _ => none }
def FnExactLogOfWrongFalsely : Prop := fnExactLogOfRow.holds Try.pinned (OpenSpec.ofChange fnExactLogOfWrong)

/-- 'laws.FnExactOpenAll': WHATEVER THE INPUT: true; the input reads as it did. -/
def fnExactOpenAllSpec : ChangeSpec := { name := "fnExactOpenAll", fn := fun _ => fun
  | [d1, d2] => { results := [.lit (.bool true)], args := [d1, d2] }
  | _ => none }
def fnExactOpenAllRow : OpenClaim := { program := "ytobomcmjilcnaaa", sum := "5edf98edf9711e9895e57edaeead75461f9a50b480ab755df5657b31c61ddf40", func := "loop.example/g00549/laws.FnExactOpenAll", spec := "fnExactOpenAll", unfollowed := true, recurses := true, apart := false }
def FnExactOpenAllSaid : Prop := fnExactOpenAllRow.holds Try.pinned (OpenSpec.ofChange fnExactOpenAllSpec)

/-- ITS FALSE NEIGHBOUR: 'it returns false'. Refute it at one input. -/
def fnExactOpenAllWrong : ChangeSpec := { name := "fnExactOpenAll", fn := fun _ => fun
  | [d1, d2] => { results := [.lit (.bool false)], args := [d1, d2] }
  | _ => none }
def FnExactOpenAllWrongFalsely : Prop := fnExactOpenAllRow.holds Try.pinned (OpenSpec.ofChange fnExactOpenAllWrong)

/- THE SECOND FORM. 'bulk': how many values and letters a reading holds, each counted each time it is reached (what is shared counts as often as it is met; a slice's spare places count too). A statement '..UptoSaid' is the law's where the arguments, and the package variables that the reading takes, are together of bulk at most 1048576: NARROWER than '..Said'. Prove '..Said' where nothing that the law and all that it calls make is longer than what came in: it says more and counts as full. Else prove '..UptoSaid'. A law counts once. -/
mutual
def uptoBulk {H : Type} : DataW H → Nat
  | .lit (.string bytes) => bytes.length + 1
  | .lit _ => 1
  | .nil => 1
  | .ptr d => uptoBulk d + 1
  | .slice elems spare => uptoBulkAll elems + uptoBulkAll spare + 1
  | .agg parts => uptoBulkAll parts + 1
  | .iface _ d => uptoBulk d + 1
  | .map entries => uptoBulkEntries entries + 1
  | .held _ => 1
def uptoBulkAll {H : Type} : List (DataW H) → Nat
  | [] => 0
  | d :: r => uptoBulk d + uptoBulkAll r
def uptoBulkEntries {H : Type} : List (Lit × DataW H) → Nat
  | [] => 0
  | x :: r => uptoBulkEntry x + uptoBulkEntries r
def uptoBulkEntry {H : Type} : Lit × DataW H → Nat
  | (.string bytes, d) => bytes.length + uptoBulk d + 1
  | (_, d) => uptoBulk d + 1
 end
def uptoSmall : (H : Type) → List (DataW H) → Bool := fun _ ds => decide (uptoBulkAll ds ≤ 1048576)
def OpenSpec.upto (s : _root_.Go.ChangeSpec) : _root_.Go.OpenSpec := { _root_.Go.OpenSpec.ofChange s with cond := some uptoSmall }

/-- 'laws.FnOpened', WHERE WHAT IT READS IS OF BULK AT MOST 1048576: true; the input reads as it did. -/
def fnOpenedUptoRow : OpenClaim := { program := "ytobomcmjilcnaaa", sum := "5edf98edf9711e9895e57edaeead75461f9a50b480ab755df5657b31c61ddf40", func := "loop.example/g00549/laws.FnOpened", spec := "fnOpened", unfollowed := true, recurses := true, apart := false, narrowed := true }
def FnOpenedUptoSaid : Prop := fnOpenedUptoRow.holds Try.pinned (OpenSpec.upto fnOpenedSpec)

/-- 'laws.FnExactAddVotes', WHERE WHAT IT READS IS OF BULK AT MOST 1048576: true; the input reads as it did. -/
def fnExactAddVotesUptoRow : OpenClaim := { program := "ytobomcmjilcnaaa", sum := "5edf98edf9711e9895e57edaeead75461f9a50b480ab755df5657b31c61ddf40", func := "loop.example/g00549/laws.FnExactAddVotes", spec := "fnExactAddVotes", unfollowed := true, recurses := true, apart := false, narrowed := true }
def FnExactAddVotesUptoSaid : Prop := fnExactAddVotesUptoRow.holds Try.pinned (OpenSpec.upto fnExactAddVotesSpec)

/-- 'laws.FnExactOpenPart', WHERE WHAT IT READS IS OF BULK AT MOST 1048576: true; the input reads as it did. -/
def fnExactOpenPartUptoRow : OpenClaim := { program := "ytobomcmjilcnaaa", sum := "5edf98edf9711e9895e57edaeead75461f9a50b480ab755df5657b31c61ddf40", func := "loop.example/g00549/laws.FnExactOpenPart", spec := "fnExactOpenPart", apart := false, narrowed := true }
def FnExactOpenPartUptoSaid : Prop := fnExactOpenPartUptoRow.holds Try.pinned (OpenSpec.upto fnExactOpenPartSpec)

/-- 'laws.FnExactOpenSum', WHERE WHAT IT READS IS OF BULK AT MOST 1048576: true; the input reads as it did. -/
def fnExactOpenSumUptoRow : OpenClaim := { program := "ytobomcmjilcnaaa", sum := "5edf98edf9711e9895e57edaeead75461f9a50b480ab755df5657b31c61ddf40", func := "loop.example/g00549/laws.FnExactOpenSum", spec := "fnExactOpenSum", unfollowed := true, recurses := true, apart := false, narrowed := true }
def FnExactOpenSumUptoSaid : Prop := fnExactOpenSumUptoRow.holds Try.pinned (OpenSpec.upto fnExactOpenSumSpec)

/-- 'laws.FnExactLogOf', WHERE WHAT IT READS IS OF BULK AT MOST 1048576: true; the input reads as it did. -/
def fnExactLogOfUptoRow : OpenClaim := { program := "ytobomcmjilcnaaa", sum := "5edf98edf9711e9895e57edaeead75461f9a50b480ab755df5657b31c61ddf40", func := "loop.example/g00549/laws.FnExactLogOf", spec := "fnExactLogOf", apart := false, narrowed := true }
def FnExactLogOfUptoSaid : Prop := fnExactLogOfUptoRow.holds Try.pinned (OpenSpec.upto fnExactLogOfSpec)

/-- 'laws.FnExactOpenAll', WHERE WHAT IT READS IS OF BULK AT MOST 1048576: true; the input reads as it did. -/
def fnExactOpenAllUptoRow : OpenClaim := { program := "ytobomcmjilcnaaa", sum := "5edf98edf9711e9895e57edaeead75461f9a50b480ab755df5657b31c61ddf40", func := "loop.example/g00549/laws.FnExactOpenAll", spec := "fnExactOpenAll", unfollowed := true, recurses := true, apart := false, narrowed := true }
def FnExactOpenAllUptoSaid : Prop := fnExactOpenAllUptoRow.holds Try.pinned (OpenSpec.upto fnExactOpenAllSpec)

end Rows
end Go.Proofs.Ytobomcmjilcnaaa

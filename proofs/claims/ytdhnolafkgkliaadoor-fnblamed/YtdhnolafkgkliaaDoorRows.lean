/-
  NARROWER THAN 'FOR EVERY INPUT', by the rows' own cells (each row's printed sentence says how): FnBlamed: laid · FnReceipts: laid · FnExactCheckReceipt: laid · FnExactBlameOf: laid · FnExactPublicsOf: laid · FnExactWholeTrip: laid.
  DERIVED. THE GIVEN ROWS OF THIS SEAT. 6 by the template 'for every input the law returns true; each argument reads behind the call as it read before'; 0 by the template 'total and deterministic' (their statements: YtdhnolafkgkliaaDoorTotals.lean).
  GIVEN WITH THE SEED: the statements are not yours to turn. If you find one false, say at which input.
  Laid BY PROGRAM, IN A SANDBOX (cutbox-rows.mjs): the forced cells as the released guide's own fill.sh prints them over the translation 7403a12def13e860… (all of the seat's roots in one cut). By AI agents, Wed Nov 11 2026. No macro, syntax, notation, axiom, sorry.
-/
import Derived.Test.YtdhnolafkgkliaaDoorChecked
import GoSem.Claim
import GoSem.ClaimJoined
import GoSem.ClaimMapViews
import Derived.JoinedTies
import Derived.KernelRfl
namespace Go.Proofs.YtdhnolafkgkliaaDoor
/- THE CELL 'sum', in the pinned program and in every row, IS THE sha256 OF THE DUMP (.gsa) THAT YtdhnolafkgkliaaDoorProg.lean LOADS. Nothing in Lean hashes anything: it is a label: what it is worth is what the hold of that sum in a sandbox is worth. -/
noncomputable def Tryd.pinned : Pinned := { name := "ytdhnolafkgkliaadoor", sum := "7403a12def13e86014d5946267d5bbcead4ad57d6910a01abd86e5fc403c36f7", checked := Tryd.checked }
namespace Rows
def none {H : Type} : Left H := { results := [], args := [] }

/- WHAT THE LISTED PACKAGE-LEVEL VARIABLES READ AS WHEN THE CALL BEGINS. Each datum BY PROGRAM (the guide's laid-datum.mjs) off the statement by which the dump's own 'gosem.cut.vars' lays the variable. In a bare row this is a premise. The card (YtdhnolafkgkliaaDoorCards.lean) ties it to the program's text. -/
def laid_loop_example_g00549_impl_rootSquares {H : Type} : DataW H := .agg [.lit (.int .i64 4), .lit (.int .i64 16), .lit (.int .i64 256), .lit (.int .i64 2557), .lit (.int .i64 429), .lit (.int .i64 1102), .lit (.int .i64 2808), .lit (.int .i64 493), .lit (.int .i64 130), .lit (.int .i64 1905), .lit (.int .i64 235)]

/-- 'laws.FnBlamed': WHATEVER THE INPUT: true; the input reads as it did. -/
def fnBlamedSpec : ChangeSpec := { name := "fnBlamed", vars := ["loop.example/g00549/impl.rootSquares"], fn := fun _ => fun
  | [d1, d2, g1] => { results := [.lit (.bool true)], args := [d1, d2], vars := [g1] }
  | _ => none }
def fnBlamedRow : OpenClaim := { program := "ytdhnolafkgkliaadoor", sum := "7403a12def13e86014d5946267d5bbcead4ad57d6910a01abd86e5fc403c36f7", func := "loop.example/g00549/laws.FnBlamed", spec := "fnBlamed", unfollowed := true, recurses := true, named := ["loop.example/g00549/impl.rootSquares"], apart := false, laid := [("loop.example/g00549/impl.rootSquares", laid_loop_example_g00549_impl_rootSquares)] }
def FnBlamedSaid : Prop := fnBlamedRow.holds Tryd.pinned (OpenSpec.ofChange fnBlamedSpec)

/-- ITS FALSE NEIGHBOUR: 'it returns false'. Refute it at one input. -/
def fnBlamedWrong : ChangeSpec := { name := "fnBlamed", vars := ["loop.example/g00549/impl.rootSquares"], fn := fun _ => fun
  | [d1, d2, g1] => { results := [.lit (.bool false)], args := [d1, d2], vars := [g1] }
  | _ => none }
def FnBlamedWrongFalsely : Prop := fnBlamedRow.holds Tryd.pinned (OpenSpec.ofChange fnBlamedWrong)

/-- 'laws.FnReceipts': WHATEVER THE INPUT: true; the input reads as it did. -/
def fnReceiptsSpec : ChangeSpec := { name := "fnReceipts", vars := ["loop.example/g00549/impl.rootSquares"], fn := fun _ => fun
  | [d1, d2, g1] => { results := [.lit (.bool true)], args := [d1, d2], vars := [g1] }
  | _ => none }
def fnReceiptsRow : OpenClaim := { program := "ytdhnolafkgkliaadoor", sum := "7403a12def13e86014d5946267d5bbcead4ad57d6910a01abd86e5fc403c36f7", func := "loop.example/g00549/laws.FnReceipts", spec := "fnReceipts", named := ["loop.example/g00549/impl.rootSquares"], apart := false, laid := [("loop.example/g00549/impl.rootSquares", laid_loop_example_g00549_impl_rootSquares)] }
def FnReceiptsSaid : Prop := fnReceiptsRow.holds Tryd.pinned (OpenSpec.ofChange fnReceiptsSpec)

/-- ITS FALSE NEIGHBOUR: 'it returns false'. Refute it at one input. -/
def fnReceiptsWrong : ChangeSpec := { name := "fnReceipts", vars := ["loop.example/g00549/impl.rootSquares"], fn := fun _ => fun
  | [d1, d2, g1] => { results := [.lit (.bool false)], args := [d1, d2], vars := [g1] }
  | _ => none }
def FnReceiptsWrongFalsely : Prop := fnReceiptsRow.holds Tryd.pinned (OpenSpec.ofChange fnReceiptsWrong)

/-- 'laws.FnExactCheckReceipt': WHATEVER THE INPUT: true; the input reads as it did. -/
def fnExactCheckReceiptSpec : ChangeSpec := { name := "fnExactCheckReceipt", vars := ["loop.example/g00549/impl.rootSquares"], fn := fun _ => fun
  | [d1, d2, g1] => { results := [.lit (.bool true)], args := [d1, d2], vars := [g1] }
  | _ => none }
def fnExactCheckReceiptRow : OpenClaim := { program := "ytdhnolafkgkliaadoor", sum := "7403a12def13e86014d5946267d5bbcead4ad57d6910a01abd86e5fc403c36f7", func := "loop.example/g00549/laws.FnExactCheckReceipt", spec := "fnExactCheckReceipt", named := ["loop.example/g00549/impl.rootSquares"], apart := false, laid := [("loop.example/g00549/impl.rootSquares", laid_loop_example_g00549_impl_rootSquares)] }
def FnExactCheckReceiptSaid : Prop := fnExactCheckReceiptRow.holds Tryd.pinned (OpenSpec.ofChange fnExactCheckReceiptSpec)

/-- ITS FALSE NEIGHBOUR: 'it returns false'. Refute it at one input. -/
def fnExactCheckReceiptWrong : ChangeSpec := { name := "fnExactCheckReceipt", vars := ["loop.example/g00549/impl.rootSquares"], fn := fun _ => fun
  | [d1, d2, g1] => { results := [.lit (.bool false)], args := [d1, d2], vars := [g1] }
  | _ => none }
def FnExactCheckReceiptWrongFalsely : Prop := fnExactCheckReceiptRow.holds Tryd.pinned (OpenSpec.ofChange fnExactCheckReceiptWrong)

/-- 'laws.FnExactBlameOf': WHATEVER THE INPUT: true; the input reads as it did. -/
def fnExactBlameOfSpec : ChangeSpec := { name := "fnExactBlameOf", vars := ["loop.example/g00549/impl.rootSquares"], fn := fun _ => fun
  | [d1, d2, d3, g1] => { results := [.lit (.bool true)], args := [d1, d2, d3], vars := [g1] }
  | _ => none }
def fnExactBlameOfRow : OpenClaim := { program := "ytdhnolafkgkliaadoor", sum := "7403a12def13e86014d5946267d5bbcead4ad57d6910a01abd86e5fc403c36f7", func := "loop.example/g00549/laws.FnExactBlameOf", spec := "fnExactBlameOf", unfollowed := true, recurses := true, named := ["loop.example/g00549/impl.rootSquares"], apart := false, laid := [("loop.example/g00549/impl.rootSquares", laid_loop_example_g00549_impl_rootSquares)] }
def FnExactBlameOfSaid : Prop := fnExactBlameOfRow.holds Tryd.pinned (OpenSpec.ofChange fnExactBlameOfSpec)

/-- ITS FALSE NEIGHBOUR: 'it returns false'. Refute it at one input. -/
def fnExactBlameOfWrong : ChangeSpec := { name := "fnExactBlameOf", vars := ["loop.example/g00549/impl.rootSquares"], fn := fun _ => fun
  | [d1, d2, d3, g1] => { results := [.lit (.bool false)], args := [d1, d2, d3], vars := [g1] }
  | _ => none }
def FnExactBlameOfWrongFalsely : Prop := fnExactBlameOfRow.holds Tryd.pinned (OpenSpec.ofChange fnExactBlameOfWrong)

/-- 'laws.FnExactPublicsOf': WHATEVER THE INPUT: true; the input reads as it did. -/
def fnExactPublicsOfSpec : ChangeSpec := { name := "fnExactPublicsOf", vars := ["loop.example/g00549/impl.rootSquares"], fn := fun _ => fun
  | [d, g1] => { results := [.lit (.bool true)], args := [d], vars := [g1] }
  | _ => none }
def fnExactPublicsOfRow : OpenClaim := { program := "ytdhnolafkgkliaadoor", sum := "7403a12def13e86014d5946267d5bbcead4ad57d6910a01abd86e5fc403c36f7", func := "loop.example/g00549/laws.FnExactPublicsOf", spec := "fnExactPublicsOf", unfollowed := true, recurses := true, named := ["loop.example/g00549/impl.rootSquares"], apart := false, laid := [("loop.example/g00549/impl.rootSquares", laid_loop_example_g00549_impl_rootSquares)] }
def FnExactPublicsOfSaid : Prop := fnExactPublicsOfRow.holds Tryd.pinned (OpenSpec.ofChange fnExactPublicsOfSpec)

/-- ITS FALSE NEIGHBOUR: 'it returns false'. Refute it at one input. -/
def fnExactPublicsOfWrong : ChangeSpec := { name := "fnExactPublicsOf", vars := ["loop.example/g00549/impl.rootSquares"], fn := fun _ => fun
  | [d, g1] => { results := [.lit (.bool false)], args := [d], vars := [g1] }
  | _ => none }
def FnExactPublicsOfWrongFalsely : Prop := fnExactPublicsOfRow.holds Tryd.pinned (OpenSpec.ofChange fnExactPublicsOfWrong)

/-- 'laws.FnExactWholeTrip': WHATEVER THE INPUT: true; the input reads as it did. -/
def fnExactWholeTripSpec : ChangeSpec := { name := "fnExactWholeTrip", vars := ["loop.example/g00549/impl.rootSquares"], fn := fun _ => fun
  | [d1, d2, d3, g1] => { results := [.lit (.bool true)], args := [d1, d2, d3], vars := [g1] }
  | _ => none }
def fnExactWholeTripRow : OpenClaim := { program := "ytdhnolafkgkliaadoor", sum := "7403a12def13e86014d5946267d5bbcead4ad57d6910a01abd86e5fc403c36f7", func := "loop.example/g00549/laws.FnExactWholeTrip", spec := "fnExactWholeTrip", unfollowed := true, recurses := true, named := ["loop.example/g00549/impl.rootSquares"], apart := false, laid := [("loop.example/g00549/impl.rootSquares", laid_loop_example_g00549_impl_rootSquares)] }
def FnExactWholeTripSaid : Prop := fnExactWholeTripRow.holds Tryd.pinned (OpenSpec.ofChange fnExactWholeTripSpec)

/-- ITS FALSE NEIGHBOUR: 'it returns false'. Refute it at one input. -/
def fnExactWholeTripWrong : ChangeSpec := { name := "fnExactWholeTrip", vars := ["loop.example/g00549/impl.rootSquares"], fn := fun _ => fun
  | [d1, d2, d3, g1] => { results := [.lit (.bool false)], args := [d1, d2, d3], vars := [g1] }
  | _ => none }
def FnExactWholeTripWrongFalsely : Prop := fnExactWholeTripRow.holds Tryd.pinned (OpenSpec.ofChange fnExactWholeTripWrong)

/- THE SECOND FORM. 'bulk': how many values and letters a reading holds, each counted each time it is reached (what is shared counts as often as it is met; a slice's spare places count too). A statement '..UptoSaid' is the law's where the arguments, and the package variables that the reading takes, are together of bulk at most 1048576: NARROWER than '..Said'. Prove '..Said' where nothing that the law and all that it calls make is longer than what came in: it says more and counts as full. Else prove '..UptoSaid'. A law counts once. -/
mutual
def uptoBulk {H : Type} : DataW H → Nat
  | .lit (.string bytes) => bytes.length + 1
  | .lit _ => 1
  | .nil => 1
  | .ptr d => uptoBulk d + 1
  | .slice elems spare => uptoBulkAll elems + uptoBulkAll spare + 1
  | .agg parts => uptoBulkAll parts + 1
  | .iface _ d => uptoBulk d + 1
  | .map entries => uptoBulkEntries entries + 1
  | .held _ => 1
def uptoBulkAll {H : Type} : List (DataW H) → Nat
  | [] => 0
  | d :: r => uptoBulk d + uptoBulkAll r
def uptoBulkEntries {H : Type} : List (Lit × DataW H) → Nat
  | [] => 0
  | x :: r => uptoBulkEntry x + uptoBulkEntries r
def uptoBulkEntry {H : Type} : Lit × DataW H → Nat
  | (.string bytes, d) => bytes.length + uptoBulk d + 1
  | (_, d) => uptoBulk d + 1
 end
def uptoSmall : (H : Type) → List (DataW H) → Bool := fun _ ds => decide (uptoBulkAll ds ≤ 1048576)
def OpenSpec.upto (s : _root_.Go.ChangeSpec) : _root_.Go.OpenSpec := { _root_.Go.OpenSpec.ofChange s with cond := some uptoSmall }

/-- 'laws.FnBlamed', WHERE WHAT IT READS IS OF BULK AT MOST 1048576: true; the input reads as it did. -/
def fnBlamedUptoRow : OpenClaim := { program := "ytdhnolafkgkliaadoor", sum := "7403a12def13e86014d5946267d5bbcead4ad57d6910a01abd86e5fc403c36f7", func := "loop.example/g00549/laws.FnBlamed", spec := "fnBlamed", unfollowed := true, recurses := true, named := ["loop.example/g00549/impl.rootSquares"], apart := false, laid := [("loop.example/g00549/impl.rootSquares", laid_loop_example_g00549_impl_rootSquares)], narrowed := true }
def FnBlamedUptoSaid : Prop := fnBlamedUptoRow.holds Tryd.pinned (OpenSpec.upto fnBlamedSpec)

/-- 'laws.FnReceipts', WHERE WHAT IT READS IS OF BULK AT MOST 1048576: true; the input reads as it did. -/
def fnReceiptsUptoRow : OpenClaim := { program := "ytdhnolafkgkliaadoor", sum := "7403a12def13e86014d5946267d5bbcead4ad57d6910a01abd86e5fc403c36f7", func := "loop.example/g00549/laws.FnReceipts", spec := "fnReceipts", named := ["loop.example/g00549/impl.rootSquares"], apart := false, laid := [("loop.example/g00549/impl.rootSquares", laid_loop_example_g00549_impl_rootSquares)], narrowed := true }
def FnReceiptsUptoSaid : Prop := fnReceiptsUptoRow.holds Tryd.pinned (OpenSpec.upto fnReceiptsSpec)

/-- 'laws.FnExactCheckReceipt', WHERE WHAT IT READS IS OF BULK AT MOST 1048576: true; the input reads as it did. -/
def fnExactCheckReceiptUptoRow : OpenClaim := { program := "ytdhnolafkgkliaadoor", sum := "7403a12def13e86014d5946267d5bbcead4ad57d6910a01abd86e5fc403c36f7", func := "loop.example/g00549/laws.FnExactCheckReceipt", spec := "fnExactCheckReceipt", named := ["loop.example/g00549/impl.rootSquares"], apart := false, laid := [("loop.example/g00549/impl.rootSquares", laid_loop_example_g00549_impl_rootSquares)], narrowed := true }
def FnExactCheckReceiptUptoSaid : Prop := fnExactCheckReceiptUptoRow.holds Tryd.pinned (OpenSpec.upto fnExactCheckReceiptSpec)

/-- 'laws.FnExactBlameOf', WHERE WHAT IT READS IS OF BULK AT MOST 1048576: true; the input reads as it did. -/
def fnExactBlameOfUptoRow : OpenClaim := { program := "ytdhnolafkgkliaadoor", sum := "7403a12def13e86014d5946267d5bbcead4ad57d6910a01abd86e5fc403c36f7", func := "loop.example/g00549/laws.FnExactBlameOf", spec := "fnExactBlameOf", unfollowed := true, recurses := true, named := ["loop.example/g00549/impl.rootSquares"], apart := false, laid := [("loop.example/g00549/impl.rootSquares", laid_loop_example_g00549_impl_rootSquares)], narrowed := true }
def FnExactBlameOfUptoSaid : Prop := fnExactBlameOfUptoRow.holds Tryd.pinned (OpenSpec.upto fnExactBlameOfSpec)

/-- 'laws.FnExactPublicsOf', WHERE WHAT IT READS IS OF BULK AT MOST 1048576: true; the input reads as it did. -/
def fnExactPublicsOfUptoRow : OpenClaim := { program := "ytdhnolafkgkliaadoor", sum := "7403a12def13e86014d5946267d5bbcead4ad57d6910a01abd86e5fc403c36f7", func := "loop.example/g00549/laws.FnExactPublicsOf", spec := "fnExactPublicsOf", unfollowed := true, recurses := true, named := ["loop.example/g00549/impl.rootSquares"], apart := false, laid := [("loop.example/g00549/impl.rootSquares", laid_loop_example_g00549_impl_rootSquares)], narrowed := true }
def FnExactPublicsOfUptoSaid : Prop := fnExactPublicsOfUptoRow.holds Tryd.pinned (OpenSpec.upto fnExactPublicsOfSpec)

/-- 'laws.FnExactWholeTrip', WHERE WHAT IT READS IS OF BULK AT MOST 1048576: true; the input reads as it did. -/
def fnExactWholeTripUptoRow : OpenClaim := { program := "ytdhnolafkgkliaadoor", sum := "7403a12def13e86014d5946267d5bbcead4ad57d6910a01abd86e5fc403c36f7", func := "loop.example/g00549/laws.FnExactWholeTrip", spec := "fnExactWholeTrip", unfollowed := true, recurses := true, named := ["loop.example/g00549/impl.rootSquares"], apart := false, laid := [("loop.example/g00549/impl.rootSquares", laid_loop_example_g00549_impl_rootSquares)], narrowed := true }
def FnExactWholeTripUptoSaid : Prop := fnExactWholeTripUptoRow.holds Tryd.pinned (OpenSpec.upto fnExactWholeTripSpec)

end Rows
end Go.Proofs.YtdhnolafkgkliaaDoor

/-
  DERIVED. GIVEN WITH THE SEED: THE CARDS: each row of YtdhnolafkgkliaaDoorRows.lean that lists a variable, with what it lists TIED to the program's text (the seventh form; the later family's looks); each row that meets fmt, with fmt's text TOLD by the authors' own Lean function (tested against real Go, not proved from fmt's source: count such statements apart). THE CARD IS WHAT COUNTS. Prove the row's statement (the work); the ties are given (YtdhnolafkgkliaaDoorTie.lean); close each card by the builder's one call (the guide's Derived/Test/ToyasCard.lean, 'card_holds'). Laid BY PROGRAM, IN A SANDBOX (cutbox-door.mjs). By AI agents, Wed Nov 11 2026. No macro, syntax, notation, axiom, sorry.
-/
import Derived.Test.YtdhnolafkgkliaaDoorRows
import GoSem.ClaimSeven
namespace Go.Proofs.YtdhnolafkgkliaaDoor
namespace Rows

/-- THE TIED CARD OF 'laws.FnBlamed'. -/
def fnBlamedCard : Claim7 := { stood := { row := fnBlamedRow, standIns := [], harness := (true, "30b251aed4c49ff6b358847564cd7f4cd44920980309ec9f1c9326c3f05e26f8"), looks := false }, kinds := [], alts := [], laidByText := true, laidKinds := [.data], laidTests := true, laidLooks := .later }
def FnBlamedCardSaid : Prop := Claim7.holds Tryd.pinned (.plain (OpenSpec.ofChange fnBlamedSpec)) fnBlamedCard

/-- THE TIED CARD OF 'laws.FnReceipts'. -/
def fnReceiptsCard : Claim7 := { stood := { row := fnReceiptsRow, standIns := [], harness := (true, "30b251aed4c49ff6b358847564cd7f4cd44920980309ec9f1c9326c3f05e26f8"), looks := false }, kinds := [], alts := [], laidByText := true, laidKinds := [.data], laidTests := true, laidLooks := .later }
def FnReceiptsCardSaid : Prop := Claim7.holds Tryd.pinned (.plain (OpenSpec.ofChange fnReceiptsSpec)) fnReceiptsCard

/-- THE TIED CARD OF 'laws.FnExactCheckReceipt'. -/
def fnExactCheckReceiptCard : Claim7 := { stood := { row := fnExactCheckReceiptRow, standIns := [], harness := (true, "30b251aed4c49ff6b358847564cd7f4cd44920980309ec9f1c9326c3f05e26f8"), looks := false }, kinds := [], alts := [], laidByText := true, laidKinds := [.data], laidTests := true, laidLooks := .later }
def FnExactCheckReceiptCardSaid : Prop := Claim7.holds Tryd.pinned (.plain (OpenSpec.ofChange fnExactCheckReceiptSpec)) fnExactCheckReceiptCard

/-- THE TIED CARD OF 'laws.FnExactBlameOf'. -/
def fnExactBlameOfCard : Claim7 := { stood := { row := fnExactBlameOfRow, standIns := [], harness := (true, "30b251aed4c49ff6b358847564cd7f4cd44920980309ec9f1c9326c3f05e26f8"), looks := false }, kinds := [], alts := [], laidByText := true, laidKinds := [.data], laidTests := true, laidLooks := .later }
def FnExactBlameOfCardSaid : Prop := Claim7.holds Tryd.pinned (.plain (OpenSpec.ofChange fnExactBlameOfSpec)) fnExactBlameOfCard

/-- THE TIED CARD OF 'laws.FnExactPublicsOf'. -/
def fnExactPublicsOfCard : Claim7 := { stood := { row := fnExactPublicsOfRow, standIns := [], harness := (true, "30b251aed4c49ff6b358847564cd7f4cd44920980309ec9f1c9326c3f05e26f8"), looks := false }, kinds := [], alts := [], laidByText := true, laidKinds := [.data], laidTests := true, laidLooks := .later }
def FnExactPublicsOfCardSaid : Prop := Claim7.holds Tryd.pinned (.plain (OpenSpec.ofChange fnExactPublicsOfSpec)) fnExactPublicsOfCard

/-- THE TIED CARD OF 'laws.FnExactWholeTrip'. -/
def fnExactWholeTripCard : Claim7 := { stood := { row := fnExactWholeTripRow, standIns := [], harness := (true, "30b251aed4c49ff6b358847564cd7f4cd44920980309ec9f1c9326c3f05e26f8"), looks := false }, kinds := [], alts := [], laidByText := true, laidKinds := [.data], laidTests := true, laidLooks := .later }
def FnExactWholeTripCardSaid : Prop := Claim7.holds Tryd.pinned (.plain (OpenSpec.ofChange fnExactWholeTripSpec)) fnExactWholeTripCard

/-- THE SECOND FORM's CARD OF 'laws.FnBlamed'. -/
def fnBlamedUptoCard : Claim7 := { stood := { row := fnBlamedUptoRow, standIns := [], harness := (true, "30b251aed4c49ff6b358847564cd7f4cd44920980309ec9f1c9326c3f05e26f8"), looks := false }, kinds := [], alts := [], laidByText := true, laidKinds := [.data], laidTests := true, laidLooks := .later }
def FnBlamedUptoCardSaid : Prop := Claim7.holds Tryd.pinned (.plain (OpenSpec.upto fnBlamedSpec)) fnBlamedUptoCard

/-- THE SECOND FORM's CARD OF 'laws.FnReceipts'. -/
def fnReceiptsUptoCard : Claim7 := { stood := { row := fnReceiptsUptoRow, standIns := [], harness := (true, "30b251aed4c49ff6b358847564cd7f4cd44920980309ec9f1c9326c3f05e26f8"), looks := false }, kinds := [], alts := [], laidByText := true, laidKinds := [.data], laidTests := true, laidLooks := .later }
def FnReceiptsUptoCardSaid : Prop := Claim7.holds Tryd.pinned (.plain (OpenSpec.upto fnReceiptsSpec)) fnReceiptsUptoCard

/-- THE SECOND FORM's CARD OF 'laws.FnExactCheckReceipt'. -/
def fnExactCheckReceiptUptoCard : Claim7 := { stood := { row := fnExactCheckReceiptUptoRow, standIns := [], harness := (true, "30b251aed4c49ff6b358847564cd7f4cd44920980309ec9f1c9326c3f05e26f8"), looks := false }, kinds := [], alts := [], laidByText := true, laidKinds := [.data], laidTests := true, laidLooks := .later }
def FnExactCheckReceiptUptoCardSaid : Prop := Claim7.holds Tryd.pinned (.plain (OpenSpec.upto fnExactCheckReceiptSpec)) fnExactCheckReceiptUptoCard

/-- THE SECOND FORM's CARD OF 'laws.FnExactBlameOf'. -/
def fnExactBlameOfUptoCard : Claim7 := { stood := { row := fnExactBlameOfUptoRow, standIns := [], harness := (true, "30b251aed4c49ff6b358847564cd7f4cd44920980309ec9f1c9326c3f05e26f8"), looks := false }, kinds := [], alts := [], laidByText := true, laidKinds := [.data], laidTests := true, laidLooks := .later }
def FnExactBlameOfUptoCardSaid : Prop := Claim7.holds Tryd.pinned (.plain (OpenSpec.upto fnExactBlameOfSpec)) fnExactBlameOfUptoCard

/-- THE SECOND FORM's CARD OF 'laws.FnExactPublicsOf'. -/
def fnExactPublicsOfUptoCard : Claim7 := { stood := { row := fnExactPublicsOfUptoRow, standIns := [], harness := (true, "30b251aed4c49ff6b358847564cd7f4cd44920980309ec9f1c9326c3f05e26f8"), looks := false }, kinds := [], alts := [], laidByText := true, laidKinds := [.data], laidTests := true, laidLooks := .later }
def FnExactPublicsOfUptoCardSaid : Prop := Claim7.holds Tryd.pinned (.plain (OpenSpec.upto fnExactPublicsOfSpec)) fnExactPublicsOfUptoCard

/-- THE SECOND FORM's CARD OF 'laws.FnExactWholeTrip'. -/
def fnExactWholeTripUptoCard : Claim7 := { stood := { row := fnExactWholeTripUptoRow, standIns := [], harness := (true, "30b251aed4c49ff6b358847564cd7f4cd44920980309ec9f1c9326c3f05e26f8"), looks := false }, kinds := [], alts := [], laidByText := true, laidKinds := [.data], laidTests := true, laidLooks := .later }
def FnExactWholeTripUptoCardSaid : Prop := Claim7.holds Tryd.pinned (.plain (OpenSpec.upto fnExactWholeTripSpec)) fnExactWholeTripUptoCard
end Rows
end Go.Proofs.YtdhnolafkgkliaaDoor

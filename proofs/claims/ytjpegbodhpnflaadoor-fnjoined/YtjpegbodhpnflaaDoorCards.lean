/-
  DERIVED. GIVEN WITH THE SEED: THE CARDS: each row of YtjpegbodhpnflaaDoorRows.lean that lists a variable, with what it lists TIED to the program's text (the seventh form; the later family's looks); each row that meets fmt, with fmt's text TOLD by the authors' own Lean function (tested against real Go, not proved from fmt's source: count such statements apart). THE CARD IS WHAT COUNTS. Prove the row's statement (the work); the ties are given (YtjpegbodhpnflaaDoorTie.lean); close each card by the builder's one call (the guide's Derived/Test/ToyasCard.lean, 'card_holds'). Laid BY PROGRAM, IN A SANDBOX (cutbox-door.mjs). By AI agents, Wed Nov 11 2026. No macro, syntax, notation, axiom, sorry.
-/
import Derived.Test.YtjpegbodhpnflaaDoorRows
import GoSem.ClaimSeven
namespace Go.Proofs.YtjpegbodhpnflaaDoor
namespace Rows

/-- THE TIED CARD OF 'laws.FnTakenOnce'. -/
def fnTakenOnceCard : Claim7 := { stood := { row := fnTakenOnceRow, standIns := [], harness := (true, "ea061580dd72f1b99f0f507267e610c043d805c71adf81beca19375e9be655a1"), looks := false }, kinds := [], alts := [], laidByText := true, laidKinds := [.data, .data, .data], laidTests := true, laidLooks := .later }
def FnTakenOnceCardSaid : Prop := Claim7.holds Tryd.pinned (.plain (OpenSpec.ofChange fnTakenOnceSpec)) fnTakenOnceCard

/-- THE TIED CARD OF 'laws.FnJoined'. -/
def fnJoinedCard : Claim7 := { stood := { row := fnJoinedRow, standIns := [], harness := (true, "ea061580dd72f1b99f0f507267e610c043d805c71adf81beca19375e9be655a1"), looks := false }, kinds := [], alts := [], laidByText := true, laidKinds := [.data, .data, .data], laidTests := true, laidLooks := .later }
def FnJoinedCardSaid : Prop := Claim7.holds Tryd.pinned (.plain (OpenSpec.ofChange fnJoinedSpec)) fnJoinedCard

/-- THE TIED CARD OF 'laws.FnExactGoodWindow'. -/
def fnExactGoodWindowCard : Claim7 := { stood := { row := fnExactGoodWindowRow, standIns := [], harness := (true, "ea061580dd72f1b99f0f507267e610c043d805c71adf81beca19375e9be655a1"), looks := false }, kinds := [], alts := [], laidByText := true, laidKinds := [.data, .data, .data], laidTests := true, laidLooks := .later }
def FnExactGoodWindowCardSaid : Prop := Claim7.holds Tryd.pinned (.plain (OpenSpec.ofChange fnExactGoodWindowSpec)) fnExactGoodWindowCard

/-- THE TIED CARD OF 'laws.FnExactTakeNumber'. -/
def fnExactTakeNumberCard : Claim7 := { stood := { row := fnExactTakeNumberRow, standIns := [], harness := (true, "ea061580dd72f1b99f0f507267e610c043d805c71adf81beca19375e9be655a1"), looks := false }, kinds := [], alts := [], laidByText := true, laidKinds := [.data, .data, .data], laidTests := true, laidLooks := .later }
def FnExactTakeNumberCardSaid : Prop := Claim7.holds Tryd.pinned (.plain (OpenSpec.ofChange fnExactTakeNumberSpec)) fnExactTakeNumberCard

/-- THE TIED CARD OF 'laws.FnExactPlayNumbers'. -/
def fnExactPlayNumbersCard : Claim7 := { stood := { row := fnExactPlayNumbersRow, standIns := [], harness := (true, "ea061580dd72f1b99f0f507267e610c043d805c71adf81beca19375e9be655a1"), looks := false }, kinds := [], alts := [], laidByText := true, laidKinds := [.data, .data, .data], laidTests := true, laidLooks := .later }
def FnExactPlayNumbersCardSaid : Prop := Claim7.holds Tryd.pinned (.plain (OpenSpec.ofChange fnExactPlayNumbersSpec)) fnExactPlayNumbersCard

/-- THE TIED CARD OF 'laws.FnExactSeenIn'. -/
def fnExactSeenInCard : Claim7 := { stood := { row := fnExactSeenInRow, standIns := [], harness := (true, "ea061580dd72f1b99f0f507267e610c043d805c71adf81beca19375e9be655a1"), looks := false }, kinds := [], alts := [], laidByText := true, laidKinds := [.data, .data, .data], laidTests := true, laidLooks := .later }
def FnExactSeenInCardSaid : Prop := Claim7.holds Tryd.pinned (.plain (OpenSpec.ofChange fnExactSeenInSpec)) fnExactSeenInCard

/-- THE TIED CARD OF 'laws.FnExactLowestOf'. -/
def fnExactLowestOfCard : Claim7 := { stood := { row := fnExactLowestOfRow, standIns := [], harness := (true, "ea061580dd72f1b99f0f507267e610c043d805c71adf81beca19375e9be655a1"), looks := false }, kinds := [], alts := [], laidByText := true, laidKinds := [.data, .data, .data], laidTests := true, laidLooks := .later }
def FnExactLowestOfCardSaid : Prop := Claim7.holds Tryd.pinned (.plain (OpenSpec.ofChange fnExactLowestOfSpec)) fnExactLowestOfCard

/-- THE TIED CARD OF 'laws.FnExactJoinWindows'. -/
def fnExactJoinWindowsCard : Claim7 := { stood := { row := fnExactJoinWindowsRow, standIns := [], harness := (true, "ea061580dd72f1b99f0f507267e610c043d805c71adf81beca19375e9be655a1"), looks := false }, kinds := [], alts := [], laidByText := true, laidKinds := [.data, .data, .data], laidTests := true, laidLooks := .later }
def FnExactJoinWindowsCardSaid : Prop := Claim7.holds Tryd.pinned (.plain (OpenSpec.ofChange fnExactJoinWindowsSpec)) fnExactJoinWindowsCard

/-- THE SECOND FORM's CARD OF 'laws.FnTakenOnce'. -/
def fnTakenOnceUptoCard : Claim7 := { stood := { row := fnTakenOnceUptoRow, standIns := [], harness := (true, "ea061580dd72f1b99f0f507267e610c043d805c71adf81beca19375e9be655a1"), looks := false }, kinds := [], alts := [], laidByText := true, laidKinds := [.data, .data, .data], laidTests := true, laidLooks := .later }
def FnTakenOnceUptoCardSaid : Prop := Claim7.holds Tryd.pinned (.plain (OpenSpec.upto fnTakenOnceSpec)) fnTakenOnceUptoCard

/-- THE SECOND FORM's CARD OF 'laws.FnJoined'. -/
def fnJoinedUptoCard : Claim7 := { stood := { row := fnJoinedUptoRow, standIns := [], harness := (true, "ea061580dd72f1b99f0f507267e610c043d805c71adf81beca19375e9be655a1"), looks := false }, kinds := [], alts := [], laidByText := true, laidKinds := [.data, .data, .data], laidTests := true, laidLooks := .later }
def FnJoinedUptoCardSaid : Prop := Claim7.holds Tryd.pinned (.plain (OpenSpec.upto fnJoinedSpec)) fnJoinedUptoCard

/-- THE SECOND FORM's CARD OF 'laws.FnExactGoodWindow'. -/
def fnExactGoodWindowUptoCard : Claim7 := { stood := { row := fnExactGoodWindowUptoRow, standIns := [], harness := (true, "ea061580dd72f1b99f0f507267e610c043d805c71adf81beca19375e9be655a1"), looks := false }, kinds := [], alts := [], laidByText := true, laidKinds := [.data, .data, .data], laidTests := true, laidLooks := .later }
def FnExactGoodWindowUptoCardSaid : Prop := Claim7.holds Tryd.pinned (.plain (OpenSpec.upto fnExactGoodWindowSpec)) fnExactGoodWindowUptoCard

/-- THE SECOND FORM's CARD OF 'laws.FnExactTakeNumber'. -/
def fnExactTakeNumberUptoCard : Claim7 := { stood := { row := fnExactTakeNumberUptoRow, standIns := [], harness := (true, "ea061580dd72f1b99f0f507267e610c043d805c71adf81beca19375e9be655a1"), looks := false }, kinds := [], alts := [], laidByText := true, laidKinds := [.data, .data, .data], laidTests := true, laidLooks := .later }
def FnExactTakeNumberUptoCardSaid : Prop := Claim7.holds Tryd.pinned (.plain (OpenSpec.upto fnExactTakeNumberSpec)) fnExactTakeNumberUptoCard

/-- THE SECOND FORM's CARD OF 'laws.FnExactPlayNumbers'. -/
def fnExactPlayNumbersUptoCard : Claim7 := { stood := { row := fnExactPlayNumbersUptoRow, standIns := [], harness := (true, "ea061580dd72f1b99f0f507267e610c043d805c71adf81beca19375e9be655a1"), looks := false }, kinds := [], alts := [], laidByText := true, laidKinds := [.data, .data, .data], laidTests := true, laidLooks := .later }
def FnExactPlayNumbersUptoCardSaid : Prop := Claim7.holds Tryd.pinned (.plain (OpenSpec.upto fnExactPlayNumbersSpec)) fnExactPlayNumbersUptoCard

/-- THE SECOND FORM's CARD OF 'laws.FnExactSeenIn'. -/
def fnExactSeenInUptoCard : Claim7 := { stood := { row := fnExactSeenInUptoRow, standIns := [], harness := (true, "ea061580dd72f1b99f0f507267e610c043d805c71adf81beca19375e9be655a1"), looks := false }, kinds := [], alts := [], laidByText := true, laidKinds := [.data, .data, .data], laidTests := true, laidLooks := .later }
def FnExactSeenInUptoCardSaid : Prop := Claim7.holds Tryd.pinned (.plain (OpenSpec.upto fnExactSeenInSpec)) fnExactSeenInUptoCard

/-- THE SECOND FORM's CARD OF 'laws.FnExactLowestOf'. -/
def fnExactLowestOfUptoCard : Claim7 := { stood := { row := fnExactLowestOfUptoRow, standIns := [], harness := (true, "ea061580dd72f1b99f0f507267e610c043d805c71adf81beca19375e9be655a1"), looks := false }, kinds := [], alts := [], laidByText := true, laidKinds := [.data, .data, .data], laidTests := true, laidLooks := .later }
def FnExactLowestOfUptoCardSaid : Prop := Claim7.holds Tryd.pinned (.plain (OpenSpec.upto fnExactLowestOfSpec)) fnExactLowestOfUptoCard

/-- THE SECOND FORM's CARD OF 'laws.FnExactJoinWindows'. -/
def fnExactJoinWindowsUptoCard : Claim7 := { stood := { row := fnExactJoinWindowsUptoRow, standIns := [], harness := (true, "ea061580dd72f1b99f0f507267e610c043d805c71adf81beca19375e9be655a1"), looks := false }, kinds := [], alts := [], laidByText := true, laidKinds := [.data, .data, .data], laidTests := true, laidLooks := .later }
def FnExactJoinWindowsUptoCardSaid : Prop := Claim7.holds Tryd.pinned (.plain (OpenSpec.upto fnExactJoinWindowsSpec)) fnExactJoinWindowsUptoCard
end Rows
end Go.Proofs.YtjpegbodhpnflaaDoor

/-
  DERIVED. GIVEN WITH THE SEED: THE CARDS: each row of YtobomcmjilcnaaaDoorRows.lean that lists a variable, with what it lists TIED to the program's text (the seventh form; the later family's looks); each row that meets fmt, with fmt's text TOLD by the authors' own Lean function (tested against real Go, not proved from fmt's source: count such statements apart). THE CARD IS WHAT COUNTS. Prove the row's statement (the work); the ties are given (YtobomcmjilcnaaaDoorTie.lean); close each card by the builder's one call (the guide's Derived/Test/ToyasCard.lean, 'card_holds'). Laid BY PROGRAM, IN A SANDBOX (cutbox-door.mjs). By AI agents, Wed Nov 11 2026. No macro, syntax, notation, axiom, sorry.
-/
import Derived.Test.YtobomcmjilcnaaaDoorRows
import GoSem.ClaimSeven
namespace Go.Proofs.YtobomcmjilcnaaaDoor
namespace Rows

/-- THE TIED CARD OF 'laws.FnPoll'. -/
def fnPollCard : Claim7 := { stood := { row := fnPollRow, standIns := [], harness := (true, "c7f61c7257cd6a58dca29b99cc60e26ed146bf607bdf9e3e5614012a5c8f5dbc"), looks := false }, kinds := [], alts := [], laidByText := true, laidKinds := [.data], laidTests := true, laidLooks := .later }
def FnPollCardSaid : Prop := Claim7.holds Tryd.pinned (.plain (OpenSpec.ofChange fnPollSpec)) fnPollCard

/-- THE TIED CARD OF 'laws.FnExactKeyOf'. -/
def fnExactKeyOfCard : Claim7 := { stood := { row := fnExactKeyOfRow, standIns := [], harness := (true, "c7f61c7257cd6a58dca29b99cc60e26ed146bf607bdf9e3e5614012a5c8f5dbc"), looks := false }, kinds := [], alts := [], laidByText := true, laidKinds := [.data], laidTests := true, laidLooks := .later }
def FnExactKeyOfCardSaid : Prop := Claim7.holds Tryd.pinned (.plain (OpenSpec.ofChange fnExactKeyOfSpec)) fnExactKeyOfCard

/-- THE TIED CARD OF 'laws.FnExactCastVote'. -/
def fnExactCastVoteCard : Claim7 := { stood := { row := fnExactCastVoteRow, standIns := [], harness := (true, "c7f61c7257cd6a58dca29b99cc60e26ed146bf607bdf9e3e5614012a5c8f5dbc"), looks := false }, kinds := [], alts := [], laidByText := true, laidKinds := [.data], laidTests := true, laidLooks := .later }
def FnExactCastVoteCardSaid : Prop := Claim7.holds Tryd.pinned (.plain (OpenSpec.ofChange fnExactCastVoteSpec)) fnExactCastVoteCard

/-- THE TIED CARD OF 'laws.FnExactCountPoll'. -/
def fnExactCountPollCard : Claim7 := { stood := { row := fnExactCountPollRow, standIns := [], harness := (true, "c7f61c7257cd6a58dca29b99cc60e26ed146bf607bdf9e3e5614012a5c8f5dbc"), looks := false }, kinds := [], alts := [], laidByText := true, laidKinds := [.data], laidTests := true, laidLooks := .later }
def FnExactCountPollCardSaid : Prop := Claim7.holds Tryd.pinned (.plain (OpenSpec.ofChange fnExactCountPollSpec)) fnExactCountPollCard

/-- THE SECOND FORM's CARD OF 'laws.FnPoll'. -/
def fnPollUptoCard : Claim7 := { stood := { row := fnPollUptoRow, standIns := [], harness := (true, "c7f61c7257cd6a58dca29b99cc60e26ed146bf607bdf9e3e5614012a5c8f5dbc"), looks := false }, kinds := [], alts := [], laidByText := true, laidKinds := [.data], laidTests := true, laidLooks := .later }
def FnPollUptoCardSaid : Prop := Claim7.holds Tryd.pinned (.plain (OpenSpec.upto fnPollSpec)) fnPollUptoCard

/-- THE SECOND FORM's CARD OF 'laws.FnExactKeyOf'. -/
def fnExactKeyOfUptoCard : Claim7 := { stood := { row := fnExactKeyOfUptoRow, standIns := [], harness := (true, "c7f61c7257cd6a58dca29b99cc60e26ed146bf607bdf9e3e5614012a5c8f5dbc"), looks := false }, kinds := [], alts := [], laidByText := true, laidKinds := [.data], laidTests := true, laidLooks := .later }
def FnExactKeyOfUptoCardSaid : Prop := Claim7.holds Tryd.pinned (.plain (OpenSpec.upto fnExactKeyOfSpec)) fnExactKeyOfUptoCard

/-- THE SECOND FORM's CARD OF 'laws.FnExactCastVote'. -/
def fnExactCastVoteUptoCard : Claim7 := { stood := { row := fnExactCastVoteUptoRow, standIns := [], harness := (true, "c7f61c7257cd6a58dca29b99cc60e26ed146bf607bdf9e3e5614012a5c8f5dbc"), looks := false }, kinds := [], alts := [], laidByText := true, laidKinds := [.data], laidTests := true, laidLooks := .later }
def FnExactCastVoteUptoCardSaid : Prop := Claim7.holds Tryd.pinned (.plain (OpenSpec.upto fnExactCastVoteSpec)) fnExactCastVoteUptoCard

/-- THE SECOND FORM's CARD OF 'laws.FnExactCountPoll'. -/
def fnExactCountPollUptoCard : Claim7 := { stood := { row := fnExactCountPollUptoRow, standIns := [], harness := (true, "c7f61c7257cd6a58dca29b99cc60e26ed146bf607bdf9e3e5614012a5c8f5dbc"), looks := false }, kinds := [], alts := [], laidByText := true, laidKinds := [.data], laidTests := true, laidLooks := .later }
def FnExactCountPollUptoCardSaid : Prop := Claim7.holds Tryd.pinned (.plain (OpenSpec.upto fnExactCountPollSpec)) fnExactCountPollUptoCard
end Rows
end Go.Proofs.YtobomcmjilcnaaaDoor

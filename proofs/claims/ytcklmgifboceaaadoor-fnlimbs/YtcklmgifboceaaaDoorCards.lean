/-
  DERIVED. GIVEN WITH THE SEED: THE CARDS: each row of YtcklmgifboceaaaDoorRows.lean that lists a variable, with what it lists TIED to the program's text (the seventh form; the later family's looks); each row that meets fmt, with fmt's text TOLD by the authors' own Lean function (tested against real Go, not proved from fmt's source: count such statements apart). THE CARD IS WHAT COUNTS. Prove the row's statement (the work); the ties are given (YtcklmgifboceaaaDoorTie.lean); close each card by the builder's one call (the guide's Derived/Test/ToyasCard.lean, 'card_holds'). Laid BY PROGRAM, IN A SANDBOX (cutbox-door.mjs). By AI agents, Wed Nov 11 2026. No macro, syntax, notation, axiom, sorry.
-/
import Derived.Test.YtcklmgifboceaaaDoorRows
import GoSem.ClaimSeven
namespace Go.Proofs.YtcklmgifboceaaaDoor
namespace Rows

/-- THE TIED CARD OF 'laws.FnLimbs'. -/
def fnLimbsCard : Claim7 := { stood := { row := fnLimbsRow, standIns := [], harness := (true, "32e1b414c5582de1369a7d1d3fb48db6b40d031ae3c9264d3eba3362c5f8a587"), looks := false }, kinds := [], alts := [], laidByText := true, laidKinds := [.data, .data, .data], laidTests := true, laidLooks := .later }
def FnLimbsCardSaid : Prop := Claim7.holds Tryd.pinned (.plain (OpenSpec.ofChange fnLimbsSpec)) fnLimbsCard

/-- THE TIED CARD OF 'laws.FnExactDigitsOf'. -/
def fnExactDigitsOfCard : Claim7 := { stood := { row := fnExactDigitsOfRow, standIns := [], harness := (true, "32e1b414c5582de1369a7d1d3fb48db6b40d031ae3c9264d3eba3362c5f8a587"), looks := false }, kinds := [], alts := [], laidByText := true, laidKinds := [.data, .data, .data], laidTests := true, laidLooks := .later }
def FnExactDigitsOfCardSaid : Prop := Claim7.holds Tryd.pinned (.plain (OpenSpec.ofChange fnExactDigitsOfSpec)) fnExactDigitsOfCard

/-- THE SECOND FORM's CARD OF 'laws.FnLimbs'. -/
def fnLimbsUptoCard : Claim7 := { stood := { row := fnLimbsUptoRow, standIns := [], harness := (true, "32e1b414c5582de1369a7d1d3fb48db6b40d031ae3c9264d3eba3362c5f8a587"), looks := false }, kinds := [], alts := [], laidByText := true, laidKinds := [.data, .data, .data], laidTests := true, laidLooks := .later }
def FnLimbsUptoCardSaid : Prop := Claim7.holds Tryd.pinned (.plain (OpenSpec.upto fnLimbsSpec)) fnLimbsUptoCard

/-- THE SECOND FORM's CARD OF 'laws.FnExactDigitsOf'. -/
def fnExactDigitsOfUptoCard : Claim7 := { stood := { row := fnExactDigitsOfUptoRow, standIns := [], harness := (true, "32e1b414c5582de1369a7d1d3fb48db6b40d031ae3c9264d3eba3362c5f8a587"), looks := false }, kinds := [], alts := [], laidByText := true, laidKinds := [.data, .data, .data], laidTests := true, laidLooks := .later }
def FnExactDigitsOfUptoCardSaid : Prop := Claim7.holds Tryd.pinned (.plain (OpenSpec.upto fnExactDigitsOfSpec)) fnExactDigitsOfUptoCard
end Rows
end Go.Proofs.YtcklmgifboceaaaDoor

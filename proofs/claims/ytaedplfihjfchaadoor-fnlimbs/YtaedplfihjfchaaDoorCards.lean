/-
  DERIVED. GIVEN WITH THE SEED: THE CARDS: each row of YtaedplfihjfchaaDoorRows.lean that lists a variable, with what it lists TIED to the program's text (the seventh form; the later family's looks); each row that meets fmt, with fmt's text TOLD by the authors' own Lean function (tested against real Go, not proved from fmt's source: count such statements apart). THE CARD IS WHAT COUNTS. Prove the row's statement (the work); the ties are given (YtaedplfihjfchaaDoorTie.lean); close each card by the builder's one call (the guide's Derived/Test/ToyasCard.lean, 'card_holds'). Laid BY PROGRAM, IN A SANDBOX (cutbox-door.mjs). By AI agents, Wed Nov 11 2026. No macro, syntax, notation, axiom, sorry.
-/
import Derived.Test.YtaedplfihjfchaaDoorRows
import GoSem.ClaimSeven
namespace Go.Proofs.YtaedplfihjfchaaDoor
namespace Rows

/-- THE TIED CARD OF 'laws.FnLimbs'. -/
def fnLimbsCard : Claim7 := { stood := { row := fnLimbsRow, standIns := [], harness := (true, "7ec9c756e21ec352208071bbf7d24d7e7f74285220fe0a2b4031a8c971508508"), looks := false }, kinds := [], alts := [], laidByText := true, laidKinds := [.data, .data, .data], laidTests := true, laidLooks := .later }
def FnLimbsCardSaid : Prop := Claim7.holds Tryd.pinned (.plain (OpenSpec.ofChange fnLimbsSpec)) fnLimbsCard

/-- THE SECOND FORM's CARD OF 'laws.FnLimbs'. -/
def fnLimbsUptoCard : Claim7 := { stood := { row := fnLimbsUptoRow, standIns := [], harness := (true, "7ec9c756e21ec352208071bbf7d24d7e7f74285220fe0a2b4031a8c971508508"), looks := false }, kinds := [], alts := [], laidByText := true, laidKinds := [.data, .data, .data], laidTests := true, laidLooks := .later }
def FnLimbsUptoCardSaid : Prop := Claim7.holds Tryd.pinned (.plain (OpenSpec.upto fnLimbsSpec)) fnLimbsUptoCard
end Rows
end Go.Proofs.YtaedplfihjfchaaDoor

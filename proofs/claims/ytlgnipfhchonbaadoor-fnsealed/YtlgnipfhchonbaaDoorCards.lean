/-
  DERIVED. GIVEN WITH THE SEED: THE CARDS: each row of YtlgnipfhchonbaaDoorRows.lean that lists a variable, with what it lists TIED to the program's text (the seventh form; the later family's looks); each row that meets fmt, with fmt's text TOLD by the authors' own Lean function (tested against real Go, not proved from fmt's source: count such statements apart). THE CARD IS WHAT COUNTS. Prove the row's statement (the work); the ties are given (YtlgnipfhchonbaaDoorTie.lean); close each card by the builder's one call (the guide's Derived/Test/ToyasCard.lean, 'card_holds'). Laid BY PROGRAM, IN A SANDBOX (cutbox-door.mjs). By AI agents, Wed Nov 11 2026. No macro, syntax, notation, axiom, sorry.
-/
import Derived.Test.YtlgnipfhchonbaaDoorRows
import GoSem.ClaimSeven
namespace Go.Proofs.YtlgnipfhchonbaaDoor
namespace Rows

/-- THE TIED CARD OF 'laws.FnShared'. -/
def fnSharedCard : Claim7 := { stood := { row := fnSharedRow, standIns := [], harness := (true, "5036ab9a376982b5681369abf5b29c14efcfe1756cd881c3cb64c35a7fc68c98"), looks := false }, kinds := [], alts := [], laidByText := true, laidKinds := [.data], laidTests := true, laidLooks := .later }
def FnSharedCardSaid : Prop := Claim7.holds Tryd.pinned (.plain (OpenSpec.ofChange fnSharedSpec)) fnSharedCard

/-- THE TIED CARD OF 'laws.FnSealed'. -/
def fnSealedCard : Claim7 := { stood := { row := fnSealedRow, standIns := [], harness := (true, "5036ab9a376982b5681369abf5b29c14efcfe1756cd881c3cb64c35a7fc68c98"), looks := false }, kinds := [], alts := [], laidByText := true, laidKinds := [.data], laidTests := true, laidLooks := .later }
def FnSealedCardSaid : Prop := Claim7.holds Tryd.pinned (.plain (OpenSpec.ofChange fnSealedSpec)) fnSealedCard

/-- THE TIED CARD OF 'laws.FnExactPublicFor'. -/
def fnExactPublicForCard : Claim7 := { stood := { row := fnExactPublicForRow, standIns := [], harness := (true, "5036ab9a376982b5681369abf5b29c14efcfe1756cd881c3cb64c35a7fc68c98"), looks := false }, kinds := [], alts := [], laidByText := true, laidKinds := [.data], laidTests := true, laidLooks := .later }
def FnExactPublicForCardSaid : Prop := Claim7.holds Tryd.pinned (.plain (OpenSpec.ofChange fnExactPublicForSpec)) fnExactPublicForCard

/-- THE TIED CARD OF 'laws.FnExactSealNumber'. -/
def fnExactSealNumberCard : Claim7 := { stood := { row := fnExactSealNumberRow, standIns := [], harness := (true, "5036ab9a376982b5681369abf5b29c14efcfe1756cd881c3cb64c35a7fc68c98"), looks := false }, kinds := [], alts := [], laidByText := true, laidKinds := [.data], laidTests := true, laidLooks := .later }
def FnExactSealNumberCardSaid : Prop := Claim7.holds Tryd.pinned (.plain (OpenSpec.ofChange fnExactSealNumberSpec)) fnExactSealNumberCard

/-- THE TIED CARD OF 'laws.FnExactSealAgain'. -/
def fnExactSealAgainCard : Claim7 := { stood := { row := fnExactSealAgainRow, standIns := [], harness := (true, "5036ab9a376982b5681369abf5b29c14efcfe1756cd881c3cb64c35a7fc68c98"), looks := false }, kinds := [], alts := [], laidByText := true, laidKinds := [.data], laidTests := true, laidLooks := .later }
def FnExactSealAgainCardSaid : Prop := Claim7.holds Tryd.pinned (.plain (OpenSpec.ofChange fnExactSealAgainSpec)) fnExactSealAgainCard

/-- THE SECOND FORM's CARD OF 'laws.FnShared'. -/
def fnSharedUptoCard : Claim7 := { stood := { row := fnSharedUptoRow, standIns := [], harness := (true, "5036ab9a376982b5681369abf5b29c14efcfe1756cd881c3cb64c35a7fc68c98"), looks := false }, kinds := [], alts := [], laidByText := true, laidKinds := [.data], laidTests := true, laidLooks := .later }
def FnSharedUptoCardSaid : Prop := Claim7.holds Tryd.pinned (.plain (OpenSpec.upto fnSharedSpec)) fnSharedUptoCard

/-- THE SECOND FORM's CARD OF 'laws.FnSealed'. -/
def fnSealedUptoCard : Claim7 := { stood := { row := fnSealedUptoRow, standIns := [], harness := (true, "5036ab9a376982b5681369abf5b29c14efcfe1756cd881c3cb64c35a7fc68c98"), looks := false }, kinds := [], alts := [], laidByText := true, laidKinds := [.data], laidTests := true, laidLooks := .later }
def FnSealedUptoCardSaid : Prop := Claim7.holds Tryd.pinned (.plain (OpenSpec.upto fnSealedSpec)) fnSealedUptoCard

/-- THE SECOND FORM's CARD OF 'laws.FnExactPublicFor'. -/
def fnExactPublicForUptoCard : Claim7 := { stood := { row := fnExactPublicForUptoRow, standIns := [], harness := (true, "5036ab9a376982b5681369abf5b29c14efcfe1756cd881c3cb64c35a7fc68c98"), looks := false }, kinds := [], alts := [], laidByText := true, laidKinds := [.data], laidTests := true, laidLooks := .later }
def FnExactPublicForUptoCardSaid : Prop := Claim7.holds Tryd.pinned (.plain (OpenSpec.upto fnExactPublicForSpec)) fnExactPublicForUptoCard

/-- THE SECOND FORM's CARD OF 'laws.FnExactSealNumber'. -/
def fnExactSealNumberUptoCard : Claim7 := { stood := { row := fnExactSealNumberUptoRow, standIns := [], harness := (true, "5036ab9a376982b5681369abf5b29c14efcfe1756cd881c3cb64c35a7fc68c98"), looks := false }, kinds := [], alts := [], laidByText := true, laidKinds := [.data], laidTests := true, laidLooks := .later }
def FnExactSealNumberUptoCardSaid : Prop := Claim7.holds Tryd.pinned (.plain (OpenSpec.upto fnExactSealNumberSpec)) fnExactSealNumberUptoCard

/-- THE SECOND FORM's CARD OF 'laws.FnExactSealAgain'. -/
def fnExactSealAgainUptoCard : Claim7 := { stood := { row := fnExactSealAgainUptoRow, standIns := [], harness := (true, "5036ab9a376982b5681369abf5b29c14efcfe1756cd881c3cb64c35a7fc68c98"), looks := false }, kinds := [], alts := [], laidByText := true, laidKinds := [.data], laidTests := true, laidLooks := .later }
def FnExactSealAgainUptoCardSaid : Prop := Claim7.holds Tryd.pinned (.plain (OpenSpec.upto fnExactSealAgainSpec)) fnExactSealAgainUptoCard
end Rows
end Go.Proofs.YtlgnipfhchonbaaDoor

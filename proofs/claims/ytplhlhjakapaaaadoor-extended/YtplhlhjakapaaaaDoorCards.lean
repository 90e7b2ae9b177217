/-
  DERIVED. GIVEN WITH THE SEED: THE CARDS: each row of YtplhlhjakapaaaaDoorRows.lean that lists a variable, with what it lists TIED to the program's text (the seventh form; the later family's looks); each row that meets fmt, with fmt's text TOLD by the authors' own Lean function (tested against real Go, not proved from fmt's source: count such statements apart). THE CARD IS WHAT COUNTS. Prove the row's statement (the work); the ties are given (YtplhlhjakapaaaaDoorTie.lean); close each card by the builder's one call (the guide's Derived/Test/ToyasCard.lean, 'card_holds'). Laid BY PROGRAM, IN A SANDBOX (cutbox-door.mjs). By AI agents, Wed Nov 11 2026. No macro, syntax, notation, axiom, sorry.
-/
import Derived.Test.YtplhlhjakapaaaaDoorRows
import GoSem.ClaimSeven
namespace Go.Proofs.YtplhlhjakapaaaaDoor
namespace Rows

/-- THE TIED CARD OF 'rootslaw.Hashes'. -/
def hashesCard : Claim7 := { stood := { row := hashesRow, standIns := [], harness := (true, "b43b07a45fd735dde419a60579071f2b25fe03e9a65f81f2274a84b1446ec72b"), looks := true }, kinds := [], alts := [], laidByText := true, laidKinds := [.data], laidTests := true, laidLooks := .later }
def HashesCardSaid : Prop := Claim7.holds Tryd.pinned (.plain (OpenSpec.ofChange hashesSpec)) hashesCard

/-- THE TIED CARD OF 'rootslaw.Roots'. -/
def rootsCard : Claim7 := { stood := { row := rootsRow, standIns := [], harness := (true, "b43b07a45fd735dde419a60579071f2b25fe03e9a65f81f2274a84b1446ec72b"), looks := true }, kinds := [], alts := [], goes := true, laidByText := true, laidKinds := [.data], laidTests := true, laidLooks := .later }
def RootsCardSaid : Prop := Claim7.holds Tryd.pinned (.plain (OpenSpec.ofChange rootsSpec)) rootsCard

/-- THE TIED CARD OF 'rootslaw.Paths'. -/
def pathsCard : Claim7 := { stood := { row := pathsRow, standIns := [], harness := (true, "b43b07a45fd735dde419a60579071f2b25fe03e9a65f81f2274a84b1446ec72b"), looks := true }, kinds := [], alts := [], goes := true, laidByText := true, laidKinds := [.handle, .data], laidTests := true, laidLooks := .later }
def PathsCardSaid : Prop := Claim7.holds Tryd.pinned (.plain (OpenSpec.ofChange pathsSpec)) pathsCard

/-- THE TIED CARD OF 'rootslaw.Links'. -/
def linksCard : Claim7 := { stood := { row := linksRow, standIns := [], harness := (true, "b43b07a45fd735dde419a60579071f2b25fe03e9a65f81f2274a84b1446ec72b"), looks := true }, kinds := [], alts := [], goes := true, laidByText := true, laidKinds := [.handle, .data], laidTests := true, laidLooks := .later }
def LinksCardSaid : Prop := Claim7.holds Tryd.pinned (.plain (OpenSpec.ofChange linksSpec)) linksCard

/-- THE TIED CARD OF 'rootslaw.Included'. -/
def includedCard : Claim7 := { stood := { row := includedRow, standIns := [], harness := (true, "b43b07a45fd735dde419a60579071f2b25fe03e9a65f81f2274a84b1446ec72b"), looks := true }, kinds := [], alts := [], laidByText := true, laidKinds := [.data], laidTests := true, laidLooks := .later }
def IncludedCardSaid : Prop := Claim7.holds Tryd.pinned (.plain (OpenSpec.ofChange includedSpec)) includedCard

/-- THE TIED CARD OF 'rootslaw.Extended'. -/
def extendedCard : Claim7 := { stood := { row := extendedRow, standIns := [], harness := (true, "b43b07a45fd735dde419a60579071f2b25fe03e9a65f81f2274a84b1446ec72b"), looks := true }, kinds := [], alts := [], laidByText := true, laidKinds := [.data], laidTests := true, laidLooks := .later }
def ExtendedCardSaid : Prop := Claim7.holds Tryd.pinned (.plain (OpenSpec.ofChange extendedSpec)) extendedCard

/-- THE TIED CARD OF 'rootskeep.Member'. -/
def memberCard : Claim7 := { stood := { row := memberRow, standIns := [], harness := (true, "b43b07a45fd735dde419a60579071f2b25fe03e9a65f81f2274a84b1446ec72b"), looks := true }, kinds := [], alts := [], goes := true, laidByText := true, laidKinds := [.handle, .data], laidTests := true, laidLooks := .later }
def MemberCardSaid : Prop := Claim7.holds Tryd.pinned (.plain (OpenSpec.ofChange memberSpec)) memberCard

/-- THE TIED CARD OF 'rootskeep.Grows'. -/
def growsCard : Claim7 := { stood := { row := growsRow, standIns := [], harness := (true, "b43b07a45fd735dde419a60579071f2b25fe03e9a65f81f2274a84b1446ec72b"), looks := true }, kinds := [], alts := [], goes := true, laidByText := true, laidKinds := [.handle, .data], laidTests := true, laidLooks := .later }
def GrowsCardSaid : Prop := Claim7.holds Tryd.pinned (.plain (OpenSpec.ofChange growsSpec)) growsCard

/-- THE TIED CARD OF 'rootskeep.Binding'. -/
def bindingCard : Claim7 := { stood := { row := bindingRow, standIns := [], harness := (true, "b43b07a45fd735dde419a60579071f2b25fe03e9a65f81f2274a84b1446ec72b"), looks := true }, kinds := [], alts := [], laidByText := true, laidKinds := [.data], laidTests := true, laidLooks := .later }
def BindingCardSaid : Prop := Claim7.holds Tryd.pinned (.plain (OpenSpec.ofChange bindingSpec)) bindingCard

/-- THE TIED CARD OF 'rootskeep.Known'. -/
def knownCard : Claim7 := { stood := { row := knownRow, standIns := [], harness := (true, "b43b07a45fd735dde419a60579071f2b25fe03e9a65f81f2274a84b1446ec72b"), looks := true }, kinds := [], alts := [], goes := true, laidByText := true, laidKinds := [.handle, .data], laidTests := true, laidLooks := .later }
def KnownCardSaid : Prop := Claim7.holds Tryd.pinned (.plain (OpenSpec.ofChange knownSpec)) knownCard

/-- THE TIED CARD OF 'rootslaw.Holds'. -/
def holdsCard : Claim7 := { stood := { row := holdsRow, standIns := [], harness := (true, "b43b07a45fd735dde419a60579071f2b25fe03e9a65f81f2274a84b1446ec72b"), looks := true }, kinds := [], alts := [], goes := true, laidByText := true, laidKinds := [.data], laidTests := true, laidLooks := .later }
def HoldsCardSaid : Prop := Claim7.holds Tryd.pinned (.plain (OpenSpec.ofChange holdsSpec)) holdsCard

/-- THE SECOND FORM's CARD OF 'rootslaw.Hashes'. -/
def hashesUptoCard : Claim7 := { stood := { row := hashesUptoRow, standIns := [], harness := (true, "b43b07a45fd735dde419a60579071f2b25fe03e9a65f81f2274a84b1446ec72b"), looks := true }, kinds := [], alts := [], laidByText := true, laidKinds := [.data], laidTests := true, laidLooks := .later }
def HashesUptoCardSaid : Prop := Claim7.holds Tryd.pinned (.plain (OpenSpec.upto hashesSpec)) hashesUptoCard

/-- THE SECOND FORM's CARD OF 'rootslaw.Roots'. -/
def rootsUptoCard : Claim7 := { stood := { row := rootsUptoRow, standIns := [], harness := (true, "b43b07a45fd735dde419a60579071f2b25fe03e9a65f81f2274a84b1446ec72b"), looks := true }, kinds := [], alts := [], goes := true, laidByText := true, laidKinds := [.data], laidTests := true, laidLooks := .later }
def RootsUptoCardSaid : Prop := Claim7.holds Tryd.pinned (.plain (OpenSpec.upto rootsSpec)) rootsUptoCard

/-- THE SECOND FORM's CARD OF 'rootslaw.Paths'. -/
def pathsUptoCard : Claim7 := { stood := { row := pathsUptoRow, standIns := [], harness := (true, "b43b07a45fd735dde419a60579071f2b25fe03e9a65f81f2274a84b1446ec72b"), looks := true }, kinds := [], alts := [], goes := true, laidByText := true, laidKinds := [.handle, .data], laidTests := true, laidLooks := .later }
def PathsUptoCardSaid : Prop := Claim7.holds Tryd.pinned (.plain (OpenSpec.upto pathsSpec)) pathsUptoCard

/-- THE SECOND FORM's CARD OF 'rootslaw.Links'. -/
def linksUptoCard : Claim7 := { stood := { row := linksUptoRow, standIns := [], harness := (true, "b43b07a45fd735dde419a60579071f2b25fe03e9a65f81f2274a84b1446ec72b"), looks := true }, kinds := [], alts := [], goes := true, laidByText := true, laidKinds := [.handle, .data], laidTests := true, laidLooks := .later }
def LinksUptoCardSaid : Prop := Claim7.holds Tryd.pinned (.plain (OpenSpec.upto linksSpec)) linksUptoCard

/-- THE SECOND FORM's CARD OF 'rootslaw.Included'. -/
def includedUptoCard : Claim7 := { stood := { row := includedUptoRow, standIns := [], harness := (true, "b43b07a45fd735dde419a60579071f2b25fe03e9a65f81f2274a84b1446ec72b"), looks := true }, kinds := [], alts := [], laidByText := true, laidKinds := [.data], laidTests := true, laidLooks := .later }
def IncludedUptoCardSaid : Prop := Claim7.holds Tryd.pinned (.plain (OpenSpec.upto includedSpec)) includedUptoCard

/-- THE SECOND FORM's CARD OF 'rootslaw.Extended'. -/
def extendedUptoCard : Claim7 := { stood := { row := extendedUptoRow, standIns := [], harness := (true, "b43b07a45fd735dde419a60579071f2b25fe03e9a65f81f2274a84b1446ec72b"), looks := true }, kinds := [], alts := [], laidByText := true, laidKinds := [.data], laidTests := true, laidLooks := .later }
def ExtendedUptoCardSaid : Prop := Claim7.holds Tryd.pinned (.plain (OpenSpec.upto extendedSpec)) extendedUptoCard

/-- THE SECOND FORM's CARD OF 'rootskeep.Member'. -/
def memberUptoCard : Claim7 := { stood := { row := memberUptoRow, standIns := [], harness := (true, "b43b07a45fd735dde419a60579071f2b25fe03e9a65f81f2274a84b1446ec72b"), looks := true }, kinds := [], alts := [], goes := true, laidByText := true, laidKinds := [.handle, .data], laidTests := true, laidLooks := .later }
def MemberUptoCardSaid : Prop := Claim7.holds Tryd.pinned (.plain (OpenSpec.upto memberSpec)) memberUptoCard

/-- THE SECOND FORM's CARD OF 'rootskeep.Grows'. -/
def growsUptoCard : Claim7 := { stood := { row := growsUptoRow, standIns := [], harness := (true, "b43b07a45fd735dde419a60579071f2b25fe03e9a65f81f2274a84b1446ec72b"), looks := true }, kinds := [], alts := [], goes := true, laidByText := true, laidKinds := [.handle, .data], laidTests := true, laidLooks := .later }
def GrowsUptoCardSaid : Prop := Claim7.holds Tryd.pinned (.plain (OpenSpec.upto growsSpec)) growsUptoCard

/-- THE SECOND FORM's CARD OF 'rootskeep.Binding'. -/
def bindingUptoCard : Claim7 := { stood := { row := bindingUptoRow, standIns := [], harness := (true, "b43b07a45fd735dde419a60579071f2b25fe03e9a65f81f2274a84b1446ec72b"), looks := true }, kinds := [], alts := [], laidByText := true, laidKinds := [.data], laidTests := true, laidLooks := .later }
def BindingUptoCardSaid : Prop := Claim7.holds Tryd.pinned (.plain (OpenSpec.upto bindingSpec)) bindingUptoCard

/-- THE SECOND FORM's CARD OF 'rootskeep.Known'. -/
def knownUptoCard : Claim7 := { stood := { row := knownUptoRow, standIns := [], harness := (true, "b43b07a45fd735dde419a60579071f2b25fe03e9a65f81f2274a84b1446ec72b"), looks := true }, kinds := [], alts := [], goes := true, laidByText := true, laidKinds := [.handle, .data], laidTests := true, laidLooks := .later }
def KnownUptoCardSaid : Prop := Claim7.holds Tryd.pinned (.plain (OpenSpec.upto knownSpec)) knownUptoCard

/-- THE SECOND FORM's CARD OF 'rootslaw.Holds'. -/
def holdsUptoCard : Claim7 := { stood := { row := holdsUptoRow, standIns := [], harness := (true, "b43b07a45fd735dde419a60579071f2b25fe03e9a65f81f2274a84b1446ec72b"), looks := true }, kinds := [], alts := [], goes := true, laidByText := true, laidKinds := [.data], laidTests := true, laidLooks := .later }
def HoldsUptoCardSaid : Prop := Claim7.holds Tryd.pinned (.plain (OpenSpec.upto holdsSpec)) holdsUptoCard
end Rows
end Go.Proofs.YtplhlhjakapaaaaDoor

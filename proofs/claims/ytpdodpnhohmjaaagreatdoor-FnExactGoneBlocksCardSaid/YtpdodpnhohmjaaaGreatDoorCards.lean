/-
  DERIVED. GIVEN WITH THE SEED: THE CARDS: each row of YtpdodpnhohmjaaaGreatDoorRows.lean that lists a variable, with what it lists TIED to the program's text (the seventh form; the later family's looks); each row that meets fmt, with fmt's text TOLD by the authors' own Lean function (tested against real Go, not proved from fmt's source: count such statements apart). THE CARD IS WHAT COUNTS. Prove the row's statement (the work); the ties are given (YtpdodpnhohmjaaaGreatDoorTie.lean); close each card by the builder's one call (the guide's Derived/Test/ToyasCard.lean, 'card_holds'). Laid BY PROGRAM, IN A SANDBOX (cutbox-door.mjs). By AI agents, Wed Nov 11 2026. No macro, syntax, notation, axiom, sorry.
-/
import Derived.Test.YtpdodpnhohmjaaaGreatDoorRows
import GoSem.ClaimSeven
namespace Go.Proofs.YtpdodpnhohmjaaaGreatDoor
namespace Rows

/-- THE TIED CARD OF 'laws.FnExactGoneChains'. -/
def fnExactGoneChainsCard : Claim7 := { stood := { row := fnExactGoneChainsRow, standIns := [], harness := (true, "929675cbe3f169eb48ae2e9fda5fb6a1d6b52961a84e83f2dca1d1e50d7b8015"), looks := false }, kinds := [], alts := [], laidByText := true, laidKinds := [.data, .pinned], laidTests := true, laidLooks := .later }
def FnExactGoneChainsCardSaid : Prop := Claim7.holds Tryz.pinned (.plain (OpenSpec.ofChange fnExactGoneChainsSpec)) fnExactGoneChainsCard

/-- THE TIED CARD OF 'laws.FnExactGoneBlocks'. -/
def fnExactGoneBlocksCard : Claim7 := { stood := { row := fnExactGoneBlocksRow, standIns := [], harness := (true, "929675cbe3f169eb48ae2e9fda5fb6a1d6b52961a84e83f2dca1d1e50d7b8015"), looks := false }, kinds := [], alts := [], laidByText := true, laidKinds := [.data, .pinned], laidTests := true, laidLooks := .later }
def FnExactGoneBlocksCardSaid : Prop := Claim7.holds Tryz.pinned (.plain (OpenSpec.ofChange fnExactGoneBlocksSpec)) fnExactGoneBlocksCard

/-- THE TIED CARD OF 'laws.FnExactListChains'. -/
def fnExactListChainsCard : Claim7 := { stood := { row := fnExactListChainsRow, standIns := [], harness := (true, "929675cbe3f169eb48ae2e9fda5fb6a1d6b52961a84e83f2dca1d1e50d7b8015"), looks := false }, kinds := [], alts := [], laidByText := true, laidKinds := [.data, .pinned], laidTests := true, laidLooks := .later }
def FnExactListChainsCardSaid : Prop := Claim7.holds Tryz.pinned (.plain (OpenSpec.ofChange fnExactListChainsSpec)) fnExactListChainsCard

/-- THE SECOND FORM's CARD OF 'laws.FnExactGoneChains'. -/
def fnExactGoneChainsUptoCard : Claim7 := { stood := { row := fnExactGoneChainsUptoRow, standIns := [], harness := (true, "929675cbe3f169eb48ae2e9fda5fb6a1d6b52961a84e83f2dca1d1e50d7b8015"), looks := false }, kinds := [], alts := [], laidByText := true, laidKinds := [.data, .pinned], laidTests := true, laidLooks := .later }
def FnExactGoneChainsUptoCardSaid : Prop := Claim7.holds Tryz.pinned (.plain (OpenSpec.upto fnExactGoneChainsSpec)) fnExactGoneChainsUptoCard

/-- THE SECOND FORM's CARD OF 'laws.FnExactGoneBlocks'. -/
def fnExactGoneBlocksUptoCard : Claim7 := { stood := { row := fnExactGoneBlocksUptoRow, standIns := [], harness := (true, "929675cbe3f169eb48ae2e9fda5fb6a1d6b52961a84e83f2dca1d1e50d7b8015"), looks := false }, kinds := [], alts := [], laidByText := true, laidKinds := [.data, .pinned], laidTests := true, laidLooks := .later }
def FnExactGoneBlocksUptoCardSaid : Prop := Claim7.holds Tryz.pinned (.plain (OpenSpec.upto fnExactGoneBlocksSpec)) fnExactGoneBlocksUptoCard

/-- THE SECOND FORM's CARD OF 'laws.FnExactListChains'. -/
def fnExactListChainsUptoCard : Claim7 := { stood := { row := fnExactListChainsUptoRow, standIns := [], harness := (true, "929675cbe3f169eb48ae2e9fda5fb6a1d6b52961a84e83f2dca1d1e50d7b8015"), looks := false }, kinds := [], alts := [], laidByText := true, laidKinds := [.data, .pinned], laidTests := true, laidLooks := .later }
def FnExactListChainsUptoCardSaid : Prop := Claim7.holds Tryz.pinned (.plain (OpenSpec.upto fnExactListChainsSpec)) fnExactListChainsUptoCard
end Rows
end Go.Proofs.YtpdodpnhohmjaaaGreatDoor

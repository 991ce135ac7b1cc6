/-
  DERIVED. GIVEN WITH THE SEED: THE CARDS: each row of YtkdhhkoablmbbabDoorRows.lean that lists a variable, with what it lists TIED to the program's text (the seventh form; the later family's looks); each row that meets fmt, with fmt's text TOLD by the authors' own Lean function (tested against real Go, not proved from fmt's source: count such statements apart). THE CARD IS WHAT COUNTS. Prove the row's statement (the work); the ties are given (YtkdhhkoablmbbabDoorTie.lean); close each card by the builder's one call (the guide's Derived/Test/ToyasCard.lean, 'card_holds'). Laid BY PROGRAM, IN A SANDBOX (cutbox-door.mjs). By AI agents, Wed Nov 11 2026. No macro, syntax, notation, axiom, sorry.
-/
import Derived.Test.YtkdhhkoablmbbabDoorRows
import GoSem.ClaimSeven
namespace Go.Proofs.YtkdhhkoablmbbabDoor
namespace Rows

/-- THE TIED CARD OF 'laws.FnExactGcrCode'. -/
def fnExactGcrCodeCard : Claim7 := { stood := { row := fnExactGcrCodeRow, standIns := [], harness := (true, "1af09f2469c05dc7f59359c3ae9ca8ef86f6bc072fd67e43560ba0450df7d004"), looks := false }, kinds := [], alts := [], laidByText := true, laidKinds := [.data], laidTests := true, laidLooks := .later }
def FnExactGcrCodeCardSaid : Prop := Claim7.holds Tryd.pinned (.plain (OpenSpec.ofChange fnExactGcrCodeSpec)) fnExactGcrCodeCard

/-- THE TIED CARD OF 'laws.FnExactGcrValue'. -/
def fnExactGcrValueCard : Claim7 := { stood := { row := fnExactGcrValueRow, standIns := [], harness := (true, "1af09f2469c05dc7f59359c3ae9ca8ef86f6bc072fd67e43560ba0450df7d004"), looks := false }, kinds := [], alts := [], laidByText := true, laidKinds := [.data], laidTests := true, laidLooks := .later }
def FnExactGcrValueCardSaid : Prop := Claim7.holds Tryd.pinned (.plain (OpenSpec.ofChange fnExactGcrValueSpec)) fnExactGcrValueCard

/-- THE TIED CARD OF 'laws.FnExactEncodeGcr'. -/
def fnExactEncodeGcrCard : Claim7 := { stood := { row := fnExactEncodeGcrRow, standIns := [], harness := (true, "1af09f2469c05dc7f59359c3ae9ca8ef86f6bc072fd67e43560ba0450df7d004"), looks := false }, kinds := [], alts := [], laidByText := true, laidKinds := [.data], laidTests := true, laidLooks := .later }
def FnExactEncodeGcrCardSaid : Prop := Claim7.holds Tryd.pinned (.plain (OpenSpec.ofChange fnExactEncodeGcrSpec)) fnExactEncodeGcrCard

/-- THE TIED CARD OF 'laws.FnExactDecodeGcr'. -/
def fnExactDecodeGcrCard : Claim7 := { stood := { row := fnExactDecodeGcrRow, standIns := [], harness := (true, "1af09f2469c05dc7f59359c3ae9ca8ef86f6bc072fd67e43560ba0450df7d004"), looks := false }, kinds := [], alts := [], laidByText := true, laidKinds := [.data], laidTests := true, laidLooks := .later }
def FnExactDecodeGcrCardSaid : Prop := Claim7.holds Tryd.pinned (.plain (OpenSpec.ofChange fnExactDecodeGcrSpec)) fnExactDecodeGcrCard

/-- THE TIED CARD OF 'laws.FnExactGcrFaults'. -/
def fnExactGcrFaultsCard : Claim7 := { stood := { row := fnExactGcrFaultsRow, standIns := [], harness := (true, "1af09f2469c05dc7f59359c3ae9ca8ef86f6bc072fd67e43560ba0450df7d004"), looks := false }, kinds := [], alts := [], laidByText := true, laidKinds := [.data], laidTests := true, laidLooks := .later }
def FnExactGcrFaultsCardSaid : Prop := Claim7.holds Tryd.pinned (.plain (OpenSpec.ofChange fnExactGcrFaultsSpec)) fnExactGcrFaultsCard

/-- THE TIED CARD OF 'laws.FnExactNearestGcr'. -/
def fnExactNearestGcrCard : Claim7 := { stood := { row := fnExactNearestGcrRow, standIns := [], harness := (true, "1af09f2469c05dc7f59359c3ae9ca8ef86f6bc072fd67e43560ba0450df7d004"), looks := false }, kinds := [], alts := [], laidByText := true, laidKinds := [.data], laidTests := true, laidLooks := .later }
def FnExactNearestGcrCardSaid : Prop := Claim7.holds Tryd.pinned (.plain (OpenSpec.ofChange fnExactNearestGcrSpec)) fnExactNearestGcrCard

/-- THE TIED CARD OF 'laws.FnExactRepairGcr'. -/
def fnExactRepairGcrCard : Claim7 := { stood := { row := fnExactRepairGcrRow, standIns := [], harness := (true, "1af09f2469c05dc7f59359c3ae9ca8ef86f6bc072fd67e43560ba0450df7d004"), looks := false }, kinds := [], alts := [], laidByText := true, laidKinds := [.data], laidTests := true, laidLooks := .later }
def FnExactRepairGcrCardSaid : Prop := Claim7.holds Tryd.pinned (.plain (OpenSpec.ofChange fnExactRepairGcrSpec)) fnExactRepairGcrCard

/-- THE TIED CARD OF 'laws.FnGcr'. -/
def fnGcrCard : Claim7 := { stood := { row := fnGcrRow, standIns := [], harness := (true, "1af09f2469c05dc7f59359c3ae9ca8ef86f6bc072fd67e43560ba0450df7d004"), looks := false }, kinds := [], alts := [], laidByText := true, laidKinds := [.data], laidTests := true, laidLooks := .later }
def FnGcrCardSaid : Prop := Claim7.holds Tryd.pinned (.plain (OpenSpec.ofChange fnGcrSpec)) fnGcrCard

/-- THE TIED CARD OF 'laws.FnGcrRepair'. -/
def fnGcrRepairCard : Claim7 := { stood := { row := fnGcrRepairRow, standIns := [], harness := (true, "1af09f2469c05dc7f59359c3ae9ca8ef86f6bc072fd67e43560ba0450df7d004"), looks := false }, kinds := [], alts := [], laidByText := true, laidKinds := [.data], laidTests := true, laidLooks := .later }
def FnGcrRepairCardSaid : Prop := Claim7.holds Tryd.pinned (.plain (OpenSpec.ofChange fnGcrRepairSpec)) fnGcrRepairCard

/-- THE SECOND FORM's CARD OF 'laws.FnExactGcrCode'. -/
def fnExactGcrCodeUptoCard : Claim7 := { stood := { row := fnExactGcrCodeUptoRow, standIns := [], harness := (true, "1af09f2469c05dc7f59359c3ae9ca8ef86f6bc072fd67e43560ba0450df7d004"), looks := false }, kinds := [], alts := [], laidByText := true, laidKinds := [.data], laidTests := true, laidLooks := .later }
def FnExactGcrCodeUptoCardSaid : Prop := Claim7.holds Tryd.pinned (.plain (OpenSpec.upto fnExactGcrCodeSpec)) fnExactGcrCodeUptoCard

/-- THE SECOND FORM's CARD OF 'laws.FnExactGcrValue'. -/
def fnExactGcrValueUptoCard : Claim7 := { stood := { row := fnExactGcrValueUptoRow, standIns := [], harness := (true, "1af09f2469c05dc7f59359c3ae9ca8ef86f6bc072fd67e43560ba0450df7d004"), looks := false }, kinds := [], alts := [], laidByText := true, laidKinds := [.data], laidTests := true, laidLooks := .later }
def FnExactGcrValueUptoCardSaid : Prop := Claim7.holds Tryd.pinned (.plain (OpenSpec.upto fnExactGcrValueSpec)) fnExactGcrValueUptoCard

/-- THE SECOND FORM's CARD OF 'laws.FnExactEncodeGcr'. -/
def fnExactEncodeGcrUptoCard : Claim7 := { stood := { row := fnExactEncodeGcrUptoRow, standIns := [], harness := (true, "1af09f2469c05dc7f59359c3ae9ca8ef86f6bc072fd67e43560ba0450df7d004"), looks := false }, kinds := [], alts := [], laidByText := true, laidKinds := [.data], laidTests := true, laidLooks := .later }
def FnExactEncodeGcrUptoCardSaid : Prop := Claim7.holds Tryd.pinned (.plain (OpenSpec.upto fnExactEncodeGcrSpec)) fnExactEncodeGcrUptoCard

/-- THE SECOND FORM's CARD OF 'laws.FnExactDecodeGcr'. -/
def fnExactDecodeGcrUptoCard : Claim7 := { stood := { row := fnExactDecodeGcrUptoRow, standIns := [], harness := (true, "1af09f2469c05dc7f59359c3ae9ca8ef86f6bc072fd67e43560ba0450df7d004"), looks := false }, kinds := [], alts := [], laidByText := true, laidKinds := [.data], laidTests := true, laidLooks := .later }
def FnExactDecodeGcrUptoCardSaid : Prop := Claim7.holds Tryd.pinned (.plain (OpenSpec.upto fnExactDecodeGcrSpec)) fnExactDecodeGcrUptoCard

/-- THE SECOND FORM's CARD OF 'laws.FnExactGcrFaults'. -/
def fnExactGcrFaultsUptoCard : Claim7 := { stood := { row := fnExactGcrFaultsUptoRow, standIns := [], harness := (true, "1af09f2469c05dc7f59359c3ae9ca8ef86f6bc072fd67e43560ba0450df7d004"), looks := false }, kinds := [], alts := [], laidByText := true, laidKinds := [.data], laidTests := true, laidLooks := .later }
def FnExactGcrFaultsUptoCardSaid : Prop := Claim7.holds Tryd.pinned (.plain (OpenSpec.upto fnExactGcrFaultsSpec)) fnExactGcrFaultsUptoCard

/-- THE SECOND FORM's CARD OF 'laws.FnExactNearestGcr'. -/
def fnExactNearestGcrUptoCard : Claim7 := { stood := { row := fnExactNearestGcrUptoRow, standIns := [], harness := (true, "1af09f2469c05dc7f59359c3ae9ca8ef86f6bc072fd67e43560ba0450df7d004"), looks := false }, kinds := [], alts := [], laidByText := true, laidKinds := [.data], laidTests := true, laidLooks := .later }
def FnExactNearestGcrUptoCardSaid : Prop := Claim7.holds Tryd.pinned (.plain (OpenSpec.upto fnExactNearestGcrSpec)) fnExactNearestGcrUptoCard

/-- THE SECOND FORM's CARD OF 'laws.FnExactRepairGcr'. -/
def fnExactRepairGcrUptoCard : Claim7 := { stood := { row := fnExactRepairGcrUptoRow, standIns := [], harness := (true, "1af09f2469c05dc7f59359c3ae9ca8ef86f6bc072fd67e43560ba0450df7d004"), looks := false }, kinds := [], alts := [], laidByText := true, laidKinds := [.data], laidTests := true, laidLooks := .later }
def FnExactRepairGcrUptoCardSaid : Prop := Claim7.holds Tryd.pinned (.plain (OpenSpec.upto fnExactRepairGcrSpec)) fnExactRepairGcrUptoCard

/-- THE SECOND FORM's CARD OF 'laws.FnGcr'. -/
def fnGcrUptoCard : Claim7 := { stood := { row := fnGcrUptoRow, standIns := [], harness := (true, "1af09f2469c05dc7f59359c3ae9ca8ef86f6bc072fd67e43560ba0450df7d004"), looks := false }, kinds := [], alts := [], laidByText := true, laidKinds := [.data], laidTests := true, laidLooks := .later }
def FnGcrUptoCardSaid : Prop := Claim7.holds Tryd.pinned (.plain (OpenSpec.upto fnGcrSpec)) fnGcrUptoCard

/-- THE SECOND FORM's CARD OF 'laws.FnGcrRepair'. -/
def fnGcrRepairUptoCard : Claim7 := { stood := { row := fnGcrRepairUptoRow, standIns := [], harness := (true, "1af09f2469c05dc7f59359c3ae9ca8ef86f6bc072fd67e43560ba0450df7d004"), looks := false }, kinds := [], alts := [], laidByText := true, laidKinds := [.data], laidTests := true, laidLooks := .later }
def FnGcrRepairUptoCardSaid : Prop := Claim7.holds Tryd.pinned (.plain (OpenSpec.upto fnGcrRepairSpec)) fnGcrRepairUptoCard
end Rows
end Go.Proofs.YtkdhhkoablmbbabDoor

/-
  DERIVED. GIVEN WITH THE SEED: THE CARDS: each row of YtlflmobaegfnaaaDoorRows.lean that lists a variable, with what it lists TIED to the program's text (the seventh form; the later family's looks); each row that meets fmt, with fmt's text TOLD by the authors' own Lean function (tested against real Go, not proved from fmt's source: count such statements apart). THE CARD IS WHAT COUNTS. Prove the row's statement (the work); the ties are given (YtlflmobaegfnaaaDoorTie.lean); close each card by the builder's one call (the guide's Derived/Test/ToyasCard.lean, 'card_holds'). Laid BY PROGRAM, IN A SANDBOX (cutbox-door.mjs). By AI agents, Wed Nov 11 2026. No macro, syntax, notation, axiom, sorry.
-/
import Derived.Test.YtlflmobaegfnaaaDoorRows
import GoSem.ClaimSeven
namespace Go.Proofs.YtlflmobaegfnaaaDoor
namespace Rows

/-- THE TIED CARD OF 'geodelaw04.KindHeaps'. -/
def kindHeapsCard : Claim7 := { stood := { row := kindHeapsRow, standIns := [], harness := (true, "d5e75107769c9e1e386e00bd6581d61727ff04f3f2bc903f6720c822e732676f"), looks := false }, kinds := [], alts := [], laidByText := true, laidKinds := [.data, .data, .data, .data], laidTests := true, laidLooks := .later }
def KindHeapsCardSaid : Prop := Claim7.holds Tryd.pinned (.plain (OpenSpec.ofChange kindHeapsSpec)) kindHeapsCard

/-- THE TIED CARD OF 'geodelaw04.KindMaps'. -/
def kindMapsCard : Claim7 := { stood := { row := kindMapsRow, standIns := [], harness := (true, "d5e75107769c9e1e386e00bd6581d61727ff04f3f2bc903f6720c822e732676f"), looks := false }, kinds := [], alts := [], laidByText := true, laidKinds := [.data, .data, .data, .data], laidTests := true, laidLooks := .later }
def KindMapsCardSaid : Prop := Claim7.holds Tryd.pinned (.plain (OpenSpec.ofChange kindMapsSpec)) kindMapsCard

/-- THE TIED CARD OF 'geodelaw04.KindParts'. -/
def kindPartsCard : Claim7 := { stood := { row := kindPartsRow, standIns := [], harness := (true, "d5e75107769c9e1e386e00bd6581d61727ff04f3f2bc903f6720c822e732676f"), looks := false }, kinds := [], alts := [], laidByText := true, laidKinds := [.data, .data, .data, .data], laidTests := true, laidLooks := .later }
def KindPartsCardSaid : Prop := Claim7.holds Tryd.pinned (.plain (OpenSpec.ofChange kindPartsSpec)) kindPartsCard

/-- THE TIED CARD OF 'geodelaw05.OpsTell'. -/
def opsTellCard : Claim7 := { stood := { row := opsTellRow, standIns := [], harness := (true, "d5e75107769c9e1e386e00bd6581d61727ff04f3f2bc903f6720c822e732676f"), looks := false }, kinds := [], alts := [], laidByText := true, laidKinds := [.data, .listed, .data, .pinned], laidTests := true, laidLooks := .later }
def OpsTellCardSaid : Prop := Claim7.holds Tryd.pinned (.plain (OpenSpec.ofChange opsTellSpec)) opsTellCard

/-- THE TIED CARD OF 'geodelaw05.OpsFind'. -/
def opsFindCard : Claim7 := { stood := { row := opsFindRow, standIns := [], harness := (true, "d5e75107769c9e1e386e00bd6581d61727ff04f3f2bc903f6720c822e732676f"), looks := false }, kinds := [], alts := [], laidByText := true, laidKinds := [.data, .listed, .data, .pinned], laidTests := true, laidLooks := .later }
def OpsFindCardSaid : Prop := Claim7.holds Tryd.pinned (.plain (OpenSpec.ofChange opsFindSpec)) opsFindCard

/-- THE TIED CARD OF 'geodelaw05.OpsAll'. -/
def opsAllCard : Claim7 := { stood := { row := opsAllRow, standIns := [], harness := (true, "d5e75107769c9e1e386e00bd6581d61727ff04f3f2bc903f6720c822e732676f"), looks := false }, kinds := [], alts := [], laidByText := true, laidKinds := [.data, .listed, .data, .pinned], laidTests := true, laidLooks := .later }
def OpsAllCardSaid : Prop := Claim7.holds Tryd.pinned (.plain (OpenSpec.ofChange opsAllSpec)) opsAllCard

/-- THE SECOND FORM's CARD OF 'geodelaw04.KindHeaps'. -/
def kindHeapsUptoCard : Claim7 := { stood := { row := kindHeapsUptoRow, standIns := [], harness := (true, "d5e75107769c9e1e386e00bd6581d61727ff04f3f2bc903f6720c822e732676f"), looks := false }, kinds := [], alts := [], laidByText := true, laidKinds := [.data, .data, .data, .data], laidTests := true, laidLooks := .later }
def KindHeapsUptoCardSaid : Prop := Claim7.holds Tryd.pinned (.plain (OpenSpec.upto kindHeapsSpec)) kindHeapsUptoCard

/-- THE SECOND FORM's CARD OF 'geodelaw04.KindMaps'. -/
def kindMapsUptoCard : Claim7 := { stood := { row := kindMapsUptoRow, standIns := [], harness := (true, "d5e75107769c9e1e386e00bd6581d61727ff04f3f2bc903f6720c822e732676f"), looks := false }, kinds := [], alts := [], laidByText := true, laidKinds := [.data, .data, .data, .data], laidTests := true, laidLooks := .later }
def KindMapsUptoCardSaid : Prop := Claim7.holds Tryd.pinned (.plain (OpenSpec.upto kindMapsSpec)) kindMapsUptoCard

/-- THE SECOND FORM's CARD OF 'geodelaw04.KindParts'. -/
def kindPartsUptoCard : Claim7 := { stood := { row := kindPartsUptoRow, standIns := [], harness := (true, "d5e75107769c9e1e386e00bd6581d61727ff04f3f2bc903f6720c822e732676f"), looks := false }, kinds := [], alts := [], laidByText := true, laidKinds := [.data, .data, .data, .data], laidTests := true, laidLooks := .later }
def KindPartsUptoCardSaid : Prop := Claim7.holds Tryd.pinned (.plain (OpenSpec.upto kindPartsSpec)) kindPartsUptoCard

/-- THE SECOND FORM's CARD OF 'geodelaw05.OpsTell'. -/
def opsTellUptoCard : Claim7 := { stood := { row := opsTellUptoRow, standIns := [], harness := (true, "d5e75107769c9e1e386e00bd6581d61727ff04f3f2bc903f6720c822e732676f"), looks := false }, kinds := [], alts := [], laidByText := true, laidKinds := [.data, .listed, .data, .pinned], laidTests := true, laidLooks := .later }
def OpsTellUptoCardSaid : Prop := Claim7.holds Tryd.pinned (.plain (OpenSpec.upto opsTellSpec)) opsTellUptoCard

/-- THE SECOND FORM's CARD OF 'geodelaw05.OpsFind'. -/
def opsFindUptoCard : Claim7 := { stood := { row := opsFindUptoRow, standIns := [], harness := (true, "d5e75107769c9e1e386e00bd6581d61727ff04f3f2bc903f6720c822e732676f"), looks := false }, kinds := [], alts := [], laidByText := true, laidKinds := [.data, .listed, .data, .pinned], laidTests := true, laidLooks := .later }
def OpsFindUptoCardSaid : Prop := Claim7.holds Tryd.pinned (.plain (OpenSpec.upto opsFindSpec)) opsFindUptoCard

/-- THE SECOND FORM's CARD OF 'geodelaw05.OpsAll'. -/
def opsAllUptoCard : Claim7 := { stood := { row := opsAllUptoRow, standIns := [], harness := (true, "d5e75107769c9e1e386e00bd6581d61727ff04f3f2bc903f6720c822e732676f"), looks := false }, kinds := [], alts := [], laidByText := true, laidKinds := [.data, .listed, .data, .pinned], laidTests := true, laidLooks := .later }
def OpsAllUptoCardSaid : Prop := Claim7.holds Tryd.pinned (.plain (OpenSpec.upto opsAllSpec)) opsAllUptoCard
end Rows
end Go.Proofs.YtlflmobaegfnaaaDoor

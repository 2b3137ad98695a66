/-
  DERIVED. GIVEN WITH THE SEED: THE CARDS: each row of YtlflmobaegfnaabDoorRows.lean that lists a variable, with what it lists TIED to the program's text (the seventh form; the later family's looks); each row that meets fmt, with fmt's text TOLD by the authors' own Lean function (tested against real Go, not proved from fmt's source: count such statements apart). THE CARD IS WHAT COUNTS. Prove the row's statement (the work); the ties are given (YtlflmobaegfnaabDoorTie.lean); close each card by the builder's one call (the guide's Derived/Test/ToyasCard.lean, 'card_holds'). Laid BY PROGRAM, IN A SANDBOX (cutbox-door.mjs). By AI agents, Wed Nov 11 2026. No macro, syntax, notation, axiom, sorry.
-/
import Derived.Test.YtlflmobaegfnaabDoorRows
import GoSem.ClaimSeven
namespace Go.Proofs.YtlflmobaegfnaabDoor
namespace Rows

/-- THE TIED CARD OF 'geodelaw05.OpsApart'. -/
def opsApartCard : Claim7 := { stood := { row := opsApartRow, standIns := [], harness := (true, "50f4c4c07173f10d3ac12a306981361e9ec90505d0502c8aab54b9c124f42897"), looks := false }, kinds := [], alts := [], laidByText := true, laidKinds := [.data, .listed, .data, .pinned], laidTests := true, laidLooks := .later }
def OpsApartCardSaid : Prop := Claim7.holds Tryd.pinned (.plain (OpenSpec.ofChange opsApartSpec)) opsApartCard

/-- THE TIED CARD OF 'geodelaw05.OpsLoads'. -/
def opsLoadsCard : Claim7 := { stood := { row := opsLoadsRow, standIns := [], harness := (true, "50f4c4c07173f10d3ac12a306981361e9ec90505d0502c8aab54b9c124f42897"), looks := false }, kinds := [], alts := [], laidByText := true, laidKinds := [.data, .listed, .data, .pinned], laidTests := true, laidLooks := .later }
def OpsLoadsCardSaid : Prop := Claim7.holds Tryd.pinned (.plain (OpenSpec.ofChange opsLoadsSpec)) opsLoadsCard

/-- THE SECOND FORM's CARD OF 'geodelaw05.OpsApart'. -/
def opsApartUptoCard : Claim7 := { stood := { row := opsApartUptoRow, standIns := [], harness := (true, "50f4c4c07173f10d3ac12a306981361e9ec90505d0502c8aab54b9c124f42897"), looks := false }, kinds := [], alts := [], laidByText := true, laidKinds := [.data, .listed, .data, .pinned], laidTests := true, laidLooks := .later }
def OpsApartUptoCardSaid : Prop := Claim7.holds Tryd.pinned (.plain (OpenSpec.upto opsApartSpec)) opsApartUptoCard

/-- THE SECOND FORM's CARD OF 'geodelaw05.OpsLoads'. -/
def opsLoadsUptoCard : Claim7 := { stood := { row := opsLoadsUptoRow, standIns := [], harness := (true, "50f4c4c07173f10d3ac12a306981361e9ec90505d0502c8aab54b9c124f42897"), looks := false }, kinds := [], alts := [], laidByText := true, laidKinds := [.data, .listed, .data, .pinned], laidTests := true, laidLooks := .later }
def OpsLoadsUptoCardSaid : Prop := Claim7.holds Tryd.pinned (.plain (OpenSpec.upto opsLoadsSpec)) opsLoadsUptoCard
end Rows
end Go.Proofs.YtlflmobaegfnaabDoor

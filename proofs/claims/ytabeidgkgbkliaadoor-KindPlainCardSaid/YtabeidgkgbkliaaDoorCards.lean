/-
  DERIVED. GIVEN WITH THE SEED: THE CARDS: each row of YtabeidgkgbkliaaDoorRows.lean that lists a variable, with what it lists TIED to the program's text (the seventh form; the later family's looks); each row that meets fmt, with fmt's text TOLD by the authors' own Lean function (tested against real Go, not proved from fmt's source: count such statements apart). THE CARD IS WHAT COUNTS. Prove the row's statement (the work); the ties are given (YtabeidgkgbkliaaDoorTie.lean); close each card by the builder's one call (the guide's Derived/Test/ToyasCard.lean, 'card_holds'). Laid BY PROGRAM, IN A SANDBOX (cutbox-door.mjs). By AI agents, Wed Nov 11 2026. No macro, syntax, notation, axiom, sorry.
-/
import Derived.Test.YtabeidgkgbkliaaDoorRows
import GoSem.ClaimSeven
namespace Go.Proofs.YtabeidgkgbkliaaDoor
namespace Rows

/-- THE TIED CARD OF 'geodelaw04.KindPlain'. -/
def kindPlainCard : Claim7 := { stood := { row := kindPlainRow, standIns := [], harness := (true, "c6f5c912a75ee65f528d2df3afa84783390f460875eccaeb31c3a14858dbab10"), looks := false }, kinds := [], alts := [], laidByText := true, laidKinds := [.data, .data, .data, .data], laidTests := true, laidLooks := .later }
def KindPlainCardSaid : Prop := Claim7.holds Tryd.pinned (.plain (OpenSpec.ofChange kindPlainSpec)) kindPlainCard

/-- THE TIED CARD OF 'geodelaw04.KindHeaps'. -/
def kindHeapsCard : Claim7 := { stood := { row := kindHeapsRow, standIns := [], harness := (true, "c6f5c912a75ee65f528d2df3afa84783390f460875eccaeb31c3a14858dbab10"), looks := false }, kinds := [], alts := [], laidByText := true, laidKinds := [.data, .data, .data, .data], laidTests := true, laidLooks := .later }
def KindHeapsCardSaid : Prop := Claim7.holds Tryd.pinned (.plain (OpenSpec.ofChange kindHeapsSpec)) kindHeapsCard

/-- THE TIED CARD OF 'geodelaw04.KindWriting'. -/
def kindWritingCard : Claim7 := { stood := { row := kindWritingRow, standIns := [], harness := (true, "c6f5c912a75ee65f528d2df3afa84783390f460875eccaeb31c3a14858dbab10"), looks := false }, kinds := [], alts := [], laidByText := true, laidKinds := [.data, .data, .data, .data], laidTests := true, laidLooks := .later }
def KindWritingCardSaid : Prop := Claim7.holds Tryd.pinned (.plain (OpenSpec.ofChange kindWritingSpec)) kindWritingCard

/-- THE TIED CARD OF 'geodelaw04.KindMaps'. -/
def kindMapsCard : Claim7 := { stood := { row := kindMapsRow, standIns := [], harness := (true, "c6f5c912a75ee65f528d2df3afa84783390f460875eccaeb31c3a14858dbab10"), looks := false }, kinds := [], alts := [], laidByText := true, laidKinds := [.data, .data, .data, .data], laidTests := true, laidLooks := .later }
def KindMapsCardSaid : Prop := Claim7.holds Tryd.pinned (.plain (OpenSpec.ofChange kindMapsSpec)) kindMapsCard

/-- THE TIED CARD OF 'geodelaw04.KindParts'. -/
def kindPartsCard : Claim7 := { stood := { row := kindPartsRow, standIns := [], harness := (true, "c6f5c912a75ee65f528d2df3afa84783390f460875eccaeb31c3a14858dbab10"), looks := false }, kinds := [], alts := [], laidByText := true, laidKinds := [.data, .data, .data, .data], laidTests := true, laidLooks := .later }
def KindPartsCardSaid : Prop := Claim7.holds Tryd.pinned (.plain (OpenSpec.ofChange kindPartsSpec)) kindPartsCard

/-- THE SECOND FORM's CARD OF 'geodelaw04.KindPlain'. -/
def kindPlainUptoCard : Claim7 := { stood := { row := kindPlainUptoRow, standIns := [], harness := (true, "c6f5c912a75ee65f528d2df3afa84783390f460875eccaeb31c3a14858dbab10"), looks := false }, kinds := [], alts := [], laidByText := true, laidKinds := [.data, .data, .data, .data], laidTests := true, laidLooks := .later }
def KindPlainUptoCardSaid : Prop := Claim7.holds Tryd.pinned (.plain (OpenSpec.upto kindPlainSpec)) kindPlainUptoCard

/-- THE SECOND FORM's CARD OF 'geodelaw04.KindHeaps'. -/
def kindHeapsUptoCard : Claim7 := { stood := { row := kindHeapsUptoRow, standIns := [], harness := (true, "c6f5c912a75ee65f528d2df3afa84783390f460875eccaeb31c3a14858dbab10"), looks := false }, kinds := [], alts := [], laidByText := true, laidKinds := [.data, .data, .data, .data], laidTests := true, laidLooks := .later }
def KindHeapsUptoCardSaid : Prop := Claim7.holds Tryd.pinned (.plain (OpenSpec.upto kindHeapsSpec)) kindHeapsUptoCard

/-- THE SECOND FORM's CARD OF 'geodelaw04.KindWriting'. -/
def kindWritingUptoCard : Claim7 := { stood := { row := kindWritingUptoRow, standIns := [], harness := (true, "c6f5c912a75ee65f528d2df3afa84783390f460875eccaeb31c3a14858dbab10"), looks := false }, kinds := [], alts := [], laidByText := true, laidKinds := [.data, .data, .data, .data], laidTests := true, laidLooks := .later }
def KindWritingUptoCardSaid : Prop := Claim7.holds Tryd.pinned (.plain (OpenSpec.upto kindWritingSpec)) kindWritingUptoCard

/-- THE SECOND FORM's CARD OF 'geodelaw04.KindMaps'. -/
def kindMapsUptoCard : Claim7 := { stood := { row := kindMapsUptoRow, standIns := [], harness := (true, "c6f5c912a75ee65f528d2df3afa84783390f460875eccaeb31c3a14858dbab10"), looks := false }, kinds := [], alts := [], laidByText := true, laidKinds := [.data, .data, .data, .data], laidTests := true, laidLooks := .later }
def KindMapsUptoCardSaid : Prop := Claim7.holds Tryd.pinned (.plain (OpenSpec.upto kindMapsSpec)) kindMapsUptoCard

/-- THE SECOND FORM's CARD OF 'geodelaw04.KindParts'. -/
def kindPartsUptoCard : Claim7 := { stood := { row := kindPartsUptoRow, standIns := [], harness := (true, "c6f5c912a75ee65f528d2df3afa84783390f460875eccaeb31c3a14858dbab10"), looks := false }, kinds := [], alts := [], laidByText := true, laidKinds := [.data, .data, .data, .data], laidTests := true, laidLooks := .later }
def KindPartsUptoCardSaid : Prop := Claim7.holds Tryd.pinned (.plain (OpenSpec.upto kindPartsSpec)) kindPartsUptoCard
end Rows
end Go.Proofs.YtabeidgkgbkliaaDoor

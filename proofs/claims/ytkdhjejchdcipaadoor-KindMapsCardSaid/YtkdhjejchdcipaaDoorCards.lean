/-
  DERIVED. GIVEN WITH THE SEED: THE CARDS: each row of YtkdhjejchdcipaaDoorRows.lean that lists a variable, with what it lists TIED to the program's text (the seventh form; the later family's looks); each row that meets fmt, with fmt's text TOLD by the authors' own Lean function (tested against real Go, not proved from fmt's source: count such statements apart). THE CARD IS WHAT COUNTS. Prove the row's statement (the work); the ties are given (YtkdhjejchdcipaaDoorTie.lean); close each card by the builder's one call (the guide's Derived/Test/ToyasCard.lean, 'card_holds'). Laid BY PROGRAM, IN A SANDBOX (cutbox-door.mjs). By AI agents, Wed Nov 11 2026. No macro, syntax, notation, axiom, sorry.
-/
import Derived.Test.YtkdhjejchdcipaaDoorRows
import GoSem.ClaimSeven
namespace Go.Proofs.YtkdhjejchdcipaaDoor
namespace Rows

/-- THE TIED CARD OF 'geodelaw04.KindHeaps'. -/
def kindHeapsCard : Claim7 := { stood := { row := kindHeapsRow, standIns := [], harness := (true, "db697916913c5a118052b77252955c11d35c2301b180dafb33707c1d4834e3bf"), looks := false }, kinds := [], alts := [], laidByText := true, laidKinds := [.data, .data, .data, .data], laidTests := true, laidLooks := .later }
def KindHeapsCardSaid : Prop := Claim7.holds Tryd.pinned (.plain (OpenSpec.ofChange kindHeapsSpec)) kindHeapsCard

/-- THE TIED CARD OF 'geodelaw04.KindMaps'. -/
def kindMapsCard : Claim7 := { stood := { row := kindMapsRow, standIns := [], harness := (true, "db697916913c5a118052b77252955c11d35c2301b180dafb33707c1d4834e3bf"), looks := false }, kinds := [], alts := [], laidByText := true, laidKinds := [.data, .data, .data, .data], laidTests := true, laidLooks := .later }
def KindMapsCardSaid : Prop := Claim7.holds Tryd.pinned (.plain (OpenSpec.ofChange kindMapsSpec)) kindMapsCard

/-- THE TIED CARD OF 'geodelaw06.TbinReads'. -/
def tbinReadsCard : Claim7 := { stood := { row := tbinReadsRow, standIns := [], harness := (true, "db697916913c5a118052b77252955c11d35c2301b180dafb33707c1d4834e3bf"), looks := false }, kinds := [], alts := [], laidByText := true, laidKinds := [.data], laidTests := true, laidLooks := .later }
def TbinReadsCardSaid : Prop := Claim7.holds Tryd.pinned (.plain (OpenSpec.ofChange tbinReadsSpec)) tbinReadsCard

/-- THE TIED CARD OF 'geodelaw06.TbinBack'. -/
def tbinBackCard : Claim7 := { stood := { row := tbinBackRow, standIns := [], harness := (true, "db697916913c5a118052b77252955c11d35c2301b180dafb33707c1d4834e3bf"), looks := false }, kinds := [], alts := [], laidByText := true, laidKinds := [.data], laidTests := true, laidLooks := .later }
def TbinBackCardSaid : Prop := Claim7.holds Tryd.pinned (.plain (OpenSpec.ofChange tbinBackSpec)) tbinBackCard

/-- THE TIED CARD OF 'geodelaw06.TbinCut'. -/
def tbinCutCard : Claim7 := { stood := { row := tbinCutRow, standIns := [], harness := (true, "db697916913c5a118052b77252955c11d35c2301b180dafb33707c1d4834e3bf"), looks := false }, kinds := [], alts := [], laidByText := true, laidKinds := [.data], laidTests := true, laidLooks := .later }
def TbinCutCardSaid : Prop := Claim7.holds Tryd.pinned (.plain (OpenSpec.ofChange tbinCutSpec)) tbinCutCard

/-- THE SECOND FORM's CARD OF 'geodelaw04.KindHeaps'. -/
def kindHeapsUptoCard : Claim7 := { stood := { row := kindHeapsUptoRow, standIns := [], harness := (true, "db697916913c5a118052b77252955c11d35c2301b180dafb33707c1d4834e3bf"), looks := false }, kinds := [], alts := [], laidByText := true, laidKinds := [.data, .data, .data, .data], laidTests := true, laidLooks := .later }
def KindHeapsUptoCardSaid : Prop := Claim7.holds Tryd.pinned (.plain (OpenSpec.upto kindHeapsSpec)) kindHeapsUptoCard

/-- THE SECOND FORM's CARD OF 'geodelaw04.KindMaps'. -/
def kindMapsUptoCard : Claim7 := { stood := { row := kindMapsUptoRow, standIns := [], harness := (true, "db697916913c5a118052b77252955c11d35c2301b180dafb33707c1d4834e3bf"), looks := false }, kinds := [], alts := [], laidByText := true, laidKinds := [.data, .data, .data, .data], laidTests := true, laidLooks := .later }
def KindMapsUptoCardSaid : Prop := Claim7.holds Tryd.pinned (.plain (OpenSpec.upto kindMapsSpec)) kindMapsUptoCard

/-- THE SECOND FORM's CARD OF 'geodelaw06.TbinReads'. -/
def tbinReadsUptoCard : Claim7 := { stood := { row := tbinReadsUptoRow, standIns := [], harness := (true, "db697916913c5a118052b77252955c11d35c2301b180dafb33707c1d4834e3bf"), looks := false }, kinds := [], alts := [], laidByText := true, laidKinds := [.data], laidTests := true, laidLooks := .later }
def TbinReadsUptoCardSaid : Prop := Claim7.holds Tryd.pinned (.plain (OpenSpec.upto tbinReadsSpec)) tbinReadsUptoCard

/-- THE SECOND FORM's CARD OF 'geodelaw06.TbinBack'. -/
def tbinBackUptoCard : Claim7 := { stood := { row := tbinBackUptoRow, standIns := [], harness := (true, "db697916913c5a118052b77252955c11d35c2301b180dafb33707c1d4834e3bf"), looks := false }, kinds := [], alts := [], laidByText := true, laidKinds := [.data], laidTests := true, laidLooks := .later }
def TbinBackUptoCardSaid : Prop := Claim7.holds Tryd.pinned (.plain (OpenSpec.upto tbinBackSpec)) tbinBackUptoCard

/-- THE SECOND FORM's CARD OF 'geodelaw06.TbinCut'. -/
def tbinCutUptoCard : Claim7 := { stood := { row := tbinCutUptoRow, standIns := [], harness := (true, "db697916913c5a118052b77252955c11d35c2301b180dafb33707c1d4834e3bf"), looks := false }, kinds := [], alts := [], laidByText := true, laidKinds := [.data], laidTests := true, laidLooks := .later }
def TbinCutUptoCardSaid : Prop := Claim7.holds Tryd.pinned (.plain (OpenSpec.upto tbinCutSpec)) tbinCutUptoCard
end Rows
end Go.Proofs.YtkdhjejchdcipaaDoor

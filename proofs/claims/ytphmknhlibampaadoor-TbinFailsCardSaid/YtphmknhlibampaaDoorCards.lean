/-
  DERIVED. GIVEN WITH THE SEED: THE CARDS: each row of YtphmknhlibampaaDoorRows.lean that lists a variable, with what it lists TIED to the program's text (the seventh form; the later family's looks); each row that meets fmt, with fmt's text TOLD by the authors' own Lean function (tested against real Go, not proved from fmt's source: count such statements apart). THE CARD IS WHAT COUNTS. Prove the row's statement (the work); the ties are given (YtphmknhlibampaaDoorTie.lean); close each card by the builder's one call (the guide's Derived/Test/ToyasCard.lean, 'card_holds'). Laid BY PROGRAM, IN A SANDBOX (cutbox-door.mjs). By AI agents, Wed Nov 11 2026. No macro, syntax, notation, axiom, sorry.
-/
import Derived.Test.YtphmknhlibampaaDoorRows
import GoSem.ClaimSeven
namespace Go.Proofs.YtphmknhlibampaaDoor
namespace Rows

/-- THE TIED CARD OF 'geodelaw06.TbinReads'. -/
def tbinReadsCard : Claim7 := { stood := { row := tbinReadsRow, standIns := [], harness := (true, "f9fdee7dabd1b20b69a9c1705bd4ab4cf10e9b30d55bfb32094b5f1b5c096b7c"), looks := false }, kinds := [], alts := [], laidByText := true, laidKinds := [.data], laidTests := true, laidLooks := .later }
def TbinReadsCardSaid : Prop := Claim7.holds Tryd.pinned (.plain (OpenSpec.ofChange tbinReadsSpec)) tbinReadsCard

/-- THE TIED CARD OF 'geodelaw06.TbinNone'. -/
def tbinNoneCard : Claim7 := { stood := { row := tbinNoneRow, standIns := [], harness := (true, "f9fdee7dabd1b20b69a9c1705bd4ab4cf10e9b30d55bfb32094b5f1b5c096b7c"), looks := false }, kinds := [], alts := [], laidByText := true, laidKinds := [.data], laidTests := true, laidLooks := .later }
def TbinNoneCardSaid : Prop := Claim7.holds Tryd.pinned (.plain (OpenSpec.ofChange tbinNoneSpec)) tbinNoneCard

/-- THE TIED CARD OF 'geodelaw06.TbinBack'. -/
def tbinBackCard : Claim7 := { stood := { row := tbinBackRow, standIns := [], harness := (true, "f9fdee7dabd1b20b69a9c1705bd4ab4cf10e9b30d55bfb32094b5f1b5c096b7c"), looks := false }, kinds := [], alts := [], laidByText := true, laidKinds := [.data], laidTests := true, laidLooks := .later }
def TbinBackCardSaid : Prop := Claim7.holds Tryd.pinned (.plain (OpenSpec.ofChange tbinBackSpec)) tbinBackCard

/-- THE TIED CARD OF 'geodelaw06.TbinCut'. -/
def tbinCutCard : Claim7 := { stood := { row := tbinCutRow, standIns := [], harness := (true, "f9fdee7dabd1b20b69a9c1705bd4ab4cf10e9b30d55bfb32094b5f1b5c096b7c"), looks := false }, kinds := [], alts := [], laidByText := true, laidKinds := [.data], laidTests := true, laidLooks := .later }
def TbinCutCardSaid : Prop := Claim7.holds Tryd.pinned (.plain (OpenSpec.ofChange tbinCutSpec)) tbinCutCard

/-- THE TIED CARD OF 'geodelaw06.TbinFails'. -/
def tbinFailsCard : Claim7 := { stood := { row := tbinFailsRow, standIns := [], harness := (true, "f9fdee7dabd1b20b69a9c1705bd4ab4cf10e9b30d55bfb32094b5f1b5c096b7c"), looks := false }, kinds := [], alts := [], laidByText := true, laidKinds := [.data], laidTests := true, laidLooks := .later }
def TbinFailsCardSaid : Prop := Claim7.holds Tryd.pinned (.plain (OpenSpec.ofChange tbinFailsSpec)) tbinFailsCard

/-- THE SECOND FORM's CARD OF 'geodelaw06.TbinReads'. -/
def tbinReadsUptoCard : Claim7 := { stood := { row := tbinReadsUptoRow, standIns := [], harness := (true, "f9fdee7dabd1b20b69a9c1705bd4ab4cf10e9b30d55bfb32094b5f1b5c096b7c"), looks := false }, kinds := [], alts := [], laidByText := true, laidKinds := [.data], laidTests := true, laidLooks := .later }
def TbinReadsUptoCardSaid : Prop := Claim7.holds Tryd.pinned (.plain (OpenSpec.upto tbinReadsSpec)) tbinReadsUptoCard

/-- THE SECOND FORM's CARD OF 'geodelaw06.TbinNone'. -/
def tbinNoneUptoCard : Claim7 := { stood := { row := tbinNoneUptoRow, standIns := [], harness := (true, "f9fdee7dabd1b20b69a9c1705bd4ab4cf10e9b30d55bfb32094b5f1b5c096b7c"), looks := false }, kinds := [], alts := [], laidByText := true, laidKinds := [.data], laidTests := true, laidLooks := .later }
def TbinNoneUptoCardSaid : Prop := Claim7.holds Tryd.pinned (.plain (OpenSpec.upto tbinNoneSpec)) tbinNoneUptoCard

/-- THE SECOND FORM's CARD OF 'geodelaw06.TbinBack'. -/
def tbinBackUptoCard : Claim7 := { stood := { row := tbinBackUptoRow, standIns := [], harness := (true, "f9fdee7dabd1b20b69a9c1705bd4ab4cf10e9b30d55bfb32094b5f1b5c096b7c"), looks := false }, kinds := [], alts := [], laidByText := true, laidKinds := [.data], laidTests := true, laidLooks := .later }
def TbinBackUptoCardSaid : Prop := Claim7.holds Tryd.pinned (.plain (OpenSpec.upto tbinBackSpec)) tbinBackUptoCard

/-- THE SECOND FORM's CARD OF 'geodelaw06.TbinCut'. -/
def tbinCutUptoCard : Claim7 := { stood := { row := tbinCutUptoRow, standIns := [], harness := (true, "f9fdee7dabd1b20b69a9c1705bd4ab4cf10e9b30d55bfb32094b5f1b5c096b7c"), looks := false }, kinds := [], alts := [], laidByText := true, laidKinds := [.data], laidTests := true, laidLooks := .later }
def TbinCutUptoCardSaid : Prop := Claim7.holds Tryd.pinned (.plain (OpenSpec.upto tbinCutSpec)) tbinCutUptoCard

/-- THE SECOND FORM's CARD OF 'geodelaw06.TbinFails'. -/
def tbinFailsUptoCard : Claim7 := { stood := { row := tbinFailsUptoRow, standIns := [], harness := (true, "f9fdee7dabd1b20b69a9c1705bd4ab4cf10e9b30d55bfb32094b5f1b5c096b7c"), looks := false }, kinds := [], alts := [], laidByText := true, laidKinds := [.data], laidTests := true, laidLooks := .later }
def TbinFailsUptoCardSaid : Prop := Claim7.holds Tryd.pinned (.plain (OpenSpec.upto tbinFailsSpec)) tbinFailsUptoCard
end Rows
end Go.Proofs.YtphmknhlibampaaDoor

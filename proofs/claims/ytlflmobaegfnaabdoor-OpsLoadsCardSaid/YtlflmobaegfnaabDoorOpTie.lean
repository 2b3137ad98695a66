/-
  Layer 5: the listed tables, read off a row's condition; a start that meets them.
-/
import Derived.Test.YtlflmobaegfnaabDoorRows
import Derived.Test.YtlflmobaegfnaabDoorOpF
import Derived.LaidMore
import Derived.Lib.LaidTab
import Derived.Lib.Space
import Derived.Stop.Joined
import Derived.Stop.LaidErr
import Derived.Lay
import Derived.PinnedBridge
namespace Go.Proofs.YtlflmobaegfnaabDoor
open Go.RowKit
set_option linter.unusedVariables false
set_option maxRecDepth 100000

def laidTab5 : List (String × DataW Unit) := [("unicode/utf8.acceptRanges", Rows.laid_unicode_utf8_acceptRanges), ("unicode.White_Space", Rows.laid_unicode_White_Space), ("strings.asciiSpace", Rows.laid_strings_asciiSpace), ("unicode/utf8.first", Rows.laid_unicode_utf8_first)]
theorem gAsc : Tryd.prog.globalNamed "strings.asciiSpace" = some 0 := by kernel_rfl
theorem tAsc : (Tryd.prog.globals[0]?).map (·.type) = some 50 := by kernel_rfl
theorem cU8 : Tryd.prog.cellsOf 5 = 1 := by kernel_rfl
theorem cAsc : Tryd.prog.cellsOf 50 = 256 := by kernel_rfl
theorem asc_eq : Rows.laid_strings_asciiSpace (H := Unit) = Lib.tabData .u8 Lib.asciiSpaceTab := by kernel_rfl
theorem tab5_of_laid {W : World} (h : laidMetH Tryd.prog laidTab5 W) : Tab5 W := by
  rw [MakeChecks.laidMetH_plain _ _ _ (by kernel_rfl)] at h
  have h3 : laidMet Tryd.prog [("strings.asciiSpace", Lib.tabData .u8 Lib.asciiSpaceTab), ("unicode/utf8.first", Rows.laid_unicode_utf8_first)] W := by
    have := h.tail.tail
    rw [asc_eq] at this
    exact this
  have hT := Lib.tabIs_of_head gAsc tAsc Tryd.underlying50 Tryd.underlying5 cU8 cAsc h3
  intro c h1 h2
  have := hT.cell gAsc c (by rw [Lib.asciiSpaceTab_length]; omega)
  rw [this, Lib.asciiSpaceTab_at c (by omega)]
  have hk : ∀ c : Nat, c < 128 → 32 ≤ c → (if Lib.isSp (UInt8.ofNat c) = true then (1 : Int) else 0) = if c = 32 then 1 else 0 := by decide +kernel
  rw [hk c h2 h1]
theorem met5 (os : Os) (args : Array Value) : laidMetH Tryd.prog laidTab5 ((World.laidAll Tryd.prog os laidTab5).forCall (fun _ _ => 0) ⟨#[], args, []⟩).memory := by
  rw [MakeChecks.laidMetH_plain _ _ _ (by kernel_rfl)]
  exact laidMet_laidAll _ (by kernel_rfl) (by kernel_rfl)
end Go.Proofs.YtlflmobaegfnaabDoor

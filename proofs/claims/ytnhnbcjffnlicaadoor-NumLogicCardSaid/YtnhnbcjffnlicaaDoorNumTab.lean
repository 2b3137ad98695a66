/-
  The listed table of the library, read off the row's condition; a start that meets it.
-/
import Derived.Test.YtnhnbcjffnlicaaDoorRows
import Derived.Test.YtnhnbcjffnlicaaDoorNumC
import Derived.LaidMore
import Derived.Lib.LaidTab
import Derived.Stop.Joined
namespace Go.Proofs.YtnhnbcjffnlicaaDoor
open Go.RowKit Num
set_option linter.unusedVariables false

def laidTab : List (String × DataW Unit) := [("math/bits.deBruijn64tab", Rows.laid_math_bits_deBruijn64tab)]
theorem gTab : Tryd.prog.globalNamed "math/bits.deBruijn64tab" = some 0 := by kernel_rfl
theorem tTab : (Tryd.prog.globals[0]?).map (·.type) = some 77 := by kernel_rfl
theorem c1Tab : Tryd.prog.cellsOf 5 = 1 := by kernel_rfl
theorem c64Tab : Tryd.prog.cellsOf 77 = 64 := by kernel_rfl
theorem laid_eq : laidTab = [("math/bits.deBruijn64tab", Lib.tabData .u8 (Lib.deBruijn64tab.map Int.ofNat))] := rfl
theorem tab_of_laid {W : World} (h : laidMetH Tryd.prog laidTab W) : Tab W := by
  rw [MakeChecks.laidMetH_plain _ _ _ (by kernel_rfl)] at h
  rw [laid_eq] at h
  have hT := Lib.tabIs_of_head gTab tTab Tryd.underlying77 Tryd.underlying5 c1Tab c64Tab h
  intro j hj
  have := hT.cell gTab j (by rw [List.length_map]; exact hj)
  rw [this]
  congr 2
  simp [List.getD_eq_getElem?_getD, hj]
theorem door_met (os : Os) (args : Array Value) : laidMetH Tryd.prog laidTab ((World.doorLaid Tryd.prog 400 os).forCall (fun _ _ => 0) ⟨#[], args, []⟩).memory :=
  laidMetH_of_parts3 (fuel := 8) (laidMet_of_run' 8 (by kernel_rfl) (by kernel_rfl)) (by kernel_rfl) (by kernel_rfl)
end Go.Proofs.YtnhnbcjffnlicaaDoor

/-
  Layer 6: the listed table, read off a row's condition; a start that meets it; an argument that is a slice of bytes.
-/
import Derived.Test.YtphmknhlibampaaDoorRows
import Derived.Test.YtphmknhlibampaaDoorTbF
import Derived.LaidMore
import Derived.Lib.LaidTab
import Derived.Stop.Joined
import Derived.Stop.LaidErr
import Derived.ChangeSame
import Derived.OpenShut
namespace Go.Proofs.YtphmknhlibampaaDoor
open Go.RowKit Go.ChangeShapes Go.WideShapes Go.ChangeAt
set_option linter.unusedVariables false
set_option maxRecDepth 100000

def laidTab6 : List (String × DataW Unit) := [("geode/tbin.heapKinds", Rows.laid_geode_tbin_heapKinds)]
theorem gHK : Tryd.prog.globalNamed "geode/tbin.heapKinds" = some 0 := by kernel_rfl
theorem tHK : (Tryd.prog.globals[0]?).map (·.type) = some 141 := by kernel_rfl
theorem c1HK : Tryd.prog.cellsOf 40 = 1 := by kernel_rfl
theorem c12HK : Tryd.prog.cellsOf 141 = 12 := by kernel_rfl
theorem laid6_eq : laidTab6 = [("geode/tbin.heapKinds", Lib.tabData .i64 Tb.kinds)] := rfl
theorem tab6_of_laid {W : World} (h : laidMetH Tryd.prog laidTab6 W) : Tab6 W := by
  rw [MakeChecks.laidMetH_plain _ _ _ (by kernel_rfl)] at h
  rw [laid6_eq] at h
  have hT := Lib.tabIs_of_head gHK tHK Tryd.underlying141 Tryd.underlying40 c1HK c12HK h
  intro j hj
  exact hT.cell gHK j hj
theorem door6_met (os : Os) (args : Array Value) : laidMetH Tryd.prog laidTab6 ((World.doorLaid Tryd.prog 400 os).forCall (fun _ _ => 0) ⟨#[], args, []⟩).memory :=
  laidMetH_of_parts3 (fuel := 8) (laidMet_of_run' 8 (by kernel_rfl) (by kernel_rfl)) (by kernel_rfl) (by kernel_rfl)
theorem laidOut6 : laidOutB Tryd.prog = true := by kernel_rfl
section
variable {H : Type} {enc : TypeId × Value → H} {w : World} {base : Nat} {held : Bool}
/-- An argument that is a slice of bytes. -/
theorem open_bytes {r : Reach} {b0 : Nat} {v : Value} {d : DataW H} {p : List MemPlace} (hv : Value.okWide Tryd.prog w r b0 22 v) (h : DataW.Trod enc Tryd.prog w base (fun _ => true) held 22 v d p) :
    ∃ (A : Option Addr) (n c : Nat) (l : List Nat), v = .slice A n c ∧ Bytes w w.heap.size A n c l := by
  obtain ⟨a, len, cap, rfl⟩ := okWide_slice Tryd.underlying22 hv
  obtain ⟨fuel, hf⟩ := h
  rcases open_ints Tryd.underlying22 Tryd.underlying5 (by kernel_rfl) hf with ⟨hcs, _⟩ | ⟨x, l, c, zs, hcs, _, hl, hm, hz, _, hcell, hwz⟩
  · simp [Value.cells] at hcs
    obtain ⟨rfl, rfl, rfl⟩ := hcs
    exact ⟨none, 0, 0, [], rfl, Bytes.none_ w _⟩
  · simp [Value.cells] at hcs
    obtain ⟨rfl, rfl, rfl⟩ := hcs
    exact ⟨_, _, _, _, rfl, bytes_of_row w _ _ _ zs (.inr ⟨_, rfl, hl, hm, by simpa using hz, hcell, hwz⟩)⟩
end
end Go.Proofs.YtphmknhlibampaaDoor

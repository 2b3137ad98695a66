/-
  Layer 4: the tables that are listed: what they hold, and that it stays.
-/
import Derived.Test.YtlflmobaegfnaaaDoorKdW
import Derived.Lib.LaidTab
import Derived.Lib.ItoaNum
namespace Go.Proofs.YtlflmobaegfnaaaDoor
open Go.RowKit
set_option linter.unusedVariables false
set_option maxRecDepth 100000

abbrev Str (l : List UInt8) : Value := .string ⟨l.toArray⟩
theorem gPow : Tryd.prog.globalNamed "internal/strconv.uint64pow10" = some 5 := by kernel_rfl
theorem gNames : Tryd.prog.globalNamed "geode/kind.heapNames" = some 0 := by kernel_rfl
/-- The tables that the writing reads. -/
structure Tabs (W : World) : Prop where
  pow : Lib.TabIs Tryd.prog W "internal/strconv.uint64pow10" .u64 Lib.pow10Tab
  names : ∀ j : Nat, 1 ≤ j → j ≤ 12 → W.cell? ⟨0, j, none⟩ = some (Str (Kd.nm j))
theorem Tabs.below {W W' : World} (h : Tabs W) (hb : Below W.heap.size W W') : Tabs W' := by
  obtain ⟨h1, h2⟩ := h
  refine ⟨?_, fun j ha hj => ?_⟩
  · unfold Lib.TabIs World.var? at h1 ⊢
    simp only [gPow, Option.bind_some] at h1 ⊢
    have hlt : 5 < W.heap.size := by
      cases hg : W.heap[5]? with
      | none => rw [hg] at h1; cases h1
      | some o => exact (Array.getElem?_eq_some_iff.1 hg).1
    rw [hb.block _ hlt]
    exact h1
  · have hc := h2 j ha hj
    have hlt := World.block_lt_of_cell? W ⟨0, j, none⟩ hc
    rw [hb.cell (p := ⟨0, j, none⟩) hlt]
    exact hc
end Go.Proofs.YtlflmobaegfnaaaDoor

/-
  Layer 4, the document's side: the writing of heap types and value types: a name.
-/
import Derived.Test.YtabeidgkgbkliaaDoorKdU
import Derived.Test.YtabeidgkgbkliaaDoorKdP
namespace Go.Proofs.YtabeidgkgbkliaaDoor
open Go.RowKit
set_option linter.unusedVariables false
set_option maxRecDepth 100000

set_option maxHeartbeats 8000000 in
theorem rHeapName_any (k : Int) (h1 : 1 ≤ k) (h2 : k ≤ 12) (w : World) :
    Calls Tryd.prog 47 #[.agg #[.int .i64 k, .int .i64 0]] w fun e w' => e = .returned (Str (Kd.nm k)) ∧ Below w.heap.size w w' := by
  obtain ⟨r, hr⟩ : ∃ r, Kd.nm k = r := ⟨_, rfl⟩
  rw [hr]
  have hr' := Lib.hid hr
  clear hr
  have hk : k = 1 ∨ k = 2 ∨ k = 3 ∨ k = 4 ∨ k = 5 ∨ k = 6 ∨ k = 7 ∨ k = 8 ∨ k = 9 ∨ k = 10 ∨ k = 11 ∨ k = 12 := by omega
  rcases hk with rfl | rfl | rfl | rfl | rfl | rfl | rfl | rfl | rfl | rfl | rfl | rfl
  all_goals
    clear h1 h2
    go_enter Tryd.func47, Tryd.ntmps47
    go_wp2
    go_ret
    refine ⟨ret_str ?_, ((Below.refl _ _).alloc (Nat.le_refl _) _).alloc (by simp) _⟩
    rw [← hr'.out]
    simp [Kd.nm]
end Go.Proofs.YtabeidgkgbkliaaDoor

/-
  Layer 5, the document's side: Shape.
-/
import Derived.Test.YtlflmobaegfnaaaDoorOpLa
namespace Go.Proofs.YtlflmobaegfnaaaDoor
open Go.RowKit
set_option linter.unusedVariables false
set_option linter.unusedSimpArgs false
set_option maxRecDepth 100000

set_option maxHeartbeats 20000000 in
theorem rshape_0 (op : Int) (w : World) (h1 : 0 ≤ op) (h2 : op ≤ 5) : Calls Tryd.prog 27 #[.int .i64 op] w fun e w' => e = .returned (.int .i64 (Op5.shapeOf op)) ∧ w' = w := by
  rcases (by omega : op = 0 ∨ op = 1 ∨ op = 2 ∨ op = 3 ∨ op = 4 ∨ op = 5) with rfl | rfl | rfl | rfl | rfl | rfl
  · exact calls_run told_is 400 Tryd.func27 rfl rfl (by as_aux_lemma => kernel_rfl)
  · exact calls_run told_is 400 Tryd.func27 rfl rfl (by as_aux_lemma => kernel_rfl)
  · exact calls_run told_is 400 Tryd.func27 rfl rfl (by as_aux_lemma => kernel_rfl)
  · exact calls_run told_is 400 Tryd.func27 rfl rfl (by as_aux_lemma => kernel_rfl)
  · exact calls_run told_is 400 Tryd.func27 rfl rfl (by as_aux_lemma => kernel_rfl)
  · exact calls_run told_is 400 Tryd.func27 rfl rfl (by as_aux_lemma => kernel_rfl)
set_option maxHeartbeats 20000000 in
theorem rshape_6 (op : Int) (w : World) (h1 : 44 ≤ op) (h2 : op ≤ 55) : Calls Tryd.prog 27 #[.int .i64 op] w fun e w' => e = .returned (.int .i64 (Op5.shapeOf op)) ∧ w' = w := by
  rcases (by omega : op = 44 ∨ op = 45 ∨ op = 46 ∨ op = 47 ∨ op = 48 ∨ op = 49 ∨ op = 50 ∨ op = 51 ∨ op = 52 ∨ op = 53 ∨ op = 54 ∨ op = 55) with rfl | rfl | rfl | rfl | rfl | rfl | rfl | rfl | rfl | rfl | rfl | rfl
  · exact calls_run told_is 400 Tryd.func27 rfl rfl (by as_aux_lemma => kernel_rfl)
  · exact calls_run told_is 400 Tryd.func27 rfl rfl (by as_aux_lemma => kernel_rfl)
  · exact calls_run told_is 400 Tryd.func27 rfl rfl (by as_aux_lemma => kernel_rfl)
  · exact calls_run told_is 400 Tryd.func27 rfl rfl (by as_aux_lemma => kernel_rfl)
  · exact calls_run told_is 400 Tryd.func27 rfl rfl (by as_aux_lemma => kernel_rfl)
  · exact calls_run told_is 400 Tryd.func27 rfl rfl (by as_aux_lemma => kernel_rfl)
  · exact calls_run told_is 400 Tryd.func27 rfl rfl (by as_aux_lemma => kernel_rfl)
  · exact calls_run told_is 400 Tryd.func27 rfl rfl (by as_aux_lemma => kernel_rfl)
  · exact calls_run told_is 400 Tryd.func27 rfl rfl (by as_aux_lemma => kernel_rfl)
  · exact calls_run told_is 400 Tryd.func27 rfl rfl (by as_aux_lemma => kernel_rfl)
  · exact calls_run told_is 400 Tryd.func27 rfl rfl (by as_aux_lemma => kernel_rfl)
  · exact calls_run told_is 400 Tryd.func27 rfl rfl (by as_aux_lemma => kernel_rfl)
set_option maxHeartbeats 20000000 in
theorem rshape_13 (op : Int) (w : World) (h1 : 208 ≤ op) (h2 : op ≤ 214) : Calls Tryd.prog 27 #[.int .i64 op] w fun e w' => e = .returned (.int .i64 (Op5.shapeOf op)) ∧ w' = w := by
  rcases (by omega : op = 208 ∨ op = 209 ∨ op = 210 ∨ op = 211 ∨ op = 212 ∨ op = 213 ∨ op = 214) with rfl | rfl | rfl | rfl | rfl | rfl | rfl
  · exact calls_run told_is 400 Tryd.func27 rfl rfl (by as_aux_lemma => kernel_rfl)
  · exact calls_run told_is 400 Tryd.func27 rfl rfl (by as_aux_lemma => kernel_rfl)
  · exact calls_run told_is 400 Tryd.func27 rfl rfl (by as_aux_lemma => kernel_rfl)
  · exact calls_run told_is 400 Tryd.func27 rfl rfl (by as_aux_lemma => kernel_rfl)
  · exact calls_run told_is 400 Tryd.func27 rfl rfl (by as_aux_lemma => kernel_rfl)
  · exact calls_run told_is 400 Tryd.func27 rfl rfl (by as_aux_lemma => kernel_rfl)
  · exact calls_run told_is 400 Tryd.func27 rfl rfl (by as_aux_lemma => kernel_rfl)
end Go.Proofs.YtlflmobaegfnaaaDoor

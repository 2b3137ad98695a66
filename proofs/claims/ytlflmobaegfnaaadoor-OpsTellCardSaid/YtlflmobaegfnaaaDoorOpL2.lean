/-
  Layer 5, the document's side: Shape.
-/
import Derived.Test.YtlflmobaegfnaaaDoorOpLa
namespace Go.Proofs.YtlflmobaegfnaaaDoor
open Go.RowKit
set_option linter.unusedVariables false
set_option linter.unusedSimpArgs false
set_option maxRecDepth 100000

set_option maxHeartbeats 20000000 in
theorem rshape_1 (op : Int) (w : World) (h1 : 8 ≤ op) (h2 : op ≤ 8) : Calls Tryd.prog 27 #[.int .i64 op] w fun e w' => e = .returned (.int .i64 (Op5.shapeOf op)) ∧ w' = w := by
  obtain rfl : op = 8 := by omega
  · exact calls_run told_is 400 Tryd.func27 rfl rfl (by as_aux_lemma => kernel_rfl)
set_option maxHeartbeats 20000000 in
theorem rshape_5 (op : Int) (w : World) (h1 : 40 ≤ op) (h2 : op ≤ 41) : Calls Tryd.prog 27 #[.int .i64 op] w fun e w' => e = .returned (.int .i64 (Op5.shapeOf op)) ∧ w' = w := by
  rcases (by omega : op = 40 ∨ op = 41) with rfl | rfl
  · exact calls_run told_is 400 Tryd.func27 rfl rfl (by as_aux_lemma => kernel_rfl)
  · exact calls_run told_is 400 Tryd.func27 rfl rfl (by as_aux_lemma => kernel_rfl)
set_option maxHeartbeats 20000000 in
theorem rshape_8 (op : Int) (w : World) (h1 : 69 ≤ op) (h2 : op ≤ 90) : Calls Tryd.prog 27 #[.int .i64 op] w fun e w' => e = .returned (.int .i64 (Op5.shapeOf op)) ∧ w' = w := by
  rcases (by omega : op = 69 ∨ op = 70 ∨ op = 71 ∨ op = 72 ∨ op = 73 ∨ op = 74 ∨ op = 75 ∨ op = 76 ∨ op = 77 ∨ op = 78 ∨ op = 79 ∨ op = 80 ∨ op = 81 ∨ op = 82 ∨ op = 83 ∨ op = 84 ∨ op = 85 ∨ op = 86 ∨ op = 87 ∨ op = 88 ∨ op = 89 ∨ op = 90) with rfl | rfl | rfl | rfl | rfl | rfl | rfl | rfl | rfl | rfl | rfl | rfl | rfl | rfl | rfl | rfl | rfl | rfl | rfl | rfl | rfl | rfl
  · exact calls_run told_is 400 Tryd.func27 rfl rfl (by as_aux_lemma => kernel_rfl)
  · exact calls_run told_is 400 Tryd.func27 rfl rfl (by as_aux_lemma => kernel_rfl)
  · exact calls_run told_is 400 Tryd.func27 rfl rfl (by as_aux_lemma => kernel_rfl)
  · exact calls_run told_is 400 Tryd.func27 rfl rfl (by as_aux_lemma => kernel_rfl)
  · exact calls_run told_is 400 Tryd.func27 rfl rfl (by as_aux_lemma => kernel_rfl)
  · exact calls_run told_is 400 Tryd.func27 rfl rfl (by as_aux_lemma => kernel_rfl)
  · exact calls_run told_is 400 Tryd.func27 rfl rfl (by as_aux_lemma => kernel_rfl)
  · exact calls_run told_is 400 Tryd.func27 rfl rfl (by as_aux_lemma => kernel_rfl)
  · exact calls_run told_is 400 Tryd.func27 rfl rfl (by as_aux_lemma => kernel_rfl)
  · exact calls_run told_is 400 Tryd.func27 rfl rfl (by as_aux_lemma => kernel_rfl)
  · exact calls_run told_is 400 Tryd.func27 rfl rfl (by as_aux_lemma => kernel_rfl)
  · exact calls_run told_is 400 Tryd.func27 rfl rfl (by as_aux_lemma => kernel_rfl)
  · exact calls_run told_is 400 Tryd.func27 rfl rfl (by as_aux_lemma => kernel_rfl)
  · exact calls_run told_is 400 Tryd.func27 rfl rfl (by as_aux_lemma => kernel_rfl)
  · exact calls_run told_is 400 Tryd.func27 rfl rfl (by as_aux_lemma => kernel_rfl)
  · exact calls_run told_is 400 Tryd.func27 rfl rfl (by as_aux_lemma => kernel_rfl)
  · exact calls_run told_is 400 Tryd.func27 rfl rfl (by as_aux_lemma => kernel_rfl)
  · exact calls_run told_is 400 Tryd.func27 rfl rfl (by as_aux_lemma => kernel_rfl)
  · exact calls_run told_is 400 Tryd.func27 rfl rfl (by as_aux_lemma => kernel_rfl)
  · exact calls_run told_is 400 Tryd.func27 rfl rfl (by as_aux_lemma => kernel_rfl)
  · exact calls_run told_is 400 Tryd.func27 rfl rfl (by as_aux_lemma => kernel_rfl)
  · exact calls_run told_is 400 Tryd.func27 rfl rfl (by as_aux_lemma => kernel_rfl)
end Go.Proofs.YtlflmobaegfnaaaDoor

/-
  Layer 5, the document's side: Shape.
-/
import Derived.Test.YtlflmobaegfnaaaDoorOpLa
namespace Go.Proofs.YtlflmobaegfnaaaDoor
open Go.RowKit
set_option linter.unusedVariables false
set_option linter.unusedSimpArgs false
set_option maxRecDepth 100000

set_option maxHeartbeats 20000000 in
theorem rshape_2 (op : Int) (w : World) (h1 : 10 ≤ op) (h2 : op ≤ 21) : Calls Tryd.prog 27 #[.int .i64 op] w fun e w' => e = .returned (.int .i64 (Op5.shapeOf op)) ∧ w' = w := by
  rcases (by omega : op = 10 ∨ op = 11 ∨ op = 12 ∨ op = 13 ∨ op = 14 ∨ op = 15 ∨ op = 16 ∨ op = 17 ∨ op = 18 ∨ op = 19 ∨ op = 20 ∨ op = 21) with rfl | rfl | rfl | rfl | rfl | rfl | rfl | rfl | rfl | rfl | rfl | rfl
  · exact calls_run told_is 400 Tryd.func27 rfl rfl (by as_aux_lemma => kernel_rfl)
  · exact calls_run told_is 400 Tryd.func27 rfl rfl (by as_aux_lemma => kernel_rfl)
  · exact calls_run told_is 400 Tryd.func27 rfl rfl (by as_aux_lemma => kernel_rfl)
  · exact calls_run told_is 400 Tryd.func27 rfl rfl (by as_aux_lemma => kernel_rfl)
  · exact calls_run told_is 400 Tryd.func27 rfl rfl (by as_aux_lemma => kernel_rfl)
  · exact calls_run told_is 400 Tryd.func27 rfl rfl (by as_aux_lemma => kernel_rfl)
  · exact calls_run told_is 400 Tryd.func27 rfl rfl (by as_aux_lemma => kernel_rfl)
  · exact calls_run told_is 400 Tryd.func27 rfl rfl (by as_aux_lemma => kernel_rfl)
  · exact calls_run told_is 400 Tryd.func27 rfl rfl (by as_aux_lemma => kernel_rfl)
  · exact calls_run told_is 400 Tryd.func27 rfl rfl (by as_aux_lemma => kernel_rfl)
  · exact calls_run told_is 400 Tryd.func27 rfl rfl (by as_aux_lemma => kernel_rfl)
  · exact calls_run told_is 400 Tryd.func27 rfl rfl (by as_aux_lemma => kernel_rfl)
set_option maxHeartbeats 20000000 in
theorem rshape_3 (op : Int) (w : World) (h1 : 26 ≤ op) (h2 : op ≤ 28) : Calls Tryd.prog 27 #[.int .i64 op] w fun e w' => e = .returned (.int .i64 (Op5.shapeOf op)) ∧ w' = w := by
  rcases (by omega : op = 26 ∨ op = 27 ∨ op = 28) with rfl | rfl | rfl
  · exact calls_run told_is 400 Tryd.func27 rfl rfl (by as_aux_lemma => kernel_rfl)
  · exact calls_run told_is 400 Tryd.func27 rfl rfl (by as_aux_lemma => kernel_rfl)
  · exact calls_run told_is 400 Tryd.func27 rfl rfl (by as_aux_lemma => kernel_rfl)
set_option maxHeartbeats 20000000 in
theorem rshape_4 (op : Int) (w : World) (h1 : 31 ≤ op) (h2 : op ≤ 38) : Calls Tryd.prog 27 #[.int .i64 op] w fun e w' => e = .returned (.int .i64 (Op5.shapeOf op)) ∧ w' = w := by
  rcases (by omega : op = 31 ∨ op = 32 ∨ op = 33 ∨ op = 34 ∨ op = 35 ∨ op = 36 ∨ op = 37 ∨ op = 38) with rfl | rfl | rfl | rfl | rfl | rfl | rfl | rfl
  · exact calls_run told_is 400 Tryd.func27 rfl rfl (by as_aux_lemma => kernel_rfl)
  · exact calls_run told_is 400 Tryd.func27 rfl rfl (by as_aux_lemma => kernel_rfl)
  · exact calls_run told_is 400 Tryd.func27 rfl rfl (by as_aux_lemma => kernel_rfl)
  · exact calls_run told_is 400 Tryd.func27 rfl rfl (by as_aux_lemma => kernel_rfl)
  · exact calls_run told_is 400 Tryd.func27 rfl rfl (by as_aux_lemma => kernel_rfl)
  · exact calls_run told_is 400 Tryd.func27 rfl rfl (by as_aux_lemma => kernel_rfl)
  · exact calls_run told_is 400 Tryd.func27 rfl rfl (by as_aux_lemma => kernel_rfl)
  · exact calls_run told_is 400 Tryd.func27 rfl rfl (by as_aux_lemma => kernel_rfl)
set_option maxHeartbeats 20000000 in
theorem rshape_11 (op : Int) (w : World) (h1 : 172 ≤ op) (h2 : op ≤ 173) : Calls Tryd.prog 27 #[.int .i64 op] w fun e w' => e = .returned (.int .i64 (Op5.shapeOf op)) ∧ w' = w := by
  rcases (by omega : op = 172 ∨ op = 173) with rfl | rfl
  · exact calls_run told_is 400 Tryd.func27 rfl rfl (by as_aux_lemma => kernel_rfl)
  · exact calls_run told_is 400 Tryd.func27 rfl rfl (by as_aux_lemma => kernel_rfl)
end Go.Proofs.YtlflmobaegfnaaaDoor

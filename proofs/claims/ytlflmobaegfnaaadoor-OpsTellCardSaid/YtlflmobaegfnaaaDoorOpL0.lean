/-
  Layer 5, the document's side: Shape.
-/
import Derived.Test.YtlflmobaegfnaaaDoorOpLa
namespace Go.Proofs.YtlflmobaegfnaaaDoor
open Go.RowKit
set_option linter.unusedVariables false
set_option linter.unusedSimpArgs false
set_option maxRecDepth 100000

set_option maxHeartbeats 20000000 in
theorem rshape_9 (op : Int) (w : World) (h1 : 103 ≤ op) (h2 : op ≤ 138) : Calls Tryd.prog 27 #[.int .i64 op] w fun e w' => e = .returned (.int .i64 (Op5.shapeOf op)) ∧ w' = w := by
  rcases (by omega : op = 103 ∨ op = 104 ∨ op = 105 ∨ op = 106 ∨ op = 107 ∨ op = 108 ∨ op = 109 ∨ op = 110 ∨ op = 111 ∨ op = 112 ∨ op = 113 ∨ op = 114 ∨ op = 115 ∨ op = 116 ∨ op = 117 ∨ op = 118 ∨ op = 119 ∨ op = 120 ∨ op = 121 ∨ op = 122 ∨ op = 123 ∨ op = 124 ∨ op = 125 ∨ op = 126 ∨ op = 127 ∨ op = 128 ∨ op = 129 ∨ op = 130 ∨ op = 131 ∨ op = 132 ∨ op = 133 ∨ op = 134 ∨ op = 135 ∨ op = 136 ∨ op = 137 ∨ op = 138) with rfl | rfl | rfl | rfl | rfl | rfl | rfl | rfl | rfl | rfl | rfl | rfl | rfl | rfl | rfl | rfl | rfl | rfl | rfl | rfl | rfl | rfl | rfl | rfl | rfl | rfl | rfl | rfl | rfl | rfl | rfl | rfl | rfl | rfl | rfl | rfl
  · exact calls_run told_is 400 Tryd.func27 rfl rfl (by as_aux_lemma => kernel_rfl)
  · exact calls_run told_is 400 Tryd.func27 rfl rfl (by as_aux_lemma => kernel_rfl)
  · exact calls_run told_is 400 Tryd.func27 rfl rfl (by as_aux_lemma => kernel_rfl)
  · exact calls_run told_is 400 Tryd.func27 rfl rfl (by as_aux_lemma => kernel_rfl)
  · exact calls_run told_is 400 Tryd.func27 rfl rfl (by as_aux_lemma => kernel_rfl)
  · exact calls_run told_is 400 Tryd.func27 rfl rfl (by as_aux_lemma => kernel_rfl)
  · exact calls_run told_is 400 Tryd.func27 rfl rfl (by as_aux_lemma => kernel_rfl)
  · exact calls_run told_is 400 Tryd.func27 rfl rfl (by as_aux_lemma => kernel_rfl)
  · exact calls_run told_is 400 Tryd.func27 rfl rfl (by as_aux_lemma => kernel_rfl)
  · exact calls_run told_is 400 Tryd.func27 rfl rfl (by as_aux_lemma => kernel_rfl)
  · exact calls_run told_is 400 Tryd.func27 rfl rfl (by as_aux_lemma => kernel_rfl)
  · exact calls_run told_is 400 Tryd.func27 rfl rfl (by as_aux_lemma => kernel_rfl)
  · exact calls_run told_is 400 Tryd.func27 rfl rfl (by as_aux_lemma => kernel_rfl)
  · exact calls_run told_is 400 Tryd.func27 rfl rfl (by as_aux_lemma => kernel_rfl)
  · exact calls_run told_is 400 Tryd.func27 rfl rfl (by as_aux_lemma => kernel_rfl)
  · exact calls_run told_is 400 Tryd.func27 rfl rfl (by as_aux_lemma => kernel_rfl)
  · exact calls_run told_is 400 Tryd.func27 rfl rfl (by as_aux_lemma => kernel_rfl)
  · exact calls_run told_is 400 Tryd.func27 rfl rfl (by as_aux_lemma => kernel_rfl)
  · exact calls_run told_is 400 Tryd.func27 rfl rfl (by as_aux_lemma => kernel_rfl)
  · exact calls_run told_is 400 Tryd.func27 rfl rfl (by as_aux_lemma => kernel_rfl)
  · exact calls_run told_is 400 Tryd.func27 rfl rfl (by as_aux_lemma => kernel_rfl)
  · exact calls_run told_is 400 Tryd.func27 rfl rfl (by as_aux_lemma => kernel_rfl)
  · exact calls_run told_is 400 Tryd.func27 rfl rfl (by as_aux_lemma => kernel_rfl)
  · exact calls_run told_is 400 Tryd.func27 rfl rfl (by as_aux_lemma => kernel_rfl)
  · exact calls_run told_is 400 Tryd.func27 rfl rfl (by as_aux_lemma => kernel_rfl)
  · exact calls_run told_is 400 Tryd.func27 rfl rfl (by as_aux_lemma => kernel_rfl)
  · exact calls_run told_is 400 Tryd.func27 rfl rfl (by as_aux_lemma => kernel_rfl)
  · exact calls_run told_is 400 Tryd.func27 rfl rfl (by as_aux_lemma => kernel_rfl)
  · exact calls_run told_is 400 Tryd.func27 rfl rfl (by as_aux_lemma => kernel_rfl)
  · exact calls_run told_is 400 Tryd.func27 rfl rfl (by as_aux_lemma => kernel_rfl)
  · exact calls_run told_is 400 Tryd.func27 rfl rfl (by as_aux_lemma => kernel_rfl)
  · exact calls_run told_is 400 Tryd.func27 rfl rfl (by as_aux_lemma => kernel_rfl)
  · exact calls_run told_is 400 Tryd.func27 rfl rfl (by as_aux_lemma => kernel_rfl)
  · exact calls_run told_is 400 Tryd.func27 rfl rfl (by as_aux_lemma => kernel_rfl)
  · exact calls_run told_is 400 Tryd.func27 rfl rfl (by as_aux_lemma => kernel_rfl)
  · exact calls_run told_is 400 Tryd.func27 rfl rfl (by as_aux_lemma => kernel_rfl)
end Go.Proofs.YtlflmobaegfnaaaDoor

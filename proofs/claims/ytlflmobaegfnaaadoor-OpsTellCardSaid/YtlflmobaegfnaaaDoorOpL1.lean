/-
  Layer 5, the document's side: Shape.
-/
import Derived.Test.YtlflmobaegfnaaaDoorOpLa
namespace Go.Proofs.YtlflmobaegfnaaaDoor
open Go.RowKit
set_option linter.unusedVariables false
set_option linter.unusedSimpArgs false
set_option maxRecDepth 100000

set_option maxHeartbeats 20000000 in
theorem rshape_14 (op : Int) (w : World) (h1 : 64256 ≤ op) (h2 : op ≤ 64286) : Calls Tryd.prog 27 #[.int .i64 op] w fun e w' => e = .returned (.int .i64 (Op5.shapeOf op)) ∧ w' = w := by
  rcases (by omega : op = 64256 ∨ op = 64257 ∨ op = 64258 ∨ op = 64259 ∨ op = 64260 ∨ op = 64261 ∨ op = 64262 ∨ op = 64263 ∨ op = 64264 ∨ op = 64265 ∨ op = 64266 ∨ op = 64267 ∨ op = 64268 ∨ op = 64269 ∨ op = 64270 ∨ op = 64271 ∨ op = 64272 ∨ op = 64273 ∨ op = 64274 ∨ op = 64275 ∨ op = 64276 ∨ op = 64277 ∨ op = 64278 ∨ op = 64279 ∨ op = 64280 ∨ op = 64281 ∨ op = 64282 ∨ op = 64283 ∨ op = 64284 ∨ op = 64285 ∨ op = 64286) with rfl | rfl | rfl | rfl | rfl | rfl | rfl | rfl | rfl | rfl | rfl | rfl | rfl | rfl | rfl | rfl | rfl | rfl | rfl | rfl | rfl | rfl | rfl | rfl | rfl | rfl | rfl | rfl | rfl | rfl | rfl
  · exact calls_run told_is 400 Tryd.func27 rfl rfl (by as_aux_lemma => kernel_rfl)
  · exact calls_run told_is 400 Tryd.func27 rfl rfl (by as_aux_lemma => kernel_rfl)
  · exact calls_run told_is 400 Tryd.func27 rfl rfl (by as_aux_lemma => kernel_rfl)
  · exact calls_run told_is 400 Tryd.func27 rfl rfl (by as_aux_lemma => kernel_rfl)
  · exact calls_run told_is 400 Tryd.func27 rfl rfl (by as_aux_lemma => kernel_rfl)
  · exact calls_run told_is 400 Tryd.func27 rfl rfl (by as_aux_lemma => kernel_rfl)
  · exact calls_run told_is 400 Tryd.func27 rfl rfl (by as_aux_lemma => kernel_rfl)
  · exact calls_run told_is 400 Tryd.func27 rfl rfl (by as_aux_lemma => kernel_rfl)
  · exact calls_run told_is 400 Tryd.func27 rfl rfl (by as_aux_lemma => kernel_rfl)
  · exact calls_run told_is 400 Tryd.func27 rfl rfl (by as_aux_lemma => kernel_rfl)
  · exact calls_run told_is 400 Tryd.func27 rfl rfl (by as_aux_lemma => kernel_rfl)
  · exact calls_run told_is 400 Tryd.func27 rfl rfl (by as_aux_lemma => kernel_rfl)
  · exact calls_run told_is 400 Tryd.func27 rfl rfl (by as_aux_lemma => kernel_rfl)
  · exact calls_run told_is 400 Tryd.func27 rfl rfl (by as_aux_lemma => kernel_rfl)
  · exact calls_run told_is 400 Tryd.func27 rfl rfl (by as_aux_lemma => kernel_rfl)
  · exact calls_run told_is 400 Tryd.func27 rfl rfl (by as_aux_lemma => kernel_rfl)
  · exact calls_run told_is 400 Tryd.func27 rfl rfl (by as_aux_lemma => kernel_rfl)
  · exact calls_run told_is 400 Tryd.func27 rfl rfl (by as_aux_lemma => kernel_rfl)
  · exact calls_run told_is 400 Tryd.func27 rfl rfl (by as_aux_lemma => kernel_rfl)
  · exact calls_run told_is 400 Tryd.func27 rfl rfl (by as_aux_lemma => kernel_rfl)
  · exact calls_run told_is 400 Tryd.func27 rfl rfl (by as_aux_lemma => kernel_rfl)
  · exact calls_run told_is 400 Tryd.func27 rfl rfl (by as_aux_lemma => kernel_rfl)
  · exact calls_run told_is 400 Tryd.func27 rfl rfl (by as_aux_lemma => kernel_rfl)
  · exact calls_run told_is 400 Tryd.func27 rfl rfl (by as_aux_lemma => kernel_rfl)
  · exact calls_run told_is 400 Tryd.func27 rfl rfl (by as_aux_lemma => kernel_rfl)
  · exact calls_run told_is 400 Tryd.func27 rfl rfl (by as_aux_lemma => kernel_rfl)
  · exact calls_run told_is 400 Tryd.func27 rfl rfl (by as_aux_lemma => kernel_rfl)
  · exact calls_run told_is 400 Tryd.func27 rfl rfl (by as_aux_lemma => kernel_rfl)
  · exact calls_run told_is 400 Tryd.func27 rfl rfl (by as_aux_lemma => kernel_rfl)
  · exact calls_run told_is 400 Tryd.func27 rfl rfl (by as_aux_lemma => kernel_rfl)
  · exact calls_run told_is 400 Tryd.func27 rfl rfl (by as_aux_lemma => kernel_rfl)
end Go.Proofs.YtlflmobaegfnaaaDoor

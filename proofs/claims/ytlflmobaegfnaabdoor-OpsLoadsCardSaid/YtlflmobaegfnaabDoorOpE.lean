/-
  Layer 5, code: the table of the runs.
-/
import Derived.Test.YtlflmobaegfnaabDoorOpF
import Derived.Laws.Rows
import Derived.Great.BuildSlice
import Derived.Great.Walk
import Derived.Deep.WholeRow
namespace Go.Proofs.YtlflmobaegfnaabDoor
open Go.RowKit Go.Great
set_option linter.unusedVariables false
set_option maxRecDepth 100000

namespace Op5
def rowV (k : Nat) : Array Value := #[.int .i64 (first k), .int .i64 (last k), Sv (line k)]
def runCells : Array Value := #[Value.int .i64 0, .int .i64 5, Sv line0, Value.int .i64 8, .int .i64 8, Sv line1, Value.int .i64 10, .int .i64 21, Sv line2, Value.int .i64 26, .int .i64 28, Sv line3, Value.int .i64 31, .int .i64 38, Sv line4, Value.int .i64 40, .int .i64 41, Sv line5, Value.int .i64 44, .int .i64 55, Sv line6, Value.int .i64 58, .int .i64 66, Sv line7, Value.int .i64 69, .int .i64 90, Sv line8, Value.int .i64 103, .int .i64 138, Sv line9, Value.int .i64 167, .int .i64 167, Sv line10, Value.int .i64 172, .int .i64 173, Sv line11, Value.int .i64 192, .int .i64 196, Sv line12, Value.int .i64 208, .int .i64 214, Sv line13, Value.int .i64 64256, .int .i64 64286, Sv line14, Value.int .i64 64520, .int .i64 64529, Sv line15]
end Op5
namespace Op5
def zero48 : Array Value := #[Value.int .i64 0, .int .i64 0, Value.string ⟨#[]⟩, Value.int .i64 0, .int .i64 0, Value.string ⟨#[]⟩, Value.int .i64 0, .int .i64 0, Value.string ⟨#[]⟩, Value.int .i64 0, .int .i64 0, Value.string ⟨#[]⟩, Value.int .i64 0, .int .i64 0, Value.string ⟨#[]⟩, Value.int .i64 0, .int .i64 0, Value.string ⟨#[]⟩, Value.int .i64 0, .int .i64 0, Value.string ⟨#[]⟩, Value.int .i64 0, .int .i64 0, Value.string ⟨#[]⟩, Value.int .i64 0, .int .i64 0, Value.string ⟨#[]⟩, Value.int .i64 0, .int .i64 0, Value.string ⟨#[]⟩, Value.int .i64 0, .int .i64 0, Value.string ⟨#[]⟩, Value.int .i64 0, .int .i64 0, Value.string ⟨#[]⟩, Value.int .i64 0, .int .i64 0, Value.string ⟨#[]⟩, Value.int .i64 0, .int .i64 0, Value.string ⟨#[]⟩, Value.int .i64 0, .int .i64 0, Value.string ⟨#[]⟩, Value.int .i64 0, .int .i64 0, Value.string ⟨#[]⟩]
end Op5
set_option maxHeartbeats 4000000 in
theorem runs_any (w : World) : Calls Tryd.prog 18 #[] w fun e w' => e = .returned (.agg Op5.runCells) ∧ Below w.heap.size w w' := by
  go_enter Tryd.func18, Tryd.ntmps18
  apply wp_seq_k
  intro K hK
  apply wp_region_lit
  refine wpList_allocTo rfl (some 0) rfl (.pointer (some ⟨w.heap.size, 0, none⟩)) (.cells Op5.zero48 42) (by as_aux_lemma => kernel_rfl) ?_
  apply wpList_nil
  refine hK _ _ ?_
  clear hK K
  apply wp_seq_k
  intro K hK
  apply wp_region_lit
  refine wpList_buildTo rfl 36 _ rfl (some 1) rfl #[.int .i64 0, .int .i64 5] (by as_aux_lemma => kernel_rfl) ?_
  refine wpList_buildTo rfl 41 _ rfl (some 2) rfl #[.int .i64 0, .int .i64 5, Sv Op5.line0] (by as_aux_lemma => kernel_rfl) ?_
  refine wpList_buildTo rfl 36 _ rfl (some 3) rfl #[.int .i64 8, .int .i64 8] (by as_aux_lemma => kernel_rfl) ?_
  refine wpList_buildTo rfl 41 _ rfl (some 4) rfl #[.int .i64 8, .int .i64 8, Sv Op5.line1] (by as_aux_lemma => kernel_rfl) ?_
  refine wpList_buildTo rfl 36 _ rfl (some 5) rfl #[.int .i64 10, .int .i64 21] (by as_aux_lemma => kernel_rfl) ?_
  refine wpList_buildTo rfl 41 _ rfl (some 6) rfl #[.int .i64 10, .int .i64 21, Sv Op5.line2] (by as_aux_lemma => kernel_rfl) ?_
  refine wpList_buildTo rfl 36 _ rfl (some 7) rfl #[.int .i64 26, .int .i64 28] (by as_aux_lemma => kernel_rfl) ?_
  refine wpList_buildTo rfl 41 _ rfl (some 8) rfl #[.int .i64 26, .int .i64 28, Sv Op5.line3] (by as_aux_lemma => kernel_rfl) ?_
  refine wpList_buildTo rfl 36 _ rfl (some 9) rfl #[.int .i64 31, .int .i64 38] (by as_aux_lemma => kernel_rfl) ?_
  refine wpList_buildTo rfl 41 _ rfl (some 10) rfl #[.int .i64 31, .int .i64 38, Sv Op5.line4] (by as_aux_lemma => kernel_rfl) ?_
  refine wpList_buildTo rfl 36 _ rfl (some 11) rfl #[.int .i64 40, .int .i64 41] (by as_aux_lemma => kernel_rfl) ?_
  refine wpList_buildTo rfl 41 _ rfl (some 12) rfl #[.int .i64 40, .int .i64 41, Sv Op5.line5] (by as_aux_lemma => kernel_rfl) ?_
  refine wpList_buildTo rfl 36 _ rfl (some 13) rfl #[.int .i64 44, .int .i64 55] (by as_aux_lemma => kernel_rfl) ?_
  refine wpList_buildTo rfl 41 _ rfl (some 14) rfl #[.int .i64 44, .int .i64 55, Sv Op5.line6] (by as_aux_lemma => kernel_rfl) ?_
  refine wpList_buildTo rfl 36 _ rfl (some 15) rfl #[.int .i64 58, .int .i64 66] (by as_aux_lemma => kernel_rfl) ?_
  refine wpList_buildTo rfl 41 _ rfl (some 16) rfl #[.int .i64 58, .int .i64 66, Sv Op5.line7] (by as_aux_lemma => kernel_rfl) ?_
  refine wpList_buildTo rfl 36 _ rfl (some 17) rfl #[.int .i64 69, .int .i64 90] (by as_aux_lemma => kernel_rfl) ?_
  refine wpList_buildTo rfl 41 _ rfl (some 18) rfl #[.int .i64 69, .int .i64 90, Sv Op5.line8] (by as_aux_lemma => kernel_rfl) ?_
  refine wpList_buildTo rfl 36 _ rfl (some 19) rfl #[.int .i64 103, .int .i64 138] (by as_aux_lemma => kernel_rfl) ?_
  refine wpList_buildTo rfl 41 _ rfl (some 20) rfl #[.int .i64 103, .int .i64 138, Sv Op5.line9] (by as_aux_lemma => kernel_rfl) ?_
  refine wpList_buildTo rfl 36 _ rfl (some 21) rfl #[.int .i64 167, .int .i64 167] (by as_aux_lemma => kernel_rfl) ?_
  refine wpList_buildTo rfl 41 _ rfl (some 22) rfl #[.int .i64 167, .int .i64 167, Sv Op5.line10] (by as_aux_lemma => kernel_rfl) ?_
  refine wpList_buildTo rfl 36 _ rfl (some 23) rfl #[.int .i64 172, .int .i64 173] (by as_aux_lemma => kernel_rfl) ?_
  refine wpList_buildTo rfl 41 _ rfl (some 24) rfl #[.int .i64 172, .int .i64 173, Sv Op5.line11] (by as_aux_lemma => kernel_rfl) ?_
  refine wpList_buildTo rfl 36 _ rfl (some 25) rfl #[.int .i64 192, .int .i64 196] (by as_aux_lemma => kernel_rfl) ?_
  refine wpList_buildTo rfl 41 _ rfl (some 26) rfl #[.int .i64 192, .int .i64 196, Sv Op5.line12] (by as_aux_lemma => kernel_rfl) ?_
  refine wpList_buildTo rfl 36 _ rfl (some 27) rfl #[.int .i64 208, .int .i64 214] (by as_aux_lemma => kernel_rfl) ?_
  refine wpList_buildTo rfl 41 _ rfl (some 28) rfl #[.int .i64 208, .int .i64 214, Sv Op5.line13] (by as_aux_lemma => kernel_rfl) ?_
  refine wpList_buildTo rfl 36 _ rfl (some 29) rfl #[.int .i64 64256, .int .i64 64286] (by as_aux_lemma => kernel_rfl) ?_
  refine wpList_buildTo rfl 41 _ rfl (some 30) rfl #[.int .i64 64256, .int .i64 64286, Sv Op5.line14] (by as_aux_lemma => kernel_rfl) ?_
  refine wpList_buildTo rfl 36 _ rfl (some 31) rfl #[.int .i64 64520, .int .i64 64529] (by as_aux_lemma => kernel_rfl) ?_
  refine wpList_buildTo rfl 41 _ rfl (some 32) rfl #[.int .i64 64520, .int .i64 64529, Sv Op5.line15] (by as_aux_lemma => kernel_rfl) ?_
  refine wpList_buildTo rfl 42 _ rfl (some 33) rfl Op5.runCells (by as_aux_lemma => kernel_rfl) ?_
  refine wpList_store_rowTo rfl 42 _ _ rfl rfl w.heap.size Op5.runCells (by as_aux_lemma => kernel_rfl) (by as_aux_lemma => kernel_rfl) 42 Op5.zero48 (World.alloc_heap_new w _) (by as_aux_lemma => kernel_rfl) (by as_aux_lemma => kernel_rfl) (by as_aux_lemma => kernel_rfl) ?_
  apply wpList_nil
  refine hK _ _ ?_
  refine wp_ret ?_
  refine bodyPost_ret (results_cell_row rfl _ _ w.heap.size 42 Op5.runCells (0, 0) _ (by as_aux_lemma => kernel_rfl) ?_ Tryd.underlying42 rfl (by as_aux_lemma => kernel_rfl)) rfl ⟨rfl, ?_⟩
  · rw [World.setRow_alloc_new]
    exact World.alloc_heap_new w _
  · rw [World.setRow_alloc_new]
    exact (Below.refl _ _).alloc (Nat.le_refl _) _
theorem below_box (w : World) (o : Obj) (w1 : World) (h : Below (w.alloc o).heap.size (w.alloc o) w1) : Below w.heap.size w w1 := ((Below.refl _ _).alloc (Nat.le_refl _) _).trans (h.mono (by simp))
theorem runs_at (k : Nat) (hk : k < 16) (w : World) : (Instr.index 42 (.agg Op5.runCells) (.int .i64 (k : Int))).run Tryd.prog w = .ok (.agg (Op5.rowV k)) w := by
  rcases (by omega : k = 0 ∨ k = 1 ∨ k = 2 ∨ k = 3 ∨ k = 4 ∨ k = 5 ∨ k = 6 ∨ k = 7 ∨ k = 8 ∨ k = 9 ∨ k = 10 ∨ k = 11 ∨ k = 12 ∨ k = 13 ∨ k = 14 ∨ k = 15) with rfl | rfl | rfl | rfl | rfl | rfl | rfl | rfl | rfl | rfl | rfl | rfl | rfl | rfl | rfl | rfl
  · as_aux_lemma => kernel_rfl
  · as_aux_lemma => kernel_rfl
  · as_aux_lemma => kernel_rfl
  · as_aux_lemma => kernel_rfl
  · as_aux_lemma => kernel_rfl
  · as_aux_lemma => kernel_rfl
  · as_aux_lemma => kernel_rfl
  · as_aux_lemma => kernel_rfl
  · as_aux_lemma => kernel_rfl
  · as_aux_lemma => kernel_rfl
  · as_aux_lemma => kernel_rfl
  · as_aux_lemma => kernel_rfl
  · as_aux_lemma => kernel_rfl
  · as_aux_lemma => kernel_rfl
  · as_aux_lemma => kernel_rfl
  · as_aux_lemma => kernel_rfl
end Go.Proofs.YtlflmobaegfnaabDoor

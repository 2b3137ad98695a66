/-
  Layer 5, the document's side: all opcodes and names; an instruction by its name.
-/
import Derived.Test.YtlflmobaegfnaaaDoorOpW
import Derived.Test.YtlflmobaegfnaaaDoorOpI
namespace Go.Proofs.YtlflmobaegfnaaaDoor
open Go.RowKit Go.Great
set_option linter.unusedVariables false
set_option linter.unusedSimpArgs false
set_option maxRecDepth 100000

namespace Op5
def linesC : Array Value := #[Sv line0, Sv line1, Sv line2, Sv line3, Sv line4, Sv line5, Sv line6, Sv line7, Sv line8, Sv line9, Sv line10, Sv line11, Sv line12, Sv line13, Sv line14, Sv line15, Sv [], Sv []]
def firstsC : Array Value := #[.int .i64 0, .int .i64 8, .int .i64 10, .int .i64 26, .int .i64 31, .int .i64 40, .int .i64 44, .int .i64 58, .int .i64 69, .int .i64 103, .int .i64 167, .int .i64 172, .int .i64 192, .int .i64 208, .int .i64 64256, .int .i64 64520, .int .i64 0, .int .i64 0]
def noStr : Array Value := #[Sv [], Sv [], Sv [], Sv [], Sv [], Sv [], Sv [], Sv [], Sv [], Sv [], Sv [], Sv [], Sv [], Sv [], Sv [], Sv [], Sv [], Sv []]
def noInt : Array Value := #[.int .i64 0, .int .i64 0, .int .i64 0, .int .i64 0, .int .i64 0, .int .i64 0, .int .i64 0, .int .i64 0, .int .i64 0, .int .i64 0, .int .i64 0, .int .i64 0, .int .i64 0, .int .i64 0, .int .i64 0, .int .i64 0, .int .i64 0, .int .i64 0]
theorem linesC_at (k : Nat) (hk : k < 18) : linesC[k]? = some (Sv (line k)) := by
  rcases (by omega : k = 0 ∨ k = 1 ∨ k = 2 ∨ k = 3 ∨ k = 4 ∨ k = 5 ∨ k = 6 ∨ k = 7 ∨ k = 8 ∨ k = 9 ∨ k = 10 ∨ k = 11 ∨ k = 12 ∨ k = 13 ∨ k = 14 ∨ k = 15 ∨ k = 16 ∨ k = 17) with rfl | rfl | rfl | rfl | rfl | rfl | rfl | rfl | rfl | rfl | rfl | rfl | rfl | rfl | rfl | rfl | rfl | rfl <;> rfl
theorem firstsC_at (k : Nat) (hk : k < 18) : firstsC[k]? = some (.int .i64 (first k : Int)) := by
  rcases (by omega : k = 0 ∨ k = 1 ∨ k = 2 ∨ k = 3 ∨ k = 4 ∨ k = 5 ∨ k = 6 ∨ k = 7 ∨ k = 8 ∨ k = 9 ∨ k = 10 ∨ k = 11 ∨ k = 12 ∨ k = 13 ∨ k = 14 ∨ k = 15 ∨ k = 16 ∨ k = 17) with rfl | rfl | rfl | rfl | rfl | rfl | rfl | rfl | rfl | rfl | rfl | rfl | rfl | rfl | rfl | rfl | rfl | rfl <;> rfl
theorem line_short2 (k : Nat) (hk : k < 18) : (line k).length ≤ 1000 ∧ (words (line k)).length ≤ 40 ∧ first k ≤ 64600 := by
  have h2 : ((List.range 18).all fun k => decide ((line k).length ≤ 1000) && (decide ((words (line k)).length ≤ 40) && decide (first k ≤ 64600))) = true := by decide +kernel
  have h3 := List.all_eq_true.1 h2 k (List.mem_range.2 hk)
  simpa only [Bool.and_eq_true, decide_eq_true_eq] using h3
/-- The first k lines, none beyond the sixteenth. -/
def upto2 : Nat → List (Nat × List UInt8)
  | 0 => []
  | k + 1 => upto2 k ++ runAt (first k) (words (line k))
theorem upto2_18 : upto2 18 = table := by decide +kernel
theorem upto2_len (k : Nat) (hk : k ≤ 18) : (upto2 k).length ≤ 167 := by
  have h : ((List.range 19).all fun k => decide ((upto2 k).length ≤ 167)) = true := by decide +kernel
  have := List.all_eq_true.1 h k (List.mem_range.2 (by omega))
  simpa using this
end Op5
theorem lines_any (w : World) : Calls Tryd.prog 57 #[] w fun e w' => e = .returned (.agg Op5.linesC) ∧ Below w.heap.size w w' := by
  go_enter Tryd.func57, Tryd.ntmps57
  apply wp_seq_k
  intro K hK
  apply wp_region_lit
  refine wpList_allocTo rfl (some 0) rfl (.pointer (some ⟨w.heap.size, 0, none⟩)) (.cells Op5.noStr 86) (by as_aux_lemma => kernel_rfl) ?_
  apply wpList_nil
  refine hK _ _ ?_
  clear hK K
  apply wp_seq_k
  intro K hK
  apply wp_region_lit
  refine wpList_buildTo rfl 86 _ rfl (some 1) rfl Op5.linesC (by as_aux_lemma => kernel_rfl) ?_
  refine wpList_store_rowTo rfl 86 _ _ rfl rfl w.heap.size Op5.linesC (by as_aux_lemma => kernel_rfl) (by as_aux_lemma => kernel_rfl) 86 Op5.noStr (World.alloc_heap_new w _) (by as_aux_lemma => kernel_rfl) (by as_aux_lemma => kernel_rfl) (by as_aux_lemma => kernel_rfl) ?_
  apply wpList_nil
  refine hK _ _ ?_
  refine wp_ret ?_
  refine bodyPost_ret (results_cell_row rfl _ _ w.heap.size 86 Op5.linesC (0, 0) _ (by as_aux_lemma => kernel_rfl) ?_ Tryd.underlying86 rfl (by as_aux_lemma => kernel_rfl)) rfl ⟨rfl, ?_⟩
  · rw [World.setRow_alloc_new]
    exact World.alloc_heap_new w _
  · rw [World.setRow_alloc_new]
    exact (Below.refl _ _).alloc (Nat.le_refl _) _
theorem firsts_any (w : World) : Calls Tryd.prog 58 #[] w fun e w' => e = .returned (.agg Op5.firstsC) ∧ Below w.heap.size w w' := by
  go_enter Tryd.func58, Tryd.ntmps58
  apply wp_seq_k
  intro K hK
  apply wp_region_lit
  refine wpList_allocTo rfl (some 0) rfl (.pointer (some ⟨w.heap.size, 0, none⟩)) (.cells Op5.noInt 88) (by as_aux_lemma => kernel_rfl) ?_
  apply wpList_nil
  refine hK _ _ ?_
  clear hK K
  apply wp_seq_k
  intro K hK
  apply wp_region_lit
  refine wpList_buildTo rfl 88 _ rfl (some 1) rfl Op5.firstsC (by as_aux_lemma => kernel_rfl) ?_
  refine wpList_store_rowTo rfl 88 _ _ rfl rfl w.heap.size Op5.firstsC (by as_aux_lemma => kernel_rfl) (by as_aux_lemma => kernel_rfl) 88 Op5.noInt (World.alloc_heap_new w _) (by as_aux_lemma => kernel_rfl) (by as_aux_lemma => kernel_rfl) (by as_aux_lemma => kernel_rfl) ?_
  apply wpList_nil
  refine hK _ _ ?_
  refine wp_ret ?_
  refine bodyPost_ret (results_cell_row rfl _ _ w.heap.size 88 Op5.firstsC (0, 0) _ (by as_aux_lemma => kernel_rfl) ?_ Tryd.underlying88 rfl (by as_aux_lemma => kernel_rfl)) rfl ⟨rfl, ?_⟩
  · rw [World.setRow_alloc_new]
    exact World.alloc_heap_new w _
  · rw [World.setRow_alloc_new]
    exact (Below.refl _ _).alloc (Nat.le_refl _) _
end Go.Proofs.YtlflmobaegfnaaaDoor

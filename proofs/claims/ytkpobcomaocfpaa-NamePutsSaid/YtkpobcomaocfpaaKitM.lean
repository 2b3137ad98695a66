/-
  Words for 'make([]byte, n)', n a variable, and for filling it.
-/
import Derived.Test.YtkpobcomaocfpaaKit
namespace Go.Proofs.Ytkpobcomaocfpaa
open Go.RowKit
set_option linter.unusedVariables false

theorem made_u8 (n : Nat) : (madeCells (Value.int .u8 0).cells (n * 1)).toList = (List.replicate n 0).map U8 := by
  rw [Nat.mul_one]
  unfold madeCells
  apply List.ext_getElem
  · simp
  · intro i h1 h2
    simp [Value.cells, U8, Nat.mod_one]
/-- 'make([]byte, n)'. -/
theorem make_slice {ops : Array Oper} {rest : List Oper} {o : Oper} {a : Act} {Q : Exit → Act → World → Prop} (hgd : o.guard = none) (l c : Operand)
    (ho : o.op = Op.makeSlice 22 l c) (wr : World) (B n : Nat) (v : Int) (hl : a.eval l = .int .i64 v) (hc : a.eval c = .int .i64 v) (hv : v = (n : Int)) (hn : n < 1000000) (hB : B ≤ wr.heap.size)
    (h : ∀ w', Own B w' (.slice (some ⟨wr.heap.size, 0, none⟩) n n) (List.replicate n 0) → wr.grownBy w' none → wpList Try.prog ops Q rest (a.put o.dst (.slice (some ⟨wr.heap.size, 0, none⟩) n n)) w') :
    wpList Try.prog ops Q (o :: rest) a wr := by
  obtain ⟨i0, hi0, hz0, hz1, hz2⟩ := info_byte
  refine wpList_make_full wr hgd l c 22 ho B 5 i0 (.int .u8 0) 1 Try.underlying22 hi0 hz0 hz1 .i64 .i64 v v n hl hc hv hv (by rw [hz2]; omega) (by simp only [maxLen]; omega) hB ?_
  intro w' h1 h2
  refine h w' ?_ h2
  rw [made_u8] at h1
  show World.ownsRow _ _ _ _ _ _ _
  rw [List.length_replicate]
  exact h1
/-- Its run, to lay ahead of a walk. -/
theorem run_make_bytes (wr : World) (B n : Nat) (hn : n < 1000000) (hB : B ≤ wr.heap.size) :
    ∃ w', (Instr.makeSlice 22 (.int .i64 (n : Int)) (.int .i64 (n : Int))).run Try.prog wr = .ok (.slice (some ⟨wr.heap.size, 0, none⟩) n n) w' ∧
      Own B w' (.slice (some ⟨wr.heap.size, 0, none⟩) n n) (List.replicate n 0) ∧ wr.grownBy w' none := by
  obtain ⟨i0, hi0, hz0, hz1, hz2⟩ := info_byte
  obtain ⟨w', hrun, r1, r2⟩ := run_make_full (P := Try.prog) wr B 22 5 i0 (.int .u8 0) 1 Try.underlying22 hi0 hz0 hz1 .i64 .i64 n (by rw [hz2]; omega) (by simp only [maxLen]; omega) hB
  refine ⟨w', hrun, ?_, r2⟩
  rw [made_u8] at r1
  show World.ownsRow _ _ _ _ _ _ _
  rw [List.length_replicate]
  exact r1
theorem Below.grownNone {W wr w' : World} {C : Nat} (hg : wr.grownBy w' none) (hC : C ≤ wr.heap.size) (hb : Below C W wr) : Below C W w' :=
  hb.grown hg hC (fun k hk => by cases hk)
theorem fill_set (j m c : Nat) (h : j < m) : (List.replicate j c ++ List.replicate (m - j) 0).set j c = List.replicate (j + 1) c ++ List.replicate (m - (j + 1)) 0 := by
  apply List.ext_getElem?
  intro i
  rw [List.getElem?_set]
  simp only [List.getElem?_append, List.length_replicate, List.length_append, List.getElem?_replicate]
  repeat' split
  all_goals first | rfl | omega | (simp_all; done) | skip
end Go.Proofs.Ytkpobcomaocfpaa

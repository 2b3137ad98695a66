/-
  Words for 'make([]int, n)', n a variable, and for storing into it.
-/
import Derived.Test.YtnhnbcjffnlicaaDoorKitI
namespace Go.Proofs.YtnhnbcjffnlicaaDoor
open Go.RowKit
set_option linter.unusedVariables false

theorem made_i64 (n : Nat) : (madeCells (Value.int .i64 0).cells (n * 1)).toList = (List.replicate n 0).map I64 := by
  rw [Nat.mul_one]
  unfold madeCells
  apply List.ext_getElem
  · simp
  · intro i h1 h2
    simp [Value.cells, I64, Nat.mod_one]
/-- Its run, to lay ahead of a walk. -/
theorem run_make_ints (wr : World) (B n : Nat) (hn : n < 1000000) (hB : B ≤ wr.heap.size) :
    ∃ w', (Instr.makeSlice 53 (.int .i64 (n : Int)) (.int .i64 (n : Int))).run Tryd.prog wr = .ok (.slice (some ⟨wr.heap.size, 0, none⟩) n n) w' ∧
      OwnI B w' (.slice (some ⟨wr.heap.size, 0, none⟩) n n) (List.replicate n 0) ∧ wr.grownBy w' none := by
  obtain ⟨i0, hi0, hz0, hz1, hz2⟩ := info_int
  obtain ⟨w', hrun, r1, r2⟩ := run_make_full (P := Tryd.prog) wr B 53 3 i0 (.int .i64 0) 1 Tryd.underlying53 hi0 hz0 hz1 .i64 .i64 n (by rw [hz2]; omega) (by simp only [maxLen]; omega) hB
  refine ⟨w', hrun, ?_, r2⟩
  rw [made_i64] at r1
  show World.ownsRow _ _ _ _ _ _ _
  rw [List.length_replicate]
  exact r1
theorem Below.grownNone' {W wr w' : World} {C : Nat} (hg : wr.grownBy w' none) (hC : C ≤ wr.heap.size) (hb : Below C W wr) : Below C W w' :=
  hb.grown hg hC (fun k hk => by cases hk)
theorem OwnI.openS {B : Nat} {w : World} {A : Option Addr} {n c : Nat} {l : List Nat} (h : OwnI B w (.slice A n c) l) (hn : 0 < n) : n = l.length ∧ ∃ g, A = some ⟨g, 0, none⟩ ∧ B ≤ g ∧ g < w.heap.size ∧
    (∀ j (hj : j < l.length), w.cell? ⟨g, j, none⟩ = some (.int .i64 (l[j] : Int))) ∧ (∀ j, w.frozen? ⟨g, j, none⟩ = false) ∧
    ∀ (j y : Nat), OwnI B (w.setCell ⟨g, j, none⟩ (.int .i64 (y : Int))) (.slice A n c) (l.set j y) := by
  obtain ⟨A', c', e⟩ := h.form
  injection e with e1 e2 e3
  subst e2
  have h' := h
  obtain ⟨h1, h2⟩ := h
  rcases h2 with ⟨he, h0⟩ | ⟨g, cap, cur, he, hg, hh, r⟩
  · omega
  · injection he with e1 _ e3
    subst e1 e3
    refine ⟨rfl, g, rfl, hg, (Array.getElem?_eq_some_iff.1 hh).1, fun j hj => ?_, fun j => World.ownsRow.frozenAt h' j, fun j y => ?_⟩
    · rw [World.ownsRow.cellAt h' j (by omega)]
      simp [hj, I64]
    · have := (World.ownsRow.stored h' j (I64 y)).1
      show World.ownsRow _ _ _ _ _ _ _
      rw [List.length_set, List.map_set]
      exact this
end Go.Proofs.YtnhnbcjffnlicaaDoor

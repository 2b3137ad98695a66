/-
  Layer 4, the document's side: whether a declared type is plain.
-/
import Derived.Test.YtabeidgkgbkliaaDoorKdP
namespace Go.Proofs.YtabeidgkgbkliaaDoor
open Go.RowKit
set_option linter.unusedVariables false
set_option maxRecDepth 100000

namespace Kd
/-- What is asked behind the lists of Supers and Fields. -/
def tailB (c : Cp) : Bool := if c.k = 1 then decide (c.fs.length = 0) && (c.ps.all pVal && c.rs.all pVal) else if 0 < c.ps.length ∨ 0 < c.rs.length then false else decide (c.k = 2) || (decide (c.k = 3) && decide (c.fs.length = 1))
theorem pSub_doc (s : Sb) : pSub s = (s.sups.all pIdx && (s.c.fs.all pField && tailB s.c)) := by
  unfold pSub
  congr 1
  obtain ⟨k, ps, rs, fs⟩ := s.c
  unfold pComp tailB takes
  dsimp only
  by_cases h1 : k = 1
  · rw [if_pos h1, if_pos h1]
    cases fs with
    | nil => simp [Bool.and_comm]
    | cons x t => simp
  · rw [if_neg h1, if_neg h1]
    by_cases ht : 0 < ps.length ∨ 0 < rs.length
    · rw [if_pos ht, decide_eq_true (show 0 < ps.length + rs.length by omega)]
      simp
    · rw [if_neg ht, decide_eq_false (show ¬ 0 < ps.length + rs.length by omega)]
      by_cases h2 : k = 2
      · simp [h2]
      · by_cases h3 : k = 3
        · simp [h3, Bool.and_comm]
        · simp [h2, h3]
/-- Is a field plain, as the document asks. -/
theorem pField_doc (f : Fd) : pField f = (pVal f.v && !(decide (f.pk ≠ 0) && ((decide (f.pk ≠ 8) && decide (f.pk ≠ 16)) || decide (f.v.k ≠ 1)))) := by
  unfold pField
  by_cases h0 : f.pk = 0
  · simp [h0]
  · rw [if_neg h0]
    have key : (pVal f.v && decide (f.v.k = 1)) = decide (f.v = ⟨1, false, ⟨0, 0⟩⟩) := by
      rw [Bool.eq_iff_iff, Bool.and_eq_true, decide_eq_true_eq, decide_eq_true_eq]
      constructor
      · rintro ⟨hp, hk⟩
        unfold pVal at hp
        rw [if_pos hk] at hp
        exact of_decide_eq_true hp
      · intro e; rw [e]; exact ⟨by decide, rfl⟩
    by_cases h8 : f.pk = 8 ∨ f.pk = 16
    · rw [if_pos h8, ← key]
      rcases h8 with h8 | h8 <;> simp [h8]
    · rw [if_neg h8]
      have a8 : ¬ f.pk = 8 := fun e => h8 (.inl e)
      have a16 : ¬ f.pk = 16 := fun e => h8 (.inr e)
      simp [h0, a8, a16]
end Kd
end Go.Proofs.YtabeidgkgbkliaaDoor

/-
  Layer 5, plain: names are found under their opcodes, unlike opcodes have unlike names.
-/
import Derived.Test.YtlflmobaegfnaabDoorOpP
import Derived.Test.YtlflmobaegfnaabDoorOpN
namespace Go.Proofs.YtlflmobaegfnaabDoor
open Go.RowKit
set_option linter.unusedVariables false
set_option linter.unusedSimpArgs false
set_option maxRecDepth 100000

namespace Op5
theorem table_says : (table.all fun p => decide (shapeOf (p.1 : Int) ≠ 0) && decide (p.2 ≠ []) && decide (findOf p.2 = (p.1 : Int)) && decide (knownOf (p.1 : Int) = false)) = true := by decide +kernel
theorem name_mem' {op : Nat} {x : List UInt8} (h : (op, x) ∈ table) : nameOf (op : Int) = x := by
  obtain ⟨a, b, hab⟩ := List.append_of_mem h
  have hu := table_up
  rw [hab, List.pairwise_append] at hu
  unfold nameOf
  rw [hab, List.find?_append, List.find?_eq_none.2 (fun p hp => by have := hu.2.2 p hp (op, x) (by simp); simp at this ⊢; omega)]
  simp
theorem name_not' {op : Int} (h : ∀ p ∈ table, (p.1 : Int) ≠ op) : nameOf op = [] := by
  unfold nameOf
  rw [List.find?_eq_none.2 (fun p hp => by simpa using h p hp)]
/-- Every instruction stands in the table. -/
theorem inst_table (op : Int) (hi : inst op = true) : ∃ p ∈ table, (p.1 : Int) = op := by
  have no : ∀ (f n : Nat), ((List.range n).all fun j => (table.any fun p => decide (p.1 = f + j))) = true → (f : Int) ≤ op → op < f + n → ∃ p ∈ table, (p.1 : Int) = op := fun f n hd h1 h2 => by
    have h3 := List.all_eq_true.1 hd (op - f).toNat (List.mem_range.2 (by omega))
    obtain ⟨p, hp, he⟩ := List.any_eq_true.1 h3
    exact ⟨p, hp, by have := of_decide_eq_true he; omega⟩
  rcases (inst_iff op).1 hi with h | h | h | h | h | h | h | h | h | h | h | h | h | h | h | h
  · exact no 0 6 (by decide +kernel) h.1 (by omega)
  · exact no 8 1 (by decide +kernel) h.1 (by omega)
  · exact no 10 12 (by decide +kernel) h.1 (by omega)
  · exact no 26 3 (by decide +kernel) h.1 (by omega)
  · exact no 31 8 (by decide +kernel) h.1 (by omega)
  · exact no 40 2 (by decide +kernel) h.1 (by omega)
  · exact no 44 12 (by decide +kernel) h.1 (by omega)
  · exact no 58 9 (by decide +kernel) h.1 (by omega)
  · exact no 69 22 (by decide +kernel) h.1 (by omega)
  · exact no 103 36 (by decide +kernel) h.1 (by omega)
  · exact no 167 1 (by decide +kernel) h.1 (by omega)
  · exact no 172 2 (by decide +kernel) h.1 (by omega)
  · exact no 192 5 (by decide +kernel) h.1 (by omega)
  · exact no 208 7 (by decide +kernel) h.1 (by omega)
  · exact no 64256 31 (by decide +kernel) h.1 (by omega)
  · exact no 64520 10 (by decide +kernel) h.1 (by omega)
theorem apart (op : Int) : (nameOf op = [] ∧ shapeOf op = 0) ∨ (nameOf op ≠ [] ∧ shapeOf op ≠ 0 ∧ findOf (nameOf op) = op ∧ knownOf op = false) := by
  by_cases h : ∃ p ∈ table, (p.1 : Int) = op
  · obtain ⟨p, hp, he⟩ := h
    have hs := List.all_eq_true.1 table_says p hp
    simp only [Bool.and_eq_true] at hs
    have hn : nameOf op = p.2 := by rw [← he]; exact name_mem' hp
    rw [hn, ← he]
    exact .inr ⟨of_decide_eq_true hs.1.1.2, of_decide_eq_true hs.1.1.1, of_decide_eq_true hs.1.2, of_decide_eq_true hs.2⟩
  · refine .inl ⟨name_not' fun p hp e => h ⟨p, hp, e⟩, ?_⟩
    have hi : inst op = false := by
      cases hc : inst op with
      | false => rfl
      | true => exact absurd (inst_table op hc) h
    unfold shapeOf
    rw [hi]
    rfl
theorem mem_pos : (memL.all fun op => decide (0 < bytesOf op)) = true := by decide +kernel
theorem bytes_pos (op : Int) : decide (0 < bytesOf op) = decide (shapeOf op = 8) := by
  by_cases h : shapeOf op = 8
  · have := List.all_eq_true.1 mem_pos op (shape_mem op h)
    rw [this]
    exact (decide_eq_true h).symm
  · rw [bytes_none op h]
    exact (decide_eq_false h).symm
theorem names_apart (a b : Int) (h : nameOf a ≠ []) : (nameOf a = nameOf b) ↔ a = b := by
  constructor
  · intro e
    rcases apart a with ⟨h1, _⟩ | ⟨_, _, h1, _⟩
    · exact absurd h1 h
    · rcases apart b with ⟨h2, _⟩ | ⟨_, _, h2, _⟩
      · exact absurd (e.trans h2) h
      · rw [← h1, ← h2, e]
  · rintro rfl
    rfl
end Op5
end Go.Proofs.YtlflmobaegfnaabDoor

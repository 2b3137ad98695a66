/-
  Layer 5, plain: what is an instruction, what is known, which instructions load and store, and how many bytes their names ask for.
-/
import Derived.Test.YtlflmobaegfnaabDoorOpS
namespace Go.Proofs.YtlflmobaegfnaabDoor
open Go.RowKit
set_option linter.unusedVariables false
set_option linter.unusedSimpArgs false
set_option maxRecDepth 100000

namespace Op5
theorem inSpan_iff (a b op : Int) : inSpan a b op = true ↔ a ≤ op ∧ op ≤ b := by simp [inSpan]
theorem inst_iff (op : Int) : inst op = true ↔ (0 ≤ op ∧ op ≤ 5) ∨ (8 ≤ op ∧ op ≤ 8) ∨ (10 ≤ op ∧ op ≤ 21) ∨ (26 ≤ op ∧ op ≤ 28) ∨ (31 ≤ op ∧ op ≤ 38) ∨ (40 ≤ op ∧ op ≤ 41) ∨ (44 ≤ op ∧ op ≤ 55) ∨ (58 ≤ op ∧ op ≤ 66) ∨ (69 ≤ op ∧ op ≤ 90) ∨ (103 ≤ op ∧ op ≤ 138) ∨ (167 ≤ op ∧ op ≤ 167) ∨ (172 ≤ op ∧ op ≤ 173) ∨ (192 ≤ op ∧ op ≤ 196) ∨ (208 ≤ op ∧ op ≤ 214) ∨ (64256 ≤ op ∧ op ≤ 64286) ∨ (64520 ≤ op ∧ op ≤ 64529) := by
  unfold inst
  rw [show List.range 16 = [0, 1, 2, 3, 4, 5, 6, 7, 8, 9, 10, 11, 12, 13, 14, 15] from rfl]
  simp only [List.any_cons, List.any_nil, Bool.or_false, Bool.or_eq_true, inSpan_iff, first, last]
  omega
theorem known_iff (op : Int) : knownOf op = true ↔ (42 ≤ op ∧ op ≤ 43) ∨ (56 ≤ op ∧ op ≤ 57) ∨ (67 ≤ op ∧ op ≤ 68) ∨ (91 ≤ op ∧ op ≤ 102) ∨ (139 ≤ op ∧ op ≤ 166) ∨ (168 ≤ op ∧ op ≤ 171) ∨ (174 ≤ op ∧ op ≤ 191) ∨ (64512 ≤ op ∧ op ≤ 64519) ∨ (253 ≤ op ∧ op ≤ 253) := by
  unfold knownOf hits
  rw [Option.isSome_map, List.find?_isSome]
  unfold knownL
  simp only [List.mem_cons, List.mem_nil_iff, or_false, exists_eq_or_imp, exists_eq_left, inSpan_iff]
def digS (n : Int) (c : UInt8) : Int := if 48 ≤ (c.toNat : Int) ∧ (c.toNat : Int) ≤ 57 then n * 10 + c.toNat - 48 else n
def dig (l : List UInt8) : Int := l.foldl digS 0
theorem dig_snoc (l : List UInt8) (c : UInt8) : dig (l ++ [c]) = digS (dig l) c := by simp [dig, List.foldl_append]
theorem dig_bd : ∀ (n : Nat) (l : List UInt8), l.length = n → 0 ≤ dig l ∧ dig l < 10 ^ n
  | 0, l, h => by
    rw [List.length_eq_zero_iff.1 h]
    decide
  | n + 1, l, h => by
    have hne : l ≠ [] := fun e => by rw [e] at h; simp at h
    have e := List.dropLast_concat_getLast hne
    have ih := dig_bd n l.dropLast (by rw [List.length_dropLast, h]; rfl)
    rw [← e, dig_snoc]
    unfold digS
    have h10 : (10 : Int) ^ (n + 1) = 10 ^ n * 10 := Int.pow_succ 10 n
    split <;> omega
def memL : List Int := [40, 41, 44, 45, 46, 47, 48, 49, 50, 51, 52, 53, 54, 55, 58, 59, 60, 61, 62]
theorem shape_mem (op : Int) (h : shapeOf op = 8) : op ∈ memL := by
  have hi : inst op = true := by
    cases hc : inst op with
    | true => rfl
    | false => unfold shapeOf at h; rw [hc] at h; simp at h
  have no : ∀ (f n : Nat), ((List.range n).all fun j => decide (shapeOf ((f : Int) + j) ≠ 8)) = true → (f : Int) ≤ op → op < f + n → False := fun f n hd h1 h2 => by
    have h3 := List.all_eq_true.1 hd (op - f).toNat (List.mem_range.2 (by omega))
    have e : (f : Int) + ((op - f).toNat : Nat) = op := by omega
    rw [e] at h3
    exact of_decide_eq_true h3 h
  rcases (inst_iff op).1 hi with h | h | h | h | h | h | h | h | h | h | h | h | h | h | h | h
  · exact (no 0 6 (by decide +kernel) h.1 (by omega)).elim
  · exact (no 8 1 (by decide +kernel) h.1 (by omega)).elim
  · exact (no 10 12 (by decide +kernel) h.1 (by omega)).elim
  · exact (no 26 3 (by decide +kernel) h.1 (by omega)).elim
  · exact (no 31 8 (by decide +kernel) h.1 (by omega)).elim
  · rcases (by omega : op = 40 ∨ op = 41) with rfl | rfl <;> decide
  · rcases (by omega : op = 44 ∨ op = 45 ∨ op = 46 ∨ op = 47 ∨ op = 48 ∨ op = 49 ∨ op = 50 ∨ op = 51 ∨ op = 52 ∨ op = 53 ∨ op = 54 ∨ op = 55) with rfl | rfl | rfl | rfl | rfl | rfl | rfl | rfl | rfl | rfl | rfl | rfl <;> decide
  · rcases (by omega : op = 58 ∨ op = 59 ∨ op = 60 ∨ op = 61 ∨ op = 62 ∨ (63 ≤ op ∧ op ≤ 66)) with rfl | rfl | rfl | rfl | rfl | h <;> first
      | decide
      | exact (no 63 4 (by decide +kernel) h.1 (by omega)).elim
  · exact (no 69 22 (by decide +kernel) h.1 (by omega)).elim
  · exact (no 103 36 (by decide +kernel) h.1 (by omega)).elim
  · exact (no 167 1 (by decide +kernel) h.1 (by omega)).elim
  · exact (no 172 2 (by decide +kernel) h.1 (by omega)).elim
  · exact (no 192 5 (by decide +kernel) h.1 (by omega)).elim
  · exact (no 208 7 (by decide +kernel) h.1 (by omega)).elim
  · exact (no 64256 31 (by decide +kernel) h.1 (by omega)).elim
  · exact (no 64520 10 (by decide +kernel) h.1 (by omega)).elim
theorem mem_shape : (memL.all fun op => decide (shapeOf op = 8)) = true := by decide +kernel
theorem bytes_none (op : Int) (h : shapeOf op ≠ 8) : bytesOf op = 0 := by
  have hb : hits bytesL op = none := by
    cases hc : hits bytesL op with
    | none => rfl
    | some v =>
      exfalso
      have hs : (hits bytesL op).isSome = true := by rw [hc]; rfl
      unfold hits at hs
      rw [Option.isSome_map, List.find?_isSome] at hs
      obtain ⟨t, ht, hsp⟩ := hs
      rw [inSpan_iff] at hsp
      have hm : op ∈ memL := by
        unfold bytesL at ht
        simp only [List.mem_cons, List.mem_nil_iff, or_false] at ht
        unfold memL
        simp only [List.mem_cons, List.mem_nil_iff, or_false]
        rcases ht with rfl | rfl | rfl | rfl | rfl | rfl | rfl | rfl | rfl | rfl | rfl | rfl | rfl | rfl <;> dsimp only at hsp <;> omega
      exact h (of_decide_eq_true (List.all_eq_true.1 mem_shape op hm))
  unfold bytesOf
  rw [hb]
  rfl
def i32load : List UInt8 := [105, 51, 50, 46, 108, 111, 97, 100]
def i32store : List UInt8 := [105, 51, 50, 46, 115, 116, 111, 114, 101]
def i64load : List UInt8 := [105, 54, 52, 46, 108, 111, 97, 100]
def i64store : List UInt8 := [105, 54, 52, 46, 115, 116, 111, 114, 101]
def bytesName (x : List UInt8) : Int := if x = i32load ∨ x = i32store then 4 else if x = i64load ∨ x = i64store then 8 else (dig (x.drop 5)).tdiv 8
theorem mem_bytes : (memL.all fun op => decide (bytesName (nameOf op) = bytesOf op) && decide ((nameOf op).length ≤ 15) && decide (5 ≤ (nameOf op).length)) = true := by decide +kernel
end Op5
end Go.Proofs.YtlflmobaegfnaabDoor

/-
  Layer 5, plain: the names of loads and stores, and what they ask for.
-/
import Derived.Test.YtlflmobaegfnaabDoorOpP
namespace Go.Proofs.YtlflmobaegfnaabDoor
open Go.RowKit
set_option linter.unusedVariables false
set_option linter.unusedSimpArgs false
set_option maxRecDepth 100000

namespace Op5
/-- What the law's loop keeps: how many bytes it has seen, where the last point stood, the digits behind it. -/
def lS (t : Nat × Nat × Int) (c : UInt8) : Nat × Nat × Int := (t.1 + 1, if c = 46 then (t.1, t.2.2) else if 0 < t.2.1 ∧ 48 ≤ c.toNat ∧ c.toNat ≤ 57 then (t.2.1, 10 * t.2.2 + (c.toNat - 48)) else (t.2.1, t.2.2))
def lst (l : List UInt8) : Nat × Nat × Int := l.foldl lS (0, 0, 0)
theorem lst_snoc (l : List UInt8) (c : UInt8) : lst (l ++ [c]) = lS (lst l) c := by simp [lst, List.foldl_append]
theorem lst_len : ∀ (n : Nat) (l : List UInt8), l.length = n → (lst l).1 = n
  | 0, l, h => by rw [List.length_eq_zero_iff.1 h]; rfl
  | n + 1, l, h => by
    have hne : l ≠ [] := fun e => by rw [e] at h; simp at h
    have e := List.dropLast_concat_getLast hne
    have ih := lst_len n l.dropLast (by rw [List.length_dropLast, h]; rfl)
    rw [← e, lst_snoc]
    show (lst l.dropLast).1 + 1 = n + 1
    rw [ih]
def bitsOf (l : List UInt8) : Int := (lst l).2.2
def atOf (l : List UInt8) : Nat := (lst l).2.1
theorem at_snoc (l : List UInt8) (c : UInt8) : atOf (l ++ [c]) = if c = 46 then l.length else atOf l := by
  unfold atOf
  rw [lst_snoc]
  unfold lS
  dsimp only
  split
  · exact lst_len _ l rfl
  · split <;> rfl
theorem bits_snoc (l : List UInt8) (c : UInt8) : bitsOf (l ++ [c]) = if c ≠ 46 ∧ 0 < atOf l ∧ 48 ≤ c.toNat ∧ c.toNat ≤ 57 then 10 * bitsOf l + (c.toNat - 48) else bitsOf l := by
  unfold bitsOf
  rw [lst_snoc]
  unfold lS atOf
  dsimp only
  by_cases h1 : c = 46
  · rw [if_pos h1, if_neg (fun h => h.1 h1)]
  · rw [if_neg h1]
    by_cases h2 : 0 < (lst l).2.1 ∧ 48 ≤ c.toNat ∧ c.toNat ≤ 57
    · rw [if_pos h2, if_pos ⟨h1, h2⟩]
    · rw [if_neg h2, if_neg (fun h => h2 h.2)]
def i32n : List UInt8 := [105, 51, 50]
def ldn : List UInt8 := [108, 111, 97, 100]
def stn : List UInt8 := [115, 116, 111, 114, 101]
theorem loads_ok : (memL.all fun a => ((List.range ((nameOf a).length + 1)).all fun k => decide (0 ≤ bitsOf ((nameOf a).take k)) && decide (bitsOf ((nameOf a).take k) ≤ 100)) && decide (8 ≤ (nameOf a).length) && decide ((nameOf a).length ≤ 15) && decide (bytesOf a = if bitsOf (nameOf a) = 0 then (if ((nameOf a).take 3).drop 0 = i32n then 4 else 8) else (bitsOf (nameOf a)).tdiv 8)) = true := by decide +kernel
theorem loads_stores : (memL.all fun a => memL.all fun b => !(decide (8 < (nameOf a).length) && decide (((nameOf a).take 8).drop 4 = ldn) && decide (8 < (nameOf b).length) && decide (((nameOf b).take 9).drop 4 = stn) && decide (b ≤ a))) = true := by decide +kernel
theorem ext_list (s : ByteArray) (a b : Nat) : (s.extract a b).toList = (s.data.toList.take b).drop a := by
  rw [ByteArray.toList_eq]
  simp [ByteArray.data_extract, List.extract_eq_take_drop, List.take_drop]
  by_cases h : a ≤ b
  · rw [Nat.add_sub_cancel' h]
  · rw [Nat.sub_eq_zero_of_le (by omega)]
    simp only [Nat.add_zero]
    rw [List.drop_eq_nil_of_le (by rw [List.length_take]; omega), List.drop_eq_nil_of_le (by rw [List.length_take]; omega)]
theorem six (p1 p2 p3 p4 p5 p6 : Bool) (h : (p1 && p2 && p3 && p4 && p5 && p6) = false) : p1 = false ∨ (p1 = true ∧ p2 = false) ∨ (p1 = true ∧ p2 = true ∧ p3 = false) ∨ (p1 = true ∧ p2 = true ∧ p3 = true ∧ p4 = false) ∨ (p1 = true ∧ p2 = true ∧ p3 = true ∧ p4 = true ∧ p5 = false) ∨ (p1 = true ∧ p2 = true ∧ p3 = true ∧ p4 = true ∧ p5 = true ∧ p6 = false) := by
  revert p1 p2 p3 p4 p5 p6
  decide
end Op5
end Go.Proofs.YtlflmobaegfnaabDoor

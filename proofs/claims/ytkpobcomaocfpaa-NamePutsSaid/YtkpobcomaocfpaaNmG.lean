/-
  name's calls at known outcomes, for the statements' walks.
-/
import Derived.Test.YtkpobcomaocfpaaNmF
namespace Go.Proofs.Ytkpobcomaocfpaa
open Go.RowKit
set_option linter.unusedVariables false

theorem Well_is (s : ByteArray) (b : Bool) (w : World) (hs : s.size ≤ maxLen) (hb : Nm.well (bs s) = b) :
    Calls Try.prog 11 #[.string s] w fun e w' => e = .returned (.bool b) ∧ Below w.heap.size w w' := by
  have := Well_any s w hs
  rw [hb] at this
  exact this
theorem Count_is (s : ByteArray) (n : Int) (w : World) (hs : s.size ≤ maxLen) (hb : Nm.cnt (bs s) = n) :
    Calls Try.prog 13 #[.string s] w fun e w' => e = .returned (.int .i64 n) ∧ Below w.heap.size w w' := by
  have := Count_any s w hs
  rw [hb] at this
  exact this
theorem bs_append (s t : ByteArray) : bs (s ++ t) = bs s ++ bs t := by
  unfold bs
  rw [ByteArray.data_append]
  simp
theorem small (n m : Nat) (h : n ≤ m) (h2 : m ≤ 1000000) : n ≤ maxLen := by simp only [maxLen]; omega
end Go.Proofs.Ytkpobcomaocfpaa

/-
  PLAIN: what the code's functions tell, cut to the bits that are asked for. No Go in sight.
-/
import Derived.Test.YtnhnbcjffnlicaaDoorNumJ
namespace Go.Proofs.YtnhnbcjffnlicaaDoor.Num
set_option linter.unusedVariables false

theorem wd_le {w : Nat} {v : Int} (h : Wd w v) : 32 ≤ w ∧ w ≤ 64 := by rcases h with ⟨rfl, _⟩ | ⟨rfl, _⟩ <;> omega
theorem cut64 {w : Nat} (hw : w ≤ 64) (x : Nat) : x % 2 ^ 64 % 2 ^ w = x % 2 ^ w := Nat.mod_mod_of_dvd x (Nat.pow_dvd_pow 2 hw)
theorem md_cut {w : Nat} (hw : w ≤ 64) (z : Int) : md 64 z % 2 ^ w = md w z := by
  unfold md
  have hdv : ((2 ^ w : Nat) : Int) ∣ ((2 ^ 64 : Nat) : Int) := Int.natCast_dvd_natCast.2 (Nat.pow_dvd_pow 2 hw)
  have h1 := Int.emod_nonneg z (show ((2 ^ 64 : Nat) : Int) ≠ 0 by decide)
  have hp := Nat.two_pow_pos w
  have h2 := Int.emod_nonneg z (show ((2 ^ w : Nat) : Int) ≠ 0 by omega)
  have h3 : ((z % ((2 ^ 64 : Nat) : Int)).toNat : Int) % ((2 ^ w : Nat) : Int) = z % ((2 ^ w : Nat) : Int) := by
    rw [Int.toNat_of_nonneg h1]; exact Int.emod_emod_of_dvd _ hdv
  omega
theorem small_mod {x w : Nat} (hw : 32 ≤ w) (hx : x ≤ 64) : x % 2 ^ w = x :=
  Nat.mod_eq_of_lt (Nat.lt_of_lt_of_le (show x < 2 ^ 32 by omega) (Nat.pow_le_pow_right (by omega) hw))
theorem yes_le (c : Bool) : yes c ≤ 1 := by cases c <;> decide
theorem pop_le64 (a : Nat) : pop 64 a ≤ 64 := pop_le 64 a
theorem lt_64 {w a : Nat} (hw : w ≤ 64) (h : a < 2 ^ w) : a < 18446744073709551616 := Nat.lt_of_lt_of_le h (Nat.pow_le_pow_right (by omega) hw)
theorem md_lt64 (z : Int) : md 64 z < 18446744073709551616 := md_lt 64 z
theorem or_cut (x y w : Nat) (hw : w ≤ 64) (hy : y < 2 ^ w) : (x % 2 ^ 64 ||| y) % 2 ^ w = x % 2 ^ w ||| y := by
  rw [Nat.or_mod_two_pow, cut64 hw, Nat.mod_eq_of_lt hy]
theorem or_cut' (x y w : Nat) (hw : w ≤ 64) (hy : y < 2 ^ w) : (y ||| x % 2 ^ 64) % 2 ^ w = y ||| x % 2 ^ w := by
  rw [Nat.or_mod_two_pow, cut64 hw, Nat.mod_eq_of_lt hy]
theorem sub_cut (w a b : Nat) (hw : w ≤ 64) (hb : b < 2 ^ w) : md 64 ((a : Int) - (b : Int)) % 2 ^ w = (a + (2 ^ w - b)) % 2 ^ w := by
  rw [md_cut hw]
  unfold md
  have hp := Nat.two_pow_pos w
  have e : ((a : Int) - (b : Int)) = ((a + (2 ^ w - b) : Nat) : Int) - ((2 ^ w : Nat) : Int) := by omega
  rw [e, Int.sub_emod_right, ← Int.natCast_emod]; rfl
end Go.Proofs.YtnhnbcjffnlicaaDoor.Num

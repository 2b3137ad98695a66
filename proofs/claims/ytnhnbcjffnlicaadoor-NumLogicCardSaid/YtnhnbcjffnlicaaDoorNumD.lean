/-
  PLAIN: division as signed. No Go in sight.
-/
import Derived.Test.YtnhnbcjffnlicaaDoorNumL
namespace Go.Proofs.YtnhnbcjffnlicaaDoor.Num
set_option linter.unusedVariables false

theorem md_nat (w k : Nat) (h : k < 2 ^ w) : md w (k : Int) = k := by
  unfold md; rw [Int.emod_eq_of_lt (by omega) (by omega)]; rfl
theorem md_lt (w : Nat) (z : Int) : md w z < 2 ^ w := by
  unfold md
  have hp := Nat.two_pow_pos w
  have h1 := Int.emod_nonneg z (show ((2 ^ w : Nat) : Int) ≠ 0 by omega)
  have h2 := Int.emod_lt_of_pos z (show 0 < ((2 ^ w : Nat) : Int) by omega)
  omega
theorem sg_lo {w a : Nat} (h : a < 2 ^ (w - 1)) : sg w a = (a : Int) := if_pos h
theorem sg_hi {w a : Nat} (h : 2 ^ (w - 1) ≤ a) (ha : a ≤ 2 ^ w) : sg w a = -((2 ^ w - a : Nat) : Int) := by
  unfold sg; rw [if_neg (by omega)]; omega
/-- The size of a number as signed. -/
def mag (w a : Nat) : Nat := if a < 2 ^ (w - 1) then a else 2 ^ w - a
theorem mag_lt {w a : Nat} (h1 : 1 ≤ w) (h : a < 2 ^ w) : mag w a ≤ 2 ^ (w - 1) := by
  obtain ⟨k, rfl⟩ : ∃ k, w = k + 1 := ⟨w - 1, by omega⟩
  unfold mag
  rw [Nat.pow_succ] at *
  split <;> simp only [Nat.add_sub_cancel] at * <;> omega
/-- The document's quotient, rest, and whether it is too great. -/
theorem div_cases (w a b : Nat) (h1 : 1 ≤ w) (ha : a < 2 ^ w) (hb : b < 2 ^ w) (h0 : b ≠ 0) :
    md w ((sg w a).tdiv (sg w b)) = (if (a < 2 ^ (w - 1) ↔ b < 2 ^ (w - 1)) then mag w a / mag w b else md w (-((mag w a / mag w b : Nat) : Int))) ∧
    md w ((sg w a).tmod (sg w b)) = (if a < 2 ^ (w - 1) then mag w a % mag w b else md w (-((mag w a % mag w b : Nat) : Int))) := by
  have hpw : 2 ^ w = 2 * 2 ^ (w - 1) := by
    obtain ⟨k, rfl⟩ : ∃ k, w = k + 1 := ⟨w - 1, by omega⟩
    rw [Nat.add_sub_cancel, Nat.pow_succ, Nat.mul_comm]
  have hp := Nat.two_pow_pos (w - 1)
  have lo : ∀ x y : Nat, x ≤ 2 ^ (w - 1) → x / y < 2 ^ w ∧ x % y < 2 ^ w := fun x y hx => by
    have := Nat.div_le_self x y
    have := Nat.mod_le x y
    omega
  rcases Nat.lt_or_ge a (2 ^ (w - 1)) with hal | hal <;> rcases Nat.lt_or_ge b (2 ^ (w - 1)) with hbl | hbl
  · have e1 : mag w a = a := if_pos hal
    have e2 : mag w b = b := if_pos hbl
    rw [sg_lo hal, sg_lo hbl, e1, e2, if_pos (by simp [hal, hbl]), if_pos hal]
    have := lo a b (by omega)
    exact ⟨by rw [← Int.ofNat_tdiv]; exact md_nat w _ this.1, by rw [← Int.ofNat_tmod]; exact md_nat w _ this.2⟩
  · have e1 : mag w a = a := if_pos hal
    have e2 : mag w b = 2 ^ w - b := if_neg (by omega)
    rw [sg_lo hal, sg_hi hbl (by omega), e1, e2, if_neg (by omega), if_pos hal]
    have := lo a (2 ^ w - b) (by omega)
    exact ⟨by rw [Int.tdiv_neg, ← Int.ofNat_tdiv], by rw [Int.tmod_neg, ← Int.ofNat_tmod]; exact md_nat w _ this.2⟩
  · have e1 : mag w a = 2 ^ w - a := if_neg (by omega)
    have e2 : mag w b = b := if_pos hbl
    rw [sg_hi hal (by omega), sg_lo hbl, e1, e2, if_neg (by omega), if_neg (by omega)]
    exact ⟨by rw [Int.neg_tdiv, ← Int.ofNat_tdiv], by rw [Int.neg_tmod, ← Int.ofNat_tmod]⟩
  · have e1 : mag w a = 2 ^ w - a := if_neg (by omega)
    have e2 : mag w b = 2 ^ w - b := if_neg (by omega)
    rw [sg_hi hal (by omega), sg_hi hbl (by omega), e1, e2, if_pos (by omega), if_neg (by omega)]
    have := lo (2 ^ w - a) (2 ^ w - b) (by omega)
    exact ⟨by rw [Int.neg_tdiv_neg, ← Int.ofNat_tdiv]; exact md_nat w _ this.1, by rw [Int.tmod_neg, Int.neg_tmod, ← Int.ofNat_tmod]⟩
theorem over_top (w a b : Nat) (h1 : 1 ≤ w) (ha : a < 2 ^ w) (hb : b < 2 ^ w) (h0 : b ≠ 0) (hs : a < 2 ^ (w - 1) ↔ b < 2 ^ (w - 1)) :
    (mag w a / mag w b / 2 ^ (w - 1) % 2 = 1 ↔ b = 2 ^ w - 1 ∧ a = 2 ^ (w - 1)) ∧ mag w a / mag w b < 2 ^ w := by
  have hpw : 2 ^ w = 2 * 2 ^ (w - 1) := by
    obtain ⟨k, rfl⟩ : ∃ k, w = k + 1 := ⟨w - 1, by omega⟩
    rw [Nat.add_sub_cancel, Nat.pow_succ, Nat.mul_comm]
  have hp := Nat.two_pow_pos (w - 1)
  have hma := mag_lt h1 ha
  have hq := Nat.div_le_self (mag w a) (mag w b)
  have hlt : mag w a / mag w b < 2 ^ w := by omega
  refine ⟨?_, hlt⟩
  rw [(top_bit w _ h1 hlt).1]
  rcases Nat.lt_or_ge a (2 ^ (w - 1)) with hal | hal
  · have e1 : mag w a = a := if_pos hal
    have := Nat.div_le_self a (mag w b)
    rw [e1]; omega
  · have hbl : 2 ^ (w - 1) ≤ b := by omega
    have e1 : mag w a = 2 ^ w - a := if_neg (by omega)
    have e2 : mag w b = 2 ^ w - b := if_neg (by omega)
    rw [e1, e2]
    constructor
    · intro h
      have h2 : 2 ^ (w - 1) * (2 ^ w - b) ≤ 2 ^ w - a := (Nat.le_div_iff_mul_le (by omega)).1 h
      have h3 : 2 ^ w - b = 1 := by
        rcases Nat.lt_or_ge (2 ^ w - b) 2 with h4 | h4
        · omega
        · have := Nat.mul_le_mul_left (2 ^ (w - 1)) h4
          omega
      rw [h3] at h2
      omega
    · rintro ⟨rfl, rfl⟩
      have h3 : 2 ^ w - (2 ^ w - 1) = 1 := by omega
      rw [h3, Nat.div_one]; omega
end Go.Proofs.YtnhnbcjffnlicaaDoor.Num

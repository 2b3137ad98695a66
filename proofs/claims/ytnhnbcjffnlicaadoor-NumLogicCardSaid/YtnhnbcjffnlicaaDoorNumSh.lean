/-
  PLAIN: the laws of shifts. No Go in sight.
-/
import Derived.Test.YtnhnbcjffnlicaaDoorNumRg
namespace Go.Proofs.YtnhnbcjffnlicaaDoor.Num
set_option linter.unusedVariables false
section
variable {w x b : Nat}
theorem tw30 : tw 30 w x b = x * 2 ^ (b % w) % 2 ^ w := tw_low (by decide)
theorem tw31 : tw 31 w x b = md w (sg w x / ((2 ^ (b % w) : Nat) : Int)) := tw_low (by decide)
theorem tw32 : tw 32 w x b = x / 2 ^ (b % w) := tw_low (by decide)
theorem tw29 : tw 29 w x b = x ^^^ b := tw_low (by decide)
theorem tw12 : tw 12 w x b = yes (decide (sg w x < sg w b)) := tw_low (by decide)
theorem pow_lt (hw : 1 ≤ w) (k : Nat) : 2 ^ (k % w) < 2 ^ w := Nat.pow_lt_pow_right (by omega) (Nat.mod_lt _ hw)
theorem sh_one (hw : 1 ≤ w) : tw 30 w 1 (b % w) = 2 ^ (b % w) := by
  rw [tw30, Nat.mod_mod, Nat.one_mul, Nat.mod_eq_of_lt (pow_lt hw b)]
theorem sh_mul (hw : 1 ≤ w) : tw 22 w x (tw 30 w 1 (b % w)) = tw 30 w x b := by
  rw [sh_one hw, tw22, tw30]
theorem sh_ne (hw : 1 ≤ w) : tw 30 w 1 (b % w) ≠ 0 := by rw [sh_one hw]; exact Nat.ne_of_gt (Nat.two_pow_pos _)
theorem sh_div (hw : 1 ≤ w) : tw 24 w x (tw 30 w 1 (b % w)) = tw 32 w x b := by
  rw [tw_b (by decide) (sh_ne hw), tw32, sh_one hw]; rfl
theorem sh_back (hw : 1 ≤ w) (hx : x < 2 ^ w) : tw 20 w (tw 30 w (tw 32 w x b) (b % w)) (tw 26 w x (tw 30 w 1 (b % w))) = x := by
  rw [tw_b (by decide) (sh_ne hw), tw32, tw30, tw20, sh_one hw, Nat.mod_mod]
  show (x / 2 ^ (b % w) * 2 ^ (b % w) % 2 ^ w + x % 2 ^ (b % w)) % 2 ^ w = x
  have h1 := Nat.div_mul_le_self x (2 ^ (b % w))
  have h2 := Nat.div_add_mod x (2 ^ (b % w))
  rw [Nat.mul_comm] at h2
  rw [Nat.mod_eq_of_lt (Nat.lt_of_le_of_lt h1 hx), h2, Nat.mod_eq_of_lt hx]
theorem neg_one (hw : 32 ≤ w) : tw 21 w 0 1 = 2 ^ w - 1 := by
  rw [tw21, Nat.zero_add]
  have := Nat.two_pow_pos w
  exact Nat.mod_eq_of_lt (by omega)
theorem xor_neg (hx : x < 2 ^ w) : x ^^^ (2 ^ w - 1) = 2 ^ w - 1 - x := by
  apply Nat.eq_of_testBit_eq
  intro i
  rw [Nat.testBit_xor, Nat.testBit_two_pow_sub_one, show 2 ^ w - 1 - x = 2 ^ w - (x + 1) by omega, Nat.testBit_two_pow_sub_succ hx]
  by_cases hi : i < w
  · simp [hi]
  · rw [Nat.testBit_lt_two_pow (Nat.lt_of_lt_of_le hx (Nat.pow_le_pow_right (by omega) (by omega)))]; simp [hi]
theorem lt_zero (hw : 32 ≤ w) (hx : x < 2 ^ w) : tw 12 w x 0 = (if 2 ^ (w - 1) ≤ x then 1 else 0) := by
  have hp := Nat.two_pow_pos (w - 1)
  rw [tw12, sg_lo hp]
  by_cases h : 2 ^ (w - 1) ≤ x
  · rw [if_pos h, sg_hi h (by omega)]
    rw [decide_eq_true (by omega)]; rfl
  · rw [if_neg h, sg_lo (by omega)]
    rw [decide_eq_false (by omega)]; rfl
theorem sh_neg (hw : 32 ≤ w) (hx : x < 2 ^ w) (h : 2 ^ (w - 1) ≤ x) : tw 29 w (tw 32 w (tw 29 w x (tw 21 w 0 1)) b) (tw 21 w 0 1) = tw 31 w x b := by
  rw [neg_one hw, tw29, tw29, tw32, tw31, xor_neg hx]
  have hp := Nat.two_pow_pos w
  have hk := Nat.two_pow_pos (b % w)
  have hq := Nat.div_le_self (2 ^ w - 1 - x) (2 ^ (b % w))
  rw [xor_neg (by omega), sg_hi h (by omega)]
  generalize 2 ^ (b % w) = d at *
  generalize hQ : (2 ^ w - 1 - x) / d = q at *
  have e : (-((2 ^ w - x : Nat) : Int)) / (d : Int) = -((q : Int) + 1) := by
    have h1 := Nat.div_add_mod (2 ^ w - 1 - x) d
    have h2 := Nat.mod_lt (2 ^ w - 1 - x) hk
    rw [hQ] at h1
    generalize (2 ^ w - 1 - x) % d = r at h1 h2
    have h3 : -((2 ^ w - x : Nat) : Int) = ((d : Int) - 1 - (r : Int)) + (d : Int) * (-((q : Int) + 1)) := by
      have h4 : ((2 ^ w - 1 - x : Nat) : Int) = (d : Int) * (q : Int) + (r : Int) := by rw [← h1]; push_cast; rfl
      have h5 : ((2 ^ w - x : Nat) : Int) = ((2 ^ w - 1 - x : Nat) : Int) + 1 := by omega
      rw [h5, h4, Int.mul_neg, Int.mul_add, Int.mul_one]; omega
    rw [h3, Int.add_mul_ediv_left _ _ (by omega), Int.ediv_eq_zero_of_lt (by omega) (by omega)]; omega
  rw [e]
  have e2 : -((q : Int) + 1) = ((2 ^ w - 1 - q : Nat) : Int) - ((2 ^ w : Nat) : Int) := by omega
  unfold md
  rw [e2, Int.sub_emod_right, Int.emod_eq_of_lt (by omega) (by omega)]; rfl
theorem sh_pos (hx : x < 2 ^ w) (h : ¬ 2 ^ (w - 1) ≤ x) : tw 31 w x b = tw 32 w x b := by
  rw [tw31, tw32, sg_lo (by omega), ← Int.natCast_ediv, md_nat w _ (shr_lt hx)]
end
end Go.Proofs.YtnhnbcjffnlicaaDoor.Num

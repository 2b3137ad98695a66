/-
  PLAIN: the laws of sums, products and quotients. No Go in sight.
-/
import Derived.Test.YtnhnbcjffnlicaaDoorNumVl
namespace Go.Proofs.YtnhnbcjffnlicaaDoor.Num
set_option linter.unusedVariables false

/-- What the statement's own 'two' tells. -/
def tw (p w a b : Nat) : Nat := if te p w a b = 0 then tv p w a b else 0
theorem te_low {p w a b : Nat} (hp : p < 23 ∨ 26 < p) : te p w a b = 0 := by unfold te; rw [if_neg (by omega), if_neg (by omega)]
theorem te_b {p w a b : Nat} (hp : p ≠ 23) (hb : b ≠ 0) : te p w a b = 0 := by unfold te; rw [if_neg (by omega), if_neg (by omega)]
theorem tw_low {p w a b : Nat} (hp : p < 23 ∨ 26 < p) : tw p w a b = tv p w a b := if_pos (te_low hp)
theorem tw_b {p w a b : Nat} (hp : p ≠ 23) (hb : b ≠ 0) : tw p w a b = tv p w a b := if_pos (te_b hp hb)
theorem tv_lt (p w a b : Nat) (h1 : 32 ≤ w) (ha : a < 2 ^ w) (hb : b < 2 ^ w) : tv p w a b < 2 ^ w := by
  have hp := Nat.two_pow_pos w
  have h2 : 2 ^ 1 ≤ 2 ^ w := Nat.pow_le_pow_right (by omega) (by omega)
  have hy : ∀ c, yes c < 2 ^ w := fun c => by have := yes_le c; omega
  unfold tv
  split
  · exact hy _
  · exact hy _
  · exact hy _
  · exact hy _
  · exact hy _
  · exact hy _
  · exact hy _
  · exact hy _
  · exact hy _
  · exact hy _
  · exact Nat.mod_lt _ hp
  · exact Nat.mod_lt _ hp
  · exact Nat.mod_lt _ hp
  · exact md_lt w _
  · exact Nat.lt_of_le_of_lt (Nat.div_le_self _ _) ha
  · exact md_lt w _
  · exact Nat.lt_of_le_of_lt (Nat.mod_le _ _) ha
  · exact Nat.lt_of_le_of_lt Nat.and_le_left ha
  · exact Nat.or_lt_two_pow ha hb
  · exact Nat.xor_lt_two_pow ha hb
  · exact Nat.mod_lt _ hp
  · exact md_lt w _
  · exact shr_lt ha
  · exact Nat.or_lt_two_pow (Nat.mod_lt _ hp) (shr_lt ha)
  · exact Nat.or_lt_two_pow (shr_lt ha) (Nat.mod_lt _ hp)
  · exact hp
theorem tw_lt (p w a b : Nat) (h1 : 32 ≤ w) (ha : a < 2 ^ w) (hb : b < 2 ^ w) : tw p w a b < 2 ^ w := by
  unfold tw; split
  · exact tv_lt p w a b h1 ha hb
  · exact Nat.two_pow_pos w
section
variable {w a b c : Nat}
theorem tw20 : tw 20 w a b = (a + b) % 2 ^ w := tw_low (by decide)
theorem tw21 : tw 21 w a b = (a + (2 ^ w - b)) % 2 ^ w := tw_low (by decide)
theorem tw22 : tw 22 w a b = a * b % 2 ^ w := tw_low (by decide)
theorem ring_sub (ha : a < 2 ^ w) (hb : b < 2 ^ w) : tw 21 w (tw 20 w a b) b = a := by
  rw [tw21, tw20]
  generalize 2 ^ w = P at *
  rcases Nat.lt_or_ge (a + b) P with h | h
  · rw [Nat.mod_eq_of_lt h, show a + b + (P - b) = a + P by omega, Nat.add_mod_right, Nat.mod_eq_of_lt ha]
  · rw [Nat.mod_eq_sub_mod h, Nat.mod_eq_of_lt (show a + b - P < P by omega), show a + b - P + (P - b) = a by omega, Nat.mod_eq_of_lt ha]
theorem ring_add : tw 20 w a b = tw 20 w b a := by rw [tw20, tw20, Nat.add_comm]
theorem ring_mul : tw 22 w a b = tw 22 w b a := by rw [tw22, tw22, Nat.mul_comm]
theorem ring_dist : tw 22 w a (tw 20 w b c) = tw 20 w (tw 22 w a b) (tw 22 w a c) := by
  rw [tw22, tw20, tw20, tw22, tw22, Nat.mul_mod, Nat.mod_mod, ← Nat.mul_mod, Nat.mul_add, ← Nat.add_mod]
theorem ring_assoc : tw 22 w (tw 22 w a b) c = tw 22 w a (tw 22 w b c) := by
  rw [tw22, tw22, tw22, tw22, Nat.mul_mod, Nat.mod_mod, ← Nat.mul_mod, Nat.mul_assoc, Nat.mul_mod a (b * c % 2 ^ w), Nat.mod_mod, ← Nat.mul_mod]
theorem ring_divu (ha : a < 2 ^ w) (hb0 : b ≠ 0) : tw 20 w (tw 22 w (tw 24 w a b) b) (tw 26 w a b) = a := by
  rw [tw20, tw22, tw_b (by decide) hb0, tw_b (by decide) hb0]
  show (a / b * b % 2 ^ w + a % b) % 2 ^ w = a
  have h1 := Nat.div_mul_le_self a b
  rw [Nat.mod_eq_of_lt (Nat.lt_of_le_of_lt h1 ha)]
  have h2 := Nat.div_add_mod a b
  rw [Nat.mul_comm] at h2
  rw [h2, Nat.mod_eq_of_lt ha]
theorem md_self (z : Int) : ((md w z : Nat) : Int) % ((2 ^ w : Nat) : Int) = z % ((2 ^ w : Nat) : Int) := by
  have hp := Nat.two_pow_pos w
  unfold md
  rw [Int.toNat_of_nonneg (Int.emod_nonneg z (by omega)), Int.emod_emod]
theorem sg_self (a : Nat) : sg w a % ((2 ^ w : Nat) : Int) = (a : Int) % ((2 ^ w : Nat) : Int) := by
  unfold sg; split
  · rfl
  · rw [Int.sub_emod_right]
theorem ring_divs (ha : a < 2 ^ w) (hb : b < 2 ^ w) (hb0 : b ≠ 0) (hn : tw 21 w 0 b ≠ 1) : tw 20 w (tw 22 w (tw 23 w a b) b) (tw 25 w a b) = a := by
  have hp := Nat.two_pow_pos w
  have hb1 : b ≠ 2 ^ w - 1 := by
    rintro rfl
    rw [tw21] at hn
    rcases Nat.lt_or_ge 1 (2 ^ w) with h | h
    · rw [show 0 + (2 ^ w - (2 ^ w - 1)) = 1 by omega, Nat.mod_eq_of_lt h] at hn
      exact hn rfl
    · omega
  have e23 : tw 23 w a b = md w ((sg w a).tdiv (sg w b)) := if_pos (by unfold te; rw [if_neg (by omega), if_neg (by omega)])
  have e25 : tw 25 w a b = md w ((sg w a).tmod (sg w b)) := tw_b (by decide) hb0
  rw [tw20, tw22, e23, e25]
  have hM : ((((md w ((sg w a).tdiv (sg w b)) * b % 2 ^ w + md w ((sg w a).tmod (sg w b))) % 2 ^ w : Nat)) : Int) = (a : Int) := by
    have key : (sg w a).tdiv (sg w b) * sg w b + (sg w a).tmod (sg w b) = sg w a := by
      have := Int.mul_tdiv_add_tmod (sg w a) (sg w b); rw [Int.mul_comm] at this; exact this
    have ha2 : (a : Int) = sg w a % ((2 ^ w : Nat) : Int) := by rw [sg_self, Int.emod_eq_of_lt (by omega) (by omega)]
    rw [ha2]
    clear ha2 e23 e25
    generalize (sg w a).tdiv (sg w b) = Q at key ⊢
    generalize (sg w a).tmod (sg w b) = R at key ⊢
    rw [← key]
    push_cast
    rw [Int.add_emod, Int.emod_emod, Int.add_emod (_ * _) R]
    have e1 : ((md w Q : Nat) : Int) * (b : Int) % (2 ^ w) = Q * sg w b % (2 ^ w) := by
      rw [Int.mul_emod, Int.mul_emod Q]
      have x1 := md_self (w := w) Q
      have x2 := sg_self (w := w) b
      push_cast at x1 x2
      rw [x1, x2]
    have x3 := md_self (w := w) R
    push_cast at x3
    rw [e1, x3]
  omega
end
end Go.Proofs.YtnhnbcjffnlicaaDoor.Num

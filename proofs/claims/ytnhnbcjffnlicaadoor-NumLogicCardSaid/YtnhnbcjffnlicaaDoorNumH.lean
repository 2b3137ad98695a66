/-
  PLAIN: ones, and noughts ahead and behind, counted place by place. No Go in sight.
-/
import Derived.Test.YtnhnbcjffnlicaaDoorNumL
namespace Go.Proofs.YtnhnbcjffnlicaaDoor.Num
set_option linter.unusedVariables false

theorem pop_snoc : ∀ (k a : Nat), pop (k + 1) a = pop k a + a / 2 ^ k % 2
  | 0, a => by simp [pop]
  | k + 1, a => by
    have := pop_snoc k (a / 2)
    rw [pop, this, pop, Nat.div_div_eq_div_mul, Nat.pow_succ, Nat.mul_comm 2]; omega
theorem pop_zero : ∀ k, pop k 0 = 0
  | 0 => rfl
  | k + 1 => by rw [pop, show 0 / 2 = 0 from rfl, pop_zero k]
theorem pop_more (w j a : Nat) (h : a < 2 ^ w) : pop (w + j) a = pop w a := by
  induction j with
  | zero => rfl
  | succ j ih =>
    rw [← Nat.add_assoc, pop_snoc, ih, Nat.div_eq_of_lt (Nat.lt_of_lt_of_le h (Nat.pow_le_pow_right (by omega) (by omega)))]; rfl
theorem pop_64 (w a : Nat) (hw : w ≤ 64) (h : a < 2 ^ w) : pop 64 a = pop w a := by
  have := pop_more w (64 - w) a h
  rwa [show w + (64 - w) = 64 by omega] at this
theorem bitLen_lt : ∀ (k x : Nat), k ≤ 64 → x < 2 ^ k → Lib.bitLen x ≤ k := fun k x hk h => Lib.bitLen_le x k hk h
theorem bitLen_ge (k x : Nat) (h64 : x < 2 ^ 64) (h : 2 ^ k ≤ x) : k + 1 ≤ Lib.bitLen x := by
  rw [Lib.bitLen_shift k x h h64]
  have h1 : 1 ≤ x / 2 ^ k := (Nat.le_div_iff_mul_le (Nat.two_pow_pos k)).2 (by omega)
  have h2 : x / 2 ^ k < 2 ^ 64 := Nat.lt_of_le_of_lt (Nat.div_le_self _ _) h64
  rw [Lib.bitLen_half _ (by omega) h2]; omega
theorem lead_of (w a j : Nat) (hw : w ≤ 64) (hj : j ≤ w) (h1 : a < 2 ^ (w - j)) (h2 : j = w ∨ 2 ^ (w - 1 - j) ≤ a) : w - Lib.bitLen a = j := by
  have hl := bitLen_lt (w - j) a (by omega) h1
  rcases h2 with rfl | h2
  · have : Lib.bitLen a = 0 := by omega
    omega
  · rcases Nat.lt_or_ge j w with h3 | h3
    · have := bitLen_ge (w - 1 - j) a (Nat.lt_of_lt_of_le h1 (Nat.pow_le_pow_right (by omega) (by omega))) h2
      omega
    · omega
theorem ctz_of (w a j : Nat) (hw : w ≤ 64) (ha : a < 2 ^ w) (hj : j ≤ w) (h1 : a % 2 ^ j = 0) (h2 : j = w ∨ a / 2 ^ j % 2 = 1) : (if a = 0 then w else Lib.ctz 64 a) = j := by
  by_cases h0 : a = 0
  · subst h0
    rw [if_pos rfl]
    rcases h2 with rfl | h2
    · rfl
    · rw [Nat.zero_div] at h2; omega
  · rw [if_neg h0]
    have hjw : j ≠ w := by
      rintro rfl
      rw [Nat.mod_eq_of_lt ha] at h1; exact h0 h1
    have hb : a / 2 ^ j % 2 = 1 := by omega
    unfold Lib.ctz
    rw [if_neg h0]
    obtain ⟨m, hm, hk⟩ := Lib.ctzFrom_spec 64 a (by omega) (Nat.lt_of_lt_of_le ha (Nat.pow_le_pow_right (by omega) hw))
    generalize Lib.ctzFrom 64 a = k at *
    rcases Nat.lt_trichotomy k j with h | h | h
    · exfalso
      obtain ⟨d, rfl⟩ : ∃ d, j = k + (d + 1) := ⟨j - k - 1, by omega⟩
      have h3 : 2 ^ (k + (d + 1)) ∣ a := Nat.dvd_of_mod_eq_zero h1
      obtain ⟨q, hq⟩ := h3
      rw [hm, Nat.pow_add, Nat.mul_assoc] at hq
      have := Nat.eq_of_mul_eq_mul_left (Nat.two_pow_pos k) hq
      rw [Nat.pow_succ, Nat.mul_assoc, Nat.mul_comm (2 ^ d), Nat.mul_assoc] at this
      omega
    · exact h
    · exfalso
      obtain ⟨d, rfl⟩ : ∃ d, k = j + (d + 1) := ⟨k - j - 1, by omega⟩
      rw [hm, Nat.pow_add, Nat.mul_assoc, Nat.mul_div_cancel_left _ (Nat.two_pow_pos j), Nat.pow_succ, Nat.mul_comm (2 ^ d), Nat.mul_assoc, Nat.mul_mod_right] at hb
      omega
theorem ctz_step (a j : Nat) (h1 : a % 2 ^ j = 0) (h2 : a / 2 ^ j % 2 = 0) : a % 2 ^ (j + 1) = 0 := by
  rw [Nat.pow_succ, Nat.mod_mul, h1, h2]; omega
theorem lead_step (w a j : Nat) (hj : j < w) (h1 : a < 2 ^ (w - j)) (h2 : a / 2 ^ (w - 1 - j) % 2 = 0) : a < 2 ^ (w - (j + 1)) := by
  have e : w - j = (w - 1 - j) + 1 := by omega
  rw [show w - (j + 1) = w - 1 - j by omega]
  rw [e, Nat.pow_succ] at h1
  have h3 : a / 2 ^ (w - 1 - j) < 2 := (Nat.div_lt_iff_lt_mul (Nat.two_pow_pos _)).2 (by omega)
  have h4 : a / 2 ^ (w - 1 - j) = 0 := by generalize a / 2 ^ (w - 1 - j) = q at h2 h3; omega
  rcases Nat.lt_or_ge a (2 ^ (w - 1 - j)) with h | h
  · exact h
  · have := (Nat.le_div_iff_mul_le (Nat.two_pow_pos (w - 1 - j))).2 (show 1 * 2 ^ (w - 1 - j) ≤ a by omega)
    rw [h4] at this; omega
theorem lead_stop (w a j : Nat) (h2 : a / 2 ^ (w - 1 - j) % 2 ≠ 0) : 2 ^ (w - 1 - j) ≤ a := by
  rcases Nat.lt_or_ge a (2 ^ (w - 1 - j)) with h | h
  · rw [Nat.div_eq_of_lt h] at h2; omega
  · exact h
end Go.Proofs.YtnhnbcjffnlicaaDoor.Num

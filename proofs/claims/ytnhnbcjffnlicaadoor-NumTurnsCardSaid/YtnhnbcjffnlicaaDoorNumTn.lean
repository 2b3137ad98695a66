/-
  PLAIN: turns, ones, and the order. No Go in sight.
-/
import Derived.Test.YtnhnbcjffnlicaaDoorNumRg
import Derived.Test.YtnhnbcjffnlicaaDoorNumH
namespace Go.Proofs.YtnhnbcjffnlicaaDoor.Num
set_option linter.unusedVariables false
section
variable {w x y : Nat}
theorem pop_add : ∀ (m n lo hi : Nat), lo < 2 ^ m → pop (m + n) (lo + hi * 2 ^ m) = pop m lo + pop n hi
  | 0, n, lo, hi, h => by
    have : lo = 0 := by omega
    subst this
    simp [pop]
  | m + 1, n, lo, hi, h => by
    have e : m + 1 + n = (m + n) + 1 := by omega
    rw [e, pop, pop]
    have hp : 2 ^ (m + 1) = 2 * 2 ^ m := by rw [Nat.pow_succ, Nat.mul_comm]
    have e1 : (lo + hi * 2 ^ (m + 1)) % 2 = lo % 2 := by rw [hp, ← Nat.mul_assoc, Nat.mul_comm hi 2, Nat.mul_assoc]; omega
    have e2 : (lo + hi * 2 ^ (m + 1)) / 2 = lo / 2 + hi * 2 ^ m := by rw [hp, ← Nat.mul_assoc, Nat.mul_comm hi 2, Nat.mul_assoc]; omega
    rw [e1, e2, pop_add m n (lo / 2) hi (by rw [hp] at h; omega)]; omega
/-- A turn: the high part comes below the low one. -/
theorem turn_eq (k : Nat) (hk : k < w) (hx : x < 2 ^ w) : x * 2 ^ k % 2 ^ w ||| x / 2 ^ (w - k) = x / 2 ^ (w - k) + x % 2 ^ (w - k) * 2 ^ k := by
  have hp := Nat.two_pow_pos k
  have e1 : x * 2 ^ k % 2 ^ w = x % 2 ^ (w - k) * 2 ^ k := by
    rw [show 2 ^ w = 2 ^ (w - k) * 2 ^ k by rw [← Nat.pow_add]; congr 1; omega, Nat.mul_mod_mul_right]
  have h2 : x / 2 ^ (w - k) < 2 ^ k := by
    rw [Nat.div_lt_iff_lt_mul (Nat.two_pow_pos _), ← Nat.pow_add, show k + (w - k) = w by omega]; exact hx
  rw [e1, Nat.mul_comm, ← Nat.two_pow_add_eq_or_of_lt h2, Nat.add_comm]
theorem turn_pop (k : Nat) (hk : k < w) (hw : w ≤ 64) (hx : x < 2 ^ w) : pop 64 (x * 2 ^ k % 2 ^ w ||| x / 2 ^ (w - k)) = pop 64 x := by
  have hlt : (x * 2 ^ k % 2 ^ w ||| x / 2 ^ (w - k)) < 2 ^ w := Nat.or_lt_two_pow (Nat.mod_lt _ (Nat.two_pow_pos w)) (shr_lt hx)
  rw [pop_64 w _ hw hlt, pop_64 w x hw hx, turn_eq k hk hx]
  have h2 : x / 2 ^ (w - k) < 2 ^ k := by
    rw [Nat.div_lt_iff_lt_mul (Nat.two_pow_pos _), ← Nat.pow_add, show k + (w - k) = w by omega]; exact hx
  have e1 := pop_add k (w - k) (x / 2 ^ (w - k)) (x % 2 ^ (w - k)) h2
  have e2 := pop_add (w - k) k (x % 2 ^ (w - k)) (x / 2 ^ (w - k)) (Nat.mod_lt _ (Nat.two_pow_pos _))
  rw [show k + (w - k) = w by omega] at e1
  rw [show w - k + k = w by omega] at e2
  have e3 : x % 2 ^ (w - k) + x / 2 ^ (w - k) * 2 ^ (w - k) = x := by rw [Nat.add_comm, Nat.mul_comm]; exact Nat.div_add_mod x _
  rw [e3] at e2
  rw [e1, e2, Nat.add_comm]
theorem tw33 : tw 33 w x y = (x * 2 ^ (y % w) % 2 ^ w ||| x / 2 ^ (w - y % w)) := tw_low (by decide)
theorem tw34 : tw 34 w x y = (x / 2 ^ (y % w) ||| x * 2 ^ (w - y % w) % 2 ^ w) := tw_low (by decide)
theorem tw30' : tw 30 w x y = x * 2 ^ (y % w) % 2 ^ w := tw_low (by decide)
theorem tw32' : tw 32 w x y = x / 2 ^ (y % w) := tw_low (by decide)
theorem tw28 : tw 28 w x y = (x ||| y) := tw_low (by decide)
theorem turn_back (h1 : 1 ≤ w) (hx : x < 2 ^ w) : tw 34 w (tw 33 w x y) y = x := by
  rw [tw33, tw34]
  have hk : y % w < w := Nat.mod_lt _ h1
  generalize y % w = k at *
  rw [turn_eq k hk hx]
  have h2 : x / 2 ^ (w - k) < 2 ^ k := by
    rw [Nat.div_lt_iff_lt_mul (Nat.two_pow_pos _), ← Nat.pow_add, show k + (w - k) = w by omega]; exact hx
  have hp := Nat.two_pow_pos k
  have e1 : (x / 2 ^ (w - k) + x % 2 ^ (w - k) * 2 ^ k) / 2 ^ k = x % 2 ^ (w - k) := by
    rw [Nat.add_mul_div_right _ _ hp, Nat.div_eq_of_lt h2, Nat.zero_add]
  have e2 : (x / 2 ^ (w - k) + x % 2 ^ (w - k) * 2 ^ k) * 2 ^ (w - k) % 2 ^ w = x / 2 ^ (w - k) * 2 ^ (w - k) := by
    rw [Nat.add_mul, Nat.mul_assoc, ← Nat.pow_add, show k + (w - k) = w by omega, Nat.add_mul_mod_self_right]
    apply Nat.mod_eq_of_lt
    exact Nat.lt_of_le_of_lt (Nat.div_mul_le_self _ _) hx
  rw [e1, e2, Nat.or_comm, Nat.mul_comm, ← Nat.two_pow_add_eq_or_of_lt (Nat.mod_lt _ (Nat.two_pow_pos _)), Nat.div_add_mod]
theorem turn_ones (h1 : 1 ≤ w) (hw : w ≤ 64) (hx : x < 2 ^ w) : pop 64 (tw 33 w x y) = pop 64 x := by
  rw [tw33]; exact turn_pop _ (Nat.mod_lt _ h1) hw hx
theorem turn_parts (h1 : 1 ≤ w) (hd : w ∣ 2 ^ w) (hy : y < 2 ^ w) (h0 : y % w ≠ 0) : tw 28 w (tw 30 w x y) (tw 32 w x (tw 21 w 0 y)) = tw 33 w x y := by
  rw [tw28, tw30', tw32', tw33, tw21, Nat.zero_add]
  have hk : y % w < w := Nat.mod_lt _ h1
  have e : (2 ^ w - y) % 2 ^ w % w = w - y % w := by
    have hy0 : y ≠ 0 := by rintro rfl; simp at h0
    rw [Nat.mod_eq_of_lt (show 2 ^ w - y < 2 ^ w by omega)]
    obtain ⟨d, hd⟩ := hd
    have h3 := Nat.div_add_mod y w
    have hlt : y / w < d := by
      rw [hd] at hy
      exact (Nat.div_lt_iff_lt_mul h1).2 (by rw [Nat.mul_comm]; exact hy)
    have e4 : 2 ^ w - y = (w - y % w) + w * (d - y / w - 1) := by
      rw [hd]
      have h5 : w * d = w * (y / w) + w + w * (d - y / w - 1) := by
        rw [← Nat.mul_succ, ← Nat.mul_add]; congr 1; omega
      omega
    rw [e4, Nat.add_mul_mod_self_left, Nat.mod_eq_of_lt (by omega)]
  rw [e]
theorem tw_as (p a b : Nat) (hp : p < 23) : tw p w a b = tv p w a b := tw_low (.inl hp)
theorem tri_s : tw 10 w x y + tw 12 w x y + tw 14 w x y = 1 ∨ sg w x = sg w y := by
  rw [tw_as _ _ _ (by decide), tw_as _ _ _ (by decide), tw_as _ _ _ (by decide)]
  show yes (decide (x = y)) + yes (decide (sg w x < sg w y)) + yes (decide (sg w y < sg w x)) = 1 ∨ _
  by_cases h : sg w x = sg w y
  · exact .inr h
  · left
    have hne : ¬ x = y := fun e => h (by rw [e])
    rw [decide_eq_false hne]
    rcases Int.lt_or_gt_of_ne h with h1 | h1
    · rw [decide_eq_true h1, decide_eq_false (by omega)]; rfl
    · rw [decide_eq_false (by omega), decide_eq_true h1]; rfl
theorem sg_inj (h1 : 1 ≤ w) (hx : x < 2 ^ w) (hy : y < 2 ^ w) (h : sg w x = sg w y) : x = y := by
  have a1 := sg_self (w := w) x
  have a2 := sg_self (w := w) y
  rw [h, a2, Int.emod_eq_of_lt (by omega) (by omega), Int.emod_eq_of_lt (by omega) (by omega)] at a1
  omega
theorem tri_signed (h1 : 1 ≤ w) (hx : x < 2 ^ w) (hy : y < 2 ^ w) : tw 10 w x y + tw 12 w x y + tw 14 w x y = 1 := by
  rcases tri_s (w := w) (x := x) (y := y) with h | h
  · exact h
  · have e := sg_inj h1 hx hy h
    subst e
    rw [tw_as _ _ _ (by decide), tw_as _ _ _ (by decide), tw_as _ _ _ (by decide)]
    show yes (decide (x = x)) + yes (decide (sg w x < sg w x)) + yes (decide (sg w x < sg w x)) = 1
    rw [decide_eq_true rfl, decide_eq_false (by omega)]; rfl
theorem tri_unsigned : tw 10 w x y + tw 13 w x y + tw 15 w x y = 1 := by
  rw [tw_as _ _ _ (by decide), tw_as _ _ _ (by decide), tw_as _ _ _ (by decide)]
  show yes (decide (x = y)) + yes (decide (x < y)) + yes (decide (y < x)) = 1
  rcases Nat.lt_trichotomy x y with h | h | h
  · rw [decide_eq_false (by omega), decide_eq_true h, decide_eq_false (by omega)]; rfl
  · subst h; rw [decide_eq_true rfl, decide_eq_false (by omega)]; rfl
  · rw [decide_eq_false (by omega), decide_eq_false (by omega), decide_eq_true h]; rfl
theorem yes_not (p q : Prop) [Decidable p] [Decidable q] (h : p ↔ ¬ q) : yes (decide p) + yes (decide q) = 1 := by
  by_cases hq : q
  · rw [decide_eq_false (by rw [h]; exact fun n => n hq), decide_eq_true hq]; rfl
  · rw [decide_eq_true (h.2 hq), decide_eq_false hq]; rfl
theorem two_le_s : tw 16 w x y + tw 14 w x y = 1 := by
  rw [tw_as _ _ _ (by decide), tw_as _ _ _ (by decide)]; exact yes_not _ _ (by omega)
theorem two_le_u : tw 17 w x y + tw 15 w x y = 1 := by
  rw [tw_as _ _ _ (by decide), tw_as _ _ _ (by decide)]; exact yes_not _ _ (by omega)
theorem two_ge_s : tw 18 w x y + tw 12 w x y = 1 := by
  rw [tw_as _ _ _ (by decide), tw_as _ _ _ (by decide)]; exact yes_not _ _ (by omega)
theorem two_ge_u : tw 19 w x y + tw 13 w x y = 1 := by
  rw [tw_as _ _ _ (by decide), tw_as _ _ _ (by decide)]; exact yes_not _ _ (by omega)
theorem two_ne : tw 11 w x y + tw 10 w x y = 1 := by
  rw [tw_as _ _ _ (by decide), tw_as _ _ _ (by decide)]; exact yes_not _ _ (Iff.rfl)
theorem eq_zero : ov 0 x w 32 = tw 10 w x 0 := by
  rw [tw_as _ _ _ (by decide)]; rfl
/-- Noughts ahead, noughts behind, and ones: at most as many as there are bits. -/
theorem counts (hw : w ≤ 64) (hx : x < 2 ^ w) (h0 : x ≠ 0) : ov 1 x w w + ov 2 x w w + ov 3 x w w ≤ w := by
  show w - Lib.bitLen x + (if x = 0 then w else Lib.ctz 64 x) + pop 64 x ≤ w
  rw [if_neg h0]
  have hb : Lib.bitLen x ≤ w := bitLen_lt w x hw hx
  unfold Lib.ctz
  rw [if_neg h0]
  obtain ⟨m, hm, hk⟩ := Lib.ctzFrom_spec 64 x (by omega) (Nat.lt_of_lt_of_le hx (Nat.pow_le_pow_right (by omega) hw))
  generalize Lib.ctzFrom 64 x = k at *
  -- the ones stand between
  have hlen : x < 2 ^ Lib.bitLen x := by
    rcases Nat.lt_or_ge x (2 ^ Lib.bitLen x) with h | h
    · exact h
    · have := bitLen_ge (Lib.bitLen x) x (Nat.lt_of_lt_of_le hx (Nat.pow_le_pow_right (by omega) hw)) h
      omega
  generalize Lib.bitLen x = n at *
  have hkn : k ≤ n := by
    apply Nat.le_of_not_lt
    intro h
    have h1 : 2 ^ n ≤ 2 ^ k := Nat.pow_le_pow_right (by omega) (by omega)
    have h2 : 2 ^ k ≤ 2 ^ k * (2 * m + 1) := Nat.le_mul_of_pos_right _ (by omega)
    omega
  have hp : pop 64 x ≤ n - k := by
    rw [pop_64 n x (by omega) hlen]
    have e := pop_add k (n - k) 0 (2 * m + 1) (Nat.two_pow_pos k)
    rw [show k + (n - k) = n by omega, Nat.zero_add, Nat.mul_comm (2 * m + 1), ← hm, pop_zero, Nat.zero_add] at e
    rw [e]; exact pop_le _ _
  omega
end
end Go.Proofs.YtnhnbcjffnlicaaDoor.Num

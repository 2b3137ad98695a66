/-
  PLAIN: what is read has as few bytes as it may; more bits change nothing. No Go in sight.
-/
import Derived.Test.YtphmknhlibampaaDoorLebM
namespace Go.Proofs.YtphmknhlibampaaDoor.Leb
set_option linter.unusedVariables false

theorem div_mono {x d d' : Nat} (h : d ≤ d') : x / 2 ^ d' = x / 2 ^ d / 2 ^ (d' - d) := by
  rw [Nat.div_div_eq_div_mul, ← Nat.pow_add, show d + (d' - d) = d' by omega]
theorem fits_more (sg : Bool) (x left left' : Nat) (h : left ≤ left') (hf : fits sg x left = true) : fits sg x left' = true := by
  cases sg
  · simp only [fits, Bool.false_eq_true, if_false, decide_eq_true_eq] at *
    rw [div_mono (show min left 8 ≤ min left' 8 by omega), hf, Nat.zero_div]
  · simp only [fits, if_true, Bool.or_eq_true, decide_eq_true_eq] at *
    rcases hf with hf | hf
    · left; rw [div_mono (show min (left - 1) 8 ≤ min (left' - 1) 8 by omega), hf, Nat.zero_div]
    · right; rw [div_mono (show min (left - 1) 8 ≤ min (left' - 1) 8 by omega), hf, ← div_mono (by omega)]
theorem rd_more (bits more : Nat) (sg : Bool) (hm : bits ≤ more) (l : List Nat) : ∀ (a place n v nx : Nat), rd bits sg l a place n = (v, nx, 0) → rd more sg l a place n = (v, nx, 0) := by
  induction l with
  | nil => intro a place n v nx h; simp [rd] at h
  | cons x l ih =>
    intro a place n v nx h
    rw [rd] at h ⊢
    by_cases hf : fits sg (x % 128) (bits - place) = true
    · rw [if_pos hf] at h
      rw [if_pos (fits_more sg _ _ _ (by omega) hf)]
      by_cases h1 : x < 128
      · rw [if_pos h1] at h ⊢; exact h
      · rw [if_neg h1] at h ⊢
        by_cases h2 : bits ≤ place + 7
        · rw [if_pos h2] at h; simp at h
        · rw [if_neg h2] at h
          rw [if_neg (by omega)]
          exact ih _ _ _ _ _ h
    · rw [if_neg hf] at h; simp at h
theorem rd_err (bits : Nat) (sg : Bool) (l : List Nat) : ∀ (a place n : Nat), (rd bits sg l a place n).2.2 ≠ 0 → rd bits sg l a place n = (0, 0, (rd bits sg l a place n).2.2) := by
  induction l with
  | nil => intro a place n h; simp [rd]
  | cons x l ih =>
    intro a place n h
    rw [rd] at h ⊢
    split
    · next hf =>
      rw [if_pos hf] at h
      split
      · next h1 => rw [if_pos h1] at h; simp at h
      · next h1 =>
        rw [if_neg h1] at h
        split
        · rfl
        · next h2 => rw [if_neg h2] at h; exact ih _ _ _ h
    · rfl
theorem rd_ok (bits : Nat) (sg : Bool) (l : List Nat) : ∀ (a place n v nx : Nat), n < 2 ^ place → rd bits sg l a place n = (v, nx, 0) →
    ∃ n' c, nx = a + c ∧ 1 ≤ c ∧ n' < 2 ^ (place + 7 * c) ∧ n' < 18446744073709551616 ∧ v = ext sg n' (place + 7 * c) := by
  induction l with
  | nil => intro a place n v nx _ h; simp [rd] at h
  | cons x l ih =>
    intro a place n v nx hn h
    rw [rd] at h
    split at h
    · split at h
      · simp only [Prod.mk.injEq] at h
        exact ⟨_, 1, h.2.1.symm, by omega, step_lt n x place hn, Nat.mod_lt _ (by omega), h.1.symm⟩
      · split at h
        · simp at h
        · obtain ⟨n', c, h1, h2, h3, h4, h5⟩ := ih _ _ _ _ _ (step_lt n x place hn) h
          exact ⟨n', c + 1, by omega, by omega, by rw [show place + 7 * (c + 1) = place + 7 + 7 * c by omega]; exact h3, h4, by rw [show place + 7 * (c + 1) = place + 7 + 7 * c by omega]; exact h5⟩
    · simp at h
theorem rd_short_u (bits : Nat) (l : List Nat) (v nx : Nat) (h : rd bits false l 0 0 0 = (v, nx, 0)) : (putU v).length ≤ nx := by
  obtain ⟨n', c, h1, h2, h3, h4, h5⟩ := rd_ok bits false l 0 0 0 v nx (by simp) h
  have : v = n' := by rw [h5]; simp [ext]
  subst this
  rw [h1, Nat.zero_add]
  refine putU_len v c ?_ h2
  rw [show (128 : Nat) = 2 ^ 7 from rfl, ← Nat.pow_mul]
  simpa using h3
theorem sOf_ext (n r : Nat) (hr : 1 ≤ r) (h1 : n < 2 ^ r) (h2 : n < 18446744073709551616) : -(2 ^ (r - 1) : Nat) ≤ sOf (ext true n r) ∧ sOf (ext true n r) < (2 ^ (r - 1) : Nat) := by
  rcases Nat.lt_or_ge r 64 with hl | hl
  · have hp := Nat.pow_le_pow_right (n := 2) (by omega) (show r ≤ 63 by omega)
    have e2 : 2 ^ r = 2 * 2 ^ (r - 1) := by rw [← Nat.pow_succ']; congr 1; omega
    unfold ext
    rw [show min (r - 1) 64 = r - 1 by omega, show min r 64 = r by omega]
    have hp1 : 1 ≤ 2 ^ (r - 1) := Nat.one_le_two_pow
    rcases Nat.lt_or_ge n (2 ^ (r - 1)) with hn | hn
    · rw [Nat.div_eq_of_lt hn, if_neg (by simp)]
      unfold sOf
      rw [if_pos (by omega)]
      omega
    · have e1 : n / 2 ^ (r - 1) = 1 := by
        apply Nat.div_eq_of_lt_le <;> omega
      rw [e1, if_pos (by simp)]
      unfold sOf
      rw [if_neg (by omega)]
      omega
  · have hp := Nat.pow_le_pow_right (n := 2) (by omega) (show 63 ≤ r - 1 by omega)
    have h3 := ext_lt true n r h1 h2
    unfold sOf
    split <;> omega
theorem rd_short_s (bits : Nat) (l : List Nat) (v nx : Nat) (h : rd bits true l 0 0 0 = (v, nx, 0)) : (putS (sOf v)).length ≤ nx := by
  obtain ⟨n', c, h1, h2, h3, h4, h5⟩ := rd_ok bits true l 0 0 0 v nx (by simp) h
  rw [Nat.zero_add] at h3 h5
  have hb := sOf_ext n' (7 * c) (by omega) h3 h4
  rw [← h5] at hb
  obtain ⟨k, rfl⟩ : ∃ k, c = k + 1 := ⟨c - 1, by omega⟩
  have := putS_len (sOf v) k (by
    have e : ((2 ^ (7 * (k + 1) - 1) : Nat) : Int) = 64 * 128 ^ k := by
      have : 2 ^ (7 * (k + 1) - 1) = 64 * 128 ^ k := by rw [show 7 * (k + 1) - 1 = 6 + 7 * k by omega, Nat.pow_add, Nat.pow_mul]
      rw [this]; simp
    rw [e] at hb
    exact hb)
  omega
theorem sOf_range (v : Nat) (h : v < 18446744073709551616) : -9223372036854775808 ≤ sOf v ∧ sOf v < 9223372036854775808 := by unfold sOf; split <;> omega

/-- The bytes of a number that say that more come. -/
def lead : Nat → Nat → List Nat
  | 0, _ => []
  | k + 1, n => (n % 128 + 128) :: lead k (n / 128)
theorem lead_len (k n : Nat) : (lead k n).length = k := by
  induction k generalizing n with
  | zero => rfl
  | succ k ih => simp [lead, ih]
theorem lead_lt (k n : Nat) : ∀ x ∈ lead k n, x < 256 := by
  induction k generalizing n with
  | zero => intro x hx; simp [lead] at hx
  | succ k ih =>
    intro x hx
    simp [lead] at hx
    rcases hx with rfl | hx
    · omega
    · exact ih _ x hx
theorem div_pow (k n : Nat) : n / 128 / 128 ^ k = n / 128 ^ (k + 1) := by rw [Nat.div_div_eq_div_mul, Nat.pow_succ, Nat.mul_comm]
theorem long_lead (k n : Nat) : long k n = lead k n ++ [n / 128 ^ k] := by
  induction k generalizing n with
  | zero => simp [long, lead]
  | succ k ih => rw [long, lead, ih, div_pow]; rfl
theorem lead_snoc (k n : Nat) : lead (k + 1) n = lead k n ++ [n / 128 ^ k % 128 + 128] := by
  induction k generalizing n with
  | zero => simp [lead]
  | succ k ih => rw [lead, ih, lead, div_pow]; rfl
end Go.Proofs.YtphmknhlibampaaDoor.Leb

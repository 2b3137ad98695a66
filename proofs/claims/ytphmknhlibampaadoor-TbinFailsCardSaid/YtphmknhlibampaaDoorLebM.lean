/-
  PLAIN: what is read of what was put. No Go in sight.
-/
import Derived.Test.YtphmknhlibampaaDoorLeb
namespace Go.Proofs.YtphmknhlibampaaDoor.Leb
set_option linter.unusedVariables false

theorem step_lt (n x place : Nat) (h : n < 2 ^ place) : (n + x % 128 * 2 ^ place) % 18446744073709551616 < 2 ^ (place + 7) := by
  refine Nat.lt_of_le_of_lt (Nat.mod_le _ _) ?_
  have h1 : x % 128 + 1 ≤ 128 := by omega
  have h2 := Nat.mul_le_mul_right (2 ^ place) h1
  rw [Nat.pow_add, Nat.add_mul] at *
  omega
theorem min_lt (n r : Nat) (h : n < 2 ^ r) (h2 : n < 18446744073709551616) : n < 2 ^ min r 64 := by
  rcases Nat.le_total r 64 with hr | hr
  · rw [Nat.min_eq_left hr]; exact h
  · rw [Nat.min_eq_right hr]; exact h2
theorem ext_lt (sg : Bool) (n r : Nat) (h : n < 2 ^ r) (h2 : n < 18446744073709551616) : ext sg n r < 18446744073709551616 := by
  have h3 := min_lt n r h h2
  have h4 : 2 ^ min r 64 ≤ 2 ^ 64 := Nat.pow_le_pow_right (by omega) (Nat.min_le_right _ _)
  unfold ext
  split <;> omega
theorem rd_lt (bits : Nat) (sg : Bool) (l : List Nat) (a place n : Nat) (h : n < 2 ^ place) : (rd bits sg l a place n).1 < 18446744073709551616 := by
  induction l generalizing a place n with
  | nil => simp [rd]
  | cons x l ih =>
    rw [rd]
    split
    · split
      · exact ext_lt _ _ _ (step_lt n x place h) (Nat.mod_lt _ (by omega))
      · split
        · simp
        · exact ih _ _ _ (step_lt n x place h)
    · simp

/-- A number with k bytes more ahead of its last one. -/
def long : Nat → Nat → List Nat
  | 0, n => [n]
  | k + 1, n => (n % 128 + 128) :: long k (n / 128)
theorem long_len (k n : Nat) : (long k n).length = k + 1 := by
  induction k generalizing n with
  | zero => rfl
  | succ k ih => simp [long, ih]
theorem long_lt (k n : Nat) (h : n < 128 ^ (k + 1)) : ∀ x ∈ long k n, x < 256 := by
  induction k generalizing n with
  | zero => intro x hx; simp [long] at hx; omega
  | succ k ih =>
    intro x hx
    simp [long] at hx
    rcases hx with rfl | hx
    · omega
    · exact ih _ (by rw [Nat.pow_succ] at h; omega) x hx
theorem putU_long (n : Nat) : ∃ k, putU n = long k n ∧ n < 128 ^ (k + 1) ∧ (k = 0 ∨ 128 ^ k ≤ n) := by
  fun_induction putU n with
  | case1 n h => exact ⟨0, rfl, by simpa using h, .inl rfl⟩
  | case2 n h ih =>
    obtain ⟨k, e, h1, h2⟩ := ih
    refine ⟨k + 1, by rw [long, e], by rw [Nat.pow_succ]; omega, .inr ?_⟩
    rcases h2 with rfl | h2
    · omega
    · rw [Nat.pow_succ]; omega
theorem long_snoc (k n : Nat) (h : n < 128 ^ (k + 1)) : ∃ pre, long k n = pre ++ [n / 128 ^ k] ∧ n / 128 ^ k < 128 ∧ long (k + 1) n = pre ++ [n / 128 ^ k + 128, 0] := by
  induction k generalizing n with
  | zero => simp at h; exact ⟨[], by simp [long], by simpa using h, by simp [long]; omega⟩
  | succ k ih =>
    obtain ⟨pre, e1, e2, e3⟩ := ih (n / 128) (by rw [Nat.pow_succ] at h; omega)
    have e : n / 128 / 128 ^ k = n / 128 ^ (k + 1) := by rw [Nat.div_div_eq_div_mul, Nat.pow_succ, Nat.mul_comm]
    rw [e] at e1 e2 e3
    exact ⟨(n % 128 + 128) :: pre, by rw [long, e1]; rfl, e2, by rw [long, e3]; rfl⟩

theorem fitsU_of (x left : Nat) (h : x < 2 ^ left) (h2 : x < 128) : fits false x left = true := by
  simp only [fits, Bool.false_eq_true, if_false, decide_eq_true_eq]
  refine Nat.div_eq_of_lt ?_
  rcases Nat.le_total left 8 with hl | hl
  · rw [Nat.min_eq_left hl]; exact h
  · rw [Nat.min_eq_right hl]; omega
theorem mul_lt_pow {n place bits acc : Nat} (hp : place < bits) (h : acc + n * 2 ^ place < 2 ^ bits) : n < 2 ^ (bits - place) := by
  rw [show bits = (bits - place) + place by omega, Nat.pow_add] at h
  have : n * 2 ^ place < 2 ^ (bits - place) * 2 ^ place := by
    omega
  exact Nat.lt_of_mul_lt_mul_right this
theorem pow64 {bits : Nat} (h : bits ≤ 64) : 2 ^ bits ≤ 18446744073709551616 := Nat.pow_le_pow_right (n := 2) (by omega) h
theorem step_eq (acc n place : Nat) : acc + n % 128 * 2 ^ place + n / 128 * 2 ^ (place + 7) = acc + n * 2 ^ place := by
  rw [Nat.pow_add, show n / 128 * (2 ^ place * 2 ^ 7) = (n / 128 * 128) * 2 ^ place by rw [Nat.mul_comm (2 ^ place), ← Nat.mul_assoc], Nat.add_assoc, ← Nat.add_mul, show n % 128 + n / 128 * 128 = n by omega]

theorem rd_long (bits : Nat) (hb : bits ≤ 64) (k n : Nat) (t : List Nat) (a place acc : Nat) (hp : 7 * k + place < bits) (hn : n < 128 ^ (k + 1)) (hacc : acc < 2 ^ place)
    (h : acc + n * 2 ^ place < 2 ^ bits) : rd bits false (long k n ++ t) a place acc = (acc + n * 2 ^ place, a + k + 1, 0) := by
  induction k generalizing n a place acc with
  | zero =>
    simp at hn
    have h1 := mul_lt_pow (by omega) h
    have h2 := pow64 hb
    rw [long, List.singleton_append, rd, show n % 128 = n by omega, if_pos (fitsU_of _ _ h1 hn), if_pos hn, Nat.mod_eq_of_lt (by omega)]
    rfl
  | succ k ih =>
    have h1 := mul_lt_pow (by omega) h
    have h2 := pow64 hb
    have h3 := step_eq acc n place
    have h4 : n % 128 * 2 ^ place ≤ n * 2 ^ place := Nat.mul_le_mul_right _ (Nat.mod_le _ _)
    have h5 := step_lt acc n place hacc
    have e : (acc + n % 128 * 2 ^ place) % 18446744073709551616 = acc + n % 128 * 2 ^ place := Nat.mod_eq_of_lt (by omega)
    rw [e] at h5
    have := ih (n / 128) (a + 1) (place + 7) (acc + n % 128 * 2 ^ place) (by omega) (by rw [Nat.pow_succ] at hn; omega) h5 (by rw [h3]; exact h)
    rw [long, List.cons_append, rd, show (n % 128 + 128) % 128 = n % 128 by omega, if_pos (fitsU_of _ _ (Nat.lt_of_le_of_lt (Nat.mod_le _ _) h1) (by omega)), if_neg (by omega), if_neg (by omega), e, this, h3]
    simp; omega
theorem rd_cut (bits : Nat) (hb : bits ≤ 64) (k n : Nat) (a place acc : Nat) (hp : 7 * k + place < bits) (hn : n < 128 ^ (k + 1)) (hacc : acc < 2 ^ place)
    (h : acc + n * 2 ^ place < 2 ^ bits) : rd bits false ((long k n).take k) a place acc = (0, 0, 10) := by
  induction k generalizing n a place acc with
  | zero => simp [rd]
  | succ k ih =>
    have h1 := mul_lt_pow (by omega) h
    have h2 := pow64 hb
    have h3 := step_eq acc n place
    have h4 : n % 128 * 2 ^ place ≤ n * 2 ^ place := Nat.mul_le_mul_right _ (Nat.mod_le _ _)
    have h5 := step_lt acc n place hacc
    have e : (acc + n % 128 * 2 ^ place) % 18446744073709551616 = acc + n % 128 * 2 ^ place := Nat.mod_eq_of_lt (by omega)
    rw [e] at h5
    have := ih (n / 128) (a + 1) (place + 7) (acc + n % 128 * 2 ^ place) (by omega) (by rw [Nat.pow_succ] at hn; omega) h5 (by rw [h3]; exact h)
    rw [long, List.take_succ_cons, rd, show (n % 128 + 128) % 128 = n % 128 by omega, if_pos (fitsU_of _ _ (Nat.lt_of_le_of_lt (Nat.mod_le _ _) h1) (by omega)), if_neg (by omega), if_neg (by omega), e, this]
/-- With too many bytes a number is refused. -/
theorem rd_many (bits : Nat) (hb : bits ≤ 64) (k n : Nat) (t : List Nat) (a place acc : Nat) (hp : place < bits) (hp2 : bits ≤ 7 * k + place) (hacc : acc < 2 ^ place)
    (h : acc + n * 2 ^ place < 2 ^ bits) : rd bits false (long k n ++ t) a place acc = (0, 0, 11) := by
  induction k generalizing n a place acc with
  | zero => omega
  | succ k ih =>
    have h1 := mul_lt_pow (by omega) h
    have h2 := pow64 hb
    have h3 := step_eq acc n place
    have h4 : n % 128 * 2 ^ place ≤ n * 2 ^ place := Nat.mul_le_mul_right _ (Nat.mod_le _ _)
    have h5 := step_lt acc n place hacc
    have e : (acc + n % 128 * 2 ^ place) % 18446744073709551616 = acc + n % 128 * 2 ^ place := Nat.mod_eq_of_lt (by omega)
    rw [e] at h5
    rw [long, List.cons_append, rd, show (n % 128 + 128) % 128 = n % 128 by omega, if_pos (fitsU_of _ _ (Nat.lt_of_le_of_lt (Nat.mod_le _ _) h1) (by omega)), if_neg (by omega), e]
    split
    · rfl
    · exact ih (n / 128) (a + 1) (place + 7) (acc + n % 128 * 2 ^ place) (by omega) (by omega) h5 (by rw [h3]; exact h)

theorem rd_putU (bits n : Nat) (t : List Nat) (a : Nat) (hb : bits ≤ 64) (hb1 : 1 ≤ bits) (h : n < 2 ^ bits) : rd bits false (putU n ++ t) a 0 0 = (n, a + (putU n).length, 0) := by
  obtain ⟨k, e, h1, h2⟩ := putU_long n
  have hk : 7 * k + 0 < bits := by
    rcases h2 with rfl | h2
    · omega
    · rw [show (128 : Nat) = 2 ^ 7 from rfl, ← Nat.pow_mul] at h2
      have := (Nat.pow_lt_pow_iff_right (a := 2) (by omega)).1 (Nat.lt_of_le_of_lt h2 h)
      omega
  rw [e, rd_long bits hb k n t a 0 0 hk h1 (by simp) (by simpa using h), long_len]
  simp; omega

theorem fitsS_of (x d : Nat) (m : Int) (hx : x = (m % 128).toNat) (h : (-64 ≤ m ∧ m < 64) ∨ 7 ≤ d) (h1 : -(2 ^ d : Nat) ≤ m) (h2 : m < (2 ^ d : Nat)) : fits true x (d + 1) = true := by
  simp only [fits, if_true, Nat.add_sub_cancel, Bool.or_eq_true, decide_eq_true_eq]
  by_cases hd : 7 ≤ d
  · left
    refine Nat.div_eq_of_lt (Nat.lt_of_lt_of_le (show x < 2 ^ 7 by omega) (Nat.pow_le_pow_right (by omega) (by omega)))
  · have hm := h.resolve_right hd
    have e : min d 8 = d := by omega
    rw [e]
    have : d = 0 ∨ d = 1 ∨ d = 2 ∨ d = 3 ∨ d = 4 ∨ d = 5 ∨ d = 6 := by omega
    rcases this with rfl | rfl | rfl | rfl | rfl | rfl | rfl <;> simp at h1 h2 ⊢ <;> omega

/-- The word of a signed number. -/
def wordOf (m : Int) : Nat := (m % 18446744073709551616).toNat
theorem sOf_word (m : Int) (h1 : -9223372036854775808 ≤ m) (h2 : m < 9223372036854775808) : sOf (wordOf m) = m := by unfold sOf wordOf; split <;> omega

theorem rd_putS_aux (bits : Nat) (hb : bits ≤ 64) (t : List Nat) (m : Int) : ∀ (a place acc d : Nat), bits = place + d + 1 → acc < 2 ^ place → -(2 ^ d : Nat) ≤ m → m < (2 ^ d : Nat) →
    rd bits true (putS m ++ t) a place acc = (wordOf ((acc : Int) + m * (2 ^ place : Nat)), a + (putS m).length, 0) := by
  fun_induction putS m with
  | case1 m h =>
    intro a place acc d hbd hacc h1 h2
    have hx : (m % 128).toNat % 128 = (m % 128).toNat := by omega
    have hf := fitsS_of (m % 128).toNat d m rfl (.inl h) h1 h2
    rw [List.singleton_append, rd, hx, show bits - place = d + 1 by omega, if_pos hf, if_pos (by omega)]
    generalize hX : (m % 128).toNat = x at *
    have hx128 : x < 128 := by omega
    congr 1
    have hp1 : 1 ≤ 2 ^ place := Nat.one_le_two_pow
    rcases Nat.lt_or_ge (place + 7) 64 with hlt | hge
    · -- no bit is lost
      have hw := step_lt acc x place hacc
      have hpp : 2 ^ place * 128 < 18446744073709551616 := by
        have := Nat.pow_lt_pow_right (a := 2) (by omega) hlt
        rw [Nat.pow_add] at this; omega
      have hxp : x * 2 ^ place ≤ 127 * 2 ^ place := Nat.mul_le_mul_right _ (by omega)
      have hsum : acc + x * 2 ^ place < 128 * 2 ^ place := by omega
      rw [Nat.mod_eq_of_lt (show acc + x * 2 ^ place < 18446744073709551616 by omega)]
      unfold ext
      rw [show place + 7 - 1 = place + 6 by omega, show min (place + 6) 64 = place + 6 by omega, show min (place + 7) 64 = place + 7 by omega]
      have hq : (acc + x * 2 ^ place) / 2 ^ (place + 6) = x / 64 := by
        rw [Nat.pow_add, ← Nat.div_div_eq_div_mul, Nat.add_mul_div_right _ _ (by omega), Nat.div_eq_of_lt hacc, Nat.zero_add]
      rw [hq, Nat.pow_add, show (2 : Nat) ^ 7 = 128 from rfl]
      generalize 2 ^ place = P at *
      unfold wordOf
      rcases Int.lt_or_le m 0 with hm | hm
      · have hxm : (x : Int) = m + 128 := by omega
        rw [if_pos (by simp; omega)]
        have e : ((x * P : Nat) : Int) = m * P + 128 * P := by rw [Int.natCast_mul, hxm, Int.add_mul]
        have hlo : -(64 * (P : Int)) ≤ m * P := by
          have := Int.mul_le_mul_of_nonneg_right h.1 (show (0 : Int) ≤ P by omega); omega
        have hhi : m * P ≤ -(P : Int) := by
          have := Int.mul_le_mul_of_nonneg_right (show m ≤ -1 by omega) (show (0 : Int) ≤ P by omega); omega
        generalize m * (P : Int) = q at *
        generalize x * P = X at *
        omega
      · have hxm : (x : Int) = m := by omega
        rw [if_neg (by simp; omega)]
        have e : ((x * P : Nat) : Int) = m * P := by rw [Int.natCast_mul, hxm]
        generalize m * (P : Int) = q at *
        generalize x * P = X at *
        omega
    · -- the places beyond 64 are lost
      have e1 : min (place + 7) 64 = 64 := by omega
      unfold ext
      rw [e1]
      have hm0 : ∀ c : Bool, (if c then (acc + x * 2 ^ place) % 18446744073709551616 + (18446744073709551616 - 2 ^ 64) else (acc + x * 2 ^ place) % 18446744073709551616) = (acc + x * 2 ^ place) % 18446744073709551616 := by intro c; cases c <;> simp
      rw [hm0]
      unfold wordOf
      obtain ⟨j, hj⟩ : ∃ j, place + 7 = 64 + j := ⟨place + 7 - 64, by omega⟩
      have h128 : 128 * 2 ^ place = 18446744073709551616 * 2 ^ j := by
        rw [show 128 * 2 ^ place = 2 ^ (place + 7) by rw [Nat.pow_add]; omega, hj, Nat.pow_add]
      have hxm : ∃ c : Int, (x : Int) = m + 128 * c := ⟨-(m / 128), by omega⟩
      obtain ⟨c, hc⟩ := hxm
      have e : ((x * 2 ^ place : Nat) : Int) = m * (2 ^ place : Nat) + 18446744073709551616 * ((2 ^ j : Nat) * c) := by
        rw [Int.natCast_mul, hc, Int.add_mul]
        congr 1
        rw [Int.mul_right_comm, show (128 : Int) * ((2 ^ place : Nat) : Int) = ((128 * 2 ^ place : Nat) : Int) by simp, h128, Int.natCast_mul, Int.mul_assoc]
        rfl
      generalize m * ((2 ^ place : Nat) : Int) = q at *
      generalize x * 2 ^ place = X at *
      generalize ((2 ^ j : Nat) : Int) * c = Y at *
      omega
  | case2 m h ih =>
    intro a place acc d hbd hacc h1 h2
    have hd : 7 ≤ d := by
      rcases Nat.lt_or_ge d 7 with hl | hg
      · have := Nat.pow_le_pow_right (n := 2) (by omega) (show d ≤ 6 by omega)
        omega
      · exact hg
    have hx : ((m % 128).toNat + 128) % 128 = (m % 128).toNat := by omega
    have hf := fitsS_of (m % 128).toNat d m rfl (.inr hd) h1 h2
    have hp57 : place + 8 ≤ bits := by omega
    have hxp : (m % 128).toNat * 2 ^ place ≤ 127 * 2 ^ place := Nat.mul_le_mul_right _ (by omega)
    have hpp : 2 ^ place * 128 < 18446744073709551616 := by
      have := Nat.pow_lt_pow_right (a := 2) (by omega) (show place + 7 < 64 by omega)
      rw [Nat.pow_add] at this; omega
    have hpw : 2 ^ d = 2 ^ (d - 7) * 128 := by rw [show (128 : Nat) = 2 ^ 7 from rfl, ← Nat.pow_add, show d - 7 + 7 = d by omega]
    have := ih (a + 1) (place + 7) (acc + (m % 128).toNat * 2 ^ place) (d - 7) (by omega) (by rw [Nat.pow_add]; omega) (by omega) (by omega)
    rw [List.cons_append, rd, hx, show bits - place = d + 1 by omega, if_pos hf, if_neg (by omega), if_neg (by omega), Nat.mod_eq_of_lt (by omega), this]
    have e : ((acc + (m % 128).toNat * 2 ^ place : Nat) : Int) + m / 128 * (2 ^ (place + 7) : Nat) = acc + m * (2 ^ place : Nat) := by
      rw [Nat.pow_add, Int.natCast_add, Int.natCast_mul, Int.natCast_mul, show ((2 ^ 7 : Nat) : Int) = 128 from rfl, Int.mul_comm ((2 ^ place : Nat) : Int), ← Int.mul_assoc, Int.add_assoc, ← Int.add_mul]
      congr 2; omega
    rw [e]
    simp; omega
theorem rd_putS (bits : Nat) (m : Int) (t : List Nat) (a : Nat) (hb : bits ≤ 64) (hb1 : 1 ≤ bits) (h1 : -(2 ^ (bits - 1) : Nat) ≤ m) (h2 : m < (2 ^ (bits - 1) : Nat)) :
    rd bits true (putS m ++ t) a 0 0 = (wordOf m, a + (putS m).length, 0) := by
  have := rd_putS_aux bits hb t m a 0 0 (bits - 1) (by omega) (by simp) h1 h2
  rw [this]
  simp
end Go.Proofs.YtphmknhlibampaaDoor.Leb

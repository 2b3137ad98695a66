/-
  PLAIN: numbers as bytes, as lists of natural numbers. No Go in sight.
-/
import Derived.Laws.BitsAllLaws
import Derived.Laws.BitsLemmas
namespace Go.Proofs.YtphmknhlibampaaDoor.Leb
set_option linter.unusedVariables false

/-- The shortest bytes of an unsigned number. -/
def putU (n : Nat) : List Nat := if n < 128 then [n] else (n % 128 + 128) :: putU (n / 128)
termination_by n
decreasing_by omega

/-- The shortest bytes of a signed number. -/
def putS (n : Int) : List Nat := if -64 ≤ n ∧ n < 64 then [(n % 128).toNat] else ((n % 128).toNat + 128) :: putS (n / 128)
termination_by n.natAbs
decreasing_by omega

def fits (sg : Bool) (x left : Nat) : Bool :=
  if sg then decide (x / 2 ^ min (left - 1) 8 = 0) || decide (x / 2 ^ min (left - 1) 8 = 127 / 2 ^ min (left - 1) 8)
  else decide (x / 2 ^ min left 8 = 0)

/-- What is read is extended by its highest place. -/
def ext (sg : Bool) (n r : Nat) : Nat := if sg && decide (n / 2 ^ min (r - 1) 64 % 2 = 1) then n + (18446744073709551616 - 2 ^ min r 64) else n

/-- The number, the place behind it, the error. -/
def rd (bits : Nat) (sg : Bool) : List Nat → Nat → Nat → Nat → Nat × Nat × Nat
  | [], _, _, _ => (0, 0, 10)
  | x :: l, at_, place, n =>
    if fits sg (x % 128) (bits - place) then
      if x < 128 then (ext sg ((n + x % 128 * 2 ^ place) % 18446744073709551616) (place + 7), at_ + 1, 0)
      else if bits ≤ place + 7 then (0, 0, 11) else rd bits sg l (at_ + 1) (place + 7) ((n + x % 128 * 2 ^ place) % 18446744073709551616)
    else (0, 0, 11)

/-- A word as the signed number that it is in two's complement. -/
def sOf (n : Nat) : Int := if n < 9223372036854775808 then n else (n : Int) - 18446744073709551616

theorem putU_lo {n : Nat} (h : n < 128) : putU n = [n] := by rw [putU, if_pos h]
theorem putU_hi {n : Nat} (h : ¬ n < 128) : putU n = (n % 128 + 128) :: putU (n / 128) := by rw [putU, if_neg h]
theorem putS_lo {n : Int} (h : -64 ≤ n ∧ n < 64) : putS n = [(n % 128).toNat] := by rw [putS, if_pos h]
theorem putS_hi {n : Int} (h : ¬(-64 ≤ n ∧ n < 64)) : putS n = ((n % 128).toNat + 128) :: putS (n / 128) := by rw [putS, if_neg h]
theorem putU_lt (n : Nat) : ∀ x ∈ putU n, x < 256 := by
  fun_induction putU n with
  | case1 n h => intro x hx; simp at hx; omega
  | case2 n h ih => intro x hx; simp at hx; rcases hx with rfl | hx; · omega
                    · exact ih x hx
theorem putS_lt (n : Int) : ∀ x ∈ putS n, x < 256 := by
  fun_induction putS n with
  | case1 n h => intro x hx; simp at hx; omega
  | case2 n h ih => intro x hx; simp at hx; rcases hx with rfl | hx; · omega
                    · exact ih x hx
theorem putU_len (n : Nat) (k : Nat) (h : n < 128 ^ k) : 1 ≤ k → (putU n).length ≤ k := by
  fun_induction putU n generalizing k with
  | case1 n h => intro hk; simpa using hk
  | case2 n h ih =>
    intro hk
    cases k with
    | zero => omega
    | succ k =>
      have h2 : n / 128 < 128 ^ k := by rw [Nat.pow_succ] at *; omega
      have hk1 : 1 ≤ k := by
        rcases Nat.eq_zero_or_pos k with rfl | hk'
        · simp at h2; omega
        · exact hk'
      have := ih k h2 hk1
      simp; omega
theorem putU_pos (n : Nat) : 1 ≤ (putU n).length := by rw [putU]; split <;> simp
theorem putS_pos (n : Int) : 1 ≤ (putS n).length := by rw [putS]; split <;> simp
theorem putU_len10 (n : Nat) (h : n < 18446744073709551616) : (putU n).length ≤ 10 := putU_len n 10 (by omega) (by omega)
theorem putS_len (n : Int) (k : Nat) (h : -(64 * 128 ^ k) ≤ n ∧ n < 64 * 128 ^ k) : (putS n).length ≤ k + 1 := by
  fun_induction putS n generalizing k with
  | case1 n h => simp
  | case2 n h ih =>
    cases k with
    | zero => simp at h; omega
    | succ k =>
      have e : (64 * 128 ^ (k + 1) : Int) = 128 * (64 * 128 ^ k) := by rw [Int.pow_succ]; omega
      rw [e] at h
      have := ih k (by omega)
      simp; omega
theorem putS_len10 (n : Int) (h : -9223372036854775808 ≤ n ∧ n < 9223372036854775808) : (putS n).length ≤ 10 := putS_len n 9 (by simp; omega)

end Go.Proofs.YtphmknhlibampaaDoor.Leb

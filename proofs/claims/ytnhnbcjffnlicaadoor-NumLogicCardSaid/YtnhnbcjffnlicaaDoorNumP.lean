/-
  PLAIN: the ones of a number, counted by halves. No Go in sight.
-/
import Derived.Test.YtnhnbcjffnlicaaDoorNum
namespace Go.Proofs.YtnhnbcjffnlicaaDoor.Num
set_option linter.unusedVariables false

/-- The sum of n blocks of k bits. -/
def tot (k : Nat) : Nat → Nat → Nat
  | 0, _ => 0
  | n + 1, x => x % 2 ^ k + tot k n (x / 2 ^ k)
/-- n masks of k bits, 2k apart. -/
def mask (k : Nat) : Nat → Nat
  | 0 => 0
  | n + 1 => mask k n * 2 ^ (2 * k) + (2 ^ k - 1)
theorem and_split (h l m p K : Nat) (hl : l < 2 ^ K) (hp : p < 2 ^ K) : (h * 2 ^ K + l) &&& (m * 2 ^ K + p) = (h &&& m) * 2 ^ K + (l &&& p) := by
  have e1 : h * 2 ^ K + l = 2 ^ K * h + l := by rw [Nat.mul_comm]
  have e2 : m * 2 ^ K + p = 2 ^ K * m + p := by rw [Nat.mul_comm]
  have e3 : (h &&& m) * 2 ^ K + (l &&& p) = 2 ^ K * (h &&& m) + (l &&& p) := by rw [Nat.mul_comm]
  rw [e1, e2, e3]
  apply Nat.eq_of_testBit_eq
  intro i
  rw [Nat.testBit_and, Nat.testBit_two_pow_mul_add _ hl, Nat.testBit_two_pow_mul_add _ hp, Nat.testBit_two_pow_mul_add _ (Nat.lt_of_le_of_lt Nat.and_le_left hl)]
  split <;> rw [Nat.testBit_and]
theorem pow2k (k : Nat) : 2 ^ (2 * k) = 2 ^ k * 2 ^ k := by rw [Nat.two_mul, Nat.pow_add]
theorem two_le_pow {k : Nat} (hk : 1 ≤ k) : 2 ≤ 2 ^ k := by
  have := Nat.pow_le_pow_right (n := 2) (by omega) hk
  omega
/-- One step: pairs of blocks are added. -/
def g (k n x : Nat) : Nat := (x / 2 ^ k &&& mask k n) + (x &&& mask k n)
theorem g_succ (k : Nat) (hk : 1 ≤ k) (n x : Nat) : g k (n + 1) x = g k n (x / 2 ^ (2 * k)) * 2 ^ (2 * k) + (x / 2 ^ k % 2 ^ k + x % 2 ^ k) ∧ x / 2 ^ k % 2 ^ k + x % 2 ^ k < 2 ^ (2 * k) := by
  unfold g
  have hK : 2 ≤ 2 ^ k := by
    have := Nat.pow_le_pow_right (n := 2) (by omega) hk
    omega
  have hp := pow2k k
  have hx : x = x / 2 ^ (2 * k) * 2 ^ (2 * k) + (x / 2 ^ k % 2 ^ k * 2 ^ k + x % 2 ^ k) := by
    have h1 := Nat.div_add_mod x (2 ^ (2 * k))
    have h2 : x % 2 ^ (2 * k) = x / 2 ^ k % 2 ^ k * 2 ^ k + x % 2 ^ k := by
      rw [hp, Nat.mod_mul, Nat.mul_comm (2 ^ k) (x / 2 ^ k % 2 ^ k), Nat.add_comm]
    rw [← h2, Nat.mul_comm]; exact h1.symm
  have hd : x / 2 ^ k = x / 2 ^ (2 * k) / 2 ^ k * 2 ^ (2 * k) + (x / 2 ^ (2 * k) % 2 ^ k * 2 ^ k + x / 2 ^ k % 2 ^ k) := by
    have h1 := Nat.div_add_mod (x / 2 ^ k) (2 ^ k)
    have h3 : x / 2 ^ k / 2 ^ k = x / 2 ^ (2 * k) := by rw [Nat.div_div_eq_div_mul, hp]
    have h2 := Nat.div_add_mod (x / 2 ^ (2 * k)) (2 ^ k)
    rw [h3] at h1
    rw [hp, ← Nat.mul_assoc, ← Nat.add_assoc, ← Nat.add_mul]
    rw [Nat.mul_comm (2 ^ k) (x / 2 ^ (2 * k) / 2 ^ k)] at h2
    rw [hp] at h2 h1
    rw [h2, Nat.mul_comm]; exact h1.symm
  have b1 : x / 2 ^ k % 2 ^ k < 2 ^ k := Nat.mod_lt _ (by omega)
  have b2 : x % 2 ^ k < 2 ^ k := Nat.mod_lt _ (by omega)
  have b3 : x / 2 ^ (2 * k) % 2 ^ k < 2 ^ k := Nat.mod_lt _ (by omega)
  have bl : ∀ u v, u < 2 ^ k → v < 2 ^ k → u * 2 ^ k + v < 2 ^ (2 * k) := by
    intro u v hu hv
    rw [hp]
    have := Nat.mul_le_mul_right (2 ^ k) (show u + 1 ≤ 2 ^ k from hu)
    rw [Nat.add_mul] at this
    omega
  have lowp : ∀ u v, v < 2 ^ k → (u * 2 ^ k + v) &&& (2 ^ k - 1) = v := by
    intro u v hv
    rw [Nat.and_two_pow_sub_one_eq_mod, Nat.add_comm, Nat.add_mul_mod_self_right, Nat.mod_eq_of_lt hv]
  have hpm : 2 ^ k - 1 < 2 ^ (2 * k) := by
    rw [hp]
    have := Nat.mul_le_mul_right (2 ^ k) hK
    omega
  have em : mask k (n + 1) = mask k n * 2 ^ (2 * k) + (2 ^ k - 1) := rfl
  have e1 : x &&& mask k (n + 1) = (x / 2 ^ (2 * k) &&& mask k n) * 2 ^ (2 * k) + x % 2 ^ k := by
    rw [em]
    conv => lhs; rw [hx]
    rw [and_split _ _ _ _ _ (bl _ _ b1 b2) hpm, lowp _ _ b2]
  have e2 : x / 2 ^ k &&& mask k (n + 1) = (x / 2 ^ (2 * k) / 2 ^ k &&& mask k n) * 2 ^ (2 * k) + x / 2 ^ k % 2 ^ k := by
    rw [em]
    conv => lhs; rw [hd]
    rw [and_split _ _ _ _ _ (bl _ _ b3 b1) hpm, lowp _ _ b1]
  rw [e1, e2]
  have hsum : x / 2 ^ k % 2 ^ k + x % 2 ^ k < 2 ^ (2 * k) := by
    rw [hp]
    have := Nat.mul_le_mul_right (2 ^ k) hK
    omega
  refine ⟨?_, hsum⟩
  rw [Nat.add_mul]; omega
theorem mod_of {A s K : Nat} (h : s < 2 ^ K) : (A * 2 ^ K + s) % 2 ^ K = s ∧ (A * 2 ^ K + s) / 2 ^ K = A :=
  ⟨by rw [Nat.add_comm, Nat.add_mul_mod_self_right, Nat.mod_eq_of_lt h], by rw [Nat.add_comm, Nat.add_mul_div_right _ _ (Nat.two_pow_pos _), Nat.div_eq_of_lt h, Nat.zero_add]⟩
theorem g_tot (k : Nat) (hk : 1 ≤ k) : ∀ (n x : Nat), tot (2 * k) n (g k n x) = tot k (2 * n) x ∧ g k n x < 2 ^ (2 * k * n) := by
  intro n
  induction n with
  | zero => intro x; simp [tot, mask, g]
  | succ n ih =>
    intro x
    obtain ⟨ih1, ih2⟩ := ih (x / 2 ^ (2 * k))
    obtain ⟨e, hs⟩ := g_succ k hk n x
    obtain ⟨m1, m2⟩ := mod_of (A := g k n (x / 2 ^ (2 * k))) hs
    rw [e]
    constructor
    · show _ % 2 ^ (2 * k) + tot (2 * k) n (_ / 2 ^ (2 * k)) = _
      rw [m1, m2, ih1, show 2 * (n + 1) = 2 * n + 1 + 1 by omega]
      show _ = x % 2 ^ k + (x / 2 ^ k % 2 ^ k + tot k (2 * n) (x / 2 ^ k / 2 ^ k))
      rw [Nat.div_div_eq_div_mul, ← pow2k]
      omega
    · rw [show 2 * k * (n + 1) = 2 * k * n + 2 * k by rw [Nat.mul_add, Nat.mul_one], Nat.pow_add]
      have := Nat.mul_le_mul_right (2 ^ (2 * k)) (show g k n (x / 2 ^ (2 * k)) + 1 ≤ 2 ^ (2 * k * n) from ih2)
      rw [Nat.add_mul] at this
      omega
/-- What stands in each block is at most c. -/
def small (k c : Nat) : Nat → Nat → Prop
  | 0, x => x = 0
  | n + 1, x => x % 2 ^ k ≤ c ∧ small k c n (x / 2 ^ k)
theorem small_one : ∀ (n x : Nat), x < 2 ^ n → small 1 1 n x
  | 0, x, h => by show x = 0; omega
  | n + 1, x, h => ⟨by omega, small_one n _ (by rw [Nat.pow_succ] at h; omega)⟩
theorem g_small (k : Nat) (hk : 1 ≤ k) (c : Nat) : ∀ (n x : Nat), small k c (2 * n) x → small (2 * k) (2 * c) n (g k n x) := by
  intro n
  induction n with
  | zero => intro x h; show g k 0 x = 0; simp [g, mask]
  | succ n ih =>
    intro x h
    rw [show 2 * (n + 1) = 2 * n + 1 + 1 by omega] at h
    obtain ⟨h1, h2, h3⟩ := h
    rw [Nat.div_div_eq_div_mul, ← pow2k] at h3
    obtain ⟨e, hs⟩ := g_succ k hk n x
    obtain ⟨m1, m2⟩ := mod_of (A := g k n (x / 2 ^ (2 * k))) hs
    rw [e]
    exact ⟨by rw [m1]; omega, by rw [m2]; exact ih _ h3⟩
/-- Where blocks of 4 hold at most 4, the sum may be taken ahead of the mask. -/
theorem add_mask : ∀ (n y : Nat), small 4 4 (2 * n) y → (y / 16 + y) &&& mask 4 n = g 4 n y := by
  intro n
  induction n with
  | zero => intro y h; simp [g, mask]
  | succ n ih =>
    intro y h
    rw [show 2 * (n + 1) = 2 * n + 1 + 1 by omega] at h
    obtain ⟨h1, h2, h3⟩ := h
    rw [Nat.div_div_eq_div_mul] at h3
    have hi : y / 256 % 16 ≤ 4 := by
      cases n with
      | zero => have : y / (2 ^ 4 * 2 ^ 4) = 0 := h3; omega
      | succ n =>
        rw [show 2 * (n + 1) = 2 * n + 1 + 1 by omega] at h3
        exact h3.1
    have e := ih _ h3
    obtain ⟨e2, _⟩ := g_succ 4 (by omega) n y
    rw [e2]
    show _ = g 4 n (y / (2 ^ 4 * 2 ^ 4)) * 2 ^ 8 + (y / 2 ^ 4 % 2 ^ 4 + y % 2 ^ 4)
    rw [← e]
    have ey : y / 16 + y = (y / (2 ^ 4 * 2 ^ 4) / 16 + y / (2 ^ 4 * 2 ^ 4)) * 2 ^ 8 + ((y / 256 % 16 + y / 2 ^ 4 % 2 ^ 4) * 16 + (y / 2 ^ 4 % 2 ^ 4 + y % 2 ^ 4)) := by omega
    have em : mask 4 (n + 1) = mask 4 n * 2 ^ 8 + 15 := rfl
    conv => lhs; rw [ey, em]
    rw [and_split _ _ _ _ _ (by omega) (by omega)]
    congr 1
    rw [show (15 : Nat) = 2 ^ 4 - 1 from rfl, Nat.and_two_pow_sub_one_eq_mod]
    omega
theorem tot_one : ∀ (n x : Nat), tot 1 n x = pop n x
  | 0, _ => rfl
  | n + 1, x => by
    show x % 2 ^ 1 + tot 1 n (x / 2 ^ 1) = x % 2 + pop n (x / 2)
    rw [tot_one n]
theorem tot_le (k n x : Nat) : tot k n x ≤ n * (2 ^ k - 1) := by
  induction n generalizing x with
  | zero => simp [tot]
  | succ n ih =>
    show x % 2 ^ k + tot k n (x / 2 ^ k) ≤ _
    have := ih (x / 2 ^ k)
    have := Nat.mod_lt x (Nat.two_pow_pos k)
    rw [Nat.add_mul]; omega
theorem pop_le (n x : Nat) : pop n x ≤ n := by have := tot_le 1 n x; rw [tot_one] at this; simpa using this
theorem mask1 : mask 1 32 = 6148914691236517205 := by decide +kernel
theorem mask2 : mask 2 16 = 3689348814741910323 := by decide +kernel
theorem mask4 : mask 4 8 = 1085102592571150095 := by decide +kernel
def s1 (a : Nat) : Nat := (a / 2 &&& 6148914691236517205) + (a &&& 6148914691236517205)
def s2 (a : Nat) : Nat := (s1 a / 4 &&& 3689348814741910323) + (s1 a &&& 3689348814741910323)
def s3 (a : Nat) : Nat := s2 a / 16 + s2 a &&& 1085102592571150095
theorem s1_g (a : Nat) : s1 a = g 1 32 a := by unfold s1 g; rw [mask1]
theorem s2_g (a : Nat) : s2 a = g 2 16 (s1 a) := by unfold s2 g; rw [mask2]
theorem s1_lt (a : Nat) : s1 a < 18446744073709551616 := by rw [s1_g]; exact (g_tot 1 (by omega) 32 a).2
theorem s2_lt (a : Nat) : s2 a < 18446744073709551616 := by rw [s2_g]; exact (g_tot 2 (by omega) 16 _).2
theorem s2_le (a : Nat) : s2 a / 16 + s2 a < 18446744073709551616 := by
  have h1 : (s1 a / 4 &&& 3689348814741910323) ≤ 3689348814741910323 := Nat.and_le_right
  have h2 : (s1 a &&& 3689348814741910323) ≤ 3689348814741910323 := Nat.and_le_right
  have h : s2 a ≤ 7378697629483820646 := by unfold s2; omega
  omega
theorem s2_small (a : Nat) (ha : a < 18446744073709551616) : small 4 4 16 (s2 a) := by
  rw [s2_g]
  refine g_small 2 (by omega) 2 16 _ ?_
  rw [s1_g]
  exact g_small 1 (by omega) 1 32 _ (small_one 64 a ha)
theorem s3_g (a : Nat) (ha : a < 18446744073709551616) : s3 a = g 4 8 (s2 a) := by
  unfold s3; rw [← mask4]; exact add_mask 8 _ (s2_small a ha)
theorem s3_tot (a : Nat) (ha : a < 18446744073709551616) : tot 8 8 (s3 a) = pop 64 a := by
  rw [s3_g a ha, (g_tot 4 (by omega) 8 (s2 a)).1, s2_g, (g_tot 2 (by omega) 16 (s1 a)).1, s1_g, (g_tot 1 (by omega) 32 a).1, tot_one]
theorem s3_small (a : Nat) (ha : a < 18446744073709551616) : small 8 8 8 (s3 a) := by
  rw [s3_g a ha]; exact g_small 4 (by omega) 4 8 _ (s2_small a ha)
theorem bytes8 (z : Nat) (h : small 8 8 8 z) : ∃ b0 b1 b2 b3 b4 b5 b6 b7, b0 ≤ 8 ∧ b1 ≤ 8 ∧ b2 ≤ 8 ∧ b3 ≤ 8 ∧ b4 ≤ 8 ∧ b5 ≤ 8 ∧ b6 ≤ 8 ∧ b7 ≤ 8 ∧
    z = (b0) + 256 * ((b1) + 256 * ((b2) + 256 * ((b3) + 256 * ((b4) + 256 * ((b5) + 256 * ((b6) + 256 * (b7))))))) ∧ tot 8 8 z = b0 + b1 + b2 + b3 + b4 + b5 + b6 + b7 := by
  obtain ⟨h0, h1, h2, h3, h4, h5, h6, h7, h8⟩ := h
  have h8 : z / 2 ^ 8 / 2 ^ 8 / 2 ^ 8 / 2 ^ 8 / 2 ^ 8 / 2 ^ 8 / 2 ^ 8 / 2 ^ 8 = 0 := h8
  refine ⟨_, _, _, _, _, _, _, _, h0, h1, h2, h3, h4, h5, h6, h7, by omega, ?_⟩
  simp only [tot]; omega
def x4 (z : Nat) : Nat := z + z / 256
def x5 (z : Nat) : Nat := x4 z + x4 z / 65536
def x6 (z : Nat) : Nat := x5 z + x5 z / 4294967296
theorem limb {c r z : Nat} (h : c ≤ 64) (e : z = c + 256 * r) : z / 256 = r ∧ z % 128 = c % 128 := ⟨by omega, by omega⟩
theorem limb_lt {c r z k K : Nat} (h : c ≤ 64) (e : z = c + 256 * r) (hr : r < k) (hk : 256 * k = K) : z < K := by omega
theorem limbs {c0 c1 c2 c3 c4 c5 c6 c7 z : Nat} (h0 : c0 ≤ 64) (h1 : c1 ≤ 64) (h2 : c2 ≤ 64) (h3 : c3 ≤ 64) (h4 : c4 ≤ 64) (h5 : c5 ≤ 64) (h6 : c6 ≤ 64) (h7 : c7 ≤ 64)
    (e : z = c0 + 256 * (c1 + 256 * (c2 + 256 * (c3 + 256 * (c4 + 256 * (c5 + 256 * (c6 + 256 * c7))))))) :
    z / 256 = c1 + 256 * (c2 + 256 * (c3 + 256 * (c4 + 256 * (c5 + 256 * (c6 + 256 * c7))))) ∧ z / 65536 = c2 + 256 * (c3 + 256 * (c4 + 256 * (c5 + 256 * (c6 + 256 * c7)))) ∧
    z / 4294967296 = c4 + 256 * (c5 + 256 * (c6 + 256 * c7)) ∧ z % 128 = c0 % 128 ∧ z < 9223372036854775808 := by
  have d2 : z / 65536 = z / 256 / 256 := by rw [Nat.div_div_eq_div_mul]
  have d4 : z / 4294967296 = z / 256 / 256 / 256 / 256 := by rw [Nat.div_div_eq_div_mul, Nat.div_div_eq_div_mul, Nat.div_div_eq_div_mul]
  refine ⟨(limb h0 e).1, ?_, ?_, (limb h0 e).2, ?_⟩
  · rw [d2, (limb h0 e).1, (limb h1 rfl).1]
  · rw [d4, (limb h0 e).1, (limb h1 rfl).1, (limb h2 rfl).1, (limb h3 rfl).1]
  · have q6 : c6 + 256 * c7 < 32768 := by omega
    have q5 := limb_lt (k := 32768) (K := 8388608) h5 rfl q6 (by simp)
    have q4 := limb_lt (k := 8388608) (K := 2147483648) h4 rfl q5 (by simp)
    have q3 := limb_lt (k := 2147483648) (K := 549755813888) h3 rfl q4 (by simp)
    have q2 := limb_lt (k := 549755813888) (K := 140737488355328) h2 rfl q3 (by simp)
    have q1 := limb_lt (k := 140737488355328) (K := 36028797018963968) h1 rfl q2 (by simp)
    exact limb_lt (k := 36028797018963968) (K := 9223372036854775808) h0 e q1 (by simp)
theorem x6_sum {b0 b1 b2 b3 b4 b5 b6 b7 : Nat} (g0 : b0 ≤ 8) (g1 : b1 ≤ 8) (g2 : b2 ≤ 8) (g3 : b3 ≤ 8) (g4 : b4 ≤ 8) (g5 : b5 ≤ 8) (g6 : b6 ≤ 8) (g7 : b7 ≤ 8) :
    ∀ z, z = (b0) + 256 * ((b1) + 256 * ((b2) + 256 * ((b3) + 256 * ((b4) + 256 * ((b5) + 256 * ((b6) + 256 * (b7))))))) → x6 z % 128 = b0 + b1 + b2 + b3 + b4 + b5 + b6 + b7 ∧ x4 z < 9223372036854775808 ∧ x5 z < 9223372036854775808 ∧ x6 z < 9223372036854775808 := by
  have A0 := @limbs b0 b1 b2 b3 b4 b5 b6 b7
  have A4 := @limbs (b0+b1) (b1+b2) (b2+b3) (b3+b4) (b4+b5) (b5+b6) (b6+b7) (b7)
  have A5 := @limbs (b0+b1+b2+b3) (b1+b2+b3+b4) (b2+b3+b4+b5) (b3+b4+b5+b6) (b4+b5+b6+b7) (b5+b6+b7) (b6+b7) (b7)
  have A6 := @limbs (b0+b1+b2+b3+b4+b5+b6+b7) (b1+b2+b3+b4+b5+b6+b7) (b2+b3+b4+b5+b6+b7) (b3+b4+b5+b6+b7) (b4+b5+b6+b7) (b5+b6+b7) (b6+b7) (b7)
  have A0 := fun z => @A0 z (by omega) (by omega) (by omega) (by omega) (by omega) (by omega) (by omega) (by omega)
  have A4 := fun z => @A4 z (by omega) (by omega) (by omega) (by omega) (by omega) (by omega) (by omega) (by omega)
  have A5 := fun z => @A5 z (by omega) (by omega) (by omega) (by omega) (by omega) (by omega) (by omega) (by omega)
  have A6 := fun z => @A6 z (by omega) (by omega) (by omega) (by omega) (by omega) (by omega) (by omega) (by omega)
  have M : (b0+b1+b2+b3+b4+b5+b6+b7) % 128 = b0 + b1 + b2 + b3 + b4 + b5 + b6 + b7 := by omega
  clear g0 g1 g2 g3 g4 g5 g6 g7
  intro z hz
  have l0 := A0 z hz
  have e4 : x4 z = (b0+b1) + 256 * ((b1+b2) + 256 * ((b2+b3) + 256 * ((b3+b4) + 256 * ((b4+b5) + 256 * ((b5+b6) + 256 * ((b6+b7) + 256 * (b7))))))) := by
    unfold x4; rw [l0.1, hz]; clear l0 hz; omega
  have l4 := A4 _ e4
  have e5 : x5 z = (b0+b1+b2+b3) + 256 * ((b1+b2+b3+b4) + 256 * ((b2+b3+b4+b5) + 256 * ((b3+b4+b5+b6) + 256 * ((b4+b5+b6+b7) + 256 * ((b5+b6+b7) + 256 * ((b6+b7) + 256 * (b7))))))) := by
    unfold x5; rw [l4.2.1, e4]; clear l4 e4 l0 hz; omega
  have l5 := A5 _ e5
  have e6 : x6 z = (b0+b1+b2+b3+b4+b5+b6+b7) + 256 * ((b1+b2+b3+b4+b5+b6+b7) + 256 * ((b2+b3+b4+b5+b6+b7) + 256 * ((b3+b4+b5+b6+b7) + 256 * ((b4+b5+b6+b7) + 256 * ((b5+b6+b7) + 256 * ((b6+b7) + 256 * (b7))))))) := by
    unfold x6; rw [l5.2.2.1, e5]; clear l5 e5 l4 e4 l0 hz; omega
  have l6 := A6 _ e6
  exact ⟨by rw [l6.2.2.2.1]; exact M, l4.2.2.2.2, l5.2.2.2.2, l6.2.2.2.2⟩
theorem x6_tot (z : Nat) (h : small 8 8 8 z) : x6 z % 128 = tot 8 8 z ∧ x4 z < 9223372036854775808 ∧ x5 z < 9223372036854775808 ∧ x6 z < 9223372036854775808 := by
  obtain ⟨b0, b1, b2, b3, b4, b5, b6, b7, g0, g1, g2, g3, g4, g5, g6, g7, hz, ht⟩ := bytes8 z h
  rw [ht]
  exact x6_sum g0 g1 g2 g3 g4 g5 g6 g7 z hz
theorem pop_swar (a : Nat) (ha : a < 18446744073709551616) : x6 (s3 a) % 128 = pop 64 a := by rw [(x6_tot _ (s3_small a ha)).1, s3_tot a ha]
end Go.Proofs.YtnhnbcjffnlicaaDoor.Num

/-
  PLAIN: what instructions on integers come to, as formulas on natural numbers. No Go in sight.
-/
import Derived.Lib.BitFns
import Derived.Lib.TrailingZeros
namespace Go.Proofs.YtnhnbcjffnlicaaDoor.Num
set_option linter.unusedVariables false

/-- A width, and the number that stands for it. -/
def Wd (w : Nat) (v : Int) : Prop := (w = 32 ∧ v = 32) ∨ (w = 64 ∧ v = 64)
/-- As signed. -/
def sg (w a : Nat) : Int := if a < 2 ^ (w - 1) then (a : Int) else (a : Int) - ((2 ^ w : Nat) : Int)
def yes (c : Bool) : Nat := if c then 1 else 0
/-- A whole number modulo 2^w. -/
def md (w : Nat) (z : Int) : Nat := (z % ((2 ^ w : Nat) : Int)).toNat
def pop : Nat → Nat → Nat
  | 0, _ => 0
  | k + 1, a => a % 2 + pop k (a / 2)

/-- The value of an operation of two numbers, by its place. -/
def tv (p w a b : Nat) : Nat :=
  match p with
  | 10 => yes (decide (a = b))
  | 11 => yes (decide (a ≠ b))
  | 12 => yes (decide (sg w a < sg w b))
  | 13 => yes (decide (a < b))
  | 14 => yes (decide (sg w b < sg w a))
  | 15 => yes (decide (b < a))
  | 16 => yes (decide (sg w a ≤ sg w b))
  | 17 => yes (decide (a ≤ b))
  | 18 => yes (decide (sg w b ≤ sg w a))
  | 19 => yes (decide (b ≤ a))
  | 20 => (a + b) % 2 ^ w
  | 21 => (a + (2 ^ w - b)) % 2 ^ w
  | 22 => a * b % 2 ^ w
  | 23 => md w ((sg w a).tdiv (sg w b))
  | 24 => a / b
  | 25 => md w ((sg w a).tmod (sg w b))
  | 26 => a % b
  | 27 => a &&& b
  | 28 => a ||| b
  | 29 => a ^^^ b
  | 30 => a * 2 ^ (b % w) % 2 ^ w
  | 31 => md w (sg w a / ((2 ^ (b % w) : Nat) : Int))
  | 32 => a / 2 ^ (b % w)
  | 33 => a * 2 ^ (b % w) % 2 ^ w ||| a / 2 ^ (w - b % w)
  | 34 => a / 2 ^ (b % w) ||| a * 2 ^ (w - b % w) % 2 ^ w
  | _ => 0
/-- Its error. -/
def te (p w a b : Nat) : Nat :=
  if 23 ≤ p ∧ p ≤ 26 ∧ b = 0 then 30 else if p = 23 ∧ b = 2 ^ w - 1 ∧ a = 2 ^ (w - 1) then 31 else 0
/-- The value of an operation of one number. -/
def ov (p a : Nat) (w t : Nat) : Nat :=
  match p with
  | 0 => yes (decide (a = 0))
  | 1 => w - Lib.bitLen a
  | 2 => if a = 0 then w else Lib.ctz 64 a
  | 3 => pop 64 a
  | 4 => md t (sg 8 (a % 256))
  | 5 => md t (sg 16 (a % 65536))
  | 6 => md t (sg 32 (a % 4294967296))
  | 7 => a % 4294967296
  | 8 => md t (sg 32 (a % 4294967296))
  | 9 => a
  | _ => 0
/-- Place, bits of the numbers, of what it comes to, how many numbers. -/
def kind (op : Int) : Nat × Nat × Nat × Nat :=
  if op = 69 then (0, 32, 32, 1)
  else if 70 ≤ op ∧ op ≤ 79 then ((op - 60).toNat, 32, 32, 2)
  else if op = 80 then (0, 64, 32, 1)
  else if 81 ≤ op ∧ op ≤ 90 then ((op - 71).toNat, 64, 32, 2)
  else if 103 ≤ op ∧ op ≤ 105 then ((op - 102).toNat, 32, 32, 1)
  else if 106 ≤ op ∧ op ≤ 120 then ((op - 86).toNat, 32, 32, 2)
  else if 121 ≤ op ∧ op ≤ 123 then ((op - 120).toNat, 64, 64, 1)
  else if 124 ≤ op ∧ op ≤ 138 then ((op - 104).toNat, 64, 64, 2)
  else if op = 167 then (7, 64, 32, 1)
  else if 172 ≤ op ∧ op ≤ 173 then ((op - 164).toNat, 32, 64, 1)
  else if 192 ≤ op ∧ op ≤ 193 then ((op - 188).toNat, 32, 32, 1)
  else if 194 ≤ op ∧ op ≤ 196 then ((op - 190).toNat, 64, 64, 1)
  else (0, 0, 0, 0)
/-- What Two tells. -/
def two (op : Int) (a b : Nat) : Nat × Nat :=
  if (kind op).2.2.2 = 2 ∧ a < 2 ^ (kind op).2.1 ∧ b < 2 ^ (kind op).2.1 then
    if te (kind op).1 (kind op).2.1 a b = 0 then (tv (kind op).1 (kind op).2.1 a b, 0) else (0, te (kind op).1 (kind op).2.1 a b)
  else (0, 2)
/-- What One tells. -/
def one (op : Int) (a : Nat) : Nat × Nat :=
  if (kind op).2.2.2 = 1 ∧ a < 2 ^ (kind op).2.1 then (ov (kind op).1 a (kind op).2.1 (kind op).2.2.1, 0) else (0, 2)

theorem sg8 (a : Nat) : sg 8 a = if a < 128 then (a : Int) else (a : Int) - 256 := rfl
theorem sg16 (a : Nat) : sg 16 a = if a < 32768 then (a : Int) else (a : Int) - 65536 := rfl
theorem sg32 (a : Nat) : sg 32 a = if a < 2147483648 then (a : Int) else (a : Int) - 4294967296 := rfl
theorem sg64 (a : Nat) : sg 64 a = if a < 9223372036854775808 then (a : Int) else (a : Int) - 18446744073709551616 := rfl
theorem md32 (z : Int) : md 32 z = (z % 4294967296).toNat := rfl
theorem md64 (z : Int) : md 64 z = (z % 18446744073709551616).toNat := rfl
end Go.Proofs.YtnhnbcjffnlicaaDoor.Num

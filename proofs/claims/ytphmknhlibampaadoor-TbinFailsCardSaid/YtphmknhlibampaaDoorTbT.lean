/-
  PLAIN: layer 6: a reader of bytes, as a function of what stands in it. No Go in sight.
-/
import Derived.Test.YtphmknhlibampaaDoorKdT
import Derived.Test.YtphmknhlibampaaDoorNmC
namespace Go.Proofs.YtphmknhlibampaaDoor
open Go.RowKit
set_option linter.unusedVariables false

/-- A reader: bytes, a place, the first error and its place. -/
structure Rd where
  bs : List Nat
  p : Nat
  e : Int
  bad : Int
deriving DecidableEq

namespace Tb
/-- An item that a function of bytes reads. -/
def item {α : Type} (d : α) (f : List Nat → Nat → α × Nat × Nat) (r : Rd) : α × Rd :=
  if r.e = 0 then
    (if (f r.bs r.p).2.2 = 0 then ((f r.bs r.p).1, { r with p := (f r.bs r.p).2.1 }) else (d, { r with e := (f r.bs r.p).2.2, bad := r.p }))
  else (d, r)
def byteAt (l : List Nat) (p : Nat) : Nat × Nat × Nat := if p < l.length then (l.getD p 0, p + 1, 0) else (0, 0, 10)
def uAt (bits : Int) (l : List Nat) (p : Nat) : Nat × Nat × Nat := told false l p bits
def sAt (bits : Int) (l : List Nat) (p : Nat) : Int × Nat × Nat := (Leb.sOf (told true l p bits).1, (told true l p bits).2.1, (told true l p bits).2.2)
def nameAt (l : List Nat) (p : Nat) : List Nat × Nat × Nat := readName l p
def countAt (l : List Nat) (p : Nat) : Nat × Nat × Nat :=
  if (told false l p 32).2.2 = 0 then (if l.length - (told false l p 32).2.1 < (told false l p 32).1 then (0, 0, 10) else told false l p 32) else (0, 0, (told false l p 32).2.2)
def takeAt (n : Int) (l : List Nat) (p : Nat) : List Nat × Nat × Nat := if n < 0 ∨ ((l.length - p : Nat) : Int) < n then ([], 0, 10) else ((l.drop p).take n.toNat, p + n.toNat, 0)
def kinds : List Int := [11, 5, 4, 3, 2, 1, 9, 7, 6, 10, 8, 12]
def isGiven (l : List Nat) (p : Nat) : Bool := decide (p < l.length) && (decide (105 ≤ l.getD p 0) && decide (l.getD p 0 < 117))
def given (l : List Nat) (p : Nat) : Hp := if isGiven l p then ⟨kinds.getD (l.getD p 0 - 105) 0, 0⟩ else ⟨0, 0⟩
def heapAt (l : List Nat) (p : Nat) : Hp × Nat × Nat :=
  if isGiven l p then (given l p, p + 1, 0)
  else if (told true l p 33).2.2 = 0 then (if Leb.sOf (told true l p 33).1 < 0 then (⟨0, 0⟩, 0, 60) else (⟨13, Leb.sOf (told true l p 33).1⟩, (told true l p 33).2.1, 0))
  else (⟨0, 0⟩, 0, (told true l p 33).2.2)
def noneAt {α : Type} (d : α) (l : List Nat) (p : Nat) : α × Nat × Nat := if p = l.length then (d, 0, 10) else (d, 0, 60)
def noVal : Vl := ⟨0, false, ⟨0, 0⟩⟩
def shortAt (l : List Nat) (p : Nat) : Vl × Nat × Nat :=
  if isGiven l p then (⟨3, true, given l p⟩, p + 1, 0)
  else if p < l.length ∧ 123 ≤ l.getD p 0 ∧ l.getD p 0 ≤ 125 then (noVal, 0, 61) else noneAt noVal l p
def mutAt (l : List Nat) (p : Nat) : Bool × Nat × Nat := if p < l.length ∧ l.getD p 0 ≤ 1 then (decide (l.getD p 0 = 1), p + 1, 0) else noneAt false l p
/-- Takes the byte b, if it is the next one. -/
def may (b : Nat) (r : Rd) : Bool := decide (r.e = 0) && (decide (r.p < r.bs.length) && decide (r.bs.getD r.p 0 = b))
def on (r : Rd) : Rd := { r with p := r.p + 1 }
def byte : Rd → Nat × Rd := item 0 byteAt
def u (bits : Int) : Rd → Nat × Rd := item 0 (uAt bits)
def s (bits : Int) : Rd → Int × Rd := item 0 (sAt bits)
def name : Rd → List Nat × Rd := item [] nameAt
def count : Rd → Nat × Rd := item 0 countAt
def take (n : Int) : Rd → List Nat × Rd := item [] (takeAt n)
def heap : Rd → Hp × Rd := item ⟨0, 0⟩ heapAt
def ref (nu : Bool) (r : Rd) : Vl × Rd := if (heap r).2.e = 0 then (⟨3, nu, (heap r).1⟩, (heap r).2) else (noVal, (heap r).2)
def val (r : Rd) : Vl × Rd :=
  if may 127 r then (⟨1, false, ⟨0, 0⟩⟩, on r) else if may 126 r then (⟨2, false, ⟨0, 0⟩⟩, on r)
  else if may 99 r then ref true (on r) else if may 100 r then ref false (on r) else item noVal shortAt r
/-- So many things, or none behind an error. -/
def many {α : Type} (one : Rd → α × Rd) : Nat → List α → Rd → List α × Rd
  | 0, out, r => (out, r)
  | n + 1, out, r => if (one r).2.e = 0 then many one n (out ++ [(one r).1]) (one r).2 else ([], (one r).2)
def list {α : Type} (one : Rd → α × Rd) (r : Rd) : List α × Rd := many one (count r).1 [] (count r).2
def vals : Rd → List Vl × Rd := list val
def index (r : Rd) : Hp × Rd := (⟨13, (u 32 r).1⟩, (u 32 r).2)
def store (r : Rd) : (Int × Vl) × Rd := if may 120 r then ((8, ⟨1, false, ⟨0, 0⟩⟩), on r) else if may 119 r then ((16, ⟨1, false, ⟨0, 0⟩⟩), on r) else ((0, (val r).1), (val r).2)
def field (r : Rd) : Fd × Rd := (⟨(store r).1.1, (store r).1.2, (item false mutAt (store r).2).1⟩, (item false mutAt (store r).2).2)
def noComp : Cp := ⟨0, [], [], []⟩
def comp (r : Rd) : Cp × Rd :=
  if may 96 r then (⟨1, (vals (on r)).1, (vals (vals (on r)).2).1, []⟩, (vals (vals (on r)).2).2)
  else if may 95 r then (⟨2, [], [], (list field (on r)).1⟩, (list field (on r)).2)
  else if may 94 r then (⟨3, [], [], [(field (on r)).1]⟩, (field (on r)).2)
  else item noComp (noneAt noComp) r
def sub (r : Rd) : Sb × Rd :=
  if may 80 r then (⟨false, (list index (on r)).1, (comp (list index (on r)).2).1⟩, (comp (list index (on r)).2).2)
  else if may 79 r then (⟨true, (list index (on r)).1, (comp (list index (on r)).2).1⟩, (comp (list index (on r)).2).2)
  else (⟨true, [], (comp r).1⟩, (comp r).2)
def rec_ (r : Rd) : List Sb × Rd := if may 78 r then list sub (on r) else if (sub r).2.e = 0 then ([(sub r).1], (sub r).2) else ([], (sub r).2)
def fail (e bad : Int) (r : Rd) : Rd := if r.e = 0 ∧ e ≠ 0 then { r with e := e, bad := bad } else r
def opened (l : List Nat) : Rd := ⟨l, 0, 0, 0⟩
end Tb
end Go.Proofs.YtphmknhlibampaaDoor

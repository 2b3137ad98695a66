/-
  Layer 4, plain: the types of the language as plain data, what is plain, and their writing.
-/
import Derived.Test.YtphmknhlibampaaDoorKit
import Derived.Lib.Join
import Derived.Lib.ItoaNum
namespace Go.Proofs.YtphmknhlibampaaDoor
open Go.RowKit
set_option linter.unusedVariables false
set_option maxRecDepth 100000

structure Hp where
  k : Int
  n : Int
deriving DecidableEq
structure Vl where
  k : Int
  nu : Bool
  h : Hp
deriving DecidableEq
structure Fd where
  pk : Int
  v : Vl
  mu : Bool
deriving DecidableEq
structure Cp where
  k : Int
  ps : List Vl
  rs : List Vl
  fs : List Fd
deriving DecidableEq
structure Sb where
  fin : Bool
  sups : List Hp
  c : Cp
deriving DecidableEq

namespace Kd
def given (k : Int) : Bool := decide (1 ≤ k) && decide (k ≤ 12)
def pIdx (h : Hp) : Bool := decide (h.k = 13) && (decide (0 ≤ h.n) && decide (h.n ≤ 4294967295))
def pHeap (h : Hp) : Bool := if given h.k then decide (h.n = 0) else pIdx h
def pVal (v : Vl) : Bool := if v.k = 1 then decide (v = ⟨1, false, ⟨0, 0⟩⟩) else if v.k = 2 then decide (v = ⟨2, false, ⟨0, 0⟩⟩) else if v.k = 3 then pHeap v.h else false
def pField (f : Fd) : Bool := if f.pk = 0 then pVal f.v else if f.pk = 8 ∨ f.pk = 16 then decide (f.v = ⟨1, false, ⟨0, 0⟩⟩) else false
def takes (c : Cp) : Bool := decide (0 < c.ps.length + c.rs.length)
def pComp (c : Cp) : Bool := if c.k = 1 then c.ps.all pVal && (c.rs.all pVal && decide (c.fs.length = 0)) else if c.k = 2 then !takes c && c.fs.all pField
  else if c.k = 3 then !takes c && (decide (c.fs.length = 1) && c.fs.all pField) else false
def pSub (s : Sb) : Bool := s.sups.all pIdx && pComp s.c
def first (v : Vl) : Bool := decide (v.k = 1) || (decide (v.k = 2) || (decide (v.k = 3) && v.nu))
/-- No list of a type is longer than this. -/
structure Small (s : Sb) : Prop where
  a : s.sups.length ≤ 100
  p : s.c.ps.length ≤ 100
  r : s.c.rs.length ≤ 100
  f : s.c.fs.length ≤ 100

/-- The writing. -/
def nm (k : Int) : List UInt8 :=
  if k = 1 then [97, 110, 121] else if k = 2 then [101, 113] else if k = 3 then [105, 51, 49] else if k = 4 then [115, 116, 114, 117, 99, 116] else if k = 5 then [97, 114, 114, 97, 121]
  else if k = 6 then [110, 111, 110, 101] else if k = 7 then [102, 117, 110, 99] else if k = 8 then [110, 111, 102, 117, 110, 99] else if k = 9 then [101, 120, 116, 101, 114, 110]
  else if k = 10 then [110, 111, 101, 120, 116, 101, 114, 110] else if k = 11 then [101, 120, 110] else [110, 111, 101, 120, 110]
def hT (h : Hp) : List UInt8 := if h.k = 13 then Lib.itoa h.n else nm h.k
def vT (v : Vl) : List UInt8 := if v.k = 1 then [105, 51, 50] else if v.k = 2 then [105, 54, 52]
  else if v.nu then [40, 114, 101, 102, 32, 110, 117, 108, 108, 32] ++ hT v.h ++ [41] else [40, 114, 101, 102, 32] ++ hT v.h ++ [41]
def sT (pk : Int) (v : Vl) : List UInt8 := if pk = 8 then [105, 56] else if pk = 16 then [105, 49, 54] else vT v
def fT (f : Fd) : List UInt8 := if f.mu then [40, 109, 117, 116, 32] ++ sT f.pk f.v ++ [41] else sT f.pk f.v
/-- Parts, each behind a blank. -/
def sp (l : List (List UInt8)) : List UInt8 := l.flatMap (32 :: ·)
def br (x : List UInt8) (l : List (List UInt8)) : List UInt8 := 40 :: (x ++ sp l) ++ [41]
def some_ (x : List UInt8) (l : List (List UInt8)) : List (List UInt8) := if l = [] then [] else [br x l]
def cT (c : Cp) : List UInt8 := if c.k = 1 then br [102, 117, 110, 99] (some_ [112, 97, 114, 97, 109] (c.ps.map vT) ++ some_ [114, 101, 115, 117, 108, 116] (c.rs.map vT))
  else if c.k = 2 then br [115, 116, 114, 117, 99, 116] (c.fs.map fT) else br [97, 114, 114, 97, 121] (c.fs.map fT)
def tT (s : Sb) : List UInt8 := br [115, 117, 98] ((if s.fin then [[102, 105, 110, 97, 108]] else []) ++ s.sups.map hT ++ [cT s.c])

theorem join_sp (x : List UInt8) (l : List (List UInt8)) : Lib.join (x :: l) [32] = x ++ sp l := by
  induction l generalizing x with
  | nil => simp [Lib.join, sp]
  | cons y r ih =>
    have h := ih y
    unfold Lib.join at h ⊢
    rw [show [32].intercalate (x :: y :: r) = x ++ ([32] ++ [32].intercalate (y :: r)) by simp [List.intercalate, List.intersperse], h]
    simp [sp]
end Kd
end Go.Proofs.YtphmknhlibampaaDoor

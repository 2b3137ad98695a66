/-
  leb.Len, and what the statements ask first ('known').
-/
import Derived.Test.YtphmknhlibampaaDoorLebR
namespace Go.Proofs.YtphmknhlibampaaDoor
open Go.RowKit
set_option linter.unusedVariables false

theorem U_lit (l : List Nat) (hl : ∀ x ∈ l, x < 256) (hm : l.length < 1000000) (bits : Int) (r : Nat × Nat × Nat) (hr : told false l 0 bits = r) (w : World) :
    Calls Tryd.prog 45 #[.slice (some ⟨w.heap.size, 0, none⟩) l.length l.length, .int .i64 0, .int .i64 bits] (w.alloc (.cells (l.map U8).toArray 5)) fun e w' =>
      e = .returned (.tuple #[.int .u64 r.1, .int .i64 r.2.1, .int .i64 r.2.2]) ∧ Below w.heap.size w w' := by
  refine (U_any _ _ _ l _ 0 bits _ (bytes_new w l hl hm)).mono ?_
  rintro e w' ⟨rfl, k, rfl⟩
  rw [hr]
  exact ⟨rfl, ((Below.refl _ _).alloc (Nat.le_refl _) _).trans ⟨rfl, rfl, rfl, Nat.le_refl _, fun _ _ => rfl⟩⟩
theorem U_at (A : Option Addr) (n c : Nat) (l : List Nat) (C : Nat) (at0 bits : Int) (w : World) (x y z : Nat) (hb : Bytes w C A n c l) (hr : told false l at0 bits = (x, y, z)) :
    Calls Tryd.prog 45 #[.slice A n c, .int .i64 at0, .int .i64 bits] w fun e w' => e = .returned (.tuple #[.int .u64 x, .int .i64 y, .int .i64 z]) ∧ ∃ k, w' = w.drewN k := by
  refine (U_any A n c l C at0 bits w hb).mono ?_
  rintro e w' ⟨rfl, k, rfl⟩
  rw [hr]
  exact ⟨rfl, k, rfl⟩
theorem S_at (A : Option Addr) (n c : Nat) (l : List Nat) (C : Nat) (at0 bits : Int) (w : World) (x : Int) (x' y z : Nat) (hb : Bytes w C A n c l) (hr : told true l at0 bits = (x', y, z)) (hx : Leb.sOf x' = x) :
    Calls Tryd.prog 49 #[.slice A n c, .int .i64 at0, .int .i64 bits] w fun e w' => e = .returned (.tuple #[.int .i64 x, .int .i64 y, .int .i64 z]) ∧ ∃ k, w' = w.drewN k := by
  refine (S_any A n c l C at0 bits w hb).mono ?_
  rintro e w' ⟨rfl, k, rfl⟩
  rw [hr, ← hx]
  exact ⟨rfl, k, rfl⟩
theorem told_eq (sg : Bool) (l : List Nat) (a bits : Nat) (h1 : 1 ≤ bits) (h2 : bits ≤ 64) (h3 : a ≤ l.length) : told sg l (a : Int) (bits : Int) = Leb.rd bits sg (l.drop a) a 0 0 := by
  unfold told
  rw [if_neg (by omega)]
  rfl
end Go.Proofs.YtphmknhlibampaaDoor

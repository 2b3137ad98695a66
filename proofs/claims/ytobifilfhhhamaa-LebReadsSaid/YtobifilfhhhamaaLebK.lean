/-
  leb.Len, and what the statements ask first ('known').
-/
import Derived.Test.YtobifilfhhhamaaLebR
import Derived.Test.YtobifilfhhhamaaShelf
import Derived.Lib.BitFns
namespace Go.Proofs.Ytobifilfhhhamaa
open Go.RowKit
set_option linter.unusedVariables false

theorem or1 (n : Nat) (h : n < 18446744073709551616) : ∃ m : Nat, bits .or .u64 (n : Int) 1 = (m : Int) ∧ m < 18446744073709551616 ∧ Hid (m = n ||| 1) := by
  refine ⟨n ||| 1, ?_, Nat.or_lt_two_pow (n := 64) h (by omega), rfl⟩
  rw [show (1 : Int) = ((1 : Nat) : Int) from rfl, u64_or_nat n 1 h (by omega)]
theorem bitLen_or1 (n : Nat) (hn : n < 18446744073709551616) : Lib.bitLen (n ||| 1) ≤ 64 := Lib.bitLen_le _ 64 (by omega) (Nat.or_lt_two_pow (n := 64) hn (by omega))
theorem Len_any (n : Nat) (w : World) (hn : n < 18446744073709551616) :
    Calls Try.prog 19 #[.int .u64 n] w fun e w' => e = .returned (.int .i64 ((Lib.bitLen (n ||| 1) + 6) / 7 : Nat)) ∧ w = w' := by
  obtain ⟨m, h1, h2, H⟩ := or1 n hn
  have hL : Lib.bitLen m ≤ 64 := by rw [H.out]; exact bitLen_or1 n hn
  go_enter Try.func19, Try.ntmps19
  go_wp2_with fail
  refine (Try.bits_Len64 _ _ (by omega) (by omega)).mono ?_
  rintro e w' ⟨rfl, rfl⟩
  rw [Int.toNat_natCast]
  go_wp2
  go_ret
  exact ⟨ret_int (by rw [← H.out]; omega), rfl⟩

theorem U_lit (l : List Nat) (hl : ∀ x ∈ l, x < 256) (hm : l.length < 1000000) (bits : Int) (r : Nat × Nat × Nat) (hr : told false l 0 bits = r) (w : World) :
    Calls Try.prog 11 #[.slice (some ⟨w.heap.size, 0, none⟩) l.length l.length, .int .i64 0, .int .i64 bits] (w.alloc (.cells (l.map U8).toArray 5)) fun e w' =>
      e = .returned (.tuple #[.int .u64 r.1, .int .i64 r.2.1, .int .i64 r.2.2]) ∧ Below w.heap.size w w' := by
  refine (U_any _ _ _ l _ 0 bits _ (bytes_new w l hl hm)).mono ?_
  rintro e w' ⟨rfl, k, rfl⟩
  rw [hr]
  exact ⟨rfl, ((Below.refl _ _).alloc (Nat.le_refl _) _).trans ⟨rfl, rfl, rfl, Nat.le_refl _, fun _ _ => rfl⟩⟩
theorem S_lit (l : List Nat) (hl : ∀ x ∈ l, x < 256) (hm : l.length < 1000000) (bits : Int) (r : Int × Nat × Nat) (hr : (Leb.sOf (told true l 0 bits).1, (told true l 0 bits).2) = r) (w : World) :
    Calls Try.prog 13 #[.slice (some ⟨w.heap.size, 0, none⟩) l.length l.length, .int .i64 0, .int .i64 bits] (w.alloc (.cells (l.map U8).toArray 5)) fun e w' =>
      e = .returned (.tuple #[.int .i64 r.1, .int .i64 r.2.1, .int .i64 r.2.2]) ∧ Below w.heap.size w w' := by
  refine (S_any _ _ _ l _ 0 bits _ (bytes_new w l hl hm)).mono ?_
  rintro e w' ⟨rfl, k, rfl⟩
  subst hr
  exact ⟨rfl, ((Below.refl _ _).alloc (Nat.le_refl _) _).trans ⟨rfl, rfl, rfl, Nat.le_refl _, fun _ _ => rfl⟩⟩
theorem PutS_64 (w : World) : Calls Try.prog 17 #[.int .i64 64] w fun e w' => ∃ v, e = .returned v ∧ (convert 22 9 v).run Try.prog w' = .ok (.string ⟨#[192, 0]⟩) w' ∧ Below w.heap.size w w' := by
  refine (PutS_any 64 w (by omega) (by omega)).mono ?_
  rintro e w' ⟨v, rfl, ho, hb⟩
  have e : Leb.putS 64 = [192, 0] := by simp [Leb.putS]
  exact ⟨v, rfl, by rw [ho.str (Leb.putS_lt 64), e]; rfl, hb⟩
theorem Len_128 (w : World) : Calls Try.prog 19 #[.int .u64 128] w fun e w' => e = .returned (.int .i64 2) ∧ w = w' := Len_any 128 w (by omega)
theorem known_any (w : World) : Calls Try.prog 10 #[] w fun e w' => e = .returned (.bool true) ∧ Below w.heap.size w w' := by
  go_enter Try.func10, Try.ntmps10
  go_wp2_with fail
  refine (U_lit [229, 142, 38] (by decide) (by decide) 32 (624485, 3, 0) (by decide +kernel) _).mono ?_
  rintro e w1 ⟨rfl, hb1⟩
  go_wp2_with fail
  refine (S_lit [128, 127] (by decide) (by decide) 32 (-128, 2, 0) (by decide +kernel) _).mono ?_
  rintro e w2 ⟨rfl, hb2⟩
  go_wp2_with fail
  refine (U_lit [255, 255, 255, 255, 31] (by decide) (by decide) 32 (0, 0, 11) (by decide +kernel) _).mono ?_
  rintro e w3 ⟨rfl, hb3⟩
  go_wp2_with fail
  refine (S_lit [255, 255, 255, 255, 79] (by decide) (by decide) 32 (0, 0, 11) (by decide +kernel) _).mono ?_
  rintro e w4 ⟨rfl, hb4⟩
  go_wp2_with fail
  refine (U_lit [128] (by decide) (by decide) 32 (0, 0, 10) (by decide +kernel) _).mono ?_
  rintro e w5 ⟨rfl, hb5⟩
  go_wp2_with fail
  refine (PutS_64 _).mono ?_
  rintro e w6 ⟨v, rfl, hv, hb6⟩
  go_wp2_with fail
  refine (Len_128 _).mono ?_
  rintro e w7 ⟨rfl, rfl⟩
  go_wp2
  go_ret
  have hs := hb1.size
  have hs2 := hb2.size
  have hs3 := hb3.size
  have hs4 := hb4.size
  have hs5 := hb5.size
  exact ⟨rfl, hb1.trans ((hb2.mono (by omega)).trans ((hb3.mono (by omega)).trans ((hb4.mono (by omega)).trans ((hb5.mono (by omega)).trans (hb6.mono (by omega))))))⟩

theorem U_at (A : Option Addr) (n c : Nat) (l : List Nat) (C : Nat) (at0 bits : Int) (w : World) (x y z : Nat) (hb : Bytes w C A n c l) (hr : told false l at0 bits = (x, y, z)) :
    Calls Try.prog 11 #[.slice A n c, .int .i64 at0, .int .i64 bits] w fun e w' => e = .returned (.tuple #[.int .u64 x, .int .i64 y, .int .i64 z]) ∧ ∃ k, w' = w.drewN k := by
  refine (U_any A n c l C at0 bits w hb).mono ?_
  rintro e w' ⟨rfl, k, rfl⟩
  rw [hr]
  exact ⟨rfl, k, rfl⟩
theorem S_at (A : Option Addr) (n c : Nat) (l : List Nat) (C : Nat) (at0 bits : Int) (w : World) (x : Int) (x' y z : Nat) (hb : Bytes w C A n c l) (hr : told true l at0 bits = (x', y, z)) (hx : Leb.sOf x' = x) :
    Calls Try.prog 13 #[.slice A n c, .int .i64 at0, .int .i64 bits] w fun e w' => e = .returned (.tuple #[.int .i64 x, .int .i64 y, .int .i64 z]) ∧ ∃ k, w' = w.drewN k := by
  refine (S_any A n c l C at0 bits w hb).mono ?_
  rintro e w' ⟨rfl, k, rfl⟩
  rw [hr, ← hx]
  exact ⟨rfl, k, rfl⟩
theorem told_eq (sg : Bool) (l : List Nat) (a bits : Nat) (h1 : 1 ≤ bits) (h2 : bits ≤ 64) (h3 : a ≤ l.length) : told sg l (a : Int) (bits : Int) = Leb.rd bits sg (l.drop a) a 0 0 := by
  unfold told
  rw [if_neg (by omega)]
  rfl
end Go.Proofs.Ytobifilfhhhamaa

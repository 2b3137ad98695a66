/-
  The walk of the statement LebPuts: the bytes of any number are the document's.
-/
import Derived.Test.YtobifilfhhhamaaLebF
import Derived.Lib.ItoaNum
import Derived.Deep.RegionWith
namespace Go.Proofs.Ytobifilfhhhamaa
open Go.RowKit
set_option linter.unusedVariables false

theorem bitLen_len (n : Nat) (h : n < 18446744073709551616) : (Lib.bitLen (n ||| 1) + 6) / 7 = (Leb.putU n).length := by
  obtain ⟨k, e, h1, h2⟩ := Leb.putU_long n
  rw [e, Leb.long_len]
  have hx64 : n ||| 1 < 2 ^ 64 := Nat.or_lt_two_pow (n := 64) h (by omega)
  have hge : n ≤ n ||| 1 := Nat.left_le_or
  have hge1 : 1 ≤ n ||| 1 := Nat.right_le_or
  obtain ⟨b1, b2, b3⟩ := Lib.bitLenAux_bounds 64 (n ||| 1) hx64 (by omega)
  have hlt : n ||| 1 < 2 ^ (7 * (k + 1)) := by
    refine Nat.or_lt_two_pow ?_ ?_
    · rw [Nat.pow_mul]; exact h1
    · exact Nat.one_lt_two_pow (by omega)
  have hk : 2 ^ (7 * k) ≤ n ||| 1 := by
    rcases h2 with rfl | h2
    · simpa using hge1
    · rw [Nat.pow_mul]; exact Nat.le_trans h2 hge
  have g1 := (Nat.pow_lt_pow_iff_right (a := 2) (by omega)).1 (Nat.lt_of_le_of_lt b2 hlt)
  have g2 := (Nat.pow_lt_pow_iff_right (a := 2) (by omega)).1 (Nat.lt_of_le_of_lt hk b3)
  show (Lib.bitLenAux 64 (n ||| 1) + 6) / 7 = k + 1
  omega

theorem below_next {w b c : World} (h : Below w.heap.size w b) (k : Below b.heap.size b c) : Below w.heap.size w c := h.trans (k.mono h.size)

set_option maxRecDepth 100000 in
set_option maxHeartbeats 2000000 in
theorem LebPuts_walk (w : World) (a0 : Int) (wf0 : (Lit.int .u64 a0).wf = true) (a1 : Int) (wf1 : (Lit.int .i64 a1).wf = true) :
    Calls Try.prog 4 #[.int .u64 a0, .int .i64 a1] w fun e w' => e = .returned (.bool true) ∧ Below w.heap.size w w' := by
  obtain ⟨h0, h0'⟩ := u64_wf wf0
  obtain ⟨h1, h1'⟩ := i64_wf wf1
  obtain ⟨n, rfl⟩ := Int.eq_ofNat_of_zero_le h0
  have HN : Hid (n < 18446744073709551616) := by rw [Hid]; omega
  have H1 : Hid (-9223372036854775808 ≤ a1 ∧ a1 < 9223372036854775808) := ⟨h1, h1'⟩
  have HL := Lib.hid (bitLen_len n HN.out)
  clear wf0 wf1 h0 h0' h1 h1'
  go_enter Try.func4, Try.ntmps4
  go_wp2_with fail
  go_region_with (first
    | (go_at_call 15; refine (PutU_any n _ HN.out).mono ?_; rintro e w1 ⟨v1, rfl, ho1, hb1⟩; have c1 := ho1.str (Leb.putU_lt n))
    | (go_at_call 16; have _t := tok2; refine (refU_any n _ HN.out).mono ?_; rintro e w6 ⟨v6, rfl, ho6, hb6⟩; obtain ⟨A6, c6, rfl⟩ := ho6.form)
    | (go_at_call 16; refine (refU_any n _ HN.out).mono ?_; rintro e w2 ⟨v2, rfl, ho2, hb2⟩; have c2 := ho2.str (Leb.putU_lt n); have c1 := (ho1.below hb2).str (Leb.putU_lt n))
    | (go_at_call 17; refine (PutS_any a1 _ H1.out.1 H1.out.2).mono ?_; rintro e w3 ⟨v3, rfl, ho3, hb3⟩; have c3 := ho3.str (Leb.putS_lt a1))
    | (go_at_call 18; refine (refS_any a1 _ H1.out.1 H1.out.2).mono ?_; rintro e w4 ⟨v4, rfl, ho4, hb4⟩; have c4 := ho4.str (Leb.putS_lt a1); have c3 := (ho3.below hb4).str (Leb.putS_lt a1))
    | (go_at_call 19; refine (Len_any n _ HN.out).mono ?_; rintro e w5 ⟨rfl, rfl⟩; rw [HL.out]; have tok2 : True := trivial)
    | (go_at_call 10; refine (known_any _).mono ?_; rintro e w7 ⟨rfl, hb7⟩)
    )
  all_goals (go_wp2; go_ret; exact ⟨rfl, below_next (below_next (below_next (below_next (below_next (below_next (Below.refl _ w).drew hb1) hb2) hb3) hb4) hb6) hb7⟩)
end Go.Proofs.Ytobifilfhhhamaa

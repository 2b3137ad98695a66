/-
  The walk of the statement NameJoins: of two parts one of which is well-formed both together are just if the other one is.
-/
import Derived.Test.YtkpobcomaocfpaaNmG
namespace Go.Proofs.Ytkpobcomaocfpaa
open Go.RowKit
set_option linter.unusedVariables false

theorem NameJoins_out (w : World) (a0 a1 : ByteArray) (h : 2000 < a0.size ∨ 2000 < a1.size) :
    Calls Try.prog 6 #[.string a0, .string a1] w fun e w' => e = .returned (.bool true) ∧ Below w.heap.size w w' := by
  by_cases h1 : 2000 < a0.size
  · have t1 : (2000 : Int) < (a0.size : Int) := by omega
    clear h h1
    go_enter Try.func6, Try.ntmps6
    go_wp2_with (go_at_call 8; refine (known2_any _).mono ?_; rintro e w1 ⟨rfl, hb1⟩)
    go_ret
    exact ⟨rfl, hb1⟩
  · have t1 : (a0.size : Int) ≤ 2000 := by omega
    have t2 : (2000 : Int) < (a1.size : Int) := by omega
    clear h h1
    go_enter Try.func6, Try.ntmps6
    go_wp2_with (go_at_call 8; refine (known2_any _).mono ?_; rintro e w1 ⟨rfl, hb1⟩)
    go_ret
    exact ⟨rfl, hb1⟩

set_option maxHeartbeats 1000000 in
theorem NameJoins_in (w : World) (a0 a1 : ByteArray) (q0 : a0.size ≤ 2000) (q1 : a1.size ≤ 2000) :
    Calls Try.prog 6 #[.string a0, .string a1] w fun e w' => e = .returned (.bool true) ∧ Below w.heap.size w w' := by
  have t1 : (a0.size : Int) ≤ 2000 := by omega
  have t2 : (a1.size : Int) ≤ 2000 := by omega
  have S0 := Lib.hid (small _ _ q0 (by omega))
  have S1 := Lib.hid (small _ _ q1 (by omega))
  have S2 : Hid ((a0 ++ a1).size ≤ maxLen) := by rw [Hid, ByteArray.size_append]; exact small _ 4000 (by omega) (by omega)
  have hj1 := Nm.well_append (bs a0) (bs a1)
  have hj2 := Nm.well_append_right (bs a0) (bs a1)
  have hj3 := Nm.cnt_append (bs a0) (bs a1)
  have hc1 := Nm.cnt_le (bs a0)
  have hc2 := Nm.cnt_le (bs a1)
  rw [bs_len] at hc1 hc2
  rw [← bs_append] at hj1 hj2 hj3
  clear q0 q1
  have hB : Below w.heap.size w w := Below.refl _ _
  by_cases hw0 : Nm.well (bs a0) = true
  · have hj1 := hj1 hw0
    by_cases hw1 : Nm.well (bs a1) = true
    · have n0 : 0 ≤ Nm.cnt (bs a0) := by simpa [Nm.well] using hw0
      have n1 : 0 ≤ Nm.cnt (bs a1) := by simpa [Nm.well] using hw1
      have hj3 := hj3 hw0
      rw [if_neg (by omega)] at hj3
      rw [hw1] at hj1
      have H0 := Lib.hid hw0
      have H1 := Lib.hid hw1
      have H2 := Lib.hid hj1
      have H3 := Lib.hid hj3
      clear hw0 hw1 hj1 hj2 hj3
      generalize hm0 : Nm.cnt (bs a0) = m0 at *
      generalize hm1 : Nm.cnt (bs a1) = m1 at *
      have M0 := Lib.hid hm0
      have M1 := Lib.hid hm1
      clear hm0 hm1
      go_enter Try.func6, Try.ntmps6
      go_wp2_with (first
        | (go_at_call 8; refine (known2_any _).mono ?_; rintro e w1 ⟨rfl, hb⟩; have hB := below_trans hB hb)
        | (go_at_call 11; (with_reducible refine (Well_is a0 true _ S0.out H0.out).mono ?_); rintro e w1 ⟨rfl, hb⟩; have hB := below_trans hB hb)
        | (go_at_call 11; (with_reducible refine (Well_is a1 true _ S1.out H1.out).mono ?_); rintro e w1 ⟨rfl, hb⟩; have hB := below_trans hB hb)
        | (go_at_call 11; (with_reducible refine (Well_is (a0 ++ a1) true _ S2.out H2.out).mono ?_); rintro e w1 ⟨rfl, hb⟩; have hB := below_trans hB hb)
        | (go_at_call 13; (with_reducible refine (Count_is a0 m0 _ S0.out M0.out).mono ?_); rintro e w1 ⟨rfl, hb⟩; have hB := below_trans hB hb)
        | (go_at_call 13; (with_reducible refine (Count_is a1 m1 _ S1.out M1.out).mono ?_); rintro e w1 ⟨rfl, hb⟩; have hB := below_trans hB hb)
        | (go_at_call 13; (with_reducible refine (Count_is (a0 ++ a1) (m0 + m1) _ S2.out H3.out).mono ?_); rintro e w1 ⟨rfl, hb⟩; have hB := below_trans hB hb))
      go_ret
      exact ⟨rfl, hB⟩
    · have hw1' : Nm.well (bs a1) = false := by simpa using hw1
      rw [hw1'] at hj1
      have H0 := Lib.hid hw0
      have H1 := Lib.hid hw1'
      have H2 := Lib.hid hj1
      clear hw0 hw1 hw1' hj1 hj2 hj3 hc1 hc2
      go_enter Try.func6, Try.ntmps6
      go_wp2_with (first
        | (go_at_call 8; refine (known2_any _).mono ?_; rintro e w1 ⟨rfl, hb⟩; have hB := below_trans hB hb)
        | (go_at_call 11; (with_reducible refine (Well_is a0 true _ S0.out H0.out).mono ?_); rintro e w1 ⟨rfl, hb⟩; have hB := below_trans hB hb)
        | (go_at_call 11; (with_reducible refine (Well_is a1 false _ S1.out H1.out).mono ?_); rintro e w1 ⟨rfl, hb⟩; have hB := below_trans hB hb)
        | (go_at_call 11; (with_reducible refine (Well_is (a0 ++ a1) false _ S2.out H2.out).mono ?_); rintro e w1 ⟨rfl, hb⟩; have hB := below_trans hB hb))
      go_ret
      exact ⟨rfl, hB⟩
  · have hw0' : Nm.well (bs a0) = false := by simpa using hw0
    by_cases hw1 : Nm.well (bs a1) = true
    · have hj2 := hj2 hw1
      rw [hw0'] at hj2
      have H0 := Lib.hid hw0'
      have H1 := Lib.hid hw1
      have H2 := Lib.hid hj2
      clear hw0 hw0' hw1 hj1 hj2 hj3 hc1 hc2
      go_enter Try.func6, Try.ntmps6
      go_wp2_with (first
        | (go_at_call 8; refine (known2_any _).mono ?_; rintro e w1 ⟨rfl, hb⟩; have hB := below_trans hB hb)
        | (go_at_call 11; (with_reducible refine (Well_is a0 false _ S0.out H0.out).mono ?_); rintro e w1 ⟨rfl, hb⟩; have hB := below_trans hB hb)
        | (go_at_call 11; (with_reducible refine (Well_is a1 true _ S1.out H1.out).mono ?_); rintro e w1 ⟨rfl, hb⟩; have hB := below_trans hB hb)
        | (go_at_call 11; (with_reducible refine (Well_is (a0 ++ a1) false _ S2.out H2.out).mono ?_); rintro e w1 ⟨rfl, hb⟩; have hB := below_trans hB hb))
      go_ret
      exact ⟨rfl, hB⟩
    · have hw1' : Nm.well (bs a1) = false := by simpa using hw1
      have H0 := Lib.hid hw0'
      have H1 := Lib.hid hw1'
      clear hw0 hw0' hw1 hw1' hj1 hj2 hj3 hc1 hc2
      go_enter Try.func6, Try.ntmps6
      go_wp2_with (first
        | (go_at_call 8; refine (known2_any _).mono ?_; rintro e w1 ⟨rfl, hb⟩; have hB := below_trans hB hb)
        | (go_at_call 11; (with_reducible refine (Well_is a0 false _ S0.out H0.out).mono ?_); rintro e w1 ⟨rfl, hb⟩; have hB := below_trans hB hb)
        | (go_at_call 11; (with_reducible refine (Well_is a1 false _ S1.out H1.out).mono ?_); rintro e w1 ⟨rfl, hb⟩; have hB := below_trans hB hb)
        )
      go_ret
      exact ⟨rfl, hB⟩

theorem NameJoins_walk (w : World) (a0 : ByteArray) (_ : a0.size ≤ maxLen) (a1 : ByteArray) (_ : a1.size ≤ maxLen) :
    Calls Try.prog 6 #[.string a0, .string a1] w fun e w' => e = .returned (.bool true) ∧ Below w.heap.size w w' := by
  by_cases h : 2000 < a0.size ∨ 2000 < a1.size
  · exact NameJoins_out w a0 a1 h
  · exact NameJoins_in w a0 a1 (by omega) (by omega)
end Go.Proofs.Ytkpobcomaocfpaa

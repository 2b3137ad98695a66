/-
  The walk of the statement NameCuts: a well-formed name that is cut is well-formed just where no character is cut.
-/
import Derived.Test.YtkpobcomaocfpaaNmG
namespace Go.Proofs.Ytkpobcomaocfpaa
open Go.RowKit
set_option linter.unusedVariables false

theorem NameCuts_out (w : World) (a0 a1 : ByteArray) (a2 : Int) (hm : a0.size ≤ maxLen) (h : 200 < a0.size ∨ 200 < a1.size ∨ a2 < 0 ∨ (a0.size : Int) < a2 ∨ Nm.well (bs a0) = false) :
    Calls Try.prog 7 #[.string a0, .string a1, .int .i64 a2] w fun e w' => e = .returned (.bool true) ∧ Below w.heap.size w w' := by
  have hB : Below w.heap.size w w := Below.refl _ _
  have H := Lib.hid h
  clear h hm
  by_cases h1 : 200 < a0.size
  · have t1 : (200 : Int) < (a0.size : Int) := by omega
    clear h1
    go_enter Try.func7, Try.ntmps7
    go_wp2_with (first
      | (go_at_call 8; refine (known2_any _).mono ?_; rintro e w1 ⟨rfl, hb⟩; have hB := below_trans hB hb))
    go_ret
    exact ⟨rfl, hB⟩
  have t1 : (a0.size : Int) ≤ 200 := by omega
  by_cases h2 : 200 < a1.size
  · have t2 : (200 : Int) < (a1.size : Int) := by omega
    clear h1 h2
    go_enter Try.func7, Try.ntmps7
    go_wp2_with (first
      | (go_at_call 8; refine (known2_any _).mono ?_; rintro e w1 ⟨rfl, hb⟩; have hB := below_trans hB hb))
    go_ret
    exact ⟨rfl, hB⟩
  have t2 : (a1.size : Int) ≤ 200 := by omega
  have S0 := Lib.hid (small a0.size 200 (by omega) (by omega))
  clear h1 h2
  by_cases h3 : a2 < 0
  · have t3 : decide (a2 < 0) = true := by simpa using h3
    go_enter Try.func7, Try.ntmps7
    go_wp2_with (first
      | (go_at_call 8; refine (known2_any _).mono ?_; rintro e w1 ⟨rfl, hb⟩; have hB := below_trans hB hb))
    go_ret
    exact ⟨rfl, hB⟩
  have t3 : decide (a2 < 0) = false := by simpa using h3
  by_cases h4 : (a0.size : Int) < a2
  · have t4 : decide ((a0.size : Int) < a2) = true := by simpa using h4
    go_enter Try.func7, Try.ntmps7
    go_wp2_with (first
      | (go_at_call 8; refine (known2_any _).mono ?_; rintro e w1 ⟨rfl, hb⟩; have hB := below_trans hB hb))
    go_ret
    exact ⟨rfl, hB⟩
  have t4 : decide ((a0.size : Int) < a2) = false := by simpa using h4
  have H0 : Hid (Nm.well (bs a0) = false) := by
    rcases H.out with h | h | h | h | h
    · omega
    · omega
    · omega
    · omega
    · exact h
  go_enter Try.func7, Try.ntmps7
  go_wp2_with (first
    | (go_at_call 8; refine (known2_any _).mono ?_; rintro e w1 ⟨rfl, hb⟩; have hB := below_trans hB hb)
    | (go_at_call 11; (with_reducible refine (Well_is a0 false _ S0.out H0.out).mono ?_); rintro e w1 ⟨rfl, hb⟩; have hB := below_trans hB hb))
  go_ret
  exact ⟨rfl, hB⟩

set_option maxRecDepth 100000 in
set_option maxHeartbeats 1000000 in
theorem NameCuts_in (w : World) (a0 a1 : ByteArray) (k : Nat) (q0 : a0.size ≤ 200) (q1 : a1.size ≤ 200) (qk : k ≤ a0.size) (hw : Nm.well (bs a0) = true) :
    Calls Try.prog 7 #[.string a0, .string a1, .int .i64 k] w fun e w' => e = .returned (.bool true) ∧ Below w.heap.size w w' := by
  have hB : Below w.heap.size w w := Below.refl _ _
  have t1 : (a0.size : Int) ≤ 200 := by omega
  have t2 : (a1.size : Int) ≤ 200 := by omega
  have t3 : decide ((k : Int) < 0) = false := by simp
  have t4 : decide (a0.size < k) = false := by simp; omega
  have S0 := Lib.hid (small a0.size 200 (by omega) (by omega))
  have S1 := Lib.hid (small a1.size 200 (by omega) (by omega))
  have S2 : Hid ((a0 ++ a1).size ≤ maxLen) := by rw [Hid, ByteArray.size_append]; exact small _ 4000 (by omega) (by omega)
  have S3 : Hid ((a1 ++ a0).size ≤ maxLen) := by rw [Hid, ByteArray.size_append]; exact small _ 4000 (by omega) (by omega)
  have S4 : Hid ((a0.extract 0 k).size ≤ maxLen) := by rw [Hid]; exact small _ 200 (by simp; omega) (by omega)
  have S5 : Hid ((a0.extract k a0.size).size ≤ maxLen) := by rw [Hid]; exact small _ 200 (by simp; omega) (by omega)
  have H0 := Lib.hid hw
  obtain ⟨q, hq⟩ : ∃ q, Nm.well (bs a1) = q := ⟨_, rfl⟩
  have H1 := Lib.hid hq
  have H2 : Hid (Nm.well (bs (a0 ++ a1)) = q) := by rw [Hid, bs_append, Nm.well_append _ _ hw, hq]
  have H3 : Hid (Nm.well (bs (a1 ++ a0)) = q) := by rw [Hid, bs_append, Nm.well_append_right _ _ hw, hq]
  have hcut := Nm.well_cuts (bs a0) k hw (by rw [bs_len]; exact qk)
  rw [bs_len] at hcut
  have e1 : bs (a0.extract 0 k) = (bs a0).take k := by rw [bs_extract, List.drop_zero, Nat.sub_zero]
  rw [← e1, ← bs_drop] at hcut
  have hqq : (q == q) = true := by simp
  clear hq e1 hw q0 q1
  by_cases hk : k = a0.size
  · have H4 := Lib.hid (hcut true (by rw [decide_eq_true hk]; rfl)).1
    have H5 := Lib.hid (hcut true (by rw [decide_eq_true hk]; rfl)).2
    have t5 : ((k : Int) == (a0.size : Int)) = true := by rw [beq_iff_eq]; omega
    clear hcut hk
    go_enter Try.func7, Try.ntmps7
    go_wp2_with (first
      | (go_at_call 8; refine (known2_any _).mono ?_; rintro e w1 ⟨rfl, hb⟩; have hB := below_trans hB hb)
      | (go_at_call 11; (with_reducible refine (Well_is a0 true _ S0.out H0.out).mono ?_); rintro e w1 ⟨rfl, hb⟩; have hB := below_trans hB hb)
      | (go_at_call 11; (with_reducible refine (Well_is a1 q _ S1.out H1.out).mono ?_); rintro e w1 ⟨rfl, hb⟩; have hB := below_trans hB hb)
      | (go_at_call 11; (with_reducible refine (Well_is (a0 ++ a1) q _ S2.out H2.out).mono ?_); rintro e w1 ⟨rfl, hb⟩; have hB := below_trans hB hb)
      | (go_at_call 11; (with_reducible refine (Well_is (a1 ++ a0) q _ S3.out H3.out).mono ?_); rintro e w1 ⟨rfl, hb⟩; have hB := below_trans hB hb)
      | (go_at_call 11; (with_reducible refine (Well_is (a0.extract 0 k) true _ S4.out H4.out).mono ?_); rintro e w1 ⟨rfl, hb⟩; have hB := below_trans hB hb)
      | (go_at_call 11; (with_reducible refine (Well_is (a0.extract k a0.size) true _ S5.out H5.out).mono ?_); rintro e w1 ⟨rfl, hb⟩; have hB := below_trans hB hb))
    go_ret
    exact ⟨rfl, hB⟩
  have t5 : ((k : Int) == (a0.size : Int)) = false := beq_eq_false_iff_ne.2 (by omega)
  have hks : k < a0.size := by omega
  have hg := bs_get a0 k hks
  obtain ⟨y, hy, hy2⟩ : ∃ y : Nat, (a0[k]'hks).toNat = y ∧ y < 256 := ⟨_, rfl, (a0[k]'hks).toNat_lt⟩
  rw [hy] at hg
  rw [decide_eq_false hk, hg, Bool.false_or] at hcut
  have hy3 : (y : Int) < 256 := by omega
  clear hg hk qk
  by_cases hy4 : y < 128
  · have hc : Nm.cont y = false := by simp [Nm.cont]; omega
    have H4 := Lib.hid (hcut true (by rw [hc]; rfl)).1
    have H5 := Lib.hid (hcut true (by rw [hc]; rfl)).2
    have t6 : (y : Int) < 128 := by omega
    clear hcut hc hy4 hy2
    go_enter Try.func7, Try.ntmps7
    go_wp2_with (first
      | (go_at_call 8; refine (known2_any _).mono ?_; rintro e w1 ⟨rfl, hb⟩; have hB := below_trans hB hb)
      | (go_at_call 11; (with_reducible refine (Well_is a0 true _ S0.out H0.out).mono ?_); rintro e w1 ⟨rfl, hb⟩; have hB := below_trans hB hb)
      | (go_at_call 11; (with_reducible refine (Well_is a1 q _ S1.out H1.out).mono ?_); rintro e w1 ⟨rfl, hb⟩; have hB := below_trans hB hb)
      | (go_at_call 11; (with_reducible refine (Well_is (a0 ++ a1) q _ S2.out H2.out).mono ?_); rintro e w1 ⟨rfl, hb⟩; have hB := below_trans hB hb)
      | (go_at_call 11; (with_reducible refine (Well_is (a1 ++ a0) q _ S3.out H3.out).mono ?_); rintro e w1 ⟨rfl, hb⟩; have hB := below_trans hB hb)
      | (go_at_call 11; (with_reducible refine (Well_is (a0.extract 0 k) true _ S4.out H4.out).mono ?_); rintro e w1 ⟨rfl, hb⟩; have hB := below_trans hB hb)
      | (go_at_call 11; (with_reducible refine (Well_is (a0.extract k a0.size) true _ S5.out H5.out).mono ?_); rintro e w1 ⟨rfl, hb⟩; have hB := below_trans hB hb))
    go_ret
    exact ⟨rfl, hB⟩
  have t6 : (128 : Int) ≤ (y : Int) := by omega
  by_cases hy5 : 192 ≤ y
  · have hc : Nm.cont y = false := by simp [Nm.cont]; omega
    have H4 := Lib.hid (hcut true (by rw [hc]; rfl)).1
    have H5 := Lib.hid (hcut true (by rw [hc]; rfl)).2
    have t7 : (192 : Int) ≤ (y : Int) := by omega
    clear hcut hc hy4 hy5 hy2
    go_enter Try.func7, Try.ntmps7
    go_wp2_with (first
      | (go_at_call 8; refine (known2_any _).mono ?_; rintro e w1 ⟨rfl, hb⟩; have hB := below_trans hB hb)
      | (go_at_call 11; (with_reducible refine (Well_is a0 true _ S0.out H0.out).mono ?_); rintro e w1 ⟨rfl, hb⟩; have hB := below_trans hB hb)
      | (go_at_call 11; (with_reducible refine (Well_is a1 q _ S1.out H1.out).mono ?_); rintro e w1 ⟨rfl, hb⟩; have hB := below_trans hB hb)
      | (go_at_call 11; (with_reducible refine (Well_is (a0 ++ a1) q _ S2.out H2.out).mono ?_); rintro e w1 ⟨rfl, hb⟩; have hB := below_trans hB hb)
      | (go_at_call 11; (with_reducible refine (Well_is (a1 ++ a0) q _ S3.out H3.out).mono ?_); rintro e w1 ⟨rfl, hb⟩; have hB := below_trans hB hb)
      | (go_at_call 11; (with_reducible refine (Well_is (a0.extract 0 k) true _ S4.out H4.out).mono ?_); rintro e w1 ⟨rfl, hb⟩; have hB := below_trans hB hb)
      | (go_at_call 11; (with_reducible refine (Well_is (a0.extract k a0.size) true _ S5.out H5.out).mono ?_); rintro e w1 ⟨rfl, hb⟩; have hB := below_trans hB hb))
    go_ret
    exact ⟨rfl, hB⟩
  · have hc : Nm.cont y = true := by simp [Nm.cont]; omega
    have H4 := Lib.hid (hcut false (by rw [hc]; rfl)).1
    have H5 := Lib.hid (hcut false (by rw [hc]; rfl)).2
    have t7 : (y : Int) < 192 := by omega
    clear hcut hc hy4 hy5 hy2
    go_enter Try.func7, Try.ntmps7
    go_wp2_with (first
      | (go_at_call 8; refine (known2_any _).mono ?_; rintro e w1 ⟨rfl, hb⟩; have hB := below_trans hB hb)
      | (go_at_call 11; (with_reducible refine (Well_is a0 true _ S0.out H0.out).mono ?_); rintro e w1 ⟨rfl, hb⟩; have hB := below_trans hB hb)
      | (go_at_call 11; (with_reducible refine (Well_is a1 q _ S1.out H1.out).mono ?_); rintro e w1 ⟨rfl, hb⟩; have hB := below_trans hB hb)
      | (go_at_call 11; (with_reducible refine (Well_is (a0 ++ a1) q _ S2.out H2.out).mono ?_); rintro e w1 ⟨rfl, hb⟩; have hB := below_trans hB hb)
      | (go_at_call 11; (with_reducible refine (Well_is (a1 ++ a0) q _ S3.out H3.out).mono ?_); rintro e w1 ⟨rfl, hb⟩; have hB := below_trans hB hb)
      | (go_at_call 11; (with_reducible refine (Well_is (a0.extract 0 k) false _ S4.out H4.out).mono ?_); rintro e w1 ⟨rfl, hb⟩; have hB := below_trans hB hb)
      | (go_at_call 11; (with_reducible refine (Well_is (a0.extract k a0.size) false _ S5.out H5.out).mono ?_); rintro e w1 ⟨rfl, hb⟩; have hB := below_trans hB hb))
    go_ret
    exact ⟨rfl, hB⟩

theorem NameCuts_walk (w : World) (a0 : ByteArray) (w0 : a0.size ≤ maxLen) (a1 : ByteArray) (_ : a1.size ≤ maxLen) (a2 : Int) (_ : (Lit.int .i64 a2).wf = true) :
    Calls Try.prog 7 #[.string a0, .string a1, .int .i64 a2] w fun e w' => e = .returned (.bool true) ∧ Below w.heap.size w w' := by
  by_cases h : 200 < a0.size ∨ 200 < a1.size ∨ a2 < 0 ∨ (a0.size : Int) < a2 ∨ Nm.well (bs a0) = false
  · exact NameCuts_out w a0 a1 a2 w0 h
  · simp only [not_or, Bool.not_eq_false] at h
    obtain ⟨h1, h2, h3, h4, h5⟩ := h
    obtain ⟨k, rfl⟩ := Int.eq_ofNat_of_zero_le (show 0 ≤ a2 by omega)
    exact NameCuts_in w a0 a1 k (by omega) (by omega) (by omega) h5
end Go.Proofs.Ytkpobcomaocfpaa

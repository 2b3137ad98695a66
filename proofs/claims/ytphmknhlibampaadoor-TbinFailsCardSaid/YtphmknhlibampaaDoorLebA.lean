/-
  leb's small functions, walked: only, fits, extend.
-/
import Derived.Test.YtphmknhlibampaaDoorKit
import Derived.Test.YtphmknhlibampaaDoorLeb
import Derived.Laws.BitsAllLaws
namespace Go.Proofs.YtphmknhlibampaaDoor
open Go.RowKit
set_option linter.unusedVariables false

theorem xor_u : bits .xor .u64 IntKind.u64.max 0 = 18446744073709551615 := by decide
theorem xor_s : bits .xor .i64 (-1) 0 = -1 := by decide

theorem only_u (n : Int) (w : World) (h0 : 0 ≤ n) (h1 : n < 18446744073709551615) :
    Calls Tryd.prog 137 #[.int .u64 n] w fun e w' => e = .returned (.bool (decide (n = 0))) ∧ w = w' := by
  by_cases h : n = 0
  · subst h
    go_enter Tryd.func137, Tryd.ntmps137
    go_wp2
    go_ret
    exact ⟨rfl, rfl⟩
  · go_enter Tryd.func137, Tryd.ntmps137
    go_wp2
    go_ret
    refine ⟨ret_bool ?_, rfl⟩
    rw [xor_u]; simp; omega
theorem only_s (n : Int) (w : World) :
    Calls Tryd.prog 144 #[.int .i64 n] w fun e w' => e = .returned (.bool (decide (n = 0 ∨ n = -1))) ∧ w = w' := by
  by_cases hn : n = 0
  · subst hn
    go_enter Tryd.func144, Tryd.ntmps144
    go_wp2
    go_ret
    exact ⟨rfl, rfl⟩
  · go_enter Tryd.func144, Tryd.ntmps144
    go_wp2
    go_ret
    refine ⟨ret_bool ?_, rfl⟩
    rw [xor_s, Bool.eq_iff_iff]; simp; intro e; exact absurd e hn
theorem cast_shr (x k : Nat) (c : Nat) : ((x : Int) / 2 ^ k == (c : Int)) = decide (x / 2 ^ k = c) := by
  rw [Bool.eq_iff_iff, beq_iff_eq, decide_eq_true_iff]
  rw [show ((x : Int) / 2 ^ k) = ((x / 2 ^ k : Nat) : Int) by simp]
  omega
theorem fits_u (x left : Nat) (w : World) (hx' : x < 128) (hl : 1 ≤ left) (hl' : left ≤ 64) :
    Calls Tryd.prog 102 #[.int .u8 x, .int .i64 left, .bool false] w fun e w' => e = .returned (.bool (Leb.fits false x left)) ∧ ∃ n, w' = w.drewN n := by
  go_enter Tryd.func102, Tryd.ntmps102
  go_wp2
  go_ret
  exact ⟨ret_bool (cast_shr x (min left 8) 0), 0, rfl⟩
theorem fits_s (x left : Nat) (w : World) (hx' : x < 128) (hl : 1 ≤ left) (hl' : left ≤ 64) :
    Calls Tryd.prog 102 #[.int .u8 x, .int .i64 left, .bool true] w fun e w' => e = .returned (.bool (Leb.fits true x left)) ∧ ∃ n, w' = w.drewN n := by
  have hb1 : (0 : Int) ≤ (left : Int) - 1 := by omega
  have hb2 : (1 : Int) ≤ (left : Int) := by omega
  have ha := cast_shr x (min (left - 1) 8) 0
  have hb := cast_shr x (min (left - 1) 8) (127 / 2 ^ min (left - 1) 8)
  by_cases h : x / 2 ^ min (left - 1) 8 = 0
  · have h1 : ((x : Int) / 2 ^ min (left - 1) 8 == 0) = true := by rw [show (0 : Int) = ((0 : Nat) : Int) from rfl, ha]; simpa using h
    have H := Lib.hid h
    clear h ha hb
    go_enter Tryd.func102, Tryd.ntmps102
    go_wp2
    go_quiet (fail)
    go_wp2
    go_ret
    exact ⟨ret_bool (by rw [Leb.fits, H.out]; rfl), _, rfl⟩
  · have h1 : ((x : Int) / 2 ^ min (left - 1) 8 == 0) = false := by rw [show (0 : Int) = ((0 : Nat) : Int) from rfl, ha]; simpa using h
    have H := Lib.hid h
    have Hb := Lib.hid hb
    clear h ha hb
    go_enter Tryd.func102, Tryd.ntmps102
    go_wp2
    go_quiet (fail)
    go_wp2
    go_ret
    refine ⟨ret_bool ?_, _, rfl⟩
    rw [Leb.fits, if_pos rfl, decide_eq_false H.out, Bool.false_or, ← Hb.out]; simp
theorem fits_any (sg : Bool) (x left : Nat) (w : World) (hx' : x < 128) (hl : 1 ≤ left) (hl' : left ≤ 64) :
    Calls Tryd.prog 102 #[.int .u8 x, .int .i64 left, .bool sg] w fun e w' => e = .returned (.bool (Leb.fits sg x left)) ∧ ∃ n, w' = w.drewN n := by
  cases sg
  · exact fits_u x left w hx' hl hl'
  · exact fits_s x left w hx' hl hl'

theorem bit_test (n r : Nat) (h : n < 18446744073709551616) : (bits .and .u64 ((n : Int) / 2 ^ r) 1 == 1) = decide (n / 2 ^ r % 2 = 1) := by
  rw [show ((n : Int) / 2 ^ r) = ((n / 2 ^ r : Nat) : Int) by simp, show (1 : Int) = ((1 : Nat) : Int) from rfl, u64_and_nat _ _ (Nat.lt_of_le_of_lt (Nat.div_le_self _ _) h) (by omega), Nat.and_one_is_mod]
  rw [Bool.eq_iff_iff, beq_iff_eq, decide_eq_true_iff]
  omega
theorem ext_or (n r : Nat) (h : n < 2 ^ r) (h2 : n < 18446744073709551616) : bits .or .u64 (n : Int) (18446744073709551615 * 2 ^ min r 64 % 18446744073709551616) = ((n + (18446744073709551616 - 2 ^ min r 64) : Nat) : Int) := by
  have hp : (2 : Nat) ^ min r 64 ≤ 2 ^ 64 := Nat.pow_le_pow_right (by omega) (Nat.min_le_right _ _)
  have hn : n < 2 ^ min r 64 := by
    rcases Nat.le_total r 64 with hr | hr
    · rw [Nat.min_eq_left hr]; exact h
    · rw [Nat.min_eq_right hr]; exact h2
  have e : (18446744073709551615 * 2 ^ min r 64 % 18446744073709551616 : Int) = ((18446744073709551616 - 2 ^ min r 64 : Nat) : Int) := by
    have : ((2 : Int) ^ min r 64) = ((2 ^ min r 64 : Nat) : Int) := by simp
    rw [this]
    have h1 : 1 ≤ 2 ^ min r 64 := Nat.one_le_two_pow
    omega
  rw [e, u64_or_nat n _ h2 (by have : 1 ≤ 2 ^ min r 64 := Nat.one_le_two_pow; omega)]
  have hm : (18446744073709551616 - 2 ^ min r 64 : Nat) = 2 ^ min r 64 * (2 ^ (64 - min r 64) - 1) := by
    rw [Nat.mul_sub, ← Nat.pow_add, show min r 64 + (64 - min r 64) = 64 by omega]; omega
  rw [hm, Nat.or_comm, ← Nat.two_pow_add_eq_or_of_lt hn, Nat.add_comm]
theorem extend_u (n r : Nat) (w : World) :
    Calls Tryd.prog 103 #[.int .u64 n, .int .i64 r, .bool false] w fun e w' => e = .returned (.int .u64 (Leb.ext false n r : Nat)) ∧ w = w' := by
  go_enter Tryd.func103, Tryd.ntmps103
  go_wp2
  go_ret
  exact ⟨rfl, rfl⟩
theorem extend_s (n r : Nat) (w : World) (h : n < 18446744073709551616) (h2 : n < 2 ^ r) (hr : 1 ≤ r) (hr' : r ≤ 70) :
    Calls Tryd.prog 103 #[.int .u64 n, .int .i64 r, .bool true] w fun e w' => e = .returned (.int .u64 (Leb.ext true n r : Nat)) ∧ w = w' := by
  have hb1 : (0 : Int) ≤ (r : Int) - 1 := by omega
  have hb2 : (1 : Int) ≤ (r : Int) := by omega
  have hb := bit_test n (min (r - 1) 64) h
  have ho := ext_or n r h2 h
  have Ho := Lib.hid ho
  have H2 := Lib.hid h2
  clear ho h2
  by_cases ht : n / 2 ^ min (r - 1) 64 % 2 = 1
  · rw [decide_eq_true ht] at hb
    have H := Lib.hid ht
    clear ht
    go_enter Tryd.func103, Tryd.ntmps103
    go_wp2
    go_ret
    exact ⟨ret_int (by rw [Leb.ext, decide_eq_true H.out, Bool.true_and, if_pos rfl]; exact Ho.out), rfl⟩
  · rw [decide_eq_false ht] at hb
    have H := Lib.hid ht
    clear ht
    go_enter Tryd.func103, Tryd.ntmps103
    go_wp2
    go_ret
    exact ⟨ret_int (by rw [Leb.ext, decide_eq_false H.out]; rfl), rfl⟩
theorem extend_any (sg : Bool) (n r : Nat) (w : World) (h : n < 18446744073709551616) (h2 : n < 2 ^ r) (hr : 1 ≤ r) (hr' : r ≤ 70) :
    Calls Tryd.prog 103 #[.int .u64 n, .int .i64 r, .bool sg] w fun e w' => e = .returned (.int .u64 (Leb.ext sg n r : Nat)) ∧ w = w' := by
  cases sg
  · exact extend_u n r w
  · exact extend_s n r w h h2 hr hr'
end Go.Proofs.YtphmknhlibampaaDoor

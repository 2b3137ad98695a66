/-
  The document's division as signed, walked.
-/
import Derived.Test.YtnhnbcjffnlicaaDoorNumQ
import Derived.Test.YtnhnbcjffnlicaaDoorNumD
namespace Go.Proofs.YtnhnbcjffnlicaaDoor
open Go.RowKit Num
set_option linter.unusedVariables false

def Three (q r : Nat) (o : Bool) (W : World) (e : Ending) (W' : World) : Prop := e = .returned (.tuple #[.int .u64 (q : Int), .int .u64 (r : Int), .bool o]) ∧ Below W.heap.size W W'
def BitIs (a : Nat) (v : Int) (t : Nat) : Prop := ∀ W, Calls Tryd.prog 37 #[.int .u64 a, .int .i64 v] W fun e W' => e = .returned (.int .i64 t) ∧ W = W'
def MinusIs (a : Nat) (v : Int) (x : Nat) : Prop := ∀ W, Calls Tryd.prog 38 #[.int .u64 a, .int .i64 v] W (Out x W)
theorem md_neg (w a : Nat) (h0 : 0 < a) (h : a < 2 ^ w) : md w (-(a : Int)) = 2 ^ w - a := by
  have e : -(a : Int) = ((2 ^ w - a : Nat) : Int) - ((2 ^ w : Nat) : Int) := by omega
  unfold md
  rw [e, Int.sub_emod_right, Int.emod_eq_of_lt (by omega) (by omega)]; rfl
theorem wrap_div (X Y : Nat) (h : X < 18446744073709551616) : IntKind.u64.wrap ((X : Int) / (Y : Int)) = ((X / Y : Nat) : Int) := by
  rw [IntKind.wrap_u64, ← Int.natCast_ediv]; have h9 := Nat.div_le_self X Y; generalize X / Y = q at h9 ⊢; omega
set_option maxHeartbeats 1000000 in
theorem rdiv_32_00 (a b Q R q r : Nat) (H1 : BitIs a 31 0) (H2 : BitIs b 31 0) (t : Nat) (H5 : BitIs Q 31 t) (hq : IntKind.u64.wrap ((a : Int) / (b : Int)) = (Q : Int)) (hr : (a : Int) % (b : Int) = (R : Int)) (h0 : ((b : Int) == 0) = false) (h0n : b ≠ 0) (W : World) :
    Calls Tryd.prog 29 #[.int .i64 32, .int .u64 a, .int .u64 b] W (Three Q R ((t : Int) == 1) W) := by
  have hB : Below W.heap.size W W := Below.refl _ _
  try unfold BitIs at *
  try unfold MinusIs at *
  have H1H := Lib.hid H1
  clear H1
  have H2H := Lib.hid H2
  clear H2
  have H5H := Lib.hid H5
  clear H5
  go_enter Tryd.func29, Tryd.ntmps29
  go_wp2_with (first
    | (go_at_call 37; ((with_reducible refine (H1H.out _).mono ?_); rintro e w1 ⟨rfl, rfl⟩))
    | (go_at_call 37; ((with_reducible refine (H2H.out _).mono ?_); rintro e w1 ⟨rfl, rfl⟩))
    | (go_at_call 37; ((with_reducible refine (H5H.out _).mono ?_); rintro e w1 ⟨rfl, rfl⟩)))
  go_ret3
  exact ⟨rfl, hB⟩
set_option maxHeartbeats 1000000 in
theorem rdiv_32_01 (a b Y Q R q r : Nat) (H1 : BitIs a 31 0) (H2 : BitIs b 31 1) (H4 : MinusIs b 32 Y) (H6 : MinusIs Q 32 q) (hq : IntKind.u64.wrap ((a : Int) / (Y : Int)) = (Q : Int)) (hr : (a : Int) % (Y : Int) = (R : Int)) (h0 : ((Y : Int) == 0) = false) (h0n : Y ≠ 0) (W : World) :
    Calls Tryd.prog 29 #[.int .i64 32, .int .u64 a, .int .u64 b] W (Three q R false W) := by
  have hB : Below W.heap.size W W := Below.refl _ _
  try unfold BitIs at *
  try unfold MinusIs at *
  have H1H := Lib.hid H1
  clear H1
  have H2H := Lib.hid H2
  clear H2
  have H4H := Lib.hid H4
  clear H4
  have H6H := Lib.hid H6
  clear H6
  go_enter Tryd.func29, Tryd.ntmps29
  go_wp2_with (first
    | (go_at_call 37; ((with_reducible refine (H1H.out _).mono ?_); rintro e w1 ⟨rfl, rfl⟩))
    | (go_at_call 37; ((with_reducible refine (H2H.out _).mono ?_); rintro e w1 ⟨rfl, rfl⟩))
    | (go_at_call 38; ((with_reducible refine (H4H.out _).mono ?_); rintro e w1 ⟨rfl, hb1⟩; have hB := below_trans hB hb1))
    | (go_at_call 38; ((with_reducible refine (H6H.out _).mono ?_); rintro e w1 ⟨rfl, hb1⟩; have hB := below_trans hB hb1)))
  go_ret3
  exact ⟨rfl, hB⟩
set_option maxHeartbeats 1000000 in
theorem rdiv_32_10 (a b X Q R q r : Nat) (H1 : BitIs a 31 1) (H2 : BitIs b 31 0) (H3 : MinusIs a 32 X) (H6 : MinusIs Q 32 q) (H7 : MinusIs R 32 r) (hq : IntKind.u64.wrap ((X : Int) / (b : Int)) = (Q : Int)) (hr : (X : Int) % (b : Int) = (R : Int)) (h0 : ((b : Int) == 0) = false) (h0n : b ≠ 0) (W : World) :
    Calls Tryd.prog 29 #[.int .i64 32, .int .u64 a, .int .u64 b] W (Three q r false W) := by
  have hB : Below W.heap.size W W := Below.refl _ _
  try unfold BitIs at *
  try unfold MinusIs at *
  have H1H := Lib.hid H1
  clear H1
  have H2H := Lib.hid H2
  clear H2
  have H3H := Lib.hid H3
  clear H3
  have H6H := Lib.hid H6
  clear H6
  have H7H := Lib.hid H7
  clear H7
  go_enter Tryd.func29, Tryd.ntmps29
  go_wp2_with (first
    | (go_at_call 37; ((with_reducible refine (H1H.out _).mono ?_); rintro e w1 ⟨rfl, rfl⟩))
    | (go_at_call 37; ((with_reducible refine (H2H.out _).mono ?_); rintro e w1 ⟨rfl, rfl⟩))
    | (go_at_call 38; ((with_reducible refine (H3H.out _).mono ?_); rintro e w1 ⟨rfl, hb1⟩; have hB := below_trans hB hb1))
    | (go_at_call 38; ((with_reducible refine (H6H.out _).mono ?_); rintro e w1 ⟨rfl, hb1⟩; have hB := below_trans hB hb1))
    | (go_at_call 38; ((with_reducible refine (H7H.out _).mono ?_); rintro e w1 ⟨rfl, hb1⟩; have hB := below_trans hB hb1)))
  go_ret3
  exact ⟨rfl, hB⟩
set_option maxHeartbeats 1000000 in
theorem rdiv_32_11 (a b X Y Q R q r : Nat) (H1 : BitIs a 31 1) (H2 : BitIs b 31 1) (H3 : MinusIs a 32 X) (H4 : MinusIs b 32 Y) (t : Nat) (H5 : BitIs Q 31 t) (H7 : MinusIs R 32 r) (hq : IntKind.u64.wrap ((X : Int) / (Y : Int)) = (Q : Int)) (hr : (X : Int) % (Y : Int) = (R : Int)) (h0 : ((Y : Int) == 0) = false) (h0n : Y ≠ 0) (W : World) :
    Calls Tryd.prog 29 #[.int .i64 32, .int .u64 a, .int .u64 b] W (Three Q r ((t : Int) == 1) W) := by
  have hB : Below W.heap.size W W := Below.refl _ _
  try unfold BitIs at *
  try unfold MinusIs at *
  have H1H := Lib.hid H1
  clear H1
  have H2H := Lib.hid H2
  clear H2
  have H3H := Lib.hid H3
  clear H3
  have H4H := Lib.hid H4
  clear H4
  have H5H := Lib.hid H5
  clear H5
  have H7H := Lib.hid H7
  clear H7
  go_enter Tryd.func29, Tryd.ntmps29
  go_wp2_with (first
    | (go_at_call 37; ((with_reducible refine (H1H.out _).mono ?_); rintro e w1 ⟨rfl, rfl⟩))
    | (go_at_call 37; ((with_reducible refine (H2H.out _).mono ?_); rintro e w1 ⟨rfl, rfl⟩))
    | (go_at_call 37; ((with_reducible refine (H5H.out _).mono ?_); rintro e w1 ⟨rfl, rfl⟩))
    | (go_at_call 38; ((with_reducible refine (H3H.out _).mono ?_); rintro e w1 ⟨rfl, hb1⟩; have hB := below_trans hB hb1))
    | (go_at_call 38; ((with_reducible refine (H4H.out _).mono ?_); rintro e w1 ⟨rfl, hb1⟩; have hB := below_trans hB hb1))
    | (go_at_call 38; ((with_reducible refine (H7H.out _).mono ?_); rintro e w1 ⟨rfl, hb1⟩; have hB := below_trans hB hb1)))
  go_ret3
  exact ⟨rfl, hB⟩
set_option maxHeartbeats 1000000 in
theorem rdiv_64_00 (a b Q R q r : Nat) (H1 : BitIs a 63 0) (H2 : BitIs b 63 0) (t : Nat) (H5 : BitIs Q 63 t) (hq : IntKind.u64.wrap ((a : Int) / (b : Int)) = (Q : Int)) (hr : (a : Int) % (b : Int) = (R : Int)) (h0 : ((b : Int) == 0) = false) (h0n : b ≠ 0) (W : World) :
    Calls Tryd.prog 29 #[.int .i64 64, .int .u64 a, .int .u64 b] W (Three Q R ((t : Int) == 1) W) := by
  have hB : Below W.heap.size W W := Below.refl _ _
  try unfold BitIs at *
  try unfold MinusIs at *
  have H1H := Lib.hid H1
  clear H1
  have H2H := Lib.hid H2
  clear H2
  have H5H := Lib.hid H5
  clear H5
  go_enter Tryd.func29, Tryd.ntmps29
  go_wp2_with (first
    | (go_at_call 37; ((with_reducible refine (H1H.out _).mono ?_); rintro e w1 ⟨rfl, rfl⟩))
    | (go_at_call 37; ((with_reducible refine (H2H.out _).mono ?_); rintro e w1 ⟨rfl, rfl⟩))
    | (go_at_call 37; ((with_reducible refine (H5H.out _).mono ?_); rintro e w1 ⟨rfl, rfl⟩)))
  go_ret3
  exact ⟨rfl, hB⟩
set_option maxHeartbeats 1000000 in
theorem rdiv_64_01 (a b Y Q R q r : Nat) (H1 : BitIs a 63 0) (H2 : BitIs b 63 1) (H4 : MinusIs b 64 Y) (H6 : MinusIs Q 64 q) (hq : IntKind.u64.wrap ((a : Int) / (Y : Int)) = (Q : Int)) (hr : (a : Int) % (Y : Int) = (R : Int)) (h0 : ((Y : Int) == 0) = false) (h0n : Y ≠ 0) (W : World) :
    Calls Tryd.prog 29 #[.int .i64 64, .int .u64 a, .int .u64 b] W (Three q R false W) := by
  have hB : Below W.heap.size W W := Below.refl _ _
  try unfold BitIs at *
  try unfold MinusIs at *
  have H1H := Lib.hid H1
  clear H1
  have H2H := Lib.hid H2
  clear H2
  have H4H := Lib.hid H4
  clear H4
  have H6H := Lib.hid H6
  clear H6
  go_enter Tryd.func29, Tryd.ntmps29
  go_wp2_with (first
    | (go_at_call 37; ((with_reducible refine (H1H.out _).mono ?_); rintro e w1 ⟨rfl, rfl⟩))
    | (go_at_call 37; ((with_reducible refine (H2H.out _).mono ?_); rintro e w1 ⟨rfl, rfl⟩))
    | (go_at_call 38; ((with_reducible refine (H4H.out _).mono ?_); rintro e w1 ⟨rfl, hb1⟩; have hB := below_trans hB hb1))
    | (go_at_call 38; ((with_reducible refine (H6H.out _).mono ?_); rintro e w1 ⟨rfl, hb1⟩; have hB := below_trans hB hb1)))
  go_ret3
  exact ⟨rfl, hB⟩
set_option maxHeartbeats 1000000 in
theorem rdiv_64_10 (a b X Q R q r : Nat) (H1 : BitIs a 63 1) (H2 : BitIs b 63 0) (H3 : MinusIs a 64 X) (H6 : MinusIs Q 64 q) (H7 : MinusIs R 64 r) (hq : IntKind.u64.wrap ((X : Int) / (b : Int)) = (Q : Int)) (hr : (X : Int) % (b : Int) = (R : Int)) (h0 : ((b : Int) == 0) = false) (h0n : b ≠ 0) (W : World) :
    Calls Tryd.prog 29 #[.int .i64 64, .int .u64 a, .int .u64 b] W (Three q r false W) := by
  have hB : Below W.heap.size W W := Below.refl _ _
  try unfold BitIs at *
  try unfold MinusIs at *
  have H1H := Lib.hid H1
  clear H1
  have H2H := Lib.hid H2
  clear H2
  have H3H := Lib.hid H3
  clear H3
  have H6H := Lib.hid H6
  clear H6
  have H7H := Lib.hid H7
  clear H7
  go_enter Tryd.func29, Tryd.ntmps29
  go_wp2_with (first
    | (go_at_call 37; ((with_reducible refine (H1H.out _).mono ?_); rintro e w1 ⟨rfl, rfl⟩))
    | (go_at_call 37; ((with_reducible refine (H2H.out _).mono ?_); rintro e w1 ⟨rfl, rfl⟩))
    | (go_at_call 38; ((with_reducible refine (H3H.out _).mono ?_); rintro e w1 ⟨rfl, hb1⟩; have hB := below_trans hB hb1))
    | (go_at_call 38; ((with_reducible refine (H6H.out _).mono ?_); rintro e w1 ⟨rfl, hb1⟩; have hB := below_trans hB hb1))
    | (go_at_call 38; ((with_reducible refine (H7H.out _).mono ?_); rintro e w1 ⟨rfl, hb1⟩; have hB := below_trans hB hb1)))
  go_ret3
  exact ⟨rfl, hB⟩
set_option maxHeartbeats 1000000 in
theorem rdiv_64_11 (a b X Y Q R q r : Nat) (H1 : BitIs a 63 1) (H2 : BitIs b 63 1) (H3 : MinusIs a 64 X) (H4 : MinusIs b 64 Y) (t : Nat) (H5 : BitIs Q 63 t) (H7 : MinusIs R 64 r) (hq : IntKind.u64.wrap ((X : Int) / (Y : Int)) = (Q : Int)) (hr : (X : Int) % (Y : Int) = (R : Int)) (h0 : ((Y : Int) == 0) = false) (h0n : Y ≠ 0) (W : World) :
    Calls Tryd.prog 29 #[.int .i64 64, .int .u64 a, .int .u64 b] W (Three Q r ((t : Int) == 1) W) := by
  have hB : Below W.heap.size W W := Below.refl _ _
  try unfold BitIs at *
  try unfold MinusIs at *
  have H1H := Lib.hid H1
  clear H1
  have H2H := Lib.hid H2
  clear H2
  have H3H := Lib.hid H3
  clear H3
  have H4H := Lib.hid H4
  clear H4
  have H5H := Lib.hid H5
  clear H5
  have H7H := Lib.hid H7
  clear H7
  go_enter Tryd.func29, Tryd.ntmps29
  go_wp2_with (first
    | (go_at_call 37; ((with_reducible refine (H1H.out _).mono ?_); rintro e w1 ⟨rfl, rfl⟩))
    | (go_at_call 37; ((with_reducible refine (H2H.out _).mono ?_); rintro e w1 ⟨rfl, rfl⟩))
    | (go_at_call 37; ((with_reducible refine (H5H.out _).mono ?_); rintro e w1 ⟨rfl, rfl⟩))
    | (go_at_call 38; ((with_reducible refine (H3H.out _).mono ?_); rintro e w1 ⟨rfl, hb1⟩; have hB := below_trans hB hb1))
    | (go_at_call 38; ((with_reducible refine (H4H.out _).mono ?_); rintro e w1 ⟨rfl, hb1⟩; have hB := below_trans hB hb1))
    | (go_at_call 38; ((with_reducible refine (H7H.out _).mono ?_); rintro e w1 ⟨rfl, hb1⟩; have hB := below_trans hB hb1)))
  go_ret3
  exact ⟨rfl, hB⟩
theorem rdivide_any (w : Nat) (v : Int) (h : Wd w v) (a : Nat) (ha : a < 2 ^ w) (b : Nat) (hb : b < 2 ^ w) (h0 : b ≠ 0) (W : World) :
    Calls Tryd.prog 29 #[.int .i64 v, .int .u64 a, .int .u64 b] W (Three (md w ((sg w a).tdiv (sg w b))) (md w ((sg w a).tmod (sg w b))) (decide (b = 2 ^ w - 1 ∧ a = 2 ^ (w - 1))) W) := by
  have h1 : 1 ≤ w := by rcases h with ⟨rfl, _⟩ | ⟨rfl, _⟩ <;> omega
  have h64 : w ≤ 64 := by rcases h with ⟨rfl, _⟩ | ⟨rfl, _⟩ <;> omega
  have hpw : 2 ^ w = 2 * 2 ^ (w - 1) := by
    obtain ⟨k, rfl⟩ : ∃ k, w = k + 1 := ⟨w - 1, by omega⟩
    rw [Nat.add_sub_cancel, Nat.pow_succ, Nat.mul_comm]
  have hp := Nat.two_pow_pos (w - 1)
  obtain ⟨dq, dr⟩ := div_cases w a b h1 ha hb h0
  have hov := over_top w a b h1 ha hb h0
  have la := mag_lt h1 ha
  have lb := mag_lt h1 hb
  have lq := Nat.div_le_self (mag w a) (mag w b)
  have lr := Nat.mod_le (mag w a) (mag w b)
  have ta := top_bit w a h1 ha
  have tb := top_bit w b h1 hb
  have wa := wd64 h ha
  have wb := wd64 h hb
  have mz : mag w b ≠ 0 := by unfold mag; split <;> omega
  have w64 : 2 ^ w ≤ 18446744073709551616 := Nat.pow_le_pow_right (by omega) h64
  have hwr := wrap_div (mag w a) (mag w b) (by omega)
  have hmr : ((mag w a : Nat) : Int) % ((mag w b : Nat) : Int) = ((mag w a % mag w b : Nat) : Int) := rfl
  have hz : (((mag w b : Nat) : Int) == 0) = false := by rw [beq_eq_false_iff_ne]; omega
  have BI : ∀ x t : Nat, x < 2 ^ w → x / 2 ^ (w - 1) % 2 = t → BitIs x (v - 1) t := fun x t hx ht W => Bit_is x (w - 1) t _ (by rcases h with ⟨rfl, rfl⟩ | ⟨rfl, rfl⟩ <;> rfl) (wd64 h hx) (by omega) W ht
  have MI : ∀ x : Nat, x < 2 ^ w → MinusIs x v (md w (-(x : Int))) := fun x hx W => rminus_any x w v (by rcases h with ⟨rfl, rfl⟩ | ⟨rfl, rfl⟩ <;> rfl) hx h64 W
  rw [dq, dr]
  rcases Nat.lt_or_ge a (2 ^ (w - 1)) with hal | hal <;> rcases Nat.lt_or_ge b (2 ^ (w - 1)) with hbl | hbl
  · have ea : mag w a = a := if_pos hal
    have eb : mag w b = b := if_pos hbl
    have ba := BI a 0 ha (by omega)
    have bb := BI b 0 hb (by omega)
    have hov := hov (by omega)
    have bq := BI (mag w a / mag w b) _ hov.2 rfl
    rw [if_pos (by omega)]
    rw [if_pos hal]
    have ho : ((((mag w a / mag w b / 2 ^ (w - 1) % 2 : Nat)) : Int) == 1) = decide (b = 2 ^ w - 1 ∧ a = 2 ^ (w - 1)) := by
      rw [Bool.eq_iff_iff, beq_iff_eq, decide_eq_true_eq, ← hov.1]; omega
    rw [← ho]
    rw [ea] at hwr hmr
    rw [ea] at *
    rw [eb] at hwr hmr hz mz
    rw [eb] at *
    rcases h with ⟨rfl, rfl⟩ | ⟨rfl, rfl⟩
    · exact rdiv_32_00 a b _ _ 0 0 ba bb _ bq hwr hmr hz mz W
    · exact rdiv_64_00 a b _ _ 0 0 ba bb _ bq hwr hmr hz mz W
  · have ea : mag w a = a := if_pos hal
    have eb : mag w b = 2 ^ w - b := if_neg (by omega)
    have ba := BI a 0 ha (by omega)
    have bb := BI b 1 hb (by omega)
    have mb := MI b hb
    rw [md_neg w b (by omega) hb, ← eb] at mb
    have mq := MI (mag w a / mag w b) (by omega)
    rw [if_neg (by omega)]
    rw [if_pos hal]
    have ho : decide (b = 2 ^ w - 1 ∧ a = 2 ^ (w - 1)) = false := by rw [decide_eq_false_iff_not]; omega
    rw [ho]
    rw [ea] at hwr hmr
    rw [ea] at *
    rcases h with ⟨rfl, rfl⟩ | ⟨rfl, rfl⟩
    · exact rdiv_32_01 a b _ _ _ _ 0 ba bb mb mq hwr hmr hz mz W
    · exact rdiv_64_01 a b _ _ _ _ 0 ba bb mb mq hwr hmr hz mz W
  · have ea : mag w a = 2 ^ w - a := if_neg (by omega)
    have eb : mag w b = b := if_pos hbl
    have ba := BI a 1 ha (by omega)
    have bb := BI b 0 hb (by omega)
    have ma := MI a ha
    rw [md_neg w a (by omega) ha, ← ea] at ma
    have mq := MI (mag w a / mag w b) (by omega)
    rw [if_neg (by omega)]
    have mr := MI (mag w a % mag w b) (by omega)
    rw [if_neg (by omega)]
    have ho : decide (b = 2 ^ w - 1 ∧ a = 2 ^ (w - 1)) = false := by rw [decide_eq_false_iff_not]; omega
    rw [ho]
    rw [eb] at hwr hmr hz mz
    rw [eb] at *
    rcases h with ⟨rfl, rfl⟩ | ⟨rfl, rfl⟩
    · exact rdiv_32_10 a b _ _ _ _ _ ba bb ma mq mr hwr hmr hz mz W
    · exact rdiv_64_10 a b _ _ _ _ _ ba bb ma mq mr hwr hmr hz mz W
  · have ea : mag w a = 2 ^ w - a := if_neg (by omega)
    have eb : mag w b = 2 ^ w - b := if_neg (by omega)
    have ba := BI a 1 ha (by omega)
    have bb := BI b 1 hb (by omega)
    have ma := MI a ha
    rw [md_neg w a (by omega) ha, ← ea] at ma
    have mb := MI b hb
    rw [md_neg w b (by omega) hb, ← eb] at mb
    have hov := hov (by omega)
    have bq := BI (mag w a / mag w b) _ hov.2 rfl
    rw [if_pos (by omega)]
    have mr := MI (mag w a % mag w b) (by omega)
    rw [if_neg (by omega)]
    have ho : ((((mag w a / mag w b / 2 ^ (w - 1) % 2 : Nat)) : Int) == 1) = decide (b = 2 ^ w - 1 ∧ a = 2 ^ (w - 1)) := by
      rw [Bool.eq_iff_iff, beq_iff_eq, decide_eq_true_eq, ← hov.1]; omega
    rw [← ho]
    rcases h with ⟨rfl, rfl⟩ | ⟨rfl, rfl⟩
    · exact rdiv_32_11 a b _ _ _ _ 0 _ ba bb ma mb _ bq mr hwr hmr hz mz W
    · exact rdiv_64_11 a b _ _ _ _ 0 _ ba bb ma mb _ bq mr hwr hmr hz mz W
end Go.Proofs.YtnhnbcjffnlicaaDoor

/-
  num: division and shifts as signed, walked.
-/
import Derived.Test.YtnhnbcjffnlicaaDoorNumA
namespace Go.Proofs.YtnhnbcjffnlicaaDoor
open Go.RowKit Num
set_option linter.unusedVariables false

set_option maxHeartbeats 2000000 in
theorem rDivS_any (w : Nat) (v : Int) (h : Wd w v) (a : Nat) (ha : a < 2 ^ w) (b : Nat) (hb : b < 2 ^ w) (h0 : b ≠ 0) (W : World) :
    Calls Tryd.prog 58 #[.agg #[.int .u64 a, .int .i64 v], .agg #[.int .u64 b, .int .i64 v]] W (Out (md 64 ((sg w a).tdiv (sg w b))) W) := by
  have hz := sg_ne h hb h0
  have hz0 := sg_ne0 h hb h0
  rcases h with ⟨rfl, rfl⟩ | ⟨rfl, rfl⟩
  · simp only [Nat.reducePow] at ha hb
    go_enter Tryd.func58, Tryd.ntmps58
    go_wp2_with fail
    go_region_with (first
      | (go_at_call 44; refine (signed_any 32 32 (.inl ⟨rfl, rfl⟩) _ (by assumption) _).mono ?_; rintro e W1 ⟨rfl, rfl⟩)
      | (go_at_call 68; refine (places_any 32 32 (.inl ⟨rfl, rfl⟩) _ _ (by assumption) _).mono ?_; rintro e W1 ⟨rfl, rfl⟩)
      | (go_at_call 40; refine (truth_any _ _).mono ?_; rintro e W1 ⟨rfl, rfl⟩))
    all_goals
      go_wp2
      go_ret
      refine out_int rfl ?bel ?val
      case bel => (repeat (first | exact Below.refl _ _ | refine Below.alloc ?_ (by simp; try omega) _ | refine Below.drew ?_))
      case val =>
        exact wrap_md' _
  · simp only [Nat.reducePow] at ha hb
    go_enter Tryd.func58, Tryd.ntmps58
    go_wp2_with fail
    go_region_with (first
      | (go_at_call 44; refine (signed_any 64 64 (.inr ⟨rfl, rfl⟩) _ (by assumption) _).mono ?_; rintro e W1 ⟨rfl, rfl⟩)
      | (go_at_call 68; refine (places_any 64 64 (.inr ⟨rfl, rfl⟩) _ _ (by assumption) _).mono ?_; rintro e W1 ⟨rfl, rfl⟩)
      | (go_at_call 40; refine (truth_any _ _).mono ?_; rintro e W1 ⟨rfl, rfl⟩))
    all_goals
      go_wp2
      go_ret
      refine out_int rfl ?bel ?val
      case bel => (repeat (first | exact Below.refl _ _ | refine Below.alloc ?_ (by simp; try omega) _ | refine Below.drew ?_))
      case val =>
        exact wrap_md' _

set_option maxHeartbeats 2000000 in
theorem rRemS_any (w : Nat) (v : Int) (h : Wd w v) (a : Nat) (ha : a < 2 ^ w) (b : Nat) (hb : b < 2 ^ w) (h0 : b ≠ 0) (W : World) :
    Calls Tryd.prog 62 #[.agg #[.int .u64 a, .int .i64 v], .agg #[.int .u64 b, .int .i64 v]] W (Out (md 64 ((sg w a).tmod (sg w b))) W) := by
  have hz := sg_ne h hb h0
  have hz0 := sg_ne0 h hb h0
  rcases h with ⟨rfl, rfl⟩ | ⟨rfl, rfl⟩
  · simp only [Nat.reducePow] at ha hb
    go_enter Tryd.func62, Tryd.ntmps62
    go_wp2_with fail
    go_region_with (first
      | (go_at_call 44; refine (signed_any 32 32 (.inl ⟨rfl, rfl⟩) _ (by assumption) _).mono ?_; rintro e W1 ⟨rfl, rfl⟩)
      | (go_at_call 68; refine (places_any 32 32 (.inl ⟨rfl, rfl⟩) _ _ (by assumption) _).mono ?_; rintro e W1 ⟨rfl, rfl⟩)
      | (go_at_call 40; refine (truth_any _ _).mono ?_; rintro e W1 ⟨rfl, rfl⟩))
    all_goals
      go_wp2
      go_ret
      refine out_int rfl ?bel ?val
      case bel => (repeat (first | exact Below.refl _ _ | refine Below.alloc ?_ (by simp; try omega) _ | refine Below.drew ?_))
      case val =>
        first | exact wrap_md' _ | exact wrap_md _
  · simp only [Nat.reducePow] at ha hb
    go_enter Tryd.func62, Tryd.ntmps62
    go_wp2_with fail
    go_region_with (first
      | (go_at_call 44; refine (signed_any 64 64 (.inr ⟨rfl, rfl⟩) _ (by assumption) _).mono ?_; rintro e W1 ⟨rfl, rfl⟩)
      | (go_at_call 68; refine (places_any 64 64 (.inr ⟨rfl, rfl⟩) _ _ (by assumption) _).mono ?_; rintro e W1 ⟨rfl, rfl⟩)
      | (go_at_call 40; refine (truth_any _ _).mono ?_; rintro e W1 ⟨rfl, rfl⟩))
    all_goals
      go_wp2
      go_ret
      refine out_int rfl ?bel ?val
      case bel => (repeat (first | exact Below.refl _ _ | refine Below.alloc ?_ (by simp; try omega) _ | refine Below.drew ?_))
      case val =>
        first | exact wrap_md' _ | exact wrap_md _

set_option maxHeartbeats 2000000 in
theorem rShl_any (w : Nat) (v : Int) (h : Wd w v) (a : Nat) (ha : a < 2 ^ w) (b : Nat) (hb : b < 2 ^ w) (W : World) :
    Calls Tryd.prog 67 #[.agg #[.int .u64 a, .int .i64 v], .agg #[.int .u64 b, .int .i64 v]] W (Out (a * 2 ^ (b % w) % 2 ^ 64) W) := by
  rcases h with ⟨rfl, rfl⟩ | ⟨rfl, rfl⟩
  · simp only [Nat.reducePow] at ha hb
    go_enter Tryd.func67, Tryd.ntmps67
    go_wp2_with fail
    go_region_with (first
      | (go_at_call 44; refine (signed_any 32 32 (.inl ⟨rfl, rfl⟩) _ (by assumption) _).mono ?_; rintro e W1 ⟨rfl, rfl⟩)
      | (go_at_call 68; refine (places_any 32 32 (.inl ⟨rfl, rfl⟩) _ _ (by assumption) _).mono ?_; rintro e W1 ⟨rfl, rfl⟩)
      | (go_at_call 40; refine (truth_any _ _).mono ?_; rintro e W1 ⟨rfl, rfl⟩))
    all_goals
      go_wp2
      go_ret
      refine out_int rfl ?bel ?val
      case bel => (repeat (first | exact Below.refl _ _ | refine Below.alloc ?_ (by simp; try omega) _ | refine Below.drew ?_))
      case val =>
        first | (rw [show ((b : Int) % 32).toNat = b % 32 by omega, pow_nat _ 0, IntKind.wrap_u64, ← Int.natCast_mul]; generalize a * 2 ^ (b % 32) = q; omega) | (rw [show ((b : Int) % 64).toNat = b % 64 by omega, pow_nat _ 0, IntKind.wrap_u64, ← Int.natCast_mul]; generalize a * 2 ^ (b % 64) = q; omega)
  · simp only [Nat.reducePow] at ha hb
    go_enter Tryd.func67, Tryd.ntmps67
    go_wp2_with fail
    go_region_with (first
      | (go_at_call 44; refine (signed_any 64 64 (.inr ⟨rfl, rfl⟩) _ (by assumption) _).mono ?_; rintro e W1 ⟨rfl, rfl⟩)
      | (go_at_call 68; refine (places_any 64 64 (.inr ⟨rfl, rfl⟩) _ _ (by assumption) _).mono ?_; rintro e W1 ⟨rfl, rfl⟩)
      | (go_at_call 40; refine (truth_any _ _).mono ?_; rintro e W1 ⟨rfl, rfl⟩))
    all_goals
      go_wp2
      go_ret
      refine out_int rfl ?bel ?val
      case bel => (repeat (first | exact Below.refl _ _ | refine Below.alloc ?_ (by simp; try omega) _ | refine Below.drew ?_))
      case val =>
        first | (rw [show ((b : Int) % 32).toNat = b % 32 by omega, pow_nat _ 0, IntKind.wrap_u64, ← Int.natCast_mul]; generalize a * 2 ^ (b % 32) = q; omega) | (rw [show ((b : Int) % 64).toNat = b % 64 by omega, pow_nat _ 0, IntKind.wrap_u64, ← Int.natCast_mul]; generalize a * 2 ^ (b % 64) = q; omega)

set_option maxHeartbeats 2000000 in
theorem rShrS_any (w : Nat) (v : Int) (h : Wd w v) (a : Nat) (ha : a < 2 ^ w) (b : Nat) (hb : b < 2 ^ w) (W : World) :
    Calls Tryd.prog 69 #[.agg #[.int .u64 a, .int .i64 v], .agg #[.int .u64 b, .int .i64 v]] W (Out (md 64 (sg w a / ((2 ^ (b % w) : Nat) : Int))) W) := by
  rcases h with ⟨rfl, rfl⟩ | ⟨rfl, rfl⟩
  · simp only [Nat.reducePow] at ha hb
    go_enter Tryd.func69, Tryd.ntmps69
    go_wp2_with fail
    go_region_with (first
      | (go_at_call 44; refine (signed_any 32 32 (.inl ⟨rfl, rfl⟩) _ (by assumption) _).mono ?_; rintro e W1 ⟨rfl, rfl⟩)
      | (go_at_call 68; refine (places_any 32 32 (.inl ⟨rfl, rfl⟩) _ _ (by assumption) _).mono ?_; rintro e W1 ⟨rfl, rfl⟩)
      | (go_at_call 40; refine (truth_any _ _).mono ?_; rintro e W1 ⟨rfl, rfl⟩))
    all_goals
      go_wp2
      go_ret
      refine out_int rfl ?bel ?val
      case bel => (repeat (first | exact Below.refl _ _ | refine Below.alloc ?_ (by simp; try omega) _ | refine Below.drew ?_))
      case val =>
        first | (rw [show ((b : Int) % 32).toNat = b % 32 by omega, pow_nat _ 0]; exact wrap_md _) | (rw [show ((b : Int) % 64).toNat = b % 64 by omega, pow_nat _ 0]; exact wrap_md _)
  · simp only [Nat.reducePow] at ha hb
    go_enter Tryd.func69, Tryd.ntmps69
    go_wp2_with fail
    go_region_with (first
      | (go_at_call 44; refine (signed_any 64 64 (.inr ⟨rfl, rfl⟩) _ (by assumption) _).mono ?_; rintro e W1 ⟨rfl, rfl⟩)
      | (go_at_call 68; refine (places_any 64 64 (.inr ⟨rfl, rfl⟩) _ _ (by assumption) _).mono ?_; rintro e W1 ⟨rfl, rfl⟩)
      | (go_at_call 40; refine (truth_any _ _).mono ?_; rintro e W1 ⟨rfl, rfl⟩))
    all_goals
      go_wp2
      go_ret
      refine out_int rfl ?bel ?val
      case bel => (repeat (first | exact Below.refl _ _ | refine Below.alloc ?_ (by simp; try omega) _ | refine Below.drew ?_))
      case val =>
        first | (rw [show ((b : Int) % 32).toNat = b % 32 by omega, pow_nat _ 0]; exact wrap_md _) | (rw [show ((b : Int) % 64).toNat = b % 64 by omega, pow_nat _ 0]; exact wrap_md _)

set_option maxHeartbeats 2000000 in
theorem rShrU_any (w : Nat) (v : Int) (h : Wd w v) (a : Nat) (ha : a < 2 ^ w) (b : Nat) (hb : b < 2 ^ w) (W : World) :
    Calls Tryd.prog 70 #[.agg #[.int .u64 a, .int .i64 v], .agg #[.int .u64 b, .int .i64 v]] W (Out (a / 2 ^ (b % w)) W) := by
  rcases h with ⟨rfl, rfl⟩ | ⟨rfl, rfl⟩
  · simp only [Nat.reducePow] at ha hb
    go_enter Tryd.func70, Tryd.ntmps70
    go_wp2_with fail
    go_region_with (first
      | (go_at_call 44; refine (signed_any 32 32 (.inl ⟨rfl, rfl⟩) _ (by assumption) _).mono ?_; rintro e W1 ⟨rfl, rfl⟩)
      | (go_at_call 68; refine (places_any 32 32 (.inl ⟨rfl, rfl⟩) _ _ (by assumption) _).mono ?_; rintro e W1 ⟨rfl, rfl⟩)
      | (go_at_call 40; refine (truth_any _ _).mono ?_; rintro e W1 ⟨rfl, rfl⟩))
    all_goals
      go_wp2
      go_ret
      refine out_int rfl ?bel ?val
      case bel => (repeat (first | exact Below.refl _ _ | refine Below.alloc ?_ (by simp; try omega) _ | refine Below.drew ?_))
      case val =>
        first | (rw [show ((b : Int) % 32).toNat = b % 32 by omega, pow_nat _ 0]; rfl) | (rw [show ((b : Int) % 64).toNat = b % 64 by omega, pow_nat _ 0]; rfl)
  · simp only [Nat.reducePow] at ha hb
    go_enter Tryd.func70, Tryd.ntmps70
    go_wp2_with fail
    go_region_with (first
      | (go_at_call 44; refine (signed_any 64 64 (.inr ⟨rfl, rfl⟩) _ (by assumption) _).mono ?_; rintro e W1 ⟨rfl, rfl⟩)
      | (go_at_call 68; refine (places_any 64 64 (.inr ⟨rfl, rfl⟩) _ _ (by assumption) _).mono ?_; rintro e W1 ⟨rfl, rfl⟩)
      | (go_at_call 40; refine (truth_any _ _).mono ?_; rintro e W1 ⟨rfl, rfl⟩))
    all_goals
      go_wp2
      go_ret
      refine out_int rfl ?bel ?val
      case bel => (repeat (first | exact Below.refl _ _ | refine Below.alloc ?_ (by simp; try omega) _ | refine Below.drew ?_))
      case val =>
        first | (rw [show ((b : Int) % 32).toNat = b % 32 by omega, pow_nat _ 0]; rfl) | (rw [show ((b : Int) % 64).toNat = b % 64 by omega, pow_nat _ 0]; rfl)
end Go.Proofs.YtnhnbcjffnlicaaDoor

/-
  num: what asks for the sign, walked.
-/
import Derived.Test.YtnhnbcjffnlicaaDoorNumA
namespace Go.Proofs.YtnhnbcjffnlicaaDoor
open Go.RowKit Num
set_option linter.unusedVariables false

set_option maxHeartbeats 2000000 in
theorem ask4_any (w : Nat) (v : Int) (h : Wd w v) (a : Nat) (ha : a < 2 ^ w) (b : Nat) (hb : b < 2 ^ w) (W : World) :
    Calls Tryd.prog 43 #[.agg #[.int .u64 a, .int .i64 v], .agg #[.int .u64 b, .int .i64 v]] W (Out (yes (decide (sg w a < sg w b))) W) := by
  rcases h with ⟨rfl, rfl⟩ | ⟨rfl, rfl⟩
  · simp only [Nat.reducePow] at ha hb
    go_enter Tryd.func43, Tryd.ntmps43
    go_wp2_with fail
    go_region_with (first
      | (go_at_call 44; refine (signed_any 32 32 (.inl ⟨rfl, rfl⟩) _ (by assumption) _).mono ?_; rintro e W1 ⟨rfl, rfl⟩)
      | (go_at_call 68; refine (places_any 32 32 (.inl ⟨rfl, rfl⟩) _ _ (by assumption) _).mono ?_; rintro e W1 ⟨rfl, rfl⟩)
      | (go_at_call 40; refine (truth_any _ _).mono ?_; rintro e W1 ⟨rfl, rfl⟩))
    all_goals
      go_wp2
      go_ret
      refine out_of rfl ?bel ?val
      case bel => (repeat (first | exact Below.refl _ _ | refine Below.alloc ?_ (by simp; try omega) _ | refine Below.drew ?_))
      case val =>
        show yes _ = yes _
        first | rfl | (congr 1; rw [Bool.eq_iff_iff]; simp; done) | (congr 1; rw [Bool.eq_iff_iff]; simp; omega)
  · simp only [Nat.reducePow] at ha hb
    go_enter Tryd.func43, Tryd.ntmps43
    go_wp2_with fail
    go_region_with (first
      | (go_at_call 44; refine (signed_any 64 64 (.inr ⟨rfl, rfl⟩) _ (by assumption) _).mono ?_; rintro e W1 ⟨rfl, rfl⟩)
      | (go_at_call 68; refine (places_any 64 64 (.inr ⟨rfl, rfl⟩) _ _ (by assumption) _).mono ?_; rintro e W1 ⟨rfl, rfl⟩)
      | (go_at_call 40; refine (truth_any _ _).mono ?_; rintro e W1 ⟨rfl, rfl⟩))
    all_goals
      go_wp2
      go_ret
      refine out_of rfl ?bel ?val
      case bel => (repeat (first | exact Below.refl _ _ | refine Below.alloc ?_ (by simp; try omega) _ | refine Below.drew ?_))
      case val =>
        show yes _ = yes _
        first | rfl | (congr 1; rw [Bool.eq_iff_iff]; simp; done) | (congr 1; rw [Bool.eq_iff_iff]; simp; omega)

set_option maxHeartbeats 2000000 in
theorem ask6_any (w : Nat) (v : Int) (h : Wd w v) (a : Nat) (ha : a < 2 ^ w) (b : Nat) (hb : b < 2 ^ w) (W : World) :
    Calls Tryd.prog 46 #[.agg #[.int .u64 a, .int .i64 v], .agg #[.int .u64 b, .int .i64 v]] W (Out (yes (decide (sg w b < sg w a))) W) := by
  rcases h with ⟨rfl, rfl⟩ | ⟨rfl, rfl⟩
  · simp only [Nat.reducePow] at ha hb
    go_enter Tryd.func46, Tryd.ntmps46
    go_wp2_with fail
    go_region_with (first
      | (go_at_call 44; refine (signed_any 32 32 (.inl ⟨rfl, rfl⟩) _ (by assumption) _).mono ?_; rintro e W1 ⟨rfl, rfl⟩)
      | (go_at_call 68; refine (places_any 32 32 (.inl ⟨rfl, rfl⟩) _ _ (by assumption) _).mono ?_; rintro e W1 ⟨rfl, rfl⟩)
      | (go_at_call 40; refine (truth_any _ _).mono ?_; rintro e W1 ⟨rfl, rfl⟩))
    all_goals
      go_wp2
      go_ret
      refine out_of rfl ?bel ?val
      case bel => (repeat (first | exact Below.refl _ _ | refine Below.alloc ?_ (by simp; try omega) _ | refine Below.drew ?_))
      case val =>
        show yes _ = yes _
        first | rfl | (congr 1; rw [Bool.eq_iff_iff]; simp; done) | (congr 1; rw [Bool.eq_iff_iff]; simp; omega)
  · simp only [Nat.reducePow] at ha hb
    go_enter Tryd.func46, Tryd.ntmps46
    go_wp2_with fail
    go_region_with (first
      | (go_at_call 44; refine (signed_any 64 64 (.inr ⟨rfl, rfl⟩) _ (by assumption) _).mono ?_; rintro e W1 ⟨rfl, rfl⟩)
      | (go_at_call 68; refine (places_any 64 64 (.inr ⟨rfl, rfl⟩) _ _ (by assumption) _).mono ?_; rintro e W1 ⟨rfl, rfl⟩)
      | (go_at_call 40; refine (truth_any _ _).mono ?_; rintro e W1 ⟨rfl, rfl⟩))
    all_goals
      go_wp2
      go_ret
      refine out_of rfl ?bel ?val
      case bel => (repeat (first | exact Below.refl _ _ | refine Below.alloc ?_ (by simp; try omega) _ | refine Below.drew ?_))
      case val =>
        show yes _ = yes _
        first | rfl | (congr 1; rw [Bool.eq_iff_iff]; simp; done) | (congr 1; rw [Bool.eq_iff_iff]; simp; omega)

set_option maxHeartbeats 2000000 in
theorem ask8_any (w : Nat) (v : Int) (h : Wd w v) (a : Nat) (ha : a < 2 ^ w) (b : Nat) (hb : b < 2 ^ w) (W : World) :
    Calls Tryd.prog 48 #[.agg #[.int .u64 a, .int .i64 v], .agg #[.int .u64 b, .int .i64 v]] W (Out (yes (decide (sg w a ≤ sg w b))) W) := by
  rcases h with ⟨rfl, rfl⟩ | ⟨rfl, rfl⟩
  · simp only [Nat.reducePow] at ha hb
    go_enter Tryd.func48, Tryd.ntmps48
    go_wp2_with fail
    go_region_with (first
      | (go_at_call 44; refine (signed_any 32 32 (.inl ⟨rfl, rfl⟩) _ (by assumption) _).mono ?_; rintro e W1 ⟨rfl, rfl⟩)
      | (go_at_call 68; refine (places_any 32 32 (.inl ⟨rfl, rfl⟩) _ _ (by assumption) _).mono ?_; rintro e W1 ⟨rfl, rfl⟩)
      | (go_at_call 40; refine (truth_any _ _).mono ?_; rintro e W1 ⟨rfl, rfl⟩))
    all_goals
      go_wp2
      go_ret
      refine out_of rfl ?bel ?val
      case bel => (repeat (first | exact Below.refl _ _ | refine Below.alloc ?_ (by simp; try omega) _ | refine Below.drew ?_))
      case val =>
        show yes _ = yes _
        first | rfl | (congr 1; rw [Bool.eq_iff_iff]; simp; done) | (congr 1; rw [Bool.eq_iff_iff]; simp; omega)
  · simp only [Nat.reducePow] at ha hb
    go_enter Tryd.func48, Tryd.ntmps48
    go_wp2_with fail
    go_region_with (first
      | (go_at_call 44; refine (signed_any 64 64 (.inr ⟨rfl, rfl⟩) _ (by assumption) _).mono ?_; rintro e W1 ⟨rfl, rfl⟩)
      | (go_at_call 68; refine (places_any 64 64 (.inr ⟨rfl, rfl⟩) _ _ (by assumption) _).mono ?_; rintro e W1 ⟨rfl, rfl⟩)
      | (go_at_call 40; refine (truth_any _ _).mono ?_; rintro e W1 ⟨rfl, rfl⟩))
    all_goals
      go_wp2
      go_ret
      refine out_of rfl ?bel ?val
      case bel => (repeat (first | exact Below.refl _ _ | refine Below.alloc ?_ (by simp; try omega) _ | refine Below.drew ?_))
      case val =>
        show yes _ = yes _
        first | rfl | (congr 1; rw [Bool.eq_iff_iff]; simp; done) | (congr 1; rw [Bool.eq_iff_iff]; simp; omega)

set_option maxHeartbeats 2000000 in
theorem ask10_any (w : Nat) (v : Int) (h : Wd w v) (a : Nat) (ha : a < 2 ^ w) (b : Nat) (hb : b < 2 ^ w) (W : World) :
    Calls Tryd.prog 50 #[.agg #[.int .u64 a, .int .i64 v], .agg #[.int .u64 b, .int .i64 v]] W (Out (yes (decide (sg w b ≤ sg w a))) W) := by
  rcases h with ⟨rfl, rfl⟩ | ⟨rfl, rfl⟩
  · simp only [Nat.reducePow] at ha hb
    go_enter Tryd.func50, Tryd.ntmps50
    go_wp2_with fail
    go_region_with (first
      | (go_at_call 44; refine (signed_any 32 32 (.inl ⟨rfl, rfl⟩) _ (by assumption) _).mono ?_; rintro e W1 ⟨rfl, rfl⟩)
      | (go_at_call 68; refine (places_any 32 32 (.inl ⟨rfl, rfl⟩) _ _ (by assumption) _).mono ?_; rintro e W1 ⟨rfl, rfl⟩)
      | (go_at_call 40; refine (truth_any _ _).mono ?_; rintro e W1 ⟨rfl, rfl⟩))
    all_goals
      go_wp2
      go_ret
      refine out_of rfl ?bel ?val
      case bel => (repeat (first | exact Below.refl _ _ | refine Below.alloc ?_ (by simp; try omega) _ | refine Below.drew ?_))
      case val =>
        show yes _ = yes _
        first | rfl | (congr 1; rw [Bool.eq_iff_iff]; simp; done) | (congr 1; rw [Bool.eq_iff_iff]; simp; omega)
  · simp only [Nat.reducePow] at ha hb
    go_enter Tryd.func50, Tryd.ntmps50
    go_wp2_with fail
    go_region_with (first
      | (go_at_call 44; refine (signed_any 64 64 (.inr ⟨rfl, rfl⟩) _ (by assumption) _).mono ?_; rintro e W1 ⟨rfl, rfl⟩)
      | (go_at_call 68; refine (places_any 64 64 (.inr ⟨rfl, rfl⟩) _ _ (by assumption) _).mono ?_; rintro e W1 ⟨rfl, rfl⟩)
      | (go_at_call 40; refine (truth_any _ _).mono ?_; rintro e W1 ⟨rfl, rfl⟩))
    all_goals
      go_wp2
      go_ret
      refine out_of rfl ?bel ?val
      case bel => (repeat (first | exact Below.refl _ _ | refine Below.alloc ?_ (by simp; try omega) _ | refine Below.drew ?_))
      case val =>
        show yes _ = yes _
        first | rfl | (congr 1; rw [Bool.eq_iff_iff]; simp; done) | (congr 1; rw [Bool.eq_iff_iff]; simp; omega)
end Go.Proofs.YtnhnbcjffnlicaaDoor

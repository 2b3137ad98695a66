/-
  num's functions in fields, walked: each by a contract of its own.
-/
import Derived.Test.YtnhnbcjffnlicaaDoorKit
import Derived.Test.YtnhnbcjffnlicaaDoorNum
import Derived.Laws.BitsAllLaws
import Derived.Laws.Bits64b
import Derived.Deep.RegionWith
namespace Go.Proofs.YtnhnbcjffnlicaaDoor
open Go.RowKit Num
set_option linter.unusedVariables false
theorem below_trans {w b c : World} (h : Below w.heap.size w b) (k : Below b.heap.size b c) : Below w.heap.size w c := h.trans (k.mono h.size)
theorem truth_any (c : Bool) (W : World) : Calls Tryd.prog 40 #[.bool c] W fun e W' => e = .returned (.int .u64 (yes c : Int)) ∧ W = W' := by
  cases c
  all_goals
    go_enter Tryd.func40, Tryd.ntmps40
    go_wp2
    go_ret
    exact ⟨rfl, rfl⟩
def Out (r : Nat) (W : World) (e : Ending) (W' : World) : Prop := e = .returned (.int .u64 (r : Int)) ∧ Below W.heap.size W W'
theorem out_of {r s : Nat} {W W' : World} {e : Ending} (h : e = .returned (.int .u64 (r : Int))) (hb : Below W.heap.size W W') (hr : r = s) : Out s W e W' := by subst hr; exact ⟨h, hb⟩
theorem out_int {s : Nat} {z : Int} {W W' : World} {e : Ending} (h : e = .returned (.int .u64 z)) (hb : Below W.heap.size W W') (hz : z = (s : Int)) : Out s W e W' := by subst hz; exact ⟨h, hb⟩
theorem signed_any (w : Nat) (v : Int) (h : Wd w v) (a : Nat) (ha : a < 2 ^ w) (W : World) :
    Calls Tryd.prog 44 #[.agg #[.int .u64 a, .int .i64 v]] W fun e W' => e = .returned (.int .i64 (sg w a)) ∧ W' = W.alloc (.cells #[.int .u64 a, .int .i64 v] 52) := by
  rcases h with ⟨rfl, rfl⟩ | ⟨rfl, rfl⟩
  all_goals
    simp only [Nat.reducePow] at ha
    go_enter Tryd.func44, Tryd.ntmps44
    go_wp2
    go_ret
  · refine ⟨ret_int ?_, rfl⟩
    rw [sg32]
    unfold wrap64
    split <;> omega
  · refine ⟨ret_int ?_, rfl⟩
    rw [sg64]
    unfold wrap64
    split <;> omega
theorem places_any (w : Nat) (v : Int) (h : Wd w v) (a : Nat) (b : Nat) (hb : b < 2 ^ w) (W : World) :
    Calls Tryd.prog 68 #[.agg #[.int .u64 a, .int .i64 v], .agg #[.int .u64 b, .int .i64 v]] W fun e W' => e = .returned (.int .i64 (b % w : Nat)) ∧ W' = (W.alloc (.cells #[.int .u64 a, .int .i64 v] 52)).alloc (.cells #[.int .u64 b, .int .i64 v] 52) := by
  rcases h with ⟨rfl, rfl⟩ | ⟨rfl, rfl⟩
  all_goals
    simp only [Nat.reducePow] at hb
    go_enter Tryd.func68, Tryd.ntmps68
    go_wp2
    go_ret
    exact ⟨rfl, rfl⟩
theorem wrap_md (z : Int) : IntKind.u64.wrap z = (md 64 z : Int) := by rw [IntKind.wrap_u64, md64]; omega
theorem wrap_md' (z : Int) : IntKind.u64.wrap (IntKind.i64.wrap z) = (md 64 z : Int) := by
  rw [IntKind.wrap_u64, md64]
  have e : IntKind.i64.wrap z % 18446744073709551616 = z % 18446744073709551616 := by
    simp only [IntKind.wrap, IntKind.bits, IntKind.signed, Bool.true_and]
    split <;> omega
  rw [e]; omega
theorem sg_ne {w v b} (h : Wd w v) (hb : b < 2 ^ w) (h0 : b ≠ 0) : (sg w b == 0) = false := by
  rcases h with ⟨rfl, rfl⟩ | ⟨rfl, rfl⟩
  · rw [sg32, beq_eq_false_iff_ne]; split <;> omega
  · rw [sg64, beq_eq_false_iff_ne]; split <;> omega
theorem sg_ne0 {w v b} (h : Wd w v) (hb : b < 2 ^ w) (h0 : b ≠ 0) : sg w b ≠ 0 := by simpa using sg_ne h hb h0
theorem pow_nat (b k : Nat) : ((2 : Int) ^ b) = ((2 ^ b : Nat) : Int) := by simp
theorem pow_w {b w : Nat} (k : Nat) (h : w ≤ 64) : 2 ^ (b % w) ≤ 2 ^ 63 ∨ w = 0 := by
  rcases Nat.eq_zero_or_pos w with h0 | h0
  · exact .inr h0
  · have := Nat.mod_lt b h0
    exact .inl (Nat.pow_le_pow_right (by omega) (by omega))

theorem ask1_any (w : Nat) (v : Int) (h : Wd w v) (a : Nat) (ha : a < 2 ^ w) (W : World) :
    Calls Tryd.prog 39 #[.agg #[.int .u64 a, .int .i64 v]] W (Out (yes (decide (a = 0))) W) := by
  rcases h with ⟨rfl, rfl⟩ | ⟨rfl, rfl⟩
  · simp only [Nat.reducePow] at ha
    go_enter Tryd.func39, Tryd.ntmps39
    go_wp2_with (first
      | (go_at_call 44; refine (signed_any 32 32 (.inl ⟨rfl, rfl⟩) _ (by assumption) _).mono ?_; rintro e W1 ⟨rfl, rfl⟩)
      | (go_at_call 68; refine (places_any 32 32 (.inl ⟨rfl, rfl⟩) _ _ (by assumption) _).mono ?_; rintro e W1 ⟨rfl, rfl⟩)
      | (go_at_call 40; refine (truth_any _ _).mono ?_; rintro e W1 ⟨rfl, rfl⟩))
    all_goals
      go_ret
      refine out_of rfl ?bel ?val
      case bel => (repeat (first | exact Below.refl _ _ | refine Below.alloc ?_ (by simp; try omega) _ | refine Below.drew ?_))
      case val =>
        show yes _ = yes _
        first | rfl | (congr 1; rw [Bool.eq_iff_iff]; simp; done) | (congr 1; rw [Bool.eq_iff_iff]; simp; omega)
  · simp only [Nat.reducePow] at ha
    go_enter Tryd.func39, Tryd.ntmps39
    go_wp2_with (first
      | (go_at_call 44; refine (signed_any 64 64 (.inr ⟨rfl, rfl⟩) _ (by assumption) _).mono ?_; rintro e W1 ⟨rfl, rfl⟩)
      | (go_at_call 68; refine (places_any 64 64 (.inr ⟨rfl, rfl⟩) _ _ (by assumption) _).mono ?_; rintro e W1 ⟨rfl, rfl⟩)
      | (go_at_call 40; refine (truth_any _ _).mono ?_; rintro e W1 ⟨rfl, rfl⟩))
    all_goals
      go_ret
      refine out_of rfl ?bel ?val
      case bel => (repeat (first | exact Below.refl _ _ | refine Below.alloc ?_ (by simp; try omega) _ | refine Below.drew ?_))
      case val =>
        show yes _ = yes _
        first | rfl | (congr 1; rw [Bool.eq_iff_iff]; simp; done) | (congr 1; rw [Bool.eq_iff_iff]; simp; omega)

theorem ask2_any (w : Nat) (v : Int) (h : Wd w v) (a : Nat) (ha : a < 2 ^ w) (b : Nat) (hb : b < 2 ^ w) (W : World) :
    Calls Tryd.prog 41 #[.agg #[.int .u64 a, .int .i64 v], .agg #[.int .u64 b, .int .i64 v]] W (Out (yes (decide (a = b))) W) := by
  rcases h with ⟨rfl, rfl⟩ | ⟨rfl, rfl⟩
  · simp only [Nat.reducePow] at ha hb
    go_enter Tryd.func41, Tryd.ntmps41
    go_wp2_with (first
      | (go_at_call 44; refine (signed_any 32 32 (.inl ⟨rfl, rfl⟩) _ (by assumption) _).mono ?_; rintro e W1 ⟨rfl, rfl⟩)
      | (go_at_call 68; refine (places_any 32 32 (.inl ⟨rfl, rfl⟩) _ _ (by assumption) _).mono ?_; rintro e W1 ⟨rfl, rfl⟩)
      | (go_at_call 40; refine (truth_any _ _).mono ?_; rintro e W1 ⟨rfl, rfl⟩))
    all_goals
      go_ret
      refine out_of rfl ?bel ?val
      case bel => (repeat (first | exact Below.refl _ _ | refine Below.alloc ?_ (by simp; try omega) _ | refine Below.drew ?_))
      case val =>
        show yes _ = yes _
        first | rfl | (congr 1; rw [Bool.eq_iff_iff]; simp; done) | (congr 1; rw [Bool.eq_iff_iff]; simp; omega)
  · simp only [Nat.reducePow] at ha hb
    go_enter Tryd.func41, Tryd.ntmps41
    go_wp2_with (first
      | (go_at_call 44; refine (signed_any 64 64 (.inr ⟨rfl, rfl⟩) _ (by assumption) _).mono ?_; rintro e W1 ⟨rfl, rfl⟩)
      | (go_at_call 68; refine (places_any 64 64 (.inr ⟨rfl, rfl⟩) _ _ (by assumption) _).mono ?_; rintro e W1 ⟨rfl, rfl⟩)
      | (go_at_call 40; refine (truth_any _ _).mono ?_; rintro e W1 ⟨rfl, rfl⟩))
    all_goals
      go_ret
      refine out_of rfl ?bel ?val
      case bel => (repeat (first | exact Below.refl _ _ | refine Below.alloc ?_ (by simp; try omega) _ | refine Below.drew ?_))
      case val =>
        show yes _ = yes _
        first | rfl | (congr 1; rw [Bool.eq_iff_iff]; simp; done) | (congr 1; rw [Bool.eq_iff_iff]; simp; omega)

theorem ask3_any (w : Nat) (v : Int) (h : Wd w v) (a : Nat) (ha : a < 2 ^ w) (b : Nat) (hb : b < 2 ^ w) (W : World) :
    Calls Tryd.prog 42 #[.agg #[.int .u64 a, .int .i64 v], .agg #[.int .u64 b, .int .i64 v]] W (Out (yes (decide (a ≠ b))) W) := by
  rcases h with ⟨rfl, rfl⟩ | ⟨rfl, rfl⟩
  · simp only [Nat.reducePow] at ha hb
    go_enter Tryd.func42, Tryd.ntmps42
    go_wp2_with (first
      | (go_at_call 44; refine (signed_any 32 32 (.inl ⟨rfl, rfl⟩) _ (by assumption) _).mono ?_; rintro e W1 ⟨rfl, rfl⟩)
      | (go_at_call 68; refine (places_any 32 32 (.inl ⟨rfl, rfl⟩) _ _ (by assumption) _).mono ?_; rintro e W1 ⟨rfl, rfl⟩)
      | (go_at_call 40; refine (truth_any _ _).mono ?_; rintro e W1 ⟨rfl, rfl⟩))
    all_goals
      go_ret
      refine out_of rfl ?bel ?val
      case bel => (repeat (first | exact Below.refl _ _ | refine Below.alloc ?_ (by simp; try omega) _ | refine Below.drew ?_))
      case val =>
        show yes _ = yes _
        first | rfl | (congr 1; rw [Bool.eq_iff_iff]; simp; done) | (congr 1; rw [Bool.eq_iff_iff]; simp; omega)
  · simp only [Nat.reducePow] at ha hb
    go_enter Tryd.func42, Tryd.ntmps42
    go_wp2_with (first
      | (go_at_call 44; refine (signed_any 64 64 (.inr ⟨rfl, rfl⟩) _ (by assumption) _).mono ?_; rintro e W1 ⟨rfl, rfl⟩)
      | (go_at_call 68; refine (places_any 64 64 (.inr ⟨rfl, rfl⟩) _ _ (by assumption) _).mono ?_; rintro e W1 ⟨rfl, rfl⟩)
      | (go_at_call 40; refine (truth_any _ _).mono ?_; rintro e W1 ⟨rfl, rfl⟩))
    all_goals
      go_ret
      refine out_of rfl ?bel ?val
      case bel => (repeat (first | exact Below.refl _ _ | refine Below.alloc ?_ (by simp; try omega) _ | refine Below.drew ?_))
      case val =>
        show yes _ = yes _
        first | rfl | (congr 1; rw [Bool.eq_iff_iff]; simp; done) | (congr 1; rw [Bool.eq_iff_iff]; simp; omega)

theorem ask5_any (w : Nat) (v : Int) (h : Wd w v) (a : Nat) (ha : a < 2 ^ w) (b : Nat) (hb : b < 2 ^ w) (W : World) :
    Calls Tryd.prog 45 #[.agg #[.int .u64 a, .int .i64 v], .agg #[.int .u64 b, .int .i64 v]] W (Out (yes (decide (a < b))) W) := by
  rcases h with ⟨rfl, rfl⟩ | ⟨rfl, rfl⟩
  · simp only [Nat.reducePow] at ha hb
    go_enter Tryd.func45, Tryd.ntmps45
    go_wp2_with (first
      | (go_at_call 44; refine (signed_any 32 32 (.inl ⟨rfl, rfl⟩) _ (by assumption) _).mono ?_; rintro e W1 ⟨rfl, rfl⟩)
      | (go_at_call 68; refine (places_any 32 32 (.inl ⟨rfl, rfl⟩) _ _ (by assumption) _).mono ?_; rintro e W1 ⟨rfl, rfl⟩)
      | (go_at_call 40; refine (truth_any _ _).mono ?_; rintro e W1 ⟨rfl, rfl⟩))
    all_goals
      go_ret
      refine out_of rfl ?bel ?val
      case bel => (repeat (first | exact Below.refl _ _ | refine Below.alloc ?_ (by simp; try omega) _ | refine Below.drew ?_))
      case val =>
        show yes _ = yes _
        first | rfl | (congr 1; rw [Bool.eq_iff_iff]; simp; done) | (congr 1; rw [Bool.eq_iff_iff]; simp; omega)
  · simp only [Nat.reducePow] at ha hb
    go_enter Tryd.func45, Tryd.ntmps45
    go_wp2_with (first
      | (go_at_call 44; refine (signed_any 64 64 (.inr ⟨rfl, rfl⟩) _ (by assumption) _).mono ?_; rintro e W1 ⟨rfl, rfl⟩)
      | (go_at_call 68; refine (places_any 64 64 (.inr ⟨rfl, rfl⟩) _ _ (by assumption) _).mono ?_; rintro e W1 ⟨rfl, rfl⟩)
      | (go_at_call 40; refine (truth_any _ _).mono ?_; rintro e W1 ⟨rfl, rfl⟩))
    all_goals
      go_ret
      refine out_of rfl ?bel ?val
      case bel => (repeat (first | exact Below.refl _ _ | refine Below.alloc ?_ (by simp; try omega) _ | refine Below.drew ?_))
      case val =>
        show yes _ = yes _
        first | rfl | (congr 1; rw [Bool.eq_iff_iff]; simp; done) | (congr 1; rw [Bool.eq_iff_iff]; simp; omega)

theorem ask7_any (w : Nat) (v : Int) (h : Wd w v) (a : Nat) (ha : a < 2 ^ w) (b : Nat) (hb : b < 2 ^ w) (W : World) :
    Calls Tryd.prog 47 #[.agg #[.int .u64 a, .int .i64 v], .agg #[.int .u64 b, .int .i64 v]] W (Out (yes (decide (b < a))) W) := by
  rcases h with ⟨rfl, rfl⟩ | ⟨rfl, rfl⟩
  · simp only [Nat.reducePow] at ha hb
    go_enter Tryd.func47, Tryd.ntmps47
    go_wp2_with (first
      | (go_at_call 44; refine (signed_any 32 32 (.inl ⟨rfl, rfl⟩) _ (by assumption) _).mono ?_; rintro e W1 ⟨rfl, rfl⟩)
      | (go_at_call 68; refine (places_any 32 32 (.inl ⟨rfl, rfl⟩) _ _ (by assumption) _).mono ?_; rintro e W1 ⟨rfl, rfl⟩)
      | (go_at_call 40; refine (truth_any _ _).mono ?_; rintro e W1 ⟨rfl, rfl⟩))
    all_goals
      go_ret
      refine out_of rfl ?bel ?val
      case bel => (repeat (first | exact Below.refl _ _ | refine Below.alloc ?_ (by simp; try omega) _ | refine Below.drew ?_))
      case val =>
        show yes _ = yes _
        first | rfl | (congr 1; rw [Bool.eq_iff_iff]; simp; done) | (congr 1; rw [Bool.eq_iff_iff]; simp; omega)
  · simp only [Nat.reducePow] at ha hb
    go_enter Tryd.func47, Tryd.ntmps47
    go_wp2_with (first
      | (go_at_call 44; refine (signed_any 64 64 (.inr ⟨rfl, rfl⟩) _ (by assumption) _).mono ?_; rintro e W1 ⟨rfl, rfl⟩)
      | (go_at_call 68; refine (places_any 64 64 (.inr ⟨rfl, rfl⟩) _ _ (by assumption) _).mono ?_; rintro e W1 ⟨rfl, rfl⟩)
      | (go_at_call 40; refine (truth_any _ _).mono ?_; rintro e W1 ⟨rfl, rfl⟩))
    all_goals
      go_ret
      refine out_of rfl ?bel ?val
      case bel => (repeat (first | exact Below.refl _ _ | refine Below.alloc ?_ (by simp; try omega) _ | refine Below.drew ?_))
      case val =>
        show yes _ = yes _
        first | rfl | (congr 1; rw [Bool.eq_iff_iff]; simp; done) | (congr 1; rw [Bool.eq_iff_iff]; simp; omega)

theorem ask9_any (w : Nat) (v : Int) (h : Wd w v) (a : Nat) (ha : a < 2 ^ w) (b : Nat) (hb : b < 2 ^ w) (W : World) :
    Calls Tryd.prog 49 #[.agg #[.int .u64 a, .int .i64 v], .agg #[.int .u64 b, .int .i64 v]] W (Out (yes (decide (a ≤ b))) W) := by
  rcases h with ⟨rfl, rfl⟩ | ⟨rfl, rfl⟩
  · simp only [Nat.reducePow] at ha hb
    go_enter Tryd.func49, Tryd.ntmps49
    go_wp2_with (first
      | (go_at_call 44; refine (signed_any 32 32 (.inl ⟨rfl, rfl⟩) _ (by assumption) _).mono ?_; rintro e W1 ⟨rfl, rfl⟩)
      | (go_at_call 68; refine (places_any 32 32 (.inl ⟨rfl, rfl⟩) _ _ (by assumption) _).mono ?_; rintro e W1 ⟨rfl, rfl⟩)
      | (go_at_call 40; refine (truth_any _ _).mono ?_; rintro e W1 ⟨rfl, rfl⟩))
    all_goals
      go_ret
      refine out_of rfl ?bel ?val
      case bel => (repeat (first | exact Below.refl _ _ | refine Below.alloc ?_ (by simp; try omega) _ | refine Below.drew ?_))
      case val =>
        show yes _ = yes _
        first | rfl | (congr 1; rw [Bool.eq_iff_iff]; simp; done) | (congr 1; rw [Bool.eq_iff_iff]; simp; omega)
  · simp only [Nat.reducePow] at ha hb
    go_enter Tryd.func49, Tryd.ntmps49
    go_wp2_with (first
      | (go_at_call 44; refine (signed_any 64 64 (.inr ⟨rfl, rfl⟩) _ (by assumption) _).mono ?_; rintro e W1 ⟨rfl, rfl⟩)
      | (go_at_call 68; refine (places_any 64 64 (.inr ⟨rfl, rfl⟩) _ _ (by assumption) _).mono ?_; rintro e W1 ⟨rfl, rfl⟩)
      | (go_at_call 40; refine (truth_any _ _).mono ?_; rintro e W1 ⟨rfl, rfl⟩))
    all_goals
      go_ret
      refine out_of rfl ?bel ?val
      case bel => (repeat (first | exact Below.refl _ _ | refine Below.alloc ?_ (by simp; try omega) _ | refine Below.drew ?_))
      case val =>
        show yes _ = yes _
        first | rfl | (congr 1; rw [Bool.eq_iff_iff]; simp; done) | (congr 1; rw [Bool.eq_iff_iff]; simp; omega)

theorem ask11_any (w : Nat) (v : Int) (h : Wd w v) (a : Nat) (ha : a < 2 ^ w) (b : Nat) (hb : b < 2 ^ w) (W : World) :
    Calls Tryd.prog 51 #[.agg #[.int .u64 a, .int .i64 v], .agg #[.int .u64 b, .int .i64 v]] W (Out (yes (decide (b ≤ a))) W) := by
  rcases h with ⟨rfl, rfl⟩ | ⟨rfl, rfl⟩
  · simp only [Nat.reducePow] at ha hb
    go_enter Tryd.func51, Tryd.ntmps51
    go_wp2_with (first
      | (go_at_call 44; refine (signed_any 32 32 (.inl ⟨rfl, rfl⟩) _ (by assumption) _).mono ?_; rintro e W1 ⟨rfl, rfl⟩)
      | (go_at_call 68; refine (places_any 32 32 (.inl ⟨rfl, rfl⟩) _ _ (by assumption) _).mono ?_; rintro e W1 ⟨rfl, rfl⟩)
      | (go_at_call 40; refine (truth_any _ _).mono ?_; rintro e W1 ⟨rfl, rfl⟩))
    all_goals
      go_ret
      refine out_of rfl ?bel ?val
      case bel => (repeat (first | exact Below.refl _ _ | refine Below.alloc ?_ (by simp; try omega) _ | refine Below.drew ?_))
      case val =>
        show yes _ = yes _
        first | rfl | (congr 1; rw [Bool.eq_iff_iff]; simp; done) | (congr 1; rw [Bool.eq_iff_iff]; simp; omega)
  · simp only [Nat.reducePow] at ha hb
    go_enter Tryd.func51, Tryd.ntmps51
    go_wp2_with (first
      | (go_at_call 44; refine (signed_any 64 64 (.inr ⟨rfl, rfl⟩) _ (by assumption) _).mono ?_; rintro e W1 ⟨rfl, rfl⟩)
      | (go_at_call 68; refine (places_any 64 64 (.inr ⟨rfl, rfl⟩) _ _ (by assumption) _).mono ?_; rintro e W1 ⟨rfl, rfl⟩)
      | (go_at_call 40; refine (truth_any _ _).mono ?_; rintro e W1 ⟨rfl, rfl⟩))
    all_goals
      go_ret
      refine out_of rfl ?bel ?val
      case bel => (repeat (first | exact Below.refl _ _ | refine Below.alloc ?_ (by simp; try omega) _ | refine Below.drew ?_))
      case val =>
        show yes _ = yes _
        first | rfl | (congr 1; rw [Bool.eq_iff_iff]; simp; done) | (congr 1; rw [Bool.eq_iff_iff]; simp; omega)

theorem rAdd_any (w : Nat) (v : Int) (h : Wd w v) (a : Nat) (ha : a < 2 ^ w) (b : Nat) (hb : b < 2 ^ w) (W : World) :
    Calls Tryd.prog 55 #[.agg #[.int .u64 a, .int .i64 v], .agg #[.int .u64 b, .int .i64 v]] W (Out ((a + b) % 2 ^ 64) W) := by
  rcases h with ⟨rfl, rfl⟩ | ⟨rfl, rfl⟩
  · simp only [Nat.reducePow] at ha hb
    go_enter Tryd.func55, Tryd.ntmps55
    go_wp2_with (first
      | (go_at_call 44; refine (signed_any 32 32 (.inl ⟨rfl, rfl⟩) _ (by assumption) _).mono ?_; rintro e W1 ⟨rfl, rfl⟩)
      | (go_at_call 68; refine (places_any 32 32 (.inl ⟨rfl, rfl⟩) _ _ (by assumption) _).mono ?_; rintro e W1 ⟨rfl, rfl⟩)
      | (go_at_call 40; refine (truth_any _ _).mono ?_; rintro e W1 ⟨rfl, rfl⟩))
    all_goals
      go_ret
      refine out_int rfl ?bel ?val
      case bel => (repeat (first | exact Below.refl _ _ | refine Below.alloc ?_ (by simp; try omega) _ | refine Below.drew ?_))
      case val =>
        first | omega | (rw [IntKind.wrap_u64]; omega)
  · simp only [Nat.reducePow] at ha hb
    go_enter Tryd.func55, Tryd.ntmps55
    go_wp2_with (first
      | (go_at_call 44; refine (signed_any 64 64 (.inr ⟨rfl, rfl⟩) _ (by assumption) _).mono ?_; rintro e W1 ⟨rfl, rfl⟩)
      | (go_at_call 68; refine (places_any 64 64 (.inr ⟨rfl, rfl⟩) _ _ (by assumption) _).mono ?_; rintro e W1 ⟨rfl, rfl⟩)
      | (go_at_call 40; refine (truth_any _ _).mono ?_; rintro e W1 ⟨rfl, rfl⟩))
    all_goals
      go_ret
      refine out_int rfl ?bel ?val
      case bel => (repeat (first | exact Below.refl _ _ | refine Below.alloc ?_ (by simp; try omega) _ | refine Below.drew ?_))
      case val =>
        first | omega | (rw [IntKind.wrap_u64]; omega)

theorem rSub_any (w : Nat) (v : Int) (h : Wd w v) (a : Nat) (ha : a < 2 ^ w) (b : Nat) (hb : b < 2 ^ w) (W : World) :
    Calls Tryd.prog 56 #[.agg #[.int .u64 a, .int .i64 v], .agg #[.int .u64 b, .int .i64 v]] W (Out (md 64 ((a : Int) - (b : Int))) W) := by
  rcases h with ⟨rfl, rfl⟩ | ⟨rfl, rfl⟩
  · simp only [Nat.reducePow] at ha hb
    go_enter Tryd.func56, Tryd.ntmps56
    go_wp2_with (first
      | (go_at_call 44; refine (signed_any 32 32 (.inl ⟨rfl, rfl⟩) _ (by assumption) _).mono ?_; rintro e W1 ⟨rfl, rfl⟩)
      | (go_at_call 68; refine (places_any 32 32 (.inl ⟨rfl, rfl⟩) _ _ (by assumption) _).mono ?_; rintro e W1 ⟨rfl, rfl⟩)
      | (go_at_call 40; refine (truth_any _ _).mono ?_; rintro e W1 ⟨rfl, rfl⟩))
    all_goals
      go_ret
      refine out_int rfl ?bel ?val
      case bel => (repeat (first | exact Below.refl _ _ | refine Below.alloc ?_ (by simp; try omega) _ | refine Below.drew ?_))
      case val =>
        exact wrap_md _
  · simp only [Nat.reducePow] at ha hb
    go_enter Tryd.func56, Tryd.ntmps56
    go_wp2_with (first
      | (go_at_call 44; refine (signed_any 64 64 (.inr ⟨rfl, rfl⟩) _ (by assumption) _).mono ?_; rintro e W1 ⟨rfl, rfl⟩)
      | (go_at_call 68; refine (places_any 64 64 (.inr ⟨rfl, rfl⟩) _ _ (by assumption) _).mono ?_; rintro e W1 ⟨rfl, rfl⟩)
      | (go_at_call 40; refine (truth_any _ _).mono ?_; rintro e W1 ⟨rfl, rfl⟩))
    all_goals
      go_ret
      refine out_int rfl ?bel ?val
      case bel => (repeat (first | exact Below.refl _ _ | refine Below.alloc ?_ (by simp; try omega) _ | refine Below.drew ?_))
      case val =>
        exact wrap_md _

theorem rMul_any (w : Nat) (v : Int) (h : Wd w v) (a : Nat) (ha : a < 2 ^ w) (b : Nat) (hb : b < 2 ^ w) (W : World) :
    Calls Tryd.prog 57 #[.agg #[.int .u64 a, .int .i64 v], .agg #[.int .u64 b, .int .i64 v]] W (Out (a * b % 2 ^ 64) W) := by
  rcases h with ⟨rfl, rfl⟩ | ⟨rfl, rfl⟩
  · simp only [Nat.reducePow] at ha hb
    go_enter Tryd.func57, Tryd.ntmps57
    go_wp2_with (first
      | (go_at_call 44; refine (signed_any 32 32 (.inl ⟨rfl, rfl⟩) _ (by assumption) _).mono ?_; rintro e W1 ⟨rfl, rfl⟩)
      | (go_at_call 68; refine (places_any 32 32 (.inl ⟨rfl, rfl⟩) _ _ (by assumption) _).mono ?_; rintro e W1 ⟨rfl, rfl⟩)
      | (go_at_call 40; refine (truth_any _ _).mono ?_; rintro e W1 ⟨rfl, rfl⟩))
    all_goals
      go_ret
      refine out_int rfl ?bel ?val
      case bel => (repeat (first | exact Below.refl _ _ | refine Below.alloc ?_ (by simp; try omega) _ | refine Below.drew ?_))
      case val =>
        rw [IntKind.wrap_u64, ← Int.natCast_mul]; generalize a * b = q; omega
  · simp only [Nat.reducePow] at ha hb
    go_enter Tryd.func57, Tryd.ntmps57
    go_wp2_with (first
      | (go_at_call 44; refine (signed_any 64 64 (.inr ⟨rfl, rfl⟩) _ (by assumption) _).mono ?_; rintro e W1 ⟨rfl, rfl⟩)
      | (go_at_call 68; refine (places_any 64 64 (.inr ⟨rfl, rfl⟩) _ _ (by assumption) _).mono ?_; rintro e W1 ⟨rfl, rfl⟩)
      | (go_at_call 40; refine (truth_any _ _).mono ?_; rintro e W1 ⟨rfl, rfl⟩))
    all_goals
      go_ret
      refine out_int rfl ?bel ?val
      case bel => (repeat (first | exact Below.refl _ _ | refine Below.alloc ?_ (by simp; try omega) _ | refine Below.drew ?_))
      case val =>
        rw [IntKind.wrap_u64, ← Int.natCast_mul]; generalize a * b = q; omega

theorem rDivU_any (w : Nat) (v : Int) (h : Wd w v) (a : Nat) (ha : a < 2 ^ w) (b : Nat) (hb : b < 2 ^ w) (h0 : b ≠ 0) (W : World) :
    Calls Tryd.prog 60 #[.agg #[.int .u64 a, .int .i64 v], .agg #[.int .u64 b, .int .i64 v]] W (Out (a / b) W) := by
  rcases h with ⟨rfl, rfl⟩ | ⟨rfl, rfl⟩
  · simp only [Nat.reducePow] at ha hb
    go_enter Tryd.func60, Tryd.ntmps60
    go_wp2_with (first
      | (go_at_call 44; refine (signed_any 32 32 (.inl ⟨rfl, rfl⟩) _ (by assumption) _).mono ?_; rintro e W1 ⟨rfl, rfl⟩)
      | (go_at_call 68; refine (places_any 32 32 (.inl ⟨rfl, rfl⟩) _ _ (by assumption) _).mono ?_; rintro e W1 ⟨rfl, rfl⟩)
      | (go_at_call 40; refine (truth_any _ _).mono ?_; rintro e W1 ⟨rfl, rfl⟩))
    all_goals
      go_ret
      refine out_int rfl ?bel ?val
      case bel => (repeat (first | exact Below.refl _ _ | refine Below.alloc ?_ (by simp; try omega) _ | refine Below.drew ?_))
      case val =>
        rw [IntKind.wrap_u64, ← Int.natCast_ediv]; have h9 := Nat.div_le_self a b; generalize a / b = q at h9 ⊢; omega
  · simp only [Nat.reducePow] at ha hb
    go_enter Tryd.func60, Tryd.ntmps60
    go_wp2_with (first
      | (go_at_call 44; refine (signed_any 64 64 (.inr ⟨rfl, rfl⟩) _ (by assumption) _).mono ?_; rintro e W1 ⟨rfl, rfl⟩)
      | (go_at_call 68; refine (places_any 64 64 (.inr ⟨rfl, rfl⟩) _ _ (by assumption) _).mono ?_; rintro e W1 ⟨rfl, rfl⟩)
      | (go_at_call 40; refine (truth_any _ _).mono ?_; rintro e W1 ⟨rfl, rfl⟩))
    all_goals
      go_ret
      refine out_int rfl ?bel ?val
      case bel => (repeat (first | exact Below.refl _ _ | refine Below.alloc ?_ (by simp; try omega) _ | refine Below.drew ?_))
      case val =>
        rw [IntKind.wrap_u64, ← Int.natCast_ediv]; have h9 := Nat.div_le_self a b; generalize a / b = q at h9 ⊢; omega

theorem rRemU_any (w : Nat) (v : Int) (h : Wd w v) (a : Nat) (ha : a < 2 ^ w) (b : Nat) (hb : b < 2 ^ w) (h0 : b ≠ 0) (W : World) :
    Calls Tryd.prog 63 #[.agg #[.int .u64 a, .int .i64 v], .agg #[.int .u64 b, .int .i64 v]] W (Out (a % b) W) := by
  rcases h with ⟨rfl, rfl⟩ | ⟨rfl, rfl⟩
  · simp only [Nat.reducePow] at ha hb
    go_enter Tryd.func63, Tryd.ntmps63
    go_wp2_with (first
      | (go_at_call 44; refine (signed_any 32 32 (.inl ⟨rfl, rfl⟩) _ (by assumption) _).mono ?_; rintro e W1 ⟨rfl, rfl⟩)
      | (go_at_call 68; refine (places_any 32 32 (.inl ⟨rfl, rfl⟩) _ _ (by assumption) _).mono ?_; rintro e W1 ⟨rfl, rfl⟩)
      | (go_at_call 40; refine (truth_any _ _).mono ?_; rintro e W1 ⟨rfl, rfl⟩))
    all_goals
      go_ret
      refine out_int rfl ?bel ?val
      case bel => (repeat (first | exact Below.refl _ _ | refine Below.alloc ?_ (by simp; try omega) _ | refine Below.drew ?_))
      case val =>
        rfl
  · simp only [Nat.reducePow] at ha hb
    go_enter Tryd.func63, Tryd.ntmps63
    go_wp2_with (first
      | (go_at_call 44; refine (signed_any 64 64 (.inr ⟨rfl, rfl⟩) _ (by assumption) _).mono ?_; rintro e W1 ⟨rfl, rfl⟩)
      | (go_at_call 68; refine (places_any 64 64 (.inr ⟨rfl, rfl⟩) _ _ (by assumption) _).mono ?_; rintro e W1 ⟨rfl, rfl⟩)
      | (go_at_call 40; refine (truth_any _ _).mono ?_; rintro e W1 ⟨rfl, rfl⟩))
    all_goals
      go_ret
      refine out_int rfl ?bel ?val
      case bel => (repeat (first | exact Below.refl _ _ | refine Below.alloc ?_ (by simp; try omega) _ | refine Below.drew ?_))
      case val =>
        rfl

theorem rAnd_any (w : Nat) (v : Int) (h : Wd w v) (a : Nat) (ha : a < 2 ^ w) (b : Nat) (hb : b < 2 ^ w) (W : World) :
    Calls Tryd.prog 64 #[.agg #[.int .u64 a, .int .i64 v], .agg #[.int .u64 b, .int .i64 v]] W (Out (a &&& b) W) := by
  rcases h with ⟨rfl, rfl⟩ | ⟨rfl, rfl⟩
  · simp only [Nat.reducePow] at ha hb
    go_enter Tryd.func64, Tryd.ntmps64
    go_wp2_with (first
      | (go_at_call 44; refine (signed_any 32 32 (.inl ⟨rfl, rfl⟩) _ (by assumption) _).mono ?_; rintro e W1 ⟨rfl, rfl⟩)
      | (go_at_call 68; refine (places_any 32 32 (.inl ⟨rfl, rfl⟩) _ _ (by assumption) _).mono ?_; rintro e W1 ⟨rfl, rfl⟩)
      | (go_at_call 40; refine (truth_any _ _).mono ?_; rintro e W1 ⟨rfl, rfl⟩))
    all_goals
      go_ret
      refine out_int rfl ?bel ?val
      case bel => (repeat (first | exact Below.refl _ _ | refine Below.alloc ?_ (by simp; try omega) _ | refine Below.drew ?_))
      case val =>
        exact u64_and_nat _ _ (by omega) (by omega)
  · simp only [Nat.reducePow] at ha hb
    go_enter Tryd.func64, Tryd.ntmps64
    go_wp2_with (first
      | (go_at_call 44; refine (signed_any 64 64 (.inr ⟨rfl, rfl⟩) _ (by assumption) _).mono ?_; rintro e W1 ⟨rfl, rfl⟩)
      | (go_at_call 68; refine (places_any 64 64 (.inr ⟨rfl, rfl⟩) _ _ (by assumption) _).mono ?_; rintro e W1 ⟨rfl, rfl⟩)
      | (go_at_call 40; refine (truth_any _ _).mono ?_; rintro e W1 ⟨rfl, rfl⟩))
    all_goals
      go_ret
      refine out_int rfl ?bel ?val
      case bel => (repeat (first | exact Below.refl _ _ | refine Below.alloc ?_ (by simp; try omega) _ | refine Below.drew ?_))
      case val =>
        exact u64_and_nat _ _ (by omega) (by omega)

theorem rOr_any (w : Nat) (v : Int) (h : Wd w v) (a : Nat) (ha : a < 2 ^ w) (b : Nat) (hb : b < 2 ^ w) (W : World) :
    Calls Tryd.prog 65 #[.agg #[.int .u64 a, .int .i64 v], .agg #[.int .u64 b, .int .i64 v]] W (Out (a ||| b) W) := by
  rcases h with ⟨rfl, rfl⟩ | ⟨rfl, rfl⟩
  · simp only [Nat.reducePow] at ha hb
    go_enter Tryd.func65, Tryd.ntmps65
    go_wp2_with (first
      | (go_at_call 44; refine (signed_any 32 32 (.inl ⟨rfl, rfl⟩) _ (by assumption) _).mono ?_; rintro e W1 ⟨rfl, rfl⟩)
      | (go_at_call 68; refine (places_any 32 32 (.inl ⟨rfl, rfl⟩) _ _ (by assumption) _).mono ?_; rintro e W1 ⟨rfl, rfl⟩)
      | (go_at_call 40; refine (truth_any _ _).mono ?_; rintro e W1 ⟨rfl, rfl⟩))
    all_goals
      go_ret
      refine out_int rfl ?bel ?val
      case bel => (repeat (first | exact Below.refl _ _ | refine Below.alloc ?_ (by simp; try omega) _ | refine Below.drew ?_))
      case val =>
        exact u64_or_nat _ _ (by omega) (by omega)
  · simp only [Nat.reducePow] at ha hb
    go_enter Tryd.func65, Tryd.ntmps65
    go_wp2_with (first
      | (go_at_call 44; refine (signed_any 64 64 (.inr ⟨rfl, rfl⟩) _ (by assumption) _).mono ?_; rintro e W1 ⟨rfl, rfl⟩)
      | (go_at_call 68; refine (places_any 64 64 (.inr ⟨rfl, rfl⟩) _ _ (by assumption) _).mono ?_; rintro e W1 ⟨rfl, rfl⟩)
      | (go_at_call 40; refine (truth_any _ _).mono ?_; rintro e W1 ⟨rfl, rfl⟩))
    all_goals
      go_ret
      refine out_int rfl ?bel ?val
      case bel => (repeat (first | exact Below.refl _ _ | refine Below.alloc ?_ (by simp; try omega) _ | refine Below.drew ?_))
      case val =>
        exact u64_or_nat _ _ (by omega) (by omega)

theorem rXor_any (w : Nat) (v : Int) (h : Wd w v) (a : Nat) (ha : a < 2 ^ w) (b : Nat) (hb : b < 2 ^ w) (W : World) :
    Calls Tryd.prog 66 #[.agg #[.int .u64 a, .int .i64 v], .agg #[.int .u64 b, .int .i64 v]] W (Out (a ^^^ b) W) := by
  rcases h with ⟨rfl, rfl⟩ | ⟨rfl, rfl⟩
  · simp only [Nat.reducePow] at ha hb
    go_enter Tryd.func66, Tryd.ntmps66
    go_wp2_with (first
      | (go_at_call 44; refine (signed_any 32 32 (.inl ⟨rfl, rfl⟩) _ (by assumption) _).mono ?_; rintro e W1 ⟨rfl, rfl⟩)
      | (go_at_call 68; refine (places_any 32 32 (.inl ⟨rfl, rfl⟩) _ _ (by assumption) _).mono ?_; rintro e W1 ⟨rfl, rfl⟩)
      | (go_at_call 40; refine (truth_any _ _).mono ?_; rintro e W1 ⟨rfl, rfl⟩))
    all_goals
      go_ret
      refine out_int rfl ?bel ?val
      case bel => (repeat (first | exact Below.refl _ _ | refine Below.alloc ?_ (by simp; try omega) _ | refine Below.drew ?_))
      case val =>
        exact u64_xor_nat _ _ (by omega) (by omega)
  · simp only [Nat.reducePow] at ha hb
    go_enter Tryd.func66, Tryd.ntmps66
    go_wp2_with (first
      | (go_at_call 44; refine (signed_any 64 64 (.inr ⟨rfl, rfl⟩) _ (by assumption) _).mono ?_; rintro e W1 ⟨rfl, rfl⟩)
      | (go_at_call 68; refine (places_any 64 64 (.inr ⟨rfl, rfl⟩) _ _ (by assumption) _).mono ?_; rintro e W1 ⟨rfl, rfl⟩)
      | (go_at_call 40; refine (truth_any _ _).mono ?_; rintro e W1 ⟨rfl, rfl⟩))
    all_goals
      go_ret
      refine out_int rfl ?bel ?val
      case bel => (repeat (first | exact Below.refl _ _ | refine Below.alloc ?_ (by simp; try omega) _ | refine Below.drew ?_))
      case val =>
        exact u64_xor_nat _ _ (by omega) (by omega)
end Go.Proofs.YtnhnbcjffnlicaaDoor

/-
  Layer 4, code: whether heap types, value types, fields are plain; first values; what is more than a statement looks at.
-/
import Derived.Test.YtlflmobaegfnaaaDoorKdW
namespace Go.Proofs.YtlflmobaegfnaaaDoor
open Go.RowKit
set_option linter.unusedVariables false
set_option maxRecDepth 100000

theorem given_any (k : Int) (w : World) :
    Calls Tryd.prog 77 #[.int .i64 k] w fun e w' => e = .returned (.bool (Kd.given k)) ∧ w = w' := by
  unfold Kd.given
  by_cases h : 1 ≤ k
  all_goals
    go_enter Tryd.func77, Tryd.ntmps77
    go_wp2
    go_ret
    exact ⟨ret_bool (by simp [h]; try omega), rfl⟩
theorem pIdx_any (h : Hp) (w : World) :
    Calls Tryd.prog 49 #[h.val] w fun e w' => e = .returned (.bool (Kd.pIdx h)) ∧ Below w.heap.size w w' := by
  obtain ⟨k, n⟩ := h
  unfold Hp.val Kd.pIdx
  dsimp only
  by_cases h : k = 13
  · subst h
    by_cases h0 : 0 ≤ n
    all_goals
      go_enter Tryd.func49, Tryd.ntmps49
      go_wp2
      go_ret
      exact ⟨ret_bool (by simp [h0]; try omega), (Below.refl _ _).alloc (Nat.le_refl _) _⟩
  · go_enter Tryd.func49, Tryd.ntmps49
    go_wp2
    go_ret
    exact ⟨ret_bool (by simp [h]), (Below.refl _ _).alloc (Nat.le_refl _) _⟩
theorem pHeap_any (h : Hp) (w : World) :
    Calls Tryd.prog 51 #[h.val] w fun e w' => e = .returned (.bool (Kd.pHeap h)) ∧ Below w.heap.size w w' := by
  obtain ⟨k, n⟩ := h
  unfold Hp.val Kd.pHeap
  dsimp only
  cases hg : Kd.given k
  · go_enter Tryd.func51, Tryd.ntmps51
    go_wp2_with (first | (go_at_call 77; refine (given_any _ _).mono ?_; rw [hg]; rintro e w' ⟨rfl, rfl⟩) | (go_at_call 49; refine (pIdx_any ⟨k, n⟩ _).mono ?_; rintro e w' ⟨rfl, hb⟩))
    go_ret
    exact ⟨ret_bool rfl, below_trans ((Below.refl _ _).alloc (Nat.le_refl _) _) hb⟩
  · go_enter Tryd.func51, Tryd.ntmps51
    go_wp2_with (go_at_call 77; refine (given_any _ _).mono ?_; rw [hg]; rintro e w' ⟨rfl, rfl⟩)
    go_ret
    exact ⟨rfl, (Below.refl _ _).alloc (Nat.le_refl _) _⟩
theorem pVal_any (v : Vl) (w : World) :
    Calls Tryd.prog 25 #[v.val] w fun e w' => e = .returned (.bool (Kd.pVal v)) ∧ Below w.heap.size w w' := by
  obtain ⟨r, hr⟩ : ∃ r, Kd.pVal v = r := ⟨_, rfl⟩
  rw [hr]
  have hr := Lib.hid hr
  obtain ⟨k, nu, hk, hn⟩ := v
  unfold Vl.val
  dsimp only
  by_cases h1 : k = 1
  · subst h1
    go_enter Tryd.func25, Tryd.ntmps25
    go_wp2
    all_goals
      go_ret
      exact ⟨ret_bool (by rw [← hr.out]; simp_all [Kd.pVal]), (Below.refl _ _).alloc (Nat.le_refl _) _⟩
  · by_cases h2 : k = 2
    · subst h2
      go_enter Tryd.func25, Tryd.ntmps25
      go_wp2
      all_goals
        go_ret
        exact ⟨ret_bool (by rw [← hr.out]; simp_all [Kd.pVal]), (Below.refl _ _).alloc (Nat.le_refl _) _⟩
    · by_cases h3 : k = 3
      · subst h3
        go_enter Tryd.func25, Tryd.ntmps25
        go_wp2_with (go_at_call 51; refine (pHeap_any ⟨hk, hn⟩ _).mono ?_; rintro e w' ⟨rfl, hb⟩)
        go_ret
        exact ⟨ret_bool (by rw [← hr.out]; simp [Kd.pVal]), below_trans ((Below.refl _ _).alloc (Nat.le_refl _) _) hb⟩
      · go_enter Tryd.func25, Tryd.ntmps25
        go_wp2
        go_ret
        exact ⟨ret_bool (by rw [← hr.out]; simp [Kd.pVal, h1, h2, h3]), (Below.refl _ _).alloc (Nat.le_refl _) _⟩
theorem first_any (v : Vl) (w : World) :
    Calls Tryd.prog 41 #[v.val] w fun e w' => e = .returned (.bool (Kd.first v)) ∧ Below w.heap.size w w' := by
  obtain ⟨r, hr⟩ : ∃ r, Kd.first v = r := ⟨_, rfl⟩
  rw [hr]
  have hr := Lib.hid hr
  obtain ⟨k, nu, hk, hn⟩ := v
  unfold Vl.val
  dsimp only
  by_cases h1 : k = 1
  · subst h1
    go_enter Tryd.func41, Tryd.ntmps41
    go_wp2
    go_ret
    exact ⟨ret_bool (by rw [← hr.out]; simp_all [Kd.first]), (Below.refl _ _).alloc (Nat.le_refl _) _⟩
  · by_cases h2 : k = 2
    · subst h2
      go_enter Tryd.func41, Tryd.ntmps41
      go_wp2
      go_ret
      exact ⟨ret_bool (by rw [← hr.out]; simp_all [Kd.first]), (Below.refl _ _).alloc (Nat.le_refl _) _⟩
    · by_cases h3 : k = 3
      all_goals
        go_enter Tryd.func41, Tryd.ntmps41
        go_wp2
        go_ret
        exact ⟨ret_bool (by rw [← hr.out]; simp [Kd.first, h1, h2, h3]), (Below.refl _ _).alloc (Nat.le_refl _) _⟩
theorem pField_any (f : Fd) (w : World) :
    Calls Tryd.prog 76 #[f.val] w fun e w' => e = .returned (.bool (Kd.pField f)) ∧ Below w.heap.size w w' := by
  obtain ⟨r, hr⟩ : ∃ r, Kd.pField f = r := ⟨_, rfl⟩
  rw [hr]
  have hr := Lib.hid hr
  obtain ⟨pk, ⟨k, nu, hk, hn⟩, mu⟩ := f
  unfold Fd.val
  dsimp only
  by_cases h1 : pk = 0
  · subst h1
    go_enter Tryd.func76, Tryd.ntmps76
    go_wp2_with (go_at_call 25; refine (pVal_any ⟨k, nu, hk, hn⟩ _).mono ?_; rintro e w' ⟨rfl, hb⟩)
    go_ret
    exact ⟨ret_bool (by rw [← hr.out]; simp [Kd.pField]), below_trans ((Below.refl _ _).alloc (Nat.le_refl _) _) hb⟩
  · by_cases h2 : pk = 8
    · subst h2
      go_enter Tryd.func76, Tryd.ntmps76
      go_wp2
      all_goals
        go_ret
        exact ⟨ret_bool (by rw [← hr.out]; simp_all [Kd.pField]), (Below.refl _ _).alloc (Nat.le_refl _) _⟩
    · by_cases h3 : pk = 16
      · subst h3
        go_enter Tryd.func76, Tryd.ntmps76
        go_wp2
        all_goals
          go_ret
          exact ⟨ret_bool (by rw [← hr.out]; simp_all [Kd.pField]), (Below.refl _ _).alloc (Nat.le_refl _) _⟩
      · go_enter Tryd.func76, Tryd.ntmps76
        go_wp2
        go_ret
        exact ⟨ret_bool (by rw [← hr.out]; simp [Kd.pField, h1, h2, h3]), (Below.refl _ _).alloc (Nat.le_refl _) _⟩
end Go.Proofs.YtlflmobaegfnaaaDoor

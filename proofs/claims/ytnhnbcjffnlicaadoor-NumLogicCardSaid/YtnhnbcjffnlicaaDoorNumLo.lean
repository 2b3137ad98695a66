/-
  The statements' own 'one', walked.
-/
import Derived.Test.YtnhnbcjffnlicaaDoorNumLw
namespace Go.Proofs.YtnhnbcjffnlicaaDoor
open Go.RowKit Num
set_option linter.unusedVariables false
/-- The same for 'one'. -/
theorem lone_any (p w t : Nat) (op v : Int) (hp : (p = 0 ∧ op = 69 ∧ t = 32) ∨ (p = 1 ∧ op = 103 ∧ t = w) ∨ (p = 2 ∧ op = 104 ∧ t = w) ∨ (p = 3 ∧ op = 105 ∧ t = w)) (h : Wd w v) (a : Nat) (ha : a < 2 ^ w) (W : World) (hT : Tab W) :
    Calls Tryd.prog 18 #[.int .i64 v, .int .i64 op, .int .u64 a] W (Out (ov p a w t) W) := by
  have main : ∀ (op' : Int), kind op' = (p, w, t, 1) → (∀ W, Tab W → Calls Tryd.prog 10 #[.int .i64 op', .int .u64 a] W (Two2 (ov p a w t, 0) W)) := fun op' hk W hT => by
    by_cases hop : -9223372036854775808 ≤ op' ∧ op' < 9223372036854775808
    · have := (code_any op' hop.1 hop.2).1 W a hT (wd64 h ha)
      rwa [one_yes hk ha] at this
    · exfalso
      have : kind op' = (0, 0, 0, 0) := kind_gap (by omega)
      rw [this] at hk
      injection hk with h1 h2
      injection h2 with h2 h3
      injection h3 with h3 h4
      omega
  have HT := Lib.hid hT
  rcases h with ⟨rfl, rfl⟩ | ⟨rfl, rfl⟩
  · have HC : Hid (∀ W, Tab W → Calls Tryd.prog 10 #[.int .i64 op, .int .u64 a] W (Two2 (ov p a 32 t, 0) W)) := main op (by rcases hp with ⟨rfl, rfl, rfl⟩ | ⟨rfl, rfl, rfl⟩ | ⟨rfl, rfl, rfl⟩ | ⟨rfl, rfl, rfl⟩ <;> decide)
    clear main ha hT hp
    generalize ov p a 32 t = r at HC ⊢
    go_enter Tryd.func18, Tryd.ntmps18
    go_wp2_with (go_at_call 10; ((with_reducible refine (HC.out _ HT.out).mono ?_); rintro e w1 ⟨rfl, hb⟩))
    go_ret
    exact ⟨rfl, hb⟩
  · have HC : Hid (∀ W, Tab W → Calls Tryd.prog 10 #[.int .i64 (if op = 69 then 80 else op + 18), .int .u64 a] W (Two2 (ov p a 64 t, 0) W)) := main _ (by rcases hp with ⟨rfl, rfl, rfl⟩ | ⟨rfl, rfl, rfl⟩ | ⟨rfl, rfl, rfl⟩ | ⟨rfl, rfl, rfl⟩ <;> decide)
    clear main ha hT
    generalize ov p a 64 t = r at HC ⊢
    rcases hp with ⟨_, rfl, _⟩ | ⟨_, rfl, _⟩ | ⟨_, rfl, _⟩ | ⟨_, rfl, _⟩
    · have HC2 : Hid (∀ W, Tab W → Calls Tryd.prog 10 #[.int .i64 80, .int .u64 a] W (Two2 (r, 0) W)) := HC
      clear HC
      go_enter Tryd.func18, Tryd.ntmps18
      go_wp2_with (go_at_call 10; ((with_reducible refine (HC2.out _ HT.out).mono ?_); rintro e w1 ⟨rfl, hb⟩))
      go_ret
      exact ⟨rfl, hb⟩
    · have HC2 : Hid (∀ W, Tab W → Calls Tryd.prog 10 #[.int .i64 121, .int .u64 a] W (Two2 (r, 0) W)) := HC
      clear HC
      go_enter Tryd.func18, Tryd.ntmps18
      go_wp2_with (go_at_call 10; ((with_reducible refine (HC2.out _ HT.out).mono ?_); rintro e w1 ⟨rfl, hb⟩))
      go_ret
      exact ⟨rfl, hb⟩
    · have HC2 : Hid (∀ W, Tab W → Calls Tryd.prog 10 #[.int .i64 122, .int .u64 a] W (Two2 (r, 0) W)) := HC
      clear HC
      go_enter Tryd.func18, Tryd.ntmps18
      go_wp2_with (go_at_call 10; ((with_reducible refine (HC2.out _ HT.out).mono ?_); rintro e w1 ⟨rfl, hb⟩))
      go_ret
      exact ⟨rfl, hb⟩
    · have HC2 : Hid (∀ W, Tab W → Calls Tryd.prog 10 #[.int .i64 123, .int .u64 a] W (Two2 (r, 0) W)) := HC
      clear HC
      go_enter Tryd.func18, Tryd.ntmps18
      go_wp2_with (go_at_call 10; ((with_reducible refine (HC2.out _ HT.out).mono ?_); rintro e w1 ⟨rfl, hb⟩))
      go_ret
      exact ⟨rfl, hb⟩
theorem one_is {p w t : Nat} {op v : Int} (hp : (p = 0 ∧ op = 69 ∧ t = 32) ∨ (p = 1 ∧ op = 103 ∧ t = w) ∨ (p = 2 ∧ op = 104 ∧ t = w) ∨ (p = 3 ∧ op = 105 ∧ t = w)) (h : Wd w v) {a r : Nat} (ha : a < 2 ^ w) (hr : ov p a w t = r) :
    Hid (∀ W : World, Tab W → Calls Tryd.prog 18 #[.int .i64 v, .int .i64 op, .int .u64 a] W (Out r W)) := by
  subst hr; exact fun W hT => lone_any p w t op v hp h a ha W hT
end Go.Proofs.YtnhnbcjffnlicaaDoor

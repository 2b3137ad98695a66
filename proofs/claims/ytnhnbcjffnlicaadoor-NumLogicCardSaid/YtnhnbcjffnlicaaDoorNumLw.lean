/-
  The statements' own 'one' and 'two', walked.
-/
import Derived.Test.YtnhnbcjffnlicaaDoorNumKr
import Derived.Test.YtnhnbcjffnlicaaDoorNumRg
namespace Go.Proofs.YtnhnbcjffnlicaaDoor
open Go.RowKit Num
set_option linter.unusedVariables false

theorem two_tw {op : Int} {a b p w t : Nat} (hk : kind op = (p, w, t, 2)) (h : a < 2 ^ w) (h' : b < 2 ^ w) : (two op a b).1 = tw p w a b := by
  unfold tw
  by_cases he : te p w a b = 0
  · rw [two_ok hk h h' he, if_pos he]
  · rw [two_err hk h h' he, if_neg he]
/-- The place of an opcode of 32 bits. -/
def Op32 (p : Nat) (op : Int) : Prop := (10 ≤ p ∧ p ≤ 19 ∧ op = (p : Int) + 60) ∨ (20 ≤ p ∧ p ≤ 34 ∧ op = (p : Int) + 86)
theorem kind_32 {p : Nat} {op : Int} (h : Op32 p op) : ∃ t, kind op = (p, 32, t, 2) := by
  rcases h with ⟨h1, h2, rfl⟩ | ⟨h1, h2, rfl⟩
  · refine ⟨32, ?_⟩
    unfold kind
    repeat (rw [if_neg (by omega)])
    rw [if_pos (by omega), show ((p : Int) + 60 - 60).toNat = p by omega]
  · refine ⟨32, ?_⟩
    unfold kind
    repeat (rw [if_neg (by omega)])
    rw [if_pos (by omega), show ((p : Int) + 86 - 86).toNat = p by omega]
theorem kind_64 {p : Nat} {op : Int} (h : Op32 p op) : ∃ t, kind (if op ≤ 79 then op + 11 else op + 18) = (p, 64, t, 2) := by
  rcases h with ⟨h1, h2, rfl⟩ | ⟨h1, h2, rfl⟩
  · refine ⟨32, ?_⟩
    rw [if_pos (by omega)]
    unfold kind
    repeat (rw [if_neg (by omega)])
    rw [if_pos (by omega), show ((p : Int) + 60 + 11 - 71).toNat = p by omega]
  · refine ⟨64, ?_⟩
    rw [if_neg (by omega)]
    unfold kind
    repeat (rw [if_neg (by omega)])
    rw [if_pos (by omega), show ((p : Int) + 86 + 18 - 104).toNat = p by omega]
theorem ltwo_any (p w : Nat) (op v : Int) (hp : Op32 p op) (h : Wd w v) (a b : Nat) (ha : a < 2 ^ w) (hb : b < 2 ^ w) (W : World) :
    Calls Tryd.prog 17 #[.int .i64 v, .int .i64 op, .int .u64 a, .int .u64 b] W (Out (tw p w a b) W) := by
  have hop : 70 ≤ op ∧ op ≤ 120 := by rcases hp with ⟨h1, h2, rfl⟩ | ⟨h1, h2, rfl⟩ <;> omega
  rcases h with ⟨rfl, rfl⟩ | ⟨rfl, rfl⟩
  · obtain ⟨t, hk⟩ := kind_32 hp
    rw [← two_tw hk ha hb]
    have HC := Lib.hid (fun W => (code_any op (by omega) (by omega)).2.1 W a b (wd64 w32 ha) (wd64 w32 hb))
    generalize two op a b = r at HC
    obtain ⟨r1, r2⟩ := r
    clear hk ha hb hp hop
    go_enter Tryd.func17, Tryd.ntmps17
    go_wp2_with (go_at_call 15; ((with_reducible refine (HC.out _).mono ?_); rintro e w1 ⟨rfl, hb⟩))
    go_ret
    exact ⟨rfl, hb⟩
  · obtain ⟨t, hk⟩ := kind_64 hp
    rw [← two_tw hk ha hb]
    have ha2 := wd64 w64 ha
    have hb2 := wd64 w64 hb
    obtain ⟨h1, h2⟩ := hop
    by_cases h79 : op ≤ 79
    · rw [if_pos h79]
      have HC := Lib.hid (fun W => (code_any (op + 11) (by omega) (by omega)).2.1 W a b ha2 hb2)
      generalize two (op + 11) a b = r at HC
      obtain ⟨r1, r2⟩ := r
      clear hk ha hb hp ha2 hb2
      go_enter Tryd.func17, Tryd.ntmps17
      go_wp2_with (go_at_call 15; ((with_reducible refine (HC.out _).mono ?_); rintro e w1 ⟨rfl, hb⟩))
      go_ret
      exact ⟨rfl, hb⟩
    · rw [if_neg h79]
      have HC := Lib.hid (fun W => (code_any (op + 18) (by omega) (by omega)).2.1 W a b ha2 hb2)
      generalize two (op + 18) a b = r at HC
      obtain ⟨r1, r2⟩ := r
      have h80 : 79 < op := by omega
      clear hk ha hb hp ha2 hb2 h79
      go_enter Tryd.func17, Tryd.ntmps17
      go_wp2_with (go_at_call 15; ((with_reducible refine (HC.out _).mono ?_); rintro e w1 ⟨rfl, hb⟩))
      go_ret
      exact ⟨rfl, hb⟩
/-- The same with the value under a name. -/
abbrev TwoIs (v op : Int) (a b r : Nat) : Prop := ∀ W, Calls Tryd.prog 17 #[.int .i64 v, .int .i64 op, .int .u64 a, .int .u64 b] W (Out r W)
theorem two_is {p w : Nat} {op v : Int} (hp : Op32 p op) (h : Wd w v) {a b r : Nat} (ha : a < 2 ^ w) (hb : b < 2 ^ w) (hr : tw p w a b = r) : Hid (TwoIs v op a b r) := by
  subst hr; exact fun W => ltwo_any p w op v hp h a b ha hb W
abbrev OneIs (v op : Int) (a r : Nat) (W0 : World) : Prop := ∀ W, Below W0.heap.size W0 W → Calls Tryd.prog 18 #[.int .i64 v, .int .i64 op, .int .u64 a] W (Out r W)
end Go.Proofs.YtnhnbcjffnlicaaDoor

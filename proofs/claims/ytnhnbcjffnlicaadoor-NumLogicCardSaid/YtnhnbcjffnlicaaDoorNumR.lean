/-
  The document's words on bits, walked.
-/
import Derived.Test.YtnhnbcjffnlicaaDoorKitI
import Derived.Test.YtnhnbcjffnlicaaDoorNumL
import Derived.Test.YtnhnbcjffnlicaaDoorNumA
import Derived.LoopN
namespace Go.Proofs.YtnhnbcjffnlicaaDoor
open Go.RowKit Num
set_option linter.unusedVariables false

theorem ryes_any (c : Bool) (W : World) : Calls Tryd.prog 25 #[.bool c] W fun e W' => e = .returned (.int .u64 (yes c : Int)) ∧ W = W' := by
  cases c
  all_goals
    go_enter Tryd.func25, Tryd.ntmps25
    go_wp2
    go_ret
    exact ⟨rfl, rfl⟩
theorem half_wrap {y : Nat} (h : y < 18446744073709551616) : Value.int .u64 (IntKind.u64.wrap ((y : Int) / 2)) = .int .u64 ((y / 2 : Nat) : Int) := by
  rw [IntKind.wrap_u64]; congr 1; omega
set_option maxHeartbeats 400000 in
theorem Bit_any (a p : Nat) (v : Int) (hv : v = (p : Int)) (ha : a < 18446744073709551616) (hp : p ≤ 64) (W : World) :
    Calls Tryd.prog 37 #[.int .u64 a, .int .i64 v] W fun e W' => e = .returned (.int .i64 (a / 2 ^ p % 2 : Nat)) ∧ W = W' := by
  subst hv
  have HA := Lib.hid ha
  clear ha
  go_enter Tryd.func37, Tryd.ntmps37
  go_wp2
  go_loop [0, 5] (fun x i => ∃ k y : Nat, k ≤ p ∧ i = .int .i64 k ∧ x = .int .u64 y ∧ y < 18446744073709551616 ∧ a / 2 ^ p = y / 2 ^ (p - k)) (fun _ i => p - (intOf i).toNat)
  case atStart => exact ⟨0, a, by omega, rfl, rfl, HA.out, rfl⟩
  case round =>
    obtain ⟨k, y, hk, rfl, rfl, hy, he⟩ := hrel
    have HE := Lib.hid he
    have HY := Lib.hid hy
    clear he hy
    by_cases hlt : k < p
    · go_wp2
      go_round
      case rel =>
        refine ⟨k + 1, y / 2, by omega, by go_num, half_wrap HY.out, by have := HY.out; omega, ?_⟩
        rw [HE.out, Nat.div_div_eq_div_mul, show p - k = (p - (k + 1)) + 1 by omega, Nat.pow_succ, Nat.mul_comm 2]
      case measure => simp [intOf]; omega
    · obtain rfl : k = p := by omega
      go_wp2
      go_ret
      refine ⟨ret_int ?_, rfl⟩
      have := HE.out
      rw [Nat.sub_self, Nat.pow_zero, Nat.div_one] at this
      show ((y : Int) % 2) = ((a / 2 ^ k % 2 : Nat) : Int)
      rw [this]; rfl
/-- A slice of whole numbers that is read. -/
def Ints (w : World) (A : Option Addr) (n : Nat) (l : List Nat) : Prop := l.length = n ∧ (0 < n → ∃ g, A = some ⟨g, 0, none⟩ ∧ g < w.heap.size ∧ ∀ j (hj : j < l.length), w.cell? ⟨g, j, none⟩ = some (.int .i64 (l[j] : Int)))
theorem OwnI.ints {B : Nat} {w : World} {A : Option Addr} {n c : Nat} {l : List Nat} (h : OwnI B w (.slice A n c) l) : Ints w A n l := by
  rcases Nat.eq_zero_or_pos n with h0 | h0
  · obtain ⟨A', c', e⟩ := h.form
    injection e with e1 e2 e3
    exact ⟨e2.symm, fun h => absurd h (by omega)⟩
  · obtain ⟨e, g, hA, hB, hg, hc⟩ := h.open_ h0
    exact ⟨e.symm, fun _ => ⟨g, hA, hg, hc⟩⟩
theorem Ints.below {w w' : World} {A : Option Addr} {n : Nat} {l : List Nat} (h : Ints w A n l) (hb : Below w.heap.size w w') : Ints w' A n l := by
  obtain ⟨h1, h2⟩ := h
  refine ⟨h1, fun h0 => ?_⟩
  obtain ⟨g, hA, hg, hc⟩ := h2 h0
  exact ⟨g, hA, Nat.lt_of_lt_of_le hg hb.size, fun j hj => (hb.cell (p := ⟨g, j, none⟩) hg).trans (hc j hj)⟩
def Rows (l : List Nat) (n : Nat) (W : World) (e : Ending) (W' : World) : Prop := ∃ A c, e = .returned (.slice A n c) ∧ OwnI W.heap.size W' (.slice A n c) l ∧ Below W.heap.size W W'
set_option maxHeartbeats 800000 in
theorem RBits_any (a w : Nat) (v : Int) (hv : v = (w : Int)) (ha : a < 18446744073709551616) (hw : w ≤ 64) (W : World) :
    Calls Tryd.prog 24 #[.int .u64 a, .int .i64 v] W (Rows (bl w a) w W) := by
  subst hv
  have HA := Lib.hid ha
  clear ha
  go_enter Tryd.func24, Tryd.ntmps24
  go_wp2
  go_loopw [0, 5, 6] (fun x s i wr => ∃ (k y c : Nat) (A : Option Addr), k ≤ w ∧ i = .int .i64 k ∧ x = .int .u64 y ∧ s = .slice A k c ∧ Hid (y < 18446744073709551616) ∧ Hid (y = a / 2 ^ k) ∧ OwnI W.heap.size wr (.slice A k c) (bl k a) ∧ Below W.heap.size W wr) (fun _ _ i _ => w - (intOf i).toNat)
  case atStart => exact ⟨0, a, 0, none, by omega, rfl, rfl, rfl, HA.out, by simp [Hid], OwnI.nil _ _, Below.refl _ _⟩
  case round =>
    obtain ⟨k, y, c, A, hk, rfl, rfl, rfl, HY, HE, hown, hB⟩ := hrel
    by_cases hlt : k < w
    · go_wp2_with (at_builtin; refine push_int rfl _ _ rfl wr _ rfl (y % 2) _ rfl rfl hown hB.size (by rw [bl_length]; omega) (k + 1) (by rw [bl_length]) ?_ ?c3; intro A1 c1 w1 ho1 hg1)
      go_roundw
      case rel => exact ⟨k + 1, y / 2, c1, A1, by omega, by go_num, half_wrap HY.out, rfl, by rw [Hid]; have := HY.out; omega, by rw [Hid, HE.out, Nat.div_div_eq_div_mul, Nat.pow_succ], by rw [bl_snoc, ← HE.out]; exact ho1, hown.grown hg1 (Nat.le_refl _) hB.size hB⟩
      case measure => simp [intOf]; omega
      case c3 => rfl
    · obtain rfl : k = w := by omega
      go_wp2
      go_ret
      exact ⟨_, _, rfl, hown, hB⟩
theorem u64_horn2 (X y : Nat) : IntKind.u64.wrap (IntKind.u64.wrap ((X : Int) * 2) + IntKind.u64.wrap (y : Int)) = (((X * 2 + y) % 18446744073709551616 : Nat) : Int) := by
  rw [IntKind.wrap_u64, IntKind.wrap_u64, IntKind.wrap_u64]; omega
set_option maxHeartbeats 800000 in
theorem RNumber_any (A : Option Addr) (n c : Nat) (l : List Nat) (W : World) (h : Ints W A n l) (hl : ∀ x ∈ l, x < 2) (hn : n ≤ 64) :
    Calls Tryd.prog 30 #[.slice A n c] W fun e W' => e = .returned (.int .u64 (nv l : Nat)) ∧ W = W' := by
  obtain ⟨hlen, hc⟩ := h
  have HL : Hid (l.length = n) := hlen
  have H2 : Hid (∀ x ∈ l, x < 2) := hl
  have hn1 : (n : Int) - 1 ≤ 63 := by omega
  rcases Nat.eq_zero_or_pos n with h0 | h0
  · subst h0
    have e : l = [] := List.eq_nil_of_length_eq_zero hlen
    subst e
    clear hlen hc
    go_enter Tryd.func30, Tryd.ntmps30
    go_wp2
    refine wp_loop_rounds 1 ?_
    rw [rounds_succ]
    go_wp2
    go_ret
    exact ⟨rfl, rfl⟩
  · obtain ⟨g, rfl, hg, hcell⟩ := hc h0
    have HC : Hid (∀ j (hj : j < l.length), W.cell? ⟨g, j, none⟩ = some (.int .i64 (l[j] : Int))) := hcell
    clear hcell hc hlen hl
    go_enter Tryd.func30, Tryd.ntmps30
    go_wp2
    go_loop [3, 4] (fun t u => ∃ j : Nat, t = .int .u64 (nv (l.drop j) : Nat) ∧ u = .int .i64 ((j : Int) - 1) ∧ j ≤ n) (fun _ u => (intOf u + 1).toNat)
    case atStart => exact ⟨n, by rw [List.drop_of_length_le (by have := HL.out; omega)]; rfl, rfl, by omega⟩
    case round =>
      obtain ⟨j, rfl, rfl, hj⟩ := hrel
      rcases Nat.eq_zero_or_pos j with rfl | hj0
      · rw [List.drop_zero]
        go_wp2
        go_ret
        exact ⟨rfl, rfl⟩
      · obtain ⟨j, rfl⟩ : ∃ k, j = k + 1 := ⟨j - 1, by omega⟩
        have hjl : j < l.length := by have := HL.out; omega
        have hcj := HC.out j hjl
        have hb2 := H2.out l[j] (List.getElem_mem hjl)
        have hbd : nv (l.drop j) < 18446744073709551616 := by
          have h3 := nv_lt (l.drop j) (fun x hx => H2.out x (List.mem_of_mem_drop hx))
          have h4 : 2 ^ (l.drop j).length ≤ 2 ^ 64 := Nat.pow_le_pow_right (by omega) (by rw [List.length_drop]; have := HL.out; omega)
          omega
        have hst : nv (l.drop j) = nv (l.drop (j + 1)) * 2 + l[j] := by rw [List.drop_eq_getElem_cons hjl]; rfl
        have HS : Hid (nv (l.drop j) = (nv (l.drop (j + 1)) * 2 + l[j]) % 18446744073709551616) := by rw [Hid, ← hst, Nat.mod_eq_of_lt hbd]
        clear hst hbd
        generalize nv (l.drop (j + 1)) = X at HS ⊢
        generalize l[j] = y at hcj hb2 HS
        have HB2 := Lib.hid hb2
        clear hb2
        go_wp2
        go_round
        case rel => exact ⟨j, by rw [HS.out, ← u64_horn2], by go_num, by omega⟩
        case measure => simp [intOf]
end Go.Proofs.YtnhnbcjffnlicaaDoor

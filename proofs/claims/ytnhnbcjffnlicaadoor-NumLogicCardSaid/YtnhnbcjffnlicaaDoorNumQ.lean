/-
  The document's words on numbers, walked.
-/
import Derived.Test.YtnhnbcjffnlicaaDoorNumR
namespace Go.Proofs.YtnhnbcjffnlicaaDoor
open Go.RowKit Num
set_option linter.unusedVariables false

theorem lt_w64 {w a : Nat} (hw : w ≤ 64) (h : a < 2 ^ w) : a < 18446744073709551616 := Nat.lt_of_lt_of_le h (Nat.pow_le_pow_right (by omega) hw)
theorem wd64 {w : Nat} {v : Int} (h : Wd w v) {a : Nat} (ha : a < 2 ^ w) : a < 18446744073709551616 := lt_w64 (by rcases h with ⟨rfl, _⟩ | ⟨rfl, _⟩ <;> omega) ha
theorem rcut_any (a w : Nat) (v : Int) (hv : v = (w : Int)) (ha : a < 18446744073709551616) (hw : w ≤ 64) (W : World) :
    Calls Tryd.prog 27 #[.int .u64 a, .int .i64 v] W (Out (a % 2 ^ w) W) := by
  subst hv
  have HA := Lib.hid ha
  clear ha
  go_enter Tryd.func27, Tryd.ntmps27
  go_wp2_with fail
  refine (RBits_any a w _ rfl HA.out hw _).mono ?_
  rintro e w1 ⟨A, c, rfl, ho, hb⟩
  go_wp2_with fail
  refine (RNumber_any A w c _ _ ho.ints (bl_lt w a) hw).mono ?_
  rw [nv_bl]
  rintro e w2 ⟨rfl, rfl⟩
  go_wp2_with fail
  go_ret
  exact ⟨rfl, hb⟩
theorem rfits_any (a w : Nat) (v : Int) (hv : v = (w : Int)) (ha : a < 18446744073709551616) (hw : w ≤ 64) (W : World) :
    Calls Tryd.prog 23 #[.int .u64 a, .int .i64 v] W fun e W' => e = .returned (.bool (decide (a < 2 ^ w))) ∧ Below W.heap.size W W' := by
  subst hv
  have HA := Lib.hid ha
  clear ha
  obtain ⟨d, hd⟩ : ∃ d, decide (a < 2 ^ w) = d := ⟨_, rfl⟩
  have ht : ((((a % 2 ^ w : Nat)) : Int) == (a : Int)) = d := by
    rw [← hd, Bool.eq_iff_iff, beq_iff_eq, decide_eq_true_eq]
    have := Nat.two_pow_pos w
    constructor
    · intro h
      have h2 : a % 2 ^ w = a := by omega
      rw [← h2]; exact Nat.mod_lt _ this
    · intro h
      rw [Nat.mod_eq_of_lt h]
  rw [hd]
  generalize hm : a % 2 ^ w = m at ht
  have HM := Lib.hid hm
  clear hm hd
  go_enter Tryd.func23, Tryd.ntmps23
  go_wp2_with fail
  refine (RBits_any a w _ rfl HA.out hw _).mono ?_
  rintro e w1 ⟨A, c, rfl, ho, hb⟩
  go_wp2_with fail
  refine (RNumber_any A w c _ _ ho.ints (bl_lt w a) hw).mono ?_
  rw [nv_bl, HM.out]
  rintro e w2 ⟨rfl, rfl⟩
  go_wp2_with fail
  go_ret
  exact ⟨rfl, hb⟩
/-- A bit whose value is known. -/
theorem Bit_is (a p r : Nat) (v : Int) (hv : v = (p : Int)) (ha : a < 18446744073709551616) (hp : p ≤ 64) (W : World) (h : a / 2 ^ p % 2 = r) :
    Calls Tryd.prog 37 #[.int .u64 a, .int .i64 v] W fun e W' => e = .returned (.int .i64 r) ∧ W = W' := by
  rw [← h]; exact Bit_any a p v hv ha hp W
theorem rminus_any (a w : Nat) (v : Int) (hv : v = (w : Int)) (ha : a < 2 ^ w) (hw : w ≤ 64) (W : World) :
    Calls Tryd.prog 38 #[.int .u64 a, .int .i64 v] W (Out (md w (-(a : Int))) W) := by
  subst hv
  have hw1 : IntKind.u64.wrap (-(a : Int)) = ((md 64 (-(a : Int)) : Nat) : Int) := wrap_md _
  have hm : md 64 (-(a : Int)) < 18446744073709551616 := by rw [md64]; omega
  have hr : md 64 (-(a : Int)) % 2 ^ w = md w (-(a : Int)) := by
    unfold md
    have hdv : ((2 ^ w : Nat) : Int) ∣ ((2 ^ 64 : Nat) : Int) := Int.natCast_dvd_natCast.2 (Nat.pow_dvd_pow 2 hw)
    have h1 := Int.emod_nonneg (-(a : Int)) (show ((2 ^ 64 : Nat) : Int) ≠ 0 by decide)
    have hp := Nat.two_pow_pos w
    have h2 := Int.emod_nonneg (-(a : Int)) (show ((2 ^ w : Nat) : Int) ≠ 0 by omega)
    have h3 : (((-(a : Int)) % ((2 ^ 64 : Nat) : Int)).toNat : Int) % ((2 ^ w : Nat) : Int) = (-(a : Int)) % ((2 ^ w : Nat) : Int) := by
      rw [Int.toNat_of_nonneg h1]; exact Int.emod_emod_of_dvd _ hdv
    omega
  generalize md 64 (-(a : Int)) = m at hw1 hm hr
  have HM := Lib.hid hm
  have HR := Lib.hid hr
  have HW := Lib.hid hw1
  clear hm hr ha hw1
  go_enter Tryd.func38, Tryd.ntmps38
  go_wp2_with fail
  rw [HW.out]
  refine (rcut_any m w _ rfl HM.out hw _).mono ?_
  rw [HR.out]
  rintro e w1 ⟨rfl, hb⟩
  go_wp2_with fail
  go_ret
  exact ⟨rfl, hb⟩
set_option maxHeartbeats 800000 in
theorem rless_any (w : Nat) (v : Int) (h : Wd w v) (a : Nat) (ha : a < 2 ^ w) (b : Nat) (hb : b < 2 ^ w) (W : World) :
    Calls Tryd.prog 36 #[.int .u64 a, .int .u64 b, .int .i64 v] W fun e W' => e = .returned (.bool (decide (sg w a < sg w b))) ∧ W = W' := by
  have HA := Lib.hid (wd64 h ha)
  have HB := Lib.hid (wd64 h hb)
  obtain ⟨r, hr⟩ : ∃ r, a / 2 ^ (w - 1) % 2 = r := ⟨_, rfl⟩
  obtain ⟨s, hs⟩ : ∃ s, b / 2 ^ (w - 1) % 2 = s := ⟨_, rfl⟩
  have H : Hid (a < 2 ^ w ∧ b < 2 ^ w) := ⟨ha, hb⟩
  clear ha hb
  have HR := Lib.hid hr
  have HS := Lib.hid hs
  have hr2 : r = 0 ∨ r = 1 := by omega
  have hs2 : s = 0 ∨ s = 1 := by omega
  clear hr hs
  rcases h with ⟨rfl, rfl⟩ | ⟨rfl, rfl⟩
  · rcases hr2 with rfl | rfl <;> rcases hs2 with rfl | rfl
    all_goals
      go_enter Tryd.func36, Tryd.ntmps36
      go_wp2_with fail
      refine (Bit_is a 31 _ _ rfl HA.out (by omega) _ HR.out).mono ?_
      rintro e w1 ⟨rfl, rfl⟩
      go_wp2_with fail
      refine (Bit_is b 31 _ _ rfl HB.out (by omega) _ HS.out).mono ?_
      rintro e w1 ⟨rfl, rfl⟩
      go_wp2_with fail
      go_ret
      refine ⟨ret_bool ?_, rfl⟩
      have h1 := HR.out
      have h2 := HS.out
      have h3 := H.out
      simp only [Nat.reducePow, Nat.reduceSub] at h1 h2 h3
      rw [sg32, sg32]
      symm
      first
        | (rw [Bool.eq_iff_iff, decide_eq_true_eq, decide_eq_true_eq]; split <;> split <;> omega)
        | (simp only [decide_eq_true_eq, decide_eq_false_iff_not]; split <;> split <;> omega)
  · rcases hr2 with rfl | rfl <;> rcases hs2 with rfl | rfl
    all_goals
      go_enter Tryd.func36, Tryd.ntmps36
      go_wp2_with fail
      refine (Bit_is a 63 _ _ rfl HA.out (by omega) _ HR.out).mono ?_
      rintro e w1 ⟨rfl, rfl⟩
      go_wp2_with fail
      refine (Bit_is b 63 _ _ rfl HB.out (by omega) _ HS.out).mono ?_
      rintro e w1 ⟨rfl, rfl⟩
      go_wp2_with fail
      go_ret
      refine ⟨ret_bool ?_, rfl⟩
      have h1 := HR.out
      have h2 := HS.out
      have h3 := H.out
      simp only [Nat.reducePow, Nat.reduceSub] at h1 h2 h3
      rw [sg64, sg64]
      symm
      first
        | (rw [Bool.eq_iff_iff, decide_eq_true_eq, decide_eq_true_eq]; split <;> split <;> omega)
        | (simp only [decide_eq_true_eq, decide_eq_false_iff_not]; split <;> split <;> omega)
/-- What a comparison tells. -/
def ab (p w a b : Nat) : Bool :=
  match p with
  | 10 => decide (a = b)
  | 11 => decide (a ≠ b)
  | 12 => decide (sg w a < sg w b)
  | 13 => decide (a < b)
  | 14 => decide (sg w b < sg w a)
  | 15 => decide (b < a)
  | 16 => decide (sg w a ≤ sg w b)
  | 17 => decide (a ≤ b)
  | 18 => decide (sg w b ≤ sg w a)
  | _ => decide (b ≤ a)
theorem tv_ab (p w a b : Nat) (h1 : 10 ≤ p) (h2 : p ≤ 19) : tv p w a b = yes (ab p w a b) := by
  have : p = 10 ∨ p = 11 ∨ p = 12 ∨ p = 13 ∨ p = 14 ∨ p = 15 ∨ p = 16 ∨ p = 17 ∨ p = 18 ∨ p = 19 := by omega
  rcases this with rfl | rfl | rfl | rfl | rfl | rfl | rfl | rfl | rfl | rfl <;> rfl
set_option maxHeartbeats 800000 in
theorem rasks_any (p : Nat) (h1 : 10 ≤ p) (h2 : p ≤ 19) (w : Nat) (v : Int) (h : Wd w v) (a : Nat) (ha : a < 2 ^ w) (b : Nat) (hb : b < 2 ^ w) (W : World) :
    Calls Tryd.prog 28 #[.int .i64 p, .int .i64 v, .int .u64 a, .int .u64 b] W fun e W' => e = .returned (.bool (ab p w a b)) ∧ W = W' := by
  have HL1 := Lib.hid (fun W : World => rless_any w v h a ha b hb W)
  have HL2 := Lib.hid (fun W : World => rless_any w v h b hb a ha W)
  clear ha hb h
  have : p = 10 ∨ p = 11 ∨ p = 12 ∨ p = 13 ∨ p = 14 ∨ p = 15 ∨ p = 16 ∨ p = 17 ∨ p = 18 ∨ p = 19 := by omega
  clear h1 h2
  rcases this with rfl | rfl | rfl | rfl | rfl | rfl | rfl | rfl | rfl | rfl
  all_goals
    go_enter Tryd.func28, Tryd.ntmps28
    go_wp2_with (first
      | (go_at_call 36; ((with_reducible refine (HL1.out _).mono ?_); rintro e w1 ⟨rfl, rfl⟩))
      | (go_at_call 36; ((with_reducible refine (HL2.out _).mono ?_); rintro e w1 ⟨rfl, rfl⟩)))
    go_ret
    refine ⟨ret_bool ?_, rfl⟩
    show _ = decide _
    first
      | rfl
      | (rw [Bool.eq_iff_iff]; simp; done)
      | (rw [Bool.eq_iff_iff]; simp; omega)
end Go.Proofs.YtnhnbcjffnlicaaDoor

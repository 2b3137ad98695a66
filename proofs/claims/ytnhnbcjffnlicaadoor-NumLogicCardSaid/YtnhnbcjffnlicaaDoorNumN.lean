/-
  The document's Two from place 20 on, walked.
-/
import Derived.Test.YtnhnbcjffnlicaaDoorNumM
namespace Go.Proofs.YtnhnbcjffnlicaaDoor
open Go.RowKit Num
set_option linter.unusedVariables false

set_option maxRecDepth 100000 in
set_option maxHeartbeats 2000000 in
theorem rTwo_zero (op : Int) (a w : Nat) (pi f t : Int) (h1 : 23 ≤ pi) (h2 : pi ≤ 26) (h : Wd w f) (ha : a < 2 ^ w) (W : World) (hOf : ∀ W, Calls Tryd.prog 13 #[.int .i64 op] W (K4 pi f t 2 W)) :
    Calls Tryd.prog 16 #[.int .i64 op, .int .u64 a, .int .u64 0] W (Two2 (0, 30) W) := by
  have HO := Lib.hid hOf
  have hw64 : w ≤ 64 := by rcases h with ⟨rfl, _⟩ | ⟨rfl, _⟩ <;> omega
  have hf : f = (w : Int) := by rcases h with ⟨rfl, rfl⟩ | ⟨rfl, rfl⟩ <;> rfl
  have HF := Lib.hid (fun W => rfits_any a w f hf (wd64 h ha) hw64 W)
  have HG : Hid (∀ W : World, Calls Tryd.prog 23 #[.int .u64 0, .int .i64 f] W fun e W' => e = .returned (.bool (decide (0 < 2 ^ w))) ∧ Below W.heap.size W W') := fun W => rfits_any 0 w f hf (by omega) hw64 W
  have hd : decide (a < 2 ^ w) = true := by rw [decide_eq_true_eq]; exact ha
  have hd2 : decide (0 < 2 ^ w) = true := by rw [decide_eq_true_eq]; exact Nat.two_pow_pos w
  have HD := Lib.hid hd
  have HD2 := Lib.hid hd2
  clear hOf hf ha hd hd2 hw64 h
  go_enter Tryd.func16, Tryd.ntmps16
  go_wp2_with (first
    | (go_at_call 13; ((with_reducible refine (HO.out _).mono ?_); rintro e w1 ⟨rfl, hb⟩))
    | (go_at_call 23; ((with_reducible refine (HF.out _).mono ?_); rw [HD.out]; rintro e w2 ⟨rfl, hb2⟩; obtain ⟨hc2, hf2⟩ := bcell hb2; have hB2 := below_trans (hb.alloc hb.size _) hb2))
    | (go_at_call 23; ((with_reducible refine (HG.out _).mono ?_); rw [HD2.out]; rintro e w3 ⟨rfl, hb3⟩; have hk0 : w3.cell? ⟨w1.heap.size, 0, none⟩ = some (.int .i64 pi) := (by rw [(bcell hb3).1 _ _ (Nat.lt_of_lt_of_le (by simp) hb2.size), hc2 _ _ (by simp)]; go_simp); have hB3 := below_trans hB2 hb3)))
  go_ret2
  exact ⟨rfl, hB3⟩

theorem mod_cut {w : Nat} (hw : w ≤ 64) (x : Nat) : x % 18446744073709551616 % 2 ^ w = x % 2 ^ w := Nat.mod_mod_of_dvd x (show 2 ^ w ∣ 2 ^ 64 from Nat.pow_dvd_pow 2 hw)
theorem arr_add (w a b : Nat) (hw : w ≤ 64) : (a + b) % 18446744073709551616 % 2 ^ w = tv 20 w a b := mod_cut hw _
theorem arr_mul (w a b : Nat) (hw : w ≤ 64) : a * b % 18446744073709551616 % 2 ^ w = tv 22 w a b := mod_cut hw _
theorem arr_sub (w a b : Nat) (hw : w ≤ 64) (hb : b < 2 ^ w) : md 64 ((a : Int) - (b : Int)) % 2 ^ w = tv 21 w a b := by
  show _ = (a + (2 ^ w - b)) % 2 ^ w
  have hp := Nat.two_pow_pos w
  have h64 : 2 ^ w ≤ 2 ^ 64 := Nat.pow_le_pow_right (by omega) hw
  have e : md 64 ((a : Int) - (b : Int)) = (a + (2 ^ 64 - b)) % 2 ^ 64 := by
    rw [md64]; omega
  rw [e]
  refine (mod_cut hw _).trans ?_
  obtain ⟨d, hd⟩ : 2 ^ w ∣ 2 ^ 64 := Nat.pow_dvd_pow 2 hw
  have e2 : a + (2 ^ 64 - b) = a + (2 ^ w - b) + 2 ^ w * (d - 1) := by
    rw [hd, Nat.mul_sub, Nat.mul_one]
    have : 2 ^ w * 1 ≤ 2 ^ w * d := by rw [← hd]; omega
    omega
  rw [e2, Nat.add_mul_mod_self_left]
def ArP (p : Nat) (pi : Int) : Prop := (p = 20 ∧ pi = 20) ∨ (p = 21 ∧ pi = 21) ∨ (p = 22 ∧ pi = 22) ∨ (p = 24 ∧ pi = 24) ∨ (p = 26 ∧ pi = 26)
set_option maxRecDepth 100000 in
set_option maxHeartbeats 8000000 in
theorem rTwo_ar (op : Int) (a b w p : Nat) (pi f t : Int) (hp : ArP p pi) (h : Wd w f) (ha : a < 2 ^ w) (hb : b < 2 ^ w) (h0 : b ≠ 0 ∨ p < 23) (W : World) (hOf : ∀ W, Calls Tryd.prog 13 #[.int .i64 op] W (K4 pi f t 2 W)) :
    Calls Tryd.prog 16 #[.int .i64 op, .int .u64 a, .int .u64 b] W (Two2 (tv p w a b, 0) W) := by
  have hw64 : w ≤ 64 := by rcases h with ⟨rfl, _⟩ | ⟨rfl, _⟩ <;> omega
  have hw1 : 1 ≤ w := by rcases h with ⟨rfl, _⟩ | ⟨rfl, _⟩ <;> omega
  have hf : f = (w : Int) := by rcases h with ⟨rfl, rfl⟩ | ⟨rfl, rfl⟩ <;> rfl
  subst hf
  have HO := Lib.hid hOf
  have HF := Lib.hid (fun W => rfits_any a w _ rfl (wd64 h ha) hw64 W)
  have HG := Lib.hid (fun W => rfits_any b w _ rfl (wd64 h hb) hw64 W)
  have HBa := Lib.hid (fun W => RBits_any a w _ rfl (wd64 h ha) hw64 W)
  have HBb := Lib.hid (fun W => RBits_any b w _ rfl (wd64 h hb) hw64 W)
  have HC := Lib.hid (fun (m : Nat) (hm : m < 18446744073709551616) W => rcut_any m w _ rfl hm hw64 W)
  have hd : decide (a < 2 ^ w) = true := by rw [decide_eq_true_eq]; exact ha
  have hd2 : decide (b < 2 ^ w) = true := by rw [decide_eq_true_eq]; exact hb
  have HD := Lib.hid hd
  have HD2 := Lib.hid hd2
  have H := Lib.hid (And.intro ha (And.intro hb (And.intro (wd64 h ha) (wd64 h hb))))
  have hwz : ((w : Int) == 0) = false := by rw [beq_eq_false_iff_ne]; omega
  have hwz2 : (w : Int) ≠ 0 := by omega
  have hwi : (0 : Int) < (w : Int) := by omega
  have hwj : (w : Int) ≤ 64 := by omega
  have HW := Lib.hid hw64
  clear hOf ha hb hd hd2 hw64 hw1 h
  rcases hp with ⟨rfl, rfl⟩ | ⟨rfl, rfl⟩ | ⟨rfl, rfl⟩ | ⟨rfl, rfl⟩ | ⟨rfl, rfl⟩
  · clear h0
    have hs : IntKind.u64.wrap ((a : Int) + (b : Int)) = (((a + b) % 18446744073709551616 : Nat) : Int) := by rw [IntKind.wrap_u64]; omega
    have hv : ((a + b) % 18446744073709551616) % 2 ^ w = tv 20 w a b := by exact arr_add w a b HW.out
    have hl : (a + b) % 18446744073709551616 < 18446744073709551616 := Nat.mod_lt _ (by decide)
    generalize (a + b) % 18446744073709551616 = S at hs hv hl
    have HS := Lib.hid hs
    have HV := Lib.hid hv
    have HSL := Lib.hid hl
    clear hs hv hl
    go_enter Tryd.func16, Tryd.ntmps16
    go_wp2_with (first
      | (go_at_call 13; ((with_reducible refine (HO.out _).mono ?_); rintro e w1 ⟨rfl, hb⟩))
      | (go_at_call 23; ((with_reducible refine (HF.out _).mono ?_); rw [HD.out]; rintro e w2 ⟨rfl, hb2⟩; obtain ⟨hc2, hf2⟩ := bcell hb2; have hB2 := below_trans (hb.alloc hb.size _) hb2))
      | (go_at_call 23; ((with_reducible refine (HG.out _).mono ?_); rw [HD2.out]; rintro e w3 ⟨rfl, hb3⟩; have hk0 : w3.cell? ⟨w1.heap.size, 0, none⟩ = some (.int .i64 20) := (by rw [(bcell hb3).1 _ _ (Nat.lt_of_lt_of_le (by simp) hb2.size), hc2 _ _ (by simp)]; go_simp); have hlt3 : w1.heap.size < w3.heap.size := (by have q2 := hb2.size; have q3 := hb3.size; simp at q2; omega); have hB3 := below_trans hB2 hb3))
      | (go_at_call 24; ((with_reducible refine (HBa.out _).mono ?_); rintro e w4 ⟨A4, c4, rfl, ho4, hb4⟩))
      | (go_at_call 24; ((with_reducible refine (HBb.out _).mono ?_); rintro e w5 ⟨A5, c5, rfl, ho5, hb5⟩; obtain ⟨w6, hrun, ho6, hg6⟩ := run_make_ints w5 w5.heap.size w (by have := HW.out; omega) (Nat.le_refl _); have hB56 := Below.grownNone' hg6 (Nat.le_refl _) (Below.refl w5.heap.size w5); have hB6 : Below W.heap.size W w6 := below_trans (below_trans (below_trans hB3 hb4) hb5) hB56; have hk6 : w6.cell? ⟨w1.heap.size, 0, none⟩ = some (.int .i64 20) := (by rw [(bcell (below_trans (below_trans hb4 hb5) hB56)).1 _ _ hlt3, hk0]))))
    rw [HS.out]
    refine (HC.out S HSL.out _).mono ?_
    rw [HV.out]
    rintro e w7 ⟨rfl, hb7⟩
    go_wp2_with fail
    go_ret2
    exact ⟨rfl, below_trans hB6 hb7⟩
  · clear h0
    have hs : IntKind.u64.wrap ((a : Int) - (b : Int)) = ((md 64 ((a : Int) - (b : Int)) : Nat) : Int) := by exact wrap_md _
    have hv : (md 64 ((a : Int) - (b : Int))) % 2 ^ w = tv 21 w a b := by exact arr_sub w a b HW.out H.out.2.1
    have hl : md 64 ((a : Int) - (b : Int)) < 18446744073709551616 := by rw [md64]; omega
    generalize md 64 ((a : Int) - (b : Int)) = S at hs hv hl
    have HS := Lib.hid hs
    have HV := Lib.hid hv
    have HSL := Lib.hid hl
    clear hs hv hl
    go_enter Tryd.func16, Tryd.ntmps16
    go_wp2_with (first
      | (go_at_call 13; ((with_reducible refine (HO.out _).mono ?_); rintro e w1 ⟨rfl, hb⟩))
      | (go_at_call 23; ((with_reducible refine (HF.out _).mono ?_); rw [HD.out]; rintro e w2 ⟨rfl, hb2⟩; obtain ⟨hc2, hf2⟩ := bcell hb2; have hB2 := below_trans (hb.alloc hb.size _) hb2))
      | (go_at_call 23; ((with_reducible refine (HG.out _).mono ?_); rw [HD2.out]; rintro e w3 ⟨rfl, hb3⟩; have hk0 : w3.cell? ⟨w1.heap.size, 0, none⟩ = some (.int .i64 21) := (by rw [(bcell hb3).1 _ _ (Nat.lt_of_lt_of_le (by simp) hb2.size), hc2 _ _ (by simp)]; go_simp); have hlt3 : w1.heap.size < w3.heap.size := (by have q2 := hb2.size; have q3 := hb3.size; simp at q2; omega); have hB3 := below_trans hB2 hb3))
      | (go_at_call 24; ((with_reducible refine (HBa.out _).mono ?_); rintro e w4 ⟨A4, c4, rfl, ho4, hb4⟩))
      | (go_at_call 24; ((with_reducible refine (HBb.out _).mono ?_); rintro e w5 ⟨A5, c5, rfl, ho5, hb5⟩; obtain ⟨w6, hrun, ho6, hg6⟩ := run_make_ints w5 w5.heap.size w (by have := HW.out; omega) (Nat.le_refl _); have hB56 := Below.grownNone' hg6 (Nat.le_refl _) (Below.refl w5.heap.size w5); have hB6 : Below W.heap.size W w6 := below_trans (below_trans (below_trans hB3 hb4) hb5) hB56; have hk6 : w6.cell? ⟨w1.heap.size, 0, none⟩ = some (.int .i64 21) := (by rw [(bcell (below_trans (below_trans hb4 hb5) hB56)).1 _ _ hlt3, hk0]))))
    rw [HS.out]
    refine (HC.out S HSL.out _).mono ?_
    rw [HV.out]
    rintro e w7 ⟨rfl, hb7⟩
    go_wp2_with fail
    go_ret2
    exact ⟨rfl, below_trans hB6 hb7⟩
  · clear h0
    have hs : IntKind.u64.wrap ((a : Int) * (b : Int)) = ((a * b % 18446744073709551616 : Nat) : Int) := by rw [IntKind.wrap_u64, ← Int.natCast_mul]; generalize a * b = q; omega
    have hv : (a * b % 18446744073709551616) % 2 ^ w = tv 22 w a b := by exact arr_mul w a b HW.out
    have hl : a * b % 18446744073709551616 < 18446744073709551616 := Nat.mod_lt _ (by decide)
    generalize a * b % 18446744073709551616 = S at hs hv hl
    have HS := Lib.hid hs
    have HV := Lib.hid hv
    have HSL := Lib.hid hl
    clear hs hv hl
    go_enter Tryd.func16, Tryd.ntmps16
    go_wp2_with (first
      | (go_at_call 13; ((with_reducible refine (HO.out _).mono ?_); rintro e w1 ⟨rfl, hb⟩))
      | (go_at_call 23; ((with_reducible refine (HF.out _).mono ?_); rw [HD.out]; rintro e w2 ⟨rfl, hb2⟩; obtain ⟨hc2, hf2⟩ := bcell hb2; have hB2 := below_trans (hb.alloc hb.size _) hb2))
      | (go_at_call 23; ((with_reducible refine (HG.out _).mono ?_); rw [HD2.out]; rintro e w3 ⟨rfl, hb3⟩; have hk0 : w3.cell? ⟨w1.heap.size, 0, none⟩ = some (.int .i64 22) := (by rw [(bcell hb3).1 _ _ (Nat.lt_of_lt_of_le (by simp) hb2.size), hc2 _ _ (by simp)]; go_simp); have hlt3 : w1.heap.size < w3.heap.size := (by have q2 := hb2.size; have q3 := hb3.size; simp at q2; omega); have hB3 := below_trans hB2 hb3))
      | (go_at_call 24; ((with_reducible refine (HBa.out _).mono ?_); rintro e w4 ⟨A4, c4, rfl, ho4, hb4⟩))
      | (go_at_call 24; ((with_reducible refine (HBb.out _).mono ?_); rintro e w5 ⟨A5, c5, rfl, ho5, hb5⟩; obtain ⟨w6, hrun, ho6, hg6⟩ := run_make_ints w5 w5.heap.size w (by have := HW.out; omega) (Nat.le_refl _); have hB56 := Below.grownNone' hg6 (Nat.le_refl _) (Below.refl w5.heap.size w5); have hB6 : Below W.heap.size W w6 := below_trans (below_trans (below_trans hB3 hb4) hb5) hB56; have hk6 : w6.cell? ⟨w1.heap.size, 0, none⟩ = some (.int .i64 22) := (by rw [(bcell (below_trans (below_trans hb4 hb5) hB56)).1 _ _ hlt3, hk0]))))
    rw [HS.out]
    refine (HC.out S HSL.out _).mono ?_
    rw [HV.out]
    rintro e w7 ⟨rfl, hb7⟩
    go_wp2_with fail
    go_ret2
    exact ⟨rfl, below_trans hB6 hb7⟩
  · have hb0 : b ≠ 0 := by omega
    have hbz : ((b : Int) == 0) = false := by rw [beq_eq_false_iff_ne]; omega
    have HQ := H
    clear h0
    go_enter Tryd.func16, Tryd.ntmps16
    go_wp2_with (first
      | (go_at_call 13; ((with_reducible refine (HO.out _).mono ?_); rintro e w1 ⟨rfl, hb⟩))
      | (go_at_call 23; ((with_reducible refine (HF.out _).mono ?_); rw [HD.out]; rintro e w2 ⟨rfl, hb2⟩; obtain ⟨hc2, hf2⟩ := bcell hb2; have hB2 := below_trans (hb.alloc hb.size _) hb2))
      | (go_at_call 23; ((with_reducible refine (HG.out _).mono ?_); rw [HD2.out]; rintro e w3 ⟨rfl, hb3⟩; have hk0 : w3.cell? ⟨w1.heap.size, 0, none⟩ = some (.int .i64 24) := (by rw [(bcell hb3).1 _ _ (Nat.lt_of_lt_of_le (by simp) hb2.size), hc2 _ _ (by simp)]; go_simp); have hlt3 : w1.heap.size < w3.heap.size := (by have q2 := hb2.size; have q3 := hb3.size; simp at q2; omega); have hB3 := below_trans hB2 hb3))
      | (go_at_call 24; ((with_reducible refine (HBa.out _).mono ?_); rintro e w4 ⟨A4, c4, rfl, ho4, hb4⟩))
      | (go_at_call 24; ((with_reducible refine (HBb.out _).mono ?_); rintro e w5 ⟨A5, c5, rfl, ho5, hb5⟩; obtain ⟨w6, hrun, ho6, hg6⟩ := run_make_ints w5 w5.heap.size w (by have := HW.out; omega) (Nat.le_refl _); have hB56 := Below.grownNone' hg6 (Nat.le_refl _) (Below.refl w5.heap.size w5); have hB6 : Below W.heap.size W w6 := below_trans (below_trans (below_trans hB3 hb4) hb5) hB56; have hk6 : w6.cell? ⟨w1.heap.size, 0, none⟩ = some (.int .i64 24) := (by rw [(bcell (below_trans (below_trans hb4 hb5) hB56)).1 _ _ hlt3, hk0]))))
    go_ret2
    refine ⟨two_of ?_, hB6⟩
    rw [IntKind.wrap_u64, ← Int.natCast_ediv]; have h9 := Nat.div_le_self a b; have := HQ.out.2.2.1; show _ = ((a / b : Nat) : Int); generalize a / b = q at h9 ⊢; omega
  · have hb0 : b ≠ 0 := by omega
    have hbz : ((b : Int) == 0) = false := by rw [beq_eq_false_iff_ne]; omega
    have HQ := H
    clear h0
    go_enter Tryd.func16, Tryd.ntmps16
    go_wp2_with (first
      | (go_at_call 13; ((with_reducible refine (HO.out _).mono ?_); rintro e w1 ⟨rfl, hb⟩))
      | (go_at_call 23; ((with_reducible refine (HF.out _).mono ?_); rw [HD.out]; rintro e w2 ⟨rfl, hb2⟩; obtain ⟨hc2, hf2⟩ := bcell hb2; have hB2 := below_trans (hb.alloc hb.size _) hb2))
      | (go_at_call 23; ((with_reducible refine (HG.out _).mono ?_); rw [HD2.out]; rintro e w3 ⟨rfl, hb3⟩; have hk0 : w3.cell? ⟨w1.heap.size, 0, none⟩ = some (.int .i64 26) := (by rw [(bcell hb3).1 _ _ (Nat.lt_of_lt_of_le (by simp) hb2.size), hc2 _ _ (by simp)]; go_simp); have hlt3 : w1.heap.size < w3.heap.size := (by have q2 := hb2.size; have q3 := hb3.size; simp at q2; omega); have hB3 := below_trans hB2 hb3))
      | (go_at_call 24; ((with_reducible refine (HBa.out _).mono ?_); rintro e w4 ⟨A4, c4, rfl, ho4, hb4⟩))
      | (go_at_call 24; ((with_reducible refine (HBb.out _).mono ?_); rintro e w5 ⟨A5, c5, rfl, ho5, hb5⟩; obtain ⟨w6, hrun, ho6, hg6⟩ := run_make_ints w5 w5.heap.size w (by have := HW.out; omega) (Nat.le_refl _); have hB56 := Below.grownNone' hg6 (Nat.le_refl _) (Below.refl w5.heap.size w5); have hB6 : Below W.heap.size W w6 := below_trans (below_trans (below_trans hB3 hb4) hb5) hB56; have hk6 : w6.cell? ⟨w1.heap.size, 0, none⟩ = some (.int .i64 26) := (by rw [(bcell (below_trans (below_trans hb4 hb5) hB56)).1 _ _ hlt3, hk0]))))
    go_ret2
    refine ⟨two_of ?_, hB6⟩
    rfl
end Go.Proofs.YtnhnbcjffnlicaaDoor

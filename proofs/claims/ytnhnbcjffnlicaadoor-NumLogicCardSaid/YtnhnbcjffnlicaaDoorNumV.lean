/-
  The document's Two where it divides as signed, walked.
-/
import Derived.Test.YtnhnbcjffnlicaaDoorNumN
namespace Go.Proofs.YtnhnbcjffnlicaaDoor
open Go.RowKit Num
set_option linter.unusedVariables false
theorem div_three {q r : Nat} {o : Bool} {W W' : World} {e : Ending} (h : Three q r o W e W') : e = .returned (.tuple #[.int .u64 (q : Int), .int .u64 (r : Int), .bool o]) ∧ Below W.heap.size W W' := h
set_option maxRecDepth 100000 in
set_option maxHeartbeats 4000000 in
theorem rTwo_25 (op : Int) (a b w : Nat) (f t : Int) (h : Wd w f) (ha : a < 2 ^ w) (hb : b < 2 ^ w) (h0 : b ≠ 0) (W : World) (hOf : ∀ W, Calls Tryd.prog 13 #[.int .i64 op] W (K4 25 f t 2 W)) :
    Calls Tryd.prog 16 #[.int .i64 op, .int .u64 a, .int .u64 b] W (Two2 (tv 25 w a b, 0) W) := by
  have HDV := Lib.hid (fun W => rdivide_any w f h a ha b hb h0 W)
  have hw64 : w ≤ 64 := by rcases h with ⟨rfl, _⟩ | ⟨rfl, _⟩ <;> omega
  have hw1 : 1 ≤ w := by rcases h with ⟨rfl, _⟩ | ⟨rfl, _⟩ <;> omega
  have hf : f = (w : Int) := by rcases h with ⟨rfl, rfl⟩ | ⟨rfl, rfl⟩ <;> rfl
  subst hf
  have HO := Lib.hid hOf
  have HF := Lib.hid (fun W => rfits_any a w _ rfl (wd64 h ha) hw64 W)
  have HG := Lib.hid (fun W => rfits_any b w _ rfl (wd64 h hb) hw64 W)
  have HBa := Lib.hid (fun W => RBits_any a w _ rfl (wd64 h ha) hw64 W)
  have HBb := Lib.hid (fun W => RBits_any b w _ rfl (wd64 h hb) hw64 W)
  have HC := Lib.hid (fun (m : Nat) (hm : m < 18446744073709551616) W => rcut_any m w _ rfl hm hw64 W)
  have hd : decide (a < 2 ^ w) = true := by rw [decide_eq_true_eq]; exact ha
  have hd2 : decide (b < 2 ^ w) = true := by rw [decide_eq_true_eq]; exact hb
  have HD := Lib.hid hd
  have HD2 := Lib.hid hd2
  have H := Lib.hid (And.intro ha (And.intro hb (And.intro (wd64 h ha) (wd64 h hb))))
  have hwz : ((w : Int) == 0) = false := by rw [beq_eq_false_iff_ne]; omega
  have hwz2 : (w : Int) ≠ 0 := by omega
  have hwi : (0 : Int) < (w : Int) := by omega
  have hwj : (w : Int) ≤ 64 := by omega
  have HW := Lib.hid hw64
  clear hOf ha hb hd hd2 hw64 hw1 h
  obtain ⟨O, hO⟩ : ∃ O, decide (b = 2 ^ w - 1 ∧ a = 2 ^ (w - 1)) = O := ⟨_, rfl⟩
  obtain ⟨Q, hQ⟩ : ∃ Q, md w ((sg w a).tdiv (sg w b)) = Q := ⟨_, rfl⟩
  obtain ⟨R, hR⟩ : ∃ R, md w ((sg w a).tmod (sg w b)) = R := ⟨_, rfl⟩
  have HQ := Lib.hid hQ
  have HR := Lib.hid hR
  have HO2 := Lib.hid hO
  have hbz : ((b : Int) == 0) = false := by rw [beq_eq_false_iff_ne]; omega
  clear hQ hR hO h0
  go_enter Tryd.func16, Tryd.ntmps16
  go_wp2_with (first
      | (go_at_call 13; ((with_reducible refine (HO.out _).mono ?_); rintro e w1 ⟨rfl, hb⟩))
      | (go_at_call 23; ((with_reducible refine (HF.out _).mono ?_); rw [HD.out]; rintro e w2 ⟨rfl, hb2⟩; obtain ⟨hc2, hf2⟩ := bcell hb2; have hB2 := below_trans (hb.alloc hb.size _) hb2))
      | (go_at_call 23; ((with_reducible refine (HG.out _).mono ?_); rw [HD2.out]; rintro e w3 ⟨rfl, hb3⟩; have hk0 : w3.cell? ⟨w1.heap.size, 0, none⟩ = some (.int .i64 25) := (by rw [(bcell hb3).1 _ _ (Nat.lt_of_lt_of_le (by simp) hb2.size), hc2 _ _ (by simp)]; go_simp); have hlt3 : w1.heap.size < w3.heap.size := (by have q2 := hb2.size; have q3 := hb3.size; simp at q2; omega); have hB3 := below_trans hB2 hb3))
      | (go_at_call 24; ((with_reducible refine (HBa.out _).mono ?_); rintro e w4 ⟨A4, c4, rfl, ho4, hb4⟩))
      | (go_at_call 24; ((with_reducible refine (HBb.out _).mono ?_); rintro e w5 ⟨A5, c5, rfl, ho5, hb5⟩; obtain ⟨w6, hrun, ho6, hg6⟩ := run_make_ints w5 w5.heap.size w (by have := HW.out; omega) (Nat.le_refl _); have hB56 := Below.grownNone' hg6 (Nat.le_refl _) (Below.refl w5.heap.size w5); have hB6 : Below W.heap.size W w6 := below_trans (below_trans (below_trans hB3 hb4) hb5) hB56; have hk6 : w6.cell? ⟨w1.heap.size, 0, none⟩ = some (.int .i64 25) := (by rw [(bcell (below_trans (below_trans hb4 hb5) hB56)).1 _ _ hlt3, hk0])))
      | (go_at_call 29; ((with_reducible refine (HDV.out _).mono ?_); rw [HQ.out, HR.out, HO2.out]; intro e w7 h7; obtain ⟨rfl, hb7⟩ := div_three h7; have hk7 : w7.cell? ⟨w1.heap.size, 0, none⟩ = some (.int .i64 25) := (by rw [(bcell hb7).1 _ _ (Nat.lt_of_lt_of_le hlt3 (Nat.le_trans hb4.size (Nat.le_trans hb5.size hB56.size))), hk6]); have hB7 := below_trans hB6 hb7)))
  go_ret2
  refine ⟨two_of ?_, hB7⟩
  show (R : Int) = ((md w ((sg w a).tmod (sg w b)) : Nat) : Int)
  rw [HR.out]
set_option maxRecDepth 100000 in
set_option maxHeartbeats 4000000 in
theorem rTwo_23n (op : Int) (a b w : Nat) (f t : Int) (h : Wd w f) (ha : a < 2 ^ w) (hb : b < 2 ^ w) (h0 : b ≠ 0) (hov : ¬ (b = 2 ^ w - 1 ∧ a = 2 ^ (w - 1))) (W : World) (hOf : ∀ W, Calls Tryd.prog 13 #[.int .i64 op] W (K4 23 f t 2 W)) :
    Calls Tryd.prog 16 #[.int .i64 op, .int .u64 a, .int .u64 b] W (Two2 (tv 23 w a b, 0) W) := by
  have HDV := Lib.hid (fun W => rdivide_any w f h a ha b hb h0 W)
  have hov2 : decide (b = 2 ^ w - 1 ∧ a = 2 ^ (w - 1)) = false := by rw [decide_eq_false_iff_not]; exact hov
  have HOV := Lib.hid hov2
  clear hov hov2
  have hw64 : w ≤ 64 := by rcases h with ⟨rfl, _⟩ | ⟨rfl, _⟩ <;> omega
  have hw1 : 1 ≤ w := by rcases h with ⟨rfl, _⟩ | ⟨rfl, _⟩ <;> omega
  have hf : f = (w : Int) := by rcases h with ⟨rfl, rfl⟩ | ⟨rfl, rfl⟩ <;> rfl
  subst hf
  have HO := Lib.hid hOf
  have HF := Lib.hid (fun W => rfits_any a w _ rfl (wd64 h ha) hw64 W)
  have HG := Lib.hid (fun W => rfits_any b w _ rfl (wd64 h hb) hw64 W)
  have HBa := Lib.hid (fun W => RBits_any a w _ rfl (wd64 h ha) hw64 W)
  have HBb := Lib.hid (fun W => RBits_any b w _ rfl (wd64 h hb) hw64 W)
  have HC := Lib.hid (fun (m : Nat) (hm : m < 18446744073709551616) W => rcut_any m w _ rfl hm hw64 W)
  have hd : decide (a < 2 ^ w) = true := by rw [decide_eq_true_eq]; exact ha
  have hd2 : decide (b < 2 ^ w) = true := by rw [decide_eq_true_eq]; exact hb
  have HD := Lib.hid hd
  have HD2 := Lib.hid hd2
  have H := Lib.hid (And.intro ha (And.intro hb (And.intro (wd64 h ha) (wd64 h hb))))
  have hwz : ((w : Int) == 0) = false := by rw [beq_eq_false_iff_ne]; omega
  have hwz2 : (w : Int) ≠ 0 := by omega
  have hwi : (0 : Int) < (w : Int) := by omega
  have hwj : (w : Int) ≤ 64 := by omega
  have HW := Lib.hid hw64
  clear hOf ha hb hd hd2 hw64 hw1 h
  obtain ⟨O, hO⟩ : ∃ O, decide (b = 2 ^ w - 1 ∧ a = 2 ^ (w - 1)) = O := ⟨_, rfl⟩
  have hO3 := HOV.out
  rw [hO] at hO3
  subst hO3
  obtain ⟨Q, hQ⟩ : ∃ Q, md w ((sg w a).tdiv (sg w b)) = Q := ⟨_, rfl⟩
  obtain ⟨R, hR⟩ : ∃ R, md w ((sg w a).tmod (sg w b)) = R := ⟨_, rfl⟩
  have HQ := Lib.hid hQ
  have HR := Lib.hid hR
  have HO2 := Lib.hid hO
  have hbz : ((b : Int) == 0) = false := by rw [beq_eq_false_iff_ne]; omega
  clear hQ hR hO h0
  go_enter Tryd.func16, Tryd.ntmps16
  go_wp2_with (first
      | (go_at_call 13; ((with_reducible refine (HO.out _).mono ?_); rintro e w1 ⟨rfl, hb⟩))
      | (go_at_call 23; ((with_reducible refine (HF.out _).mono ?_); rw [HD.out]; rintro e w2 ⟨rfl, hb2⟩; obtain ⟨hc2, hf2⟩ := bcell hb2; have hB2 := below_trans (hb.alloc hb.size _) hb2))
      | (go_at_call 23; ((with_reducible refine (HG.out _).mono ?_); rw [HD2.out]; rintro e w3 ⟨rfl, hb3⟩; have hk0 : w3.cell? ⟨w1.heap.size, 0, none⟩ = some (.int .i64 23) := (by rw [(bcell hb3).1 _ _ (Nat.lt_of_lt_of_le (by simp) hb2.size), hc2 _ _ (by simp)]; go_simp); have hlt3 : w1.heap.size < w3.heap.size := (by have q2 := hb2.size; have q3 := hb3.size; simp at q2; omega); have hB3 := below_trans hB2 hb3))
      | (go_at_call 24; ((with_reducible refine (HBa.out _).mono ?_); rintro e w4 ⟨A4, c4, rfl, ho4, hb4⟩))
      | (go_at_call 24; ((with_reducible refine (HBb.out _).mono ?_); rintro e w5 ⟨A5, c5, rfl, ho5, hb5⟩; obtain ⟨w6, hrun, ho6, hg6⟩ := run_make_ints w5 w5.heap.size w (by have := HW.out; omega) (Nat.le_refl _); have hB56 := Below.grownNone' hg6 (Nat.le_refl _) (Below.refl w5.heap.size w5); have hB6 : Below W.heap.size W w6 := below_trans (below_trans (below_trans hB3 hb4) hb5) hB56; have hk6 : w6.cell? ⟨w1.heap.size, 0, none⟩ = some (.int .i64 23) := (by rw [(bcell (below_trans (below_trans hb4 hb5) hB56)).1 _ _ hlt3, hk0])))
      | (go_at_call 29; ((with_reducible refine (HDV.out _).mono ?_); rw [HQ.out, HR.out, HO2.out]; intro e w7 h7; obtain ⟨rfl, hb7⟩ := div_three h7; have hk7 : w7.cell? ⟨w1.heap.size, 0, none⟩ = some (.int .i64 23) := (by rw [(bcell hb7).1 _ _ (Nat.lt_of_lt_of_le hlt3 (Nat.le_trans hb4.size (Nat.le_trans hb5.size hB56.size))), hk6]); have hB7 := below_trans hB6 hb7)))
  go_ret2
  refine ⟨two_of ?_, hB7⟩
  show (Q : Int) = ((md w ((sg w a).tdiv (sg w b)) : Nat) : Int)
  rw [HQ.out]
set_option maxRecDepth 100000 in
set_option maxHeartbeats 4000000 in
theorem rTwo_23o (op : Int) (a b w : Nat) (f t : Int) (h : Wd w f) (ha : a < 2 ^ w) (hb : b < 2 ^ w) (h0 : b ≠ 0) (hov : b = 2 ^ w - 1 ∧ a = 2 ^ (w - 1)) (W : World) (hOf : ∀ W, Calls Tryd.prog 13 #[.int .i64 op] W (K4 23 f t 2 W)) :
    Calls Tryd.prog 16 #[.int .i64 op, .int .u64 a, .int .u64 b] W (Two2 (0, 31) W) := by
  have HDV := Lib.hid (fun W => rdivide_any w f h a ha b hb h0 W)
  have hov2 : decide (b = 2 ^ w - 1 ∧ a = 2 ^ (w - 1)) = true := by rw [decide_eq_true_eq]; exact hov
  have HOV := Lib.hid hov2
  clear hov hov2
  have hw64 : w ≤ 64 := by rcases h with ⟨rfl, _⟩ | ⟨rfl, _⟩ <;> omega
  have hw1 : 1 ≤ w := by rcases h with ⟨rfl, _⟩ | ⟨rfl, _⟩ <;> omega
  have hf : f = (w : Int) := by rcases h with ⟨rfl, rfl⟩ | ⟨rfl, rfl⟩ <;> rfl
  subst hf
  have HO := Lib.hid hOf
  have HF := Lib.hid (fun W => rfits_any a w _ rfl (wd64 h ha) hw64 W)
  have HG := Lib.hid (fun W => rfits_any b w _ rfl (wd64 h hb) hw64 W)
  have HBa := Lib.hid (fun W => RBits_any a w _ rfl (wd64 h ha) hw64 W)
  have HBb := Lib.hid (fun W => RBits_any b w _ rfl (wd64 h hb) hw64 W)
  have HC := Lib.hid (fun (m : Nat) (hm : m < 18446744073709551616) W => rcut_any m w _ rfl hm hw64 W)
  have hd : decide (a < 2 ^ w) = true := by rw [decide_eq_true_eq]; exact ha
  have hd2 : decide (b < 2 ^ w) = true := by rw [decide_eq_true_eq]; exact hb
  have HD := Lib.hid hd
  have HD2 := Lib.hid hd2
  have H := Lib.hid (And.intro ha (And.intro hb (And.intro (wd64 h ha) (wd64 h hb))))
  have hwz : ((w : Int) == 0) = false := by rw [beq_eq_false_iff_ne]; omega
  have hwz2 : (w : Int) ≠ 0 := by omega
  have hwi : (0 : Int) < (w : Int) := by omega
  have hwj : (w : Int) ≤ 64 := by omega
  have HW := Lib.hid hw64
  clear hOf ha hb hd hd2 hw64 hw1 h
  obtain ⟨O, hO⟩ : ∃ O, decide (b = 2 ^ w - 1 ∧ a = 2 ^ (w - 1)) = O := ⟨_, rfl⟩
  have hO3 := HOV.out
  rw [hO] at hO3
  subst hO3
  obtain ⟨Q, hQ⟩ : ∃ Q, md w ((sg w a).tdiv (sg w b)) = Q := ⟨_, rfl⟩
  obtain ⟨R, hR⟩ : ∃ R, md w ((sg w a).tmod (sg w b)) = R := ⟨_, rfl⟩
  have HQ := Lib.hid hQ
  have HR := Lib.hid hR
  have HO2 := Lib.hid hO
  have hbz : ((b : Int) == 0) = false := by rw [beq_eq_false_iff_ne]; omega
  clear hQ hR hO h0
  go_enter Tryd.func16, Tryd.ntmps16
  go_wp2_with (first
      | (go_at_call 13; ((with_reducible refine (HO.out _).mono ?_); rintro e w1 ⟨rfl, hb⟩))
      | (go_at_call 23; ((with_reducible refine (HF.out _).mono ?_); rw [HD.out]; rintro e w2 ⟨rfl, hb2⟩; obtain ⟨hc2, hf2⟩ := bcell hb2; have hB2 := below_trans (hb.alloc hb.size _) hb2))
      | (go_at_call 23; ((with_reducible refine (HG.out _).mono ?_); rw [HD2.out]; rintro e w3 ⟨rfl, hb3⟩; have hk0 : w3.cell? ⟨w1.heap.size, 0, none⟩ = some (.int .i64 23) := (by rw [(bcell hb3).1 _ _ (Nat.lt_of_lt_of_le (by simp) hb2.size), hc2 _ _ (by simp)]; go_simp); have hlt3 : w1.heap.size < w3.heap.size := (by have q2 := hb2.size; have q3 := hb3.size; simp at q2; omega); have hB3 := below_trans hB2 hb3))
      | (go_at_call 24; ((with_reducible refine (HBa.out _).mono ?_); rintro e w4 ⟨A4, c4, rfl, ho4, hb4⟩))
      | (go_at_call 24; ((with_reducible refine (HBb.out _).mono ?_); rintro e w5 ⟨A5, c5, rfl, ho5, hb5⟩; obtain ⟨w6, hrun, ho6, hg6⟩ := run_make_ints w5 w5.heap.size w (by have := HW.out; omega) (Nat.le_refl _); have hB56 := Below.grownNone' hg6 (Nat.le_refl _) (Below.refl w5.heap.size w5); have hB6 : Below W.heap.size W w6 := below_trans (below_trans (below_trans hB3 hb4) hb5) hB56; have hk6 : w6.cell? ⟨w1.heap.size, 0, none⟩ = some (.int .i64 23) := (by rw [(bcell (below_trans (below_trans hb4 hb5) hB56)).1 _ _ hlt3, hk0])))
      | (go_at_call 29; ((with_reducible refine (HDV.out _).mono ?_); rw [HQ.out, HR.out, HO2.out]; intro e w7 h7; obtain ⟨rfl, hb7⟩ := div_three h7; have hk7 : w7.cell? ⟨w1.heap.size, 0, none⟩ = some (.int .i64 23) := (by rw [(bcell hb7).1 _ _ (Nat.lt_of_lt_of_le hlt3 (Nat.le_trans hb4.size (Nat.le_trans hb5.size hB56.size))), hk6]); have hB7 := below_trans hB6 hb7)))
  go_ret2
  exact ⟨rfl, hB7⟩
end Go.Proofs.YtnhnbcjffnlicaaDoor

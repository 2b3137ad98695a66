/-
  name's Well, and the document's own One and Count, walked.
-/
import Derived.Test.YtphmknhlibampaaDoorNmA
namespace Go.Proofs.YtphmknhlibampaaDoor
open Go.RowKit
set_option linter.unusedVariables false

theorem Well_any (s : ByteArray) (w : World) (hs : s.size ≤ maxLen) :
    Calls Tryd.prog 81 #[.string s] w fun e w' => e = .returned (.bool (Nm.well (bs s))) ∧ Below w.heap.size w w' := by
  go_enter Tryd.func81, Tryd.ntmps81
  go_wp2_with fail
  refine (Count_any s _ hs).mono ?_
  rintro e w' ⟨rfl, hb⟩
  go_wp2
  go_ret
  exact ⟨rfl, hb⟩

theorem val_lt (c0 : Nat) (l : List Nat) (k : Nat) (h0 : c0 < 64) (h : Nm.conts l k = true) : Nm.val c0 l k < 64 ^ (k + 1) := by
  induction k with
  | zero => rw [Nm.val_0]; omega
  | succ k ih =>
    simp only [Nm.conts, Bool.and_eq_true, Nm.cont, decide_eq_true_eq] at h
    have := ih h.1
    rw [Nm.val_succ, Nat.pow_succ]
    omega

set_option maxRecDepth 100000 in
set_option maxHeartbeats 1000000 in
theorem One_any (s : ByteArray) (w : World) (hs : s.size ≤ maxLen) :
    Calls Tryd.prog 106 #[.string s] w fun e w' => e = .returned (.int .i64 (Nm.one (bs s) : Nat)) ∧ Below w.heap.size w w' := by
  unfold maxLen at hs
  have HL := Lib.hid (bs_len s)
  by_cases h0 : s.size = 0
  · have H1 := Lib.hid (Nm.one_none (l := bs s) (by rw [HL.out]; exact h0))
    have t1 : ((s.size : Int) == 0) = true := by rw [beq_iff_eq]; omega
    clear h0
    go_enter Tryd.func106, Tryd.ntmps106
    go_wp2_with fail
    go_ret
    exact ⟨ret_int (by rw [H1.out]; rfl), Below.refl _ _⟩
  have t1 : ((s.size : Int) == 0) = false := beq_eq_false_iff_ne.2 (by omega)
  have hp : 0 < s.size := by omega
  have HN : Hid ((bs s).length ≠ 0) := by rw [Hid, HL.out]; omega
  have HG := Lib.hid (bs_get s 0 hp)
  have hx : ∃ x : Nat, (s[0]'hp).toNat = x ∧ x < 256 := ⟨_, rfl, (s[0]'hp).toNat_lt⟩
  clear h0
  obtain ⟨x, hx, hx2⟩ := hx
  have hx3 : (x : Int) < 256 := by omega
  rw [hx] at HG
  have HX2 := Lib.hid hx2
  clear hx2
  by_cases h1 : x < 128
  · have H1 := Lib.hid (Nm.one_lo HN.out (by rw [HG.out]; exact h1))
    have t2 : (x : Int) < 128 := by omega
    clear h1
    go_enter Tryd.func106, Tryd.ntmps106
    go_wp2_with fail
    go_ret
    exact ⟨ret_int (by rw [H1.out]; rfl), Below.refl _ _⟩
  have t2 : 128 ≤ (x : Int) := by omega
  by_cases h2 : x < 192 ∨ 248 ≤ x
  · have H1 := Lib.hid (Nm.one_mid HN.out (by rw [HG.out]; omega) (by rw [HG.out]; exact h2))
    rcases h2 with h2 | h2
    · have t3 : (x : Int) < 192 := by omega
      clear h1 h2
      go_enter Tryd.func106, Tryd.ntmps106
      go_wp2_with fail
      go_ret
      exact ⟨ret_int (by rw [H1.out]; rfl), Below.refl _ _⟩
    · have t3 : 248 ≤ (x : Int) := by omega
      clear h1 h2
      go_enter Tryd.func106, Tryd.ntmps106
      go_wp2_with fail
      go_ret
      exact ⟨ret_int (by rw [H1.out]; rfl), Below.refl _ _⟩
  have t3 : 192 ≤ (x : Int) := by omega
  by_cases h3 : x < 224
  · have t4 : (x : Int) < 224 := by omega
    have H1 := Lib.hid (Nm.one_2 HN.out (by rw [HG.out]; omega) (by rw [HG.out]; omega))
    rw [HG.out] at H1
    clear h1 h2
    by_cases h4 : s.size < 2
    · have H2 := Lib.hid (Nm.gen_short (least := 128) (c0 := x - 192) (l := bs s) (n := 2) (by rw [HL.out]; exact h4))
      have t5 : (s.size : Int) < 2 := by omega
      clear h4
      go_enter Tryd.func106, Tryd.ntmps106
      go_wp2_with fail
      go_ret
      exact ⟨ret_int (by rw [H1.out, H2.out]; rfl), Below.refl _ _⟩
    · have t5 : (2 : Int) ≤ (s.size : Int) := by omega
      go_enter Tryd.func106, Tryd.ntmps106
      go_wp2_with fail
      go_loop [4, 5] (fun c i => ∃ j v : Nat, c = .int .i64 v ∧ i = .int .i64 j ∧ 1 ≤ j ∧ j ≤ 2 ∧ v < 16777216 ∧ Hid (v = Nm.val (x - 192) (bs s) (j - 1)) ∧ Hid (Nm.conts (bs s) (j - 1) = true)) (fun _ i => 4 - (intOf i).toNat)
      case atStart => exact ⟨1, x - 192, by congr 1; omega, rfl, by omega, by omega, by omega, rfl, rfl⟩
      case round =>
        obtain ⟨j, v, rfl, rfl, hj1, hj2, hv, H3, H4⟩ := hrel
        by_cases hlt : j < 2
        · have hjs : j < s.size := by omega
          have hg := bs_get s j hjs
          obtain ⟨y, hy, hy2⟩ : ∃ y : Nat, (s[j]'hjs).toNat = y ∧ y < 256 := ⟨_, rfl, (s[j]'hjs).toNat_lt⟩
          rw [hy] at hg
          have HG2 := Lib.hid hg
          have hy3 : (y : Int) < 256 := by omega
          have HY2 := Lib.hid hy2
          clear hg hy2
          by_cases hy4 : y < 128
          · have hy5 : (y : Int) < 128 := by omega
            have H5 := Lib.hid (Nm.gen_cut (n := 2) (least := 128) (c0 := x - 192) (l := bs s) (j - 1) (by omega) (by rw [show j - 1 + 1 = j by omega, HG2.out]; simp [Nm.cont]; omega))
            clear hy4
            go_wp2_with fail
            go_ret
            exact ⟨ret_int (by rw [H1.out, H5.out]; rfl), Below.refl _ _⟩
          · have hy5 : (128 : Int) ≤ (y : Int) := by omega
            clear hy4
            by_cases hy4 : 191 < y
            · have hy6 : (191 : Int) < (y : Int) := by omega
              have H5 := Lib.hid (Nm.gen_cut (n := 2) (least := 128) (c0 := x - 192) (l := bs s) (j - 1) (by omega) (by rw [show j - 1 + 1 = j by omega, HG2.out]; simp [Nm.cont]; omega))
              clear hy4
              go_wp2_with fail
              go_ret
              exact ⟨ret_int (by rw [H1.out, H5.out]; rfl), Below.refl _ _⟩
            · have hy6 : (y : Int) ≤ 191 := by omega
              clear hy4
              go_wp2_with fail
              go_round
              case rel =>
                have e1 : Nm.conts (bs s) (j + 1 - 1) = true := by
                  rw [show j + 1 - 1 = (j - 1) + 1 by omega, Nm.conts, H4.out, show j - 1 + 1 = j by omega, HG2.out]; simp [Nm.cont]; omega
                have e2 : v * 64 + y - 128 = Nm.val (x - 192) (bs s) (j + 1 - 1) := by
                  rw [show j + 1 - 1 = (j - 1) + 1 by omega, Nm.val_succ, ← H3.out, show j - 1 + 1 = j by omega, HG2.out]
                have e3 := val_lt (x - 192) (bs s) (j + 1 - 1) (by omega) e1
                rw [← e2, show j + 1 - 1 + 1 = j + 1 by omega] at e3
                have e4 := Nat.pow_le_pow_right (n := 64) (by omega) (show j + 1 ≤ 4 by omega)
                exact ⟨j + 1, v * 64 + y - 128, by congr 1; omega, rfl, by omega, by omega, by omega, e2, e1⟩
              case measure => simp [intOf]; omega
        · obtain rfl : j = 2 := by omega
          have H5 := Lib.hid (Nm.gen_end (n := 2) (least := 128) (c0 := x - 192) (l := bs s) (by rw [HL.out]; omega) H4.out)
          rw [← H3.out] at H5
          clear hj1 hj2 hlt
          go_wp2_with fail
          all_goals
            go_ret
            refine ⟨ret_int ?_, (Below.refl _ _).alloc (Nat.le_refl _) _⟩
            rw [H1.out, H5.out]
            first
              | (rw [if_neg (by simp only [Nm.okc, Bool.and_eq_true, Bool.not_eq_true', Bool.and_eq_false_iff, decide_eq_true_eq, decide_eq_false_iff_not]; omega)]; rfl)
              | (rw [if_pos (by simp only [Nm.okc, Bool.and_eq_true, Bool.not_eq_true', Bool.and_eq_false_iff, decide_eq_true_eq, decide_eq_false_iff_not]; omega)]; rfl)
  have t4 : 224 ≤ (x : Int) := by omega
  by_cases h3 : x < 240
  · have t6 : (x : Int) < 240 := by omega
    have H1 := Lib.hid (Nm.one_3 HN.out (by rw [HG.out]; omega) (by rw [HG.out]; omega))
    rw [HG.out] at H1
    clear h1 h2
    by_cases h4 : s.size < 3
    · have H2 := Lib.hid (Nm.gen_short (least := 2048) (c0 := x - 224) (l := bs s) (n := 3) (by rw [HL.out]; exact h4))
      have t5 : (s.size : Int) < 3 := by omega
      clear h4
      go_enter Tryd.func106, Tryd.ntmps106
      go_wp2_with fail
      go_ret
      exact ⟨ret_int (by rw [H1.out, H2.out]; rfl), Below.refl _ _⟩
    · have t5 : (3 : Int) ≤ (s.size : Int) := by omega
      go_enter Tryd.func106, Tryd.ntmps106
      go_wp2_with fail
      go_loop [4, 5] (fun c i => ∃ j v : Nat, c = .int .i64 v ∧ i = .int .i64 j ∧ 1 ≤ j ∧ j ≤ 3 ∧ v < 16777216 ∧ Hid (v = Nm.val (x - 224) (bs s) (j - 1)) ∧ Hid (Nm.conts (bs s) (j - 1) = true)) (fun _ i => 4 - (intOf i).toNat)
      case atStart => exact ⟨1, x - 224, by congr 1; omega, rfl, by omega, by omega, by omega, rfl, rfl⟩
      case round =>
        obtain ⟨j, v, rfl, rfl, hj1, hj2, hv, H3, H4⟩ := hrel
        by_cases hlt : j < 3
        · have hjs : j < s.size := by omega
          have hg := bs_get s j hjs
          obtain ⟨y, hy, hy2⟩ : ∃ y : Nat, (s[j]'hjs).toNat = y ∧ y < 256 := ⟨_, rfl, (s[j]'hjs).toNat_lt⟩
          rw [hy] at hg
          have HG2 := Lib.hid hg
          have hy3 : (y : Int) < 256 := by omega
          have HY2 := Lib.hid hy2
          clear hg hy2
          by_cases hy4 : y < 128
          · have hy5 : (y : Int) < 128 := by omega
            have H5 := Lib.hid (Nm.gen_cut (n := 3) (least := 2048) (c0 := x - 224) (l := bs s) (j - 1) (by omega) (by rw [show j - 1 + 1 = j by omega, HG2.out]; simp [Nm.cont]; omega))
            clear hy4
            go_wp2_with fail
            go_ret
            exact ⟨ret_int (by rw [H1.out, H5.out]; rfl), Below.refl _ _⟩
          · have hy5 : (128 : Int) ≤ (y : Int) := by omega
            clear hy4
            by_cases hy4 : 191 < y
            · have hy6 : (191 : Int) < (y : Int) := by omega
              have H5 := Lib.hid (Nm.gen_cut (n := 3) (least := 2048) (c0 := x - 224) (l := bs s) (j - 1) (by omega) (by rw [show j - 1 + 1 = j by omega, HG2.out]; simp [Nm.cont]; omega))
              clear hy4
              go_wp2_with fail
              go_ret
              exact ⟨ret_int (by rw [H1.out, H5.out]; rfl), Below.refl _ _⟩
            · have hy6 : (y : Int) ≤ 191 := by omega
              clear hy4
              go_wp2_with fail
              go_round
              case rel =>
                have e1 : Nm.conts (bs s) (j + 1 - 1) = true := by
                  rw [show j + 1 - 1 = (j - 1) + 1 by omega, Nm.conts, H4.out, show j - 1 + 1 = j by omega, HG2.out]; simp [Nm.cont]; omega
                have e2 : v * 64 + y - 128 = Nm.val (x - 224) (bs s) (j + 1 - 1) := by
                  rw [show j + 1 - 1 = (j - 1) + 1 by omega, Nm.val_succ, ← H3.out, show j - 1 + 1 = j by omega, HG2.out]
                have e3 := val_lt (x - 224) (bs s) (j + 1 - 1) (by omega) e1
                rw [← e2, show j + 1 - 1 + 1 = j + 1 by omega] at e3
                have e4 := Nat.pow_le_pow_right (n := 64) (by omega) (show j + 1 ≤ 4 by omega)
                exact ⟨j + 1, v * 64 + y - 128, by congr 1; omega, rfl, by omega, by omega, by omega, e2, e1⟩
              case measure => simp [intOf]; omega
        · obtain rfl : j = 3 := by omega
          have H5 := Lib.hid (Nm.gen_end (n := 3) (least := 2048) (c0 := x - 224) (l := bs s) (by rw [HL.out]; omega) H4.out)
          rw [← H3.out] at H5
          clear hj1 hj2 hlt
          go_wp2_with fail
          all_goals
            go_ret
            refine ⟨ret_int ?_, (Below.refl _ _).alloc (Nat.le_refl _) _⟩
            rw [H1.out, H5.out]
            first
              | (rw [if_neg (by simp only [Nm.okc, Bool.and_eq_true, Bool.not_eq_true', Bool.and_eq_false_iff, decide_eq_true_eq, decide_eq_false_iff_not]; omega)]; rfl)
              | (rw [if_pos (by simp only [Nm.okc, Bool.and_eq_true, Bool.not_eq_true', Bool.and_eq_false_iff, decide_eq_true_eq, decide_eq_false_iff_not]; omega)]; rfl)
  have t6 : 240 ≤ (x : Int) := by omega
  have t7 : (x : Int) < 248 := by omega
  have H1 := Lib.hid (Nm.one_4 HN.out (by rw [HG.out]; omega) (by rw [HG.out]; omega))
  rw [HG.out] at H1
  clear h1 h2
  by_cases h4 : s.size < 4
  · have H2 := Lib.hid (Nm.gen_short (least := 65536) (c0 := x - 240) (l := bs s) (n := 4) (by rw [HL.out]; exact h4))
    have t5 : (s.size : Int) < 4 := by omega
    clear h4
    go_enter Tryd.func106, Tryd.ntmps106
    go_wp2_with fail
    go_ret
    exact ⟨ret_int (by rw [H1.out, H2.out]; rfl), Below.refl _ _⟩
  · have t5 : (4 : Int) ≤ (s.size : Int) := by omega
    go_enter Tryd.func106, Tryd.ntmps106
    go_wp2_with fail
    go_loop [4, 5] (fun c i => ∃ j v : Nat, c = .int .i64 v ∧ i = .int .i64 j ∧ 1 ≤ j ∧ j ≤ 4 ∧ v < 16777216 ∧ Hid (v = Nm.val (x - 240) (bs s) (j - 1)) ∧ Hid (Nm.conts (bs s) (j - 1) = true)) (fun _ i => 4 - (intOf i).toNat)
    case atStart => exact ⟨1, x - 240, by congr 1; omega, rfl, by omega, by omega, by omega, rfl, rfl⟩
    case round =>
      obtain ⟨j, v, rfl, rfl, hj1, hj2, hv, H3, H4⟩ := hrel
      by_cases hlt : j < 4
      · have hjs : j < s.size := by omega
        have hg := bs_get s j hjs
        obtain ⟨y, hy, hy2⟩ : ∃ y : Nat, (s[j]'hjs).toNat = y ∧ y < 256 := ⟨_, rfl, (s[j]'hjs).toNat_lt⟩
        rw [hy] at hg
        have HG2 := Lib.hid hg
        have hy3 : (y : Int) < 256 := by omega
        have HY2 := Lib.hid hy2
        clear hg hy2
        by_cases hy4 : y < 128
        · have hy5 : (y : Int) < 128 := by omega
          have H5 := Lib.hid (Nm.gen_cut (n := 4) (least := 65536) (c0 := x - 240) (l := bs s) (j - 1) (by omega) (by rw [show j - 1 + 1 = j by omega, HG2.out]; simp [Nm.cont]; omega))
          clear hy4
          go_wp2_with fail
          go_ret
          exact ⟨ret_int (by rw [H1.out, H5.out]; rfl), Below.refl _ _⟩
        · have hy5 : (128 : Int) ≤ (y : Int) := by omega
          clear hy4
          by_cases hy4 : 191 < y
          · have hy6 : (191 : Int) < (y : Int) := by omega
            have H5 := Lib.hid (Nm.gen_cut (n := 4) (least := 65536) (c0 := x - 240) (l := bs s) (j - 1) (by omega) (by rw [show j - 1 + 1 = j by omega, HG2.out]; simp [Nm.cont]; omega))
            clear hy4
            go_wp2_with fail
            go_ret
            exact ⟨ret_int (by rw [H1.out, H5.out]; rfl), Below.refl _ _⟩
          · have hy6 : (y : Int) ≤ 191 := by omega
            clear hy4
            go_wp2_with fail
            go_round
            case rel =>
              have e1 : Nm.conts (bs s) (j + 1 - 1) = true := by
                rw [show j + 1 - 1 = (j - 1) + 1 by omega, Nm.conts, H4.out, show j - 1 + 1 = j by omega, HG2.out]; simp [Nm.cont]; omega
              have e2 : v * 64 + y - 128 = Nm.val (x - 240) (bs s) (j + 1 - 1) := by
                rw [show j + 1 - 1 = (j - 1) + 1 by omega, Nm.val_succ, ← H3.out, show j - 1 + 1 = j by omega, HG2.out]
              have e3 := val_lt (x - 240) (bs s) (j + 1 - 1) (by omega) e1
              rw [← e2, show j + 1 - 1 + 1 = j + 1 by omega] at e3
              have e4 := Nat.pow_le_pow_right (n := 64) (by omega) (show j + 1 ≤ 4 by omega)
              exact ⟨j + 1, v * 64 + y - 128, by congr 1; omega, rfl, by omega, by omega, by omega, e2, e1⟩
            case measure => simp [intOf]; omega
      · obtain rfl : j = 4 := by omega
        have H5 := Lib.hid (Nm.gen_end (n := 4) (least := 65536) (c0 := x - 240) (l := bs s) (by rw [HL.out]; omega) H4.out)
        rw [← H3.out] at H5
        clear hj1 hj2 hlt
        go_wp2_with fail
        all_goals
          go_ret
          refine ⟨ret_int ?_, (Below.refl _ _).alloc (Nat.le_refl _) _⟩
          rw [H1.out, H5.out]
          first
            | (rw [if_neg (by simp only [Nm.okc, Bool.and_eq_true, Bool.not_eq_true', Bool.and_eq_false_iff, decide_eq_true_eq, decide_eq_false_iff_not]; omega)]; rfl)
            | (rw [if_pos (by simp only [Nm.okc, Bool.and_eq_true, Bool.not_eq_true', Bool.and_eq_false_iff, decide_eq_true_eq, decide_eq_false_iff_not]; omega)]; rfl)
end Go.Proofs.YtphmknhlibampaaDoor

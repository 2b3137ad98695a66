/-
  The document's Two, walked.
-/
import Derived.Test.YtnhnbcjffnlicaaDoorKitN
import Derived.Test.YtnhnbcjffnlicaaDoorNumE
import Derived.Test.YtnhnbcjffnlicaaDoorNumI
import Derived.Test.YtnhnbcjffnlicaaDoorNumJ
namespace Go.Proofs.YtnhnbcjffnlicaaDoor
open Go.RowKit Num
set_option linter.unusedVariables false

set_option maxRecDepth 100000 in
theorem rTwo_no (op : Int) (a b : Nat) (p f t m : Int) (hm : (m == 2) = false) (W : World) (hOf : ∀ W, Calls Tryd.prog 13 #[.int .i64 op] W (K4 p f t m W)) :
    Calls Tryd.prog 16 #[.int .i64 op, .int .u64 a, .int .u64 b] W (Two2 (0, 2) W) := by
  have HO := Lib.hid hOf
  have hm2 : (m != 2) = true := by simp [bne, hm]
  clear hOf
  go_enter Tryd.func16, Tryd.ntmps16
  go_wp2_with (go_at_call 13; ((with_reducible refine (HO.out _).mono ?_); rintro e w1 ⟨rfl, hb⟩))
  go_ret2
  exact ⟨rfl, hb.alloc hb.size _⟩
set_option maxRecDepth 100000 in
theorem rTwo_unfit (op : Int) (a b w : Nat) (f : Int) (hf : f = (w : Int)) (hw : w ≤ 64) (ha : a < 18446744073709551616) (hb : b < 18446744073709551616) (hn : ¬ (a < 2 ^ w ∧ b < 2 ^ w)) (p t : Int) (W : World) (hOf : ∀ W, Calls Tryd.prog 13 #[.int .i64 op] W (K4 p f t 2 W)) :
    Calls Tryd.prog 16 #[.int .i64 op, .int .u64 a, .int .u64 b] W (Two2 (0, 2) W) := by
  have HO := Lib.hid hOf
  have HF := Lib.hid (fun W => rfits_any a w f hf ha hw W)
  have HG := Lib.hid (fun W => rfits_any b w f hf hb hw W)
  clear hOf hf ha hb
  by_cases hA : a < 2 ^ w
  · have hd : decide (a < 2 ^ w) = true := by rw [decide_eq_true_eq]; exact hA
    have hd2 : decide (b < 2 ^ w) = false := by rw [decide_eq_false_iff_not]; exact fun h => hn ⟨hA, h⟩
    have HD := Lib.hid hd
    have HD2 := Lib.hid hd2
    clear hd hd2 hn hA
    go_enter Tryd.func16, Tryd.ntmps16
    go_wp2_with (first
      | (go_at_call 13; ((with_reducible refine (HO.out _).mono ?_); rintro e w1 ⟨rfl, hb⟩))
      | (go_at_call 23; ((with_reducible refine (HF.out _).mono ?_); rw [HD.out]; rintro e w2 ⟨rfl, hb2⟩; obtain ⟨hc2, hf2⟩ := bcell hb2))
      | (go_at_call 23; ((with_reducible refine (HG.out _).mono ?_); rw [HD2.out]; rintro e w3 ⟨rfl, hb3⟩)))
    go_ret2
    exact ⟨rfl, below_trans (below_trans (hb.alloc hb.size _) hb2) hb3⟩
  · have hd : decide (a < 2 ^ w) = false := by rw [decide_eq_false_iff_not]; exact hA
    have HD := Lib.hid hd
    clear hd hn hA
    go_enter Tryd.func16, Tryd.ntmps16
    go_wp2_with (first
      | (go_at_call 13; ((with_reducible refine (HO.out _).mono ?_); rintro e w1 ⟨rfl, hb⟩))
      | (go_at_call 23; ((with_reducible refine (HF.out _).mono ?_); rw [HD.out]; rintro e w2 ⟨rfl, hb2⟩; obtain ⟨hc2, hf2⟩ := bcell hb2)))
    go_ret2
    exact ⟨rfl, below_trans (hb.alloc hb.size _) hb2⟩
set_option maxRecDepth 100000 in
set_option maxHeartbeats 2000000 in
theorem rTwo_ask (op : Int) (a b w p : Nat) (pi f t : Int) (hpi : pi = (p : Int)) (h1 : 10 ≤ p) (h2 : p ≤ 19) (h : Wd w f) (ha : a < 2 ^ w) (hb : b < 2 ^ w) (W : World) (hOf : ∀ W, Calls Tryd.prog 13 #[.int .i64 op] W (K4 pi f t 2 W)) :
    Calls Tryd.prog 16 #[.int .i64 op, .int .u64 a, .int .u64 b] W (Two2 (tv p w a b, 0) W) := by
  have HO := Lib.hid hOf
  have hw64 : w ≤ 64 := by rcases h with ⟨rfl, _⟩ | ⟨rfl, _⟩ <;> omega
  have hf : f = (w : Int) := by rcases h with ⟨rfl, rfl⟩ | ⟨rfl, rfl⟩ <;> rfl
  have HF := Lib.hid (fun W => rfits_any a w f hf (wd64 h ha) hw64 W)
  have HG := Lib.hid (fun W => rfits_any b w f hf (wd64 h hb) hw64 W)
  have hd : decide (a < 2 ^ w) = true := by rw [decide_eq_true_eq]; exact ha
  have hd2 : decide (b < 2 ^ w) = true := by rw [decide_eq_true_eq]; exact hb
  have HD := Lib.hid hd
  have HD2 := Lib.hid hd2
  have HA : Hid (∀ W : World, Calls Tryd.prog 28 #[.int .i64 pi, .int .i64 f, .int .u64 a, .int .u64 b] W fun e W' => e = .returned (.bool (ab p w a b)) ∧ W = W') := fun W => by
    rw [hpi]; exact rasks_any p h1 h2 w f h a ha b hb W
  have HT := Lib.hid (tv_ab p w a b h1 h2)
  have hpl : pi < 20 := by omega
  clear hOf hf ha hb hd hd2 hw64 h h1 h2 hpi
  go_enter Tryd.func16, Tryd.ntmps16
  go_wp2_with (first
    | (go_at_call 13; ((with_reducible refine (HO.out _).mono ?_); rintro e w1 ⟨rfl, hb⟩))
    | (go_at_call 23; ((with_reducible refine (HF.out _).mono ?_); rw [HD.out]; rintro e w2 ⟨rfl, hb2⟩; obtain ⟨hc2, hf2⟩ := bcell hb2; have hB2 := below_trans (hb.alloc hb.size _) hb2))
    | (go_at_call 23; ((with_reducible refine (HG.out _).mono ?_); rw [HD2.out]; rintro e w3 ⟨rfl, hb3⟩; have hk0 : w3.cell? ⟨w1.heap.size, 0, none⟩ = some (.int .i64 pi) := (by rw [(bcell hb3).1 _ _ (Nat.lt_of_lt_of_le (by simp) hb2.size), hc2 _ _ (by simp)]; go_simp); have hB3 := below_trans hB2 hb3))
    | (go_at_call 28; ((with_reducible refine (HA.out _).mono ?_); rintro e w4 ⟨rfl, rfl⟩))
    | (go_at_call 25; refine (ryes_any _ _).mono ?_; rintro e w4 ⟨rfl, rfl⟩))
  go_ret2
  refine ⟨two_of ?_, hB3⟩
  rw [HT.out]
end Go.Proofs.YtnhnbcjffnlicaaDoor

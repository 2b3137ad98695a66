/-
  num.One, num.Two, num.Bits, walked over whatever find tells.
-/
import Derived.Test.YtnhnbcjffnlicaaDoorNumU
import Derived.Test.YtnhnbcjffnlicaaDoorNumI
import Derived.Shelf.Lays
namespace Go.Proofs.YtnhnbcjffnlicaaDoor
open Go.RowKit Num
set_option linter.unusedVariables false
theorem low_any (n t : Nat) (u : Int) (h : Wd t u) (hn : n < 18446744073709551616) (W : World) :
    Calls Tryd.prog 22 #[.int .u64 n, .int .i64 u] W fun e W' => e = .returned (.int .u64 (n % 2 ^ t : Nat)) ∧ W = W' := by
  have HN := Lib.hid hn
  clear hn
  rcases h with ⟨rfl, rfl⟩ | ⟨rfl, rfl⟩
  · go_enter Tryd.func22, Tryd.ntmps22
    go_wp2
    go_ret
    refine ⟨ret_int ?_, rfl⟩
    have := HN.out
    rw [IntKind.wrap_u64]; omega
  · go_enter Tryd.func22, Tryd.ntmps22
    go_wp2
    go_ret
    refine ⟨ret_int ?_, rfl⟩
    have := HN.out
    try rw [IntKind.wrap_u64]
    omega
theorem fits_any (n t : Nat) (u : Int) (h : Wd t u) (hn : n < 18446744073709551616) (W : World) :
    Calls Tryd.prog 21 #[.int .u64 n, .int .i64 u] W fun e W' => e = .returned (.bool (decide (n < 2 ^ t))) ∧ W = W' := by
  have HL := Lib.hid (fun W => low_any n t u h hn W)
  obtain ⟨d, hd⟩ : ∃ d, decide (n < 2 ^ t) = d := ⟨_, rfl⟩
  have ht : ((((n % 2 ^ t : Nat)) : Int) == (n : Int)) = d := by
    rw [← hd, Bool.eq_iff_iff, beq_iff_eq, decide_eq_true_eq]
    have := Nat.two_pow_pos t
    constructor
    · intro h
      have h2 : n % 2 ^ t = n := by omega
      rw [← h2]; exact Nat.mod_lt _ this
    · intro h
      rw [Nat.mod_eq_of_lt h]
  rw [hd]
  generalize hm : n % 2 ^ t = m at ht
  have HM := Lib.hid hm
  clear hm hd h hn
  go_enter Tryd.func21, Tryd.ntmps21
  go_wp2_with (go_at_call 22; refine (HL.out _).mono ?_; rw [HM.out]; rintro e w1 ⟨rfl, rfl⟩)
  go_ret
  exact ⟨rfl, rfl⟩
theorem neq1 (j : Nat) (w : World) : (binOp BinOp.neq 42 (.func (.func j) #[] #[]) .nilFunc).run Tryd.prog w = .ok (.bool true) w := by kernel_rfl
theorem neq1n (w : World) : (binOp BinOp.neq 42 .nilFunc .nilFunc).run Tryd.prog w = .ok (.bool false) w := by kernel_rfl
theorem neq2 (j : Nat) (w : World) : (binOp BinOp.neq 43 (.func (.func j) #[] #[]) .nilFunc).run Tryd.prog w = .ok (.bool true) w := by kernel_rfl
theorem neq2n (w : World) : (binOp BinOp.neq 43 .nilFunc .nilFunc).run Tryd.prog w = .ok (.bool false) w := by kernel_rfl
theorem eql1 (j : Nat) (w : World) : (binOp BinOp.eql 42 (.func (.func j) #[] #[]) .nilFunc).run Tryd.prog w = .ok (.bool false) w := by kernel_rfl
theorem eql1n (w : World) : (binOp BinOp.eql 42 .nilFunc .nilFunc).run Tryd.prog w = .ok (.bool true) w := by kernel_rfl
theorem eql2 (j : Nat) (w : World) : (binOp BinOp.eql 43 (.func (.func j) #[] #[]) .nilFunc).run Tryd.prog w = .ok (.bool false) w := by kernel_rfl
theorem eql2n (w : World) : (binOp BinOp.eql 43 .nilFunc .nilFunc).run Tryd.prog w = .ok (.bool true) w := by kernel_rfl
theorem neq3 (j : Nat) (w : World) : (binOp BinOp.neq 44 (.func (.func j) #[] #[]) .nilFunc).run Tryd.prog w = .ok (.bool true) w := by kernel_rfl
theorem neq3n (w : World) : (binOp BinOp.neq 44 .nilFunc .nilFunc).run Tryd.prog w = .ok (.bool false) w := by kernel_rfl
set_option maxRecDepth 100000 in
set_option maxHeartbeats 2000000 in
theorem cOne_none (op : Int) (a : Nat) (y z : Value) (f t : Int) (sy : Stores y) (sz : Stores z) (W : World) (hF : ∀ W, Calls Tryd.prog 20 #[.int .i64 op] W (Found .nilFunc y z f t W)) :
    Calls Tryd.prog 10 #[.int .i64 op, .int .u64 a] W (Two2 (0, 2) W) := by
  have HF := Lib.hid hF
  have hy := sy.out
  have hz := sz.out
  have q1 := eql1n
  clear hF sy sz
  go_enter Tryd.func10, Tryd.ntmps10
  go_wp2_with (go_at_call 20; ((with_reducible refine (HF.out _).mono ?_); rintro e w1 ⟨rfl, hb⟩))
  go_ret2
  exact ⟨rfl, hb.alloc hb.size _⟩
set_option maxRecDepth 100000 in
set_option maxHeartbeats 2000000 in
theorem cOne_ok (op : Int) (a r w u : Nat) (j : Nat) (f t : Int) (hw : Wd w f) (hu : Wd u t) (ha : a < 2 ^ w) (hr : r < 18446744073709551616) (W : World)
    (hF : ∀ W, Calls Tryd.prog 20 #[.int .i64 op] W (Found (.func (.func j) #[] #[]) .nilFunc .nilFunc f t W))
    (he : ∀ args w, (callFunc j args).run Tryd.prog w = .ok (.enter j args) w)
    (hJ : ∀ W', Below W.heap.size W W' → Calls Tryd.prog j #[.agg #[.int .u64 a, .int .i64 f]] W' (Out r W')) :
    Calls Tryd.prog 10 #[.int .i64 op, .int .u64 a] W (Two2 (r % 2 ^ u, 0) W) := by
  have HF := Lib.hid hF
  have HJ := Lib.hid hJ
  have HT := Lib.hid (fun W => fits_any a w f hw (wd64 hw ha) W)
  have hd : decide (a < 2 ^ w) = true := by rw [decide_eq_true_eq]; exact ha
  have HD := Lib.hid hd
  have HL := Lib.hid (fun W => low_any r u t hu hr W)
  have q1 := eql1 j
  clear hF hJ hd ha hr hw hu
  go_enter Tryd.func10, Tryd.ntmps10
  go_wp2_with (first
    | (go_at_call 20; ((with_reducible refine (HF.out _).mono ?_); rintro e w1 ⟨rfl, hb⟩))
    | (go_at_call 21; ((with_reducible refine (HT.out _).mono ?_); rw [HD.out]; rintro e w2 ⟨rfl, rfl⟩))
    | (go_at_call 22; ((with_reducible refine (HL.out _).mono ?_); rintro e w2 ⟨rfl, rfl⟩))
    | (go_at_fn j; ((with_reducible refine (HJ.out _ (hb.alloc hb.size _)).mono ?_); rintro e w3 ⟨rfl, hb3⟩)))
  go_ret2
  exact ⟨rfl, below_trans (hb.alloc hb.size _) hb3⟩
set_option maxRecDepth 100000 in
set_option maxHeartbeats 2000000 in
theorem cOne_unfit (op : Int) (a w : Nat) (j : Nat) (f t : Int) (hw : Wd w f) (ha : a < 18446744073709551616) (hn : ¬ a < 2 ^ w) (W : World)
    (hF : ∀ W, Calls Tryd.prog 20 #[.int .i64 op] W (Found (.func (.func j) #[] #[]) .nilFunc .nilFunc f t W)) :
    Calls Tryd.prog 10 #[.int .i64 op, .int .u64 a] W (Two2 (0, 2) W) := by
  have HF := Lib.hid hF
  have HT := Lib.hid (fun W => fits_any a w f hw ha W)
  have hd : decide (a < 2 ^ w) = false := by rw [decide_eq_false_iff_not]; exact hn
  have HD := Lib.hid hd
  have q1 := eql1 j
  clear hF hd ha hw hn
  go_enter Tryd.func10, Tryd.ntmps10
  go_wp2_with (first
    | (go_at_call 20; ((with_reducible refine (HF.out _).mono ?_); rintro e w1 ⟨rfl, hb⟩))
    | (go_at_call 21; ((with_reducible refine (HT.out _).mono ?_); rw [HD.out]; rintro e w2 ⟨rfl, rfl⟩)))
  go_ret2
  exact ⟨rfl, hb.alloc hb.size _⟩
set_option maxRecDepth 100000 in
set_option maxHeartbeats 2000000 in
theorem cTwo_none (op : Int) (a b : Nat) (x z : Value) (f t : Int) (sx : Stores x) (sz : Stores z) (W : World) (hF : ∀ W, Calls Tryd.prog 20 #[.int .i64 op] W (Found x .nilFunc z f t W)) :
    Calls Tryd.prog 15 #[.int .i64 op, .int .u64 a, .int .u64 b] W (Two2 (0, 2) W) := by
  have HF := Lib.hid hF
  have hx := sx.out
  have hz := sz.out
  have q1 := eql2n
  clear hF sx sz
  go_enter Tryd.func15, Tryd.ntmps15
  go_wp2_with (go_at_call 20; ((with_reducible refine (HF.out _).mono ?_); rintro e w1 ⟨rfl, hb⟩))
  go_ret2
  exact ⟨rfl, hb.alloc hb.size _⟩
set_option maxRecDepth 100000 in
set_option maxHeartbeats 2000000 in
theorem cTwo_unfit (op : Int) (a b w : Nat) (z : Value) (j : Nat) (f t : Int) (sz : Stores z) (hw : Wd w f) (ha : a < 18446744073709551616) (hb : b < 18446744073709551616) (hn : ¬ (a < 2 ^ w ∧ b < 2 ^ w)) (W : World)
    (hF : ∀ W, Calls Tryd.prog 20 #[.int .i64 op] W (Found .nilFunc (.func (.func j) #[] #[]) z f t W)) :
    Calls Tryd.prog 15 #[.int .i64 op, .int .u64 a, .int .u64 b] W (Two2 (0, 2) W) := by
  have HF := Lib.hid hF
  have HT := Lib.hid (fun W => fits_any a w f hw ha W)
  have HU := Lib.hid (fun W => fits_any b w f hw hb W)
  have q1 := eql2 j
  have hz := sz.out
  clear hF ha hb hw sz
  by_cases hA : a < 2 ^ w
  · have hd : decide (a < 2 ^ w) = true := by rw [decide_eq_true_eq]; exact hA
    have hd2 : decide (b < 2 ^ w) = false := by rw [decide_eq_false_iff_not]; exact fun h => hn ⟨hA, h⟩
    have HD := Lib.hid hd
    have HD2 := Lib.hid hd2
    clear hd hd2 hn hA
    go_enter Tryd.func15, Tryd.ntmps15
    go_wp2_with (first
      | (go_at_call 20; ((with_reducible refine (HF.out _).mono ?_); rintro e w1 ⟨rfl, hb⟩))
      | (go_at_call 21; ((with_reducible refine (HT.out _).mono ?_); rw [HD.out]; rintro e w2 ⟨rfl, rfl⟩))
      | (go_at_call 21; ((with_reducible refine (HU.out _).mono ?_); rw [HD2.out]; rintro e w2 ⟨rfl, rfl⟩)))
    go_ret2
    exact ⟨rfl, hb.alloc hb.size _⟩
  · have hd : decide (a < 2 ^ w) = false := by rw [decide_eq_false_iff_not]; exact hA
    have HD := Lib.hid hd
    clear hd hn hA
    go_enter Tryd.func15, Tryd.ntmps15
    go_wp2_with (first
      | (go_at_call 20; ((with_reducible refine (HF.out _).mono ?_); rintro e w1 ⟨rfl, hb⟩))
      | (go_at_call 21; ((with_reducible refine (HT.out _).mono ?_); rw [HD.out]; rintro e w2 ⟨rfl, rfl⟩)))
    go_ret2
    exact ⟨rfl, hb.alloc hb.size _⟩
set_option maxRecDepth 100000 in
set_option maxHeartbeats 4000000 in
theorem cTwo_free (op : Int) (a b r w u : Nat) (j : Nat) (f t : Int) (hw : Wd w f) (hu : Wd u t) (ha : a < 2 ^ w) (hb : b < 2 ^ w) (hr : r < 18446744073709551616) (W : World)
    (hF : ∀ W, Calls Tryd.prog 20 #[.int .i64 op] W (Found .nilFunc (.func (.func j) #[] #[]) .nilFunc f t W))
    (he : ∀ args w, (callFunc j args).run Tryd.prog w = .ok (.enter j args) w)
    (hJ : ∀ W, Calls Tryd.prog j #[.agg #[.int .u64 a, .int .i64 f], .agg #[.int .u64 b, .int .i64 f]] W (Out r W)) :
    Calls Tryd.prog 15 #[.int .i64 op, .int .u64 a, .int .u64 b] W (Two2 (r % 2 ^ u, 0) W) := by
  have HF := Lib.hid hF
  have HJ := Lib.hid hJ
  have HT := Lib.hid (fun W => fits_any a w f hw (wd64 hw ha) W)
  have HU := Lib.hid (fun W => fits_any b w f hw (wd64 hw hb) W)
  have hd : decide (a < 2 ^ w) = true := by rw [decide_eq_true_eq]; exact ha
  have hd2 : decide (b < 2 ^ w) = true := by rw [decide_eq_true_eq]; exact hb
  have HD := Lib.hid hd
  have HD2 := Lib.hid hd2
  have HL := Lib.hid (fun W => low_any r u t hu hr W)
  have q1 := eql2 j
  have q2 := neq3n
  clear hF hJ hd hd2 ha hb hr hw hu
  go_enter Tryd.func15, Tryd.ntmps15
  go_wp2_with (first
    | (go_at_call 20; ((with_reducible refine (HF.out _).mono ?_); rintro e w1 ⟨rfl, hb⟩))
    | (go_at_call 21; ((with_reducible refine (HT.out _).mono ?_); rw [HD.out]; rintro e w2 ⟨rfl, rfl⟩))
    | (go_at_call 21; ((with_reducible refine (HU.out _).mono ?_); rw [HD2.out]; rintro e w2 ⟨rfl, rfl⟩))
    | (go_at_call 22; ((with_reducible refine (HL.out _).mono ?_); rintro e w2 ⟨rfl, rfl⟩))
    | (go_at_fn j; ((with_reducible refine (HJ.out _).mono ?_); rintro e w3 ⟨rfl, hb3⟩)))
  go_ret2
  exact ⟨rfl, below_trans (by repeat (first | exact hb | refine Below.alloc ?_ (by have := hb.size; simp; try omega) _)) hb3⟩
def ErrIs (z : Nat) (W : World) (e : Ending) (W' : World) : Prop := e = .returned (.int .i64 (z : Int)) ∧ Below W.heap.size W W'
set_option maxRecDepth 100000 in
set_option maxHeartbeats 4000000 in
theorem cTwo_err (op : Int) (a b z w : Nat) (j m : Nat) (f t : Int) (hz : z ≠ 0) (hw : Wd w f) (ha : a < 2 ^ w) (hb : b < 2 ^ w) (W : World)
    (hF : ∀ W, Calls Tryd.prog 20 #[.int .i64 op] W (Found .nilFunc (.func (.func j) #[] #[]) (.func (.func m) #[] #[]) f t W))
    (he : ∀ args w, (callFunc m args).run Tryd.prog w = .ok (.enter m args) w)
    (hM : ∀ W, Calls Tryd.prog m #[.agg #[.int .u64 a, .int .i64 f], .agg #[.int .u64 b, .int .i64 f]] W (ErrIs z W)) :
    Calls Tryd.prog 15 #[.int .i64 op, .int .u64 a, .int .u64 b] W (Two2 (0, z) W) := by
  have HF := Lib.hid hF
  have HM := Lib.hid hM
  have HT := Lib.hid (fun W => fits_any a w f hw (wd64 hw ha) W)
  have HU := Lib.hid (fun W => fits_any b w f hw (wd64 hw hb) W)
  have hd : decide (a < 2 ^ w) = true := by rw [decide_eq_true_eq]; exact ha
  have hd2 : decide (b < 2 ^ w) = true := by rw [decide_eq_true_eq]; exact hb
  have HD := Lib.hid hd
  have HD2 := Lib.hid hd2
  have q1 := eql2 j
  have q2 := neq3 m
  have hz1 : ((z : Int) != 0) = true := by simp; omega
  clear hF hM hd hd2 ha hb hw
  go_enter Tryd.func15, Tryd.ntmps15
  go_wp2_with (first
    | (go_at_call 20; ((with_reducible refine (HF.out _).mono ?_); rintro e w1 ⟨rfl, hb⟩))
    | (go_at_call 21; ((with_reducible refine (HT.out _).mono ?_); rw [HD.out]; rintro e w2 ⟨rfl, rfl⟩))
    | (go_at_call 21; ((with_reducible refine (HU.out _).mono ?_); rw [HD2.out]; rintro e w2 ⟨rfl, rfl⟩))
    | (go_at_fn m; ((with_reducible refine (HM.out _).mono ?_); rintro e w3 ⟨rfl, hb3⟩)))
  go_ret2
  exact ⟨rfl, below_trans (by repeat (first | exact hb | refine Below.alloc ?_ (by have := hb.size; simp; try omega) _)) hb3⟩
set_option maxRecDepth 100000 in
set_option maxHeartbeats 4000000 in
theorem cTwo_bar (op : Int) (a b r w u : Nat) (j m : Nat) (f t : Int) (hw : Wd w f) (hu : Wd u t) (ha : a < 2 ^ w) (hb : b < 2 ^ w) (hr : r < 18446744073709551616) (W : World)
    (hF : ∀ W, Calls Tryd.prog 20 #[.int .i64 op] W (Found .nilFunc (.func (.func j) #[] #[]) (.func (.func m) #[] #[]) f t W))
    (he : ∀ args w, (callFunc j args).run Tryd.prog w = .ok (.enter j args) w)
    (hem : ∀ args w, (callFunc m args).run Tryd.prog w = .ok (.enter m args) w)
    (hjm : j ≠ m)
    (hM : ∀ W, Calls Tryd.prog m #[.agg #[.int .u64 a, .int .i64 f], .agg #[.int .u64 b, .int .i64 f]] W (ErrIs 0 W))
    (hJ : ∀ W, Calls Tryd.prog j #[.agg #[.int .u64 a, .int .i64 f], .agg #[.int .u64 b, .int .i64 f]] W (Out r W)) :
    Calls Tryd.prog 15 #[.int .i64 op, .int .u64 a, .int .u64 b] W (Two2 (r % 2 ^ u, 0) W) := by
  have HF := Lib.hid hF
  have HJ := Lib.hid hJ
  have HM := Lib.hid hM
  have HT := Lib.hid (fun W => fits_any a w f hw (wd64 hw ha) W)
  have HU := Lib.hid (fun W => fits_any b w f hw (wd64 hw hb) W)
  have hd : decide (a < 2 ^ w) = true := by rw [decide_eq_true_eq]; exact ha
  have hd2 : decide (b < 2 ^ w) = true := by rw [decide_eq_true_eq]; exact hb
  have HD := Lib.hid hd
  have HD2 := Lib.hid hd2
  have HL := Lib.hid (fun W => low_any r u t hu hr W)
  have q1 := eql2 j
  have q2 := neq3 m
  clear hF hJ hM hd hd2 ha hb hr hw hu hjm
  go_enter Tryd.func15, Tryd.ntmps15
  go_wp2_with (first
    | (go_at_call 20; ((with_reducible refine (HF.out _).mono ?_); rintro e w1 ⟨rfl, hb⟩))
    | (go_at_call 21; ((with_reducible refine (HT.out _).mono ?_); rw [HD.out]; rintro e w2 ⟨rfl, rfl⟩))
    | (go_at_call 21; ((with_reducible refine (HU.out _).mono ?_); rw [HD2.out]; rintro e w2 ⟨rfl, rfl⟩))
    | (go_at_call 22; ((with_reducible refine (HL.out _).mono ?_); rintro e w2 ⟨rfl, rfl⟩))
    | (go_at_fn m; ((with_reducible refine (HM.out _).mono ?_); rintro e w3 ⟨rfl, hb3⟩; have hB3 := below_trans (w := W) (by repeat (first | exact hb | refine Below.alloc ?_ (by have := hb.size; simp; try omega) _)) hb3; have k0 : w3.cell? ⟨w1.heap.size, 1, none⟩ = some (.func (.func j) #[] #[]) := (by rw [(bcell hb3).1 _ _ (by simp; try omega)]; go_simp); have k1 : w3.cell? ⟨w1.heap.size + 1, 0, none⟩ = some (.int .u64 a) := (by rw [(bcell hb3).1 _ _ (by simp; try omega)]; go_simp); have k2 : w3.cell? ⟨w1.heap.size + 1, 1, none⟩ = some (.int .i64 f) := (by rw [(bcell hb3).1 _ _ (by simp; try omega)]; go_simp); have k3 : w3.cell? ⟨w1.heap.size + 1 + 1, 0, none⟩ = some (.int .u64 b) := (by rw [(bcell hb3).1 _ _ (by simp; try omega)]; go_simp); have k4 : w3.cell? ⟨w1.heap.size + 1 + 1, 1, none⟩ = some (.int .i64 f) := (by rw [(bcell hb3).1 _ _ (by simp; try omega)]; go_simp)))
    | (go_at_fn j; ((with_reducible refine (HJ.out _).mono ?_); rintro e w4 ⟨rfl, hb4⟩)))
  go_ret2
  exact ⟨rfl, below_trans hB3 hb4⟩
def Trio (f t m : Int) (W : World) (e : Ending) (W' : World) : Prop := e = .returned (.tuple #[.int .i64 f, .int .i64 t, .int .i64 m]) ∧ Below W.heap.size W W'
set_option maxRecDepth 100000 in
theorem cBits_one (op : Int) (j : Nat) (y z : Value) (f t : Int) (sy : Stores y) (sz : Stores z) (W : World)
    (hF : ∀ W, Calls Tryd.prog 20 #[.int .i64 op] W (Found (.func (.func j) #[] #[]) y z f t W)) :
    Calls Tryd.prog 12 #[.int .i64 op] W (Trio f t 1 W) := by
  have HF := Lib.hid hF
  have hy := sy.out
  have hz := sz.out
  have q1 := neq1 j
  clear hF sy sz
  go_enter Tryd.func12, Tryd.ntmps12
  go_wp2_with (go_at_call 20; ((with_reducible refine (HF.out _).mono ?_); rintro e w1 ⟨rfl, hb⟩))
  go_ret3
  exact ⟨rfl, hb.alloc hb.size _⟩
set_option maxRecDepth 100000 in
theorem cBits_two (op : Int) (j : Nat) (z : Value) (f t : Int) (sz : Stores z) (W : World)
    (hF : ∀ W, Calls Tryd.prog 20 #[.int .i64 op] W (Found .nilFunc (.func (.func j) #[] #[]) z f t W)) :
    Calls Tryd.prog 12 #[.int .i64 op] W (Trio f t 2 W) := by
  have HF := Lib.hid hF
  have hz := sz.out
  have q1 := neq1n
  have q2 := neq2 j
  clear hF sz
  go_enter Tryd.func12, Tryd.ntmps12
  go_wp2_with (go_at_call 20; ((with_reducible refine (HF.out _).mono ?_); rintro e w1 ⟨rfl, hb⟩))
  go_ret3
  exact ⟨rfl, hb.alloc hb.size _⟩
set_option maxRecDepth 100000 in
theorem cBits_none (op : Int) (W : World)
    (hF : ∀ W, Calls Tryd.prog 20 #[.int .i64 op] W (Found .nilFunc .nilFunc .nilFunc 0 0 W)) :
    Calls Tryd.prog 12 #[.int .i64 op] W (Trio 0 0 0 W) := by
  have HF := Lib.hid hF
  have q1 := neq1n
  have q2 := neq2n
  clear hF
  go_enter Tryd.func12, Tryd.ntmps12
  go_wp2_with (go_at_call 20; ((with_reducible refine (HF.out _).mono ?_); rintro e w1 ⟨rfl, hb⟩))
  go_ret3
  exact ⟨rfl, hb.alloc hb.size _⟩
end Go.Proofs.YtnhnbcjffnlicaaDoor

/-
  The walk of the statement NumExtends.
-/
import Derived.Test.YtnhnbcjffnlicaaDoorNumLw
namespace Go.Proofs.YtnhnbcjffnlicaaDoor
open Go.RowKit Num
set_option linter.unusedVariables false
namespace Num
theorem ext_lt64 {z : Int} (h1 : -9223372036854775808 ≤ z) (h2 : z < 9223372036854775808) : sg 64 (md 64 z) = z := by
  rw [sg64, md64]; split <;> omega
theorem sg32_b (x : Nat) (h : x < 4294967296) : -2147483648 ≤ sg 32 x ∧ sg 32 x < 2147483648 := by rw [sg32]; split <;> omega
theorem ext_back {x : Nat} (hx : x < 2 ^ 32) : ov 7 (ov 8 x 32 64) 64 32 = x := by
  show md 64 (sg 32 (x % 4294967296)) % 4294967296 = x
  rw [md64, sg32]; split <;> omega
theorem ov8_eq {x : Nat} (hx : x < 4294967296) : ov 8 x 32 64 = md 64 (sg 32 x) := by
  show md 64 (sg 32 (x % 4294967296)) = _
  rw [Nat.mod_eq_of_lt hx]
theorem tv12 (w a b : Nat) : tv 12 w a b = yes (decide (sg w a < sg w b)) := rfl
theorem ext_slt {x y : Nat} (hx : x < 4294967296) (hy : y < 4294967296) : tw 12 64 (ov 8 x 32 64) (ov 8 y 32 64) = tw 12 32 x y := by
  have b1 := sg32_b x hx
  have b2 := sg32_b y hy
  rw [tw_low (by decide), tw_low (by decide), tv12, tv12, ov8_eq hx, ov8_eq hy, ext_lt64 (by omega) (by omega), ext_lt64 (by omega) (by omega)]
theorem tv13 (w a b : Nat) : tv 13 w a b = yes (decide (a < b)) := rfl
theorem ext_ult {x y : Nat} : tw 13 64 x y = tw 13 32 x y := by rw [tw_low (by decide), tw_low (by decide), tv13, tv13]
theorem low8_32 (n : Nat) : md 32 (sg 8 (n % 256)) % 256 = n % 256 := by rw [md32, sg8]; split <;> omega
theorem low16_32 (n : Nat) : md 32 (sg 16 (n % 65536)) % 65536 = n % 65536 := by rw [md32, sg16]; split <;> omega
theorem low8_64 (n : Nat) : md 64 (sg 8 (n % 256)) % 256 = n % 256 := by rw [md64, sg8]; split <;> omega
theorem low16_64 (n : Nat) : md 64 (sg 16 (n % 65536)) % 65536 = n % 65536 := by rw [md64, sg16]; split <;> omega
theorem low32_64 (n : Nat) : md 64 (sg 32 (n % 4294967296)) % 4294967296 = n % 4294967296 := by rw [md64, sg32]; split <;> omega
theorem ag4_32 (n : Nat) : ov 4 (ov 4 n 32 32) 32 32 = ov 4 n 32 32 ∧ ov 4 n 32 32 % 256 = n % 256 ∧ ov 4 n 32 32 < 2 ^ 32 :=
  ⟨by show md 32 (sg 8 (md 32 (sg 8 (n % 256)) % 256)) = md 32 (sg 8 (n % 256)); rw [low8_32], low8_32 n, md_lt 32 _⟩
theorem ag5_32 (n : Nat) : ov 5 (ov 5 n 32 32) 32 32 = ov 5 n 32 32 ∧ ov 5 n 32 32 % 256 = n % 256 ∧ ov 5 n 32 32 < 2 ^ 32 :=
  ⟨by show md 32 (sg 16 (md 32 (sg 16 (n % 65536)) % 65536)) = md 32 (sg 16 (n % 65536)); rw [low16_32], by have h : ov 5 n 32 32 % 65536 = n % 65536 := low16_32 n; omega, md_lt 32 _⟩
theorem ag4_64 (n : Nat) : ov 4 (ov 4 n 64 64) 64 64 = ov 4 n 64 64 ∧ ov 4 n 64 64 % 256 = n % 256 ∧ ov 4 n 64 64 < 2 ^ 64 :=
  ⟨by show md 64 (sg 8 (md 64 (sg 8 (n % 256)) % 256)) = md 64 (sg 8 (n % 256)); rw [low8_64], low8_64 n, md_lt 64 _⟩
theorem ag5_64 (n : Nat) : ov 5 (ov 5 n 64 64) 64 64 = ov 5 n 64 64 ∧ ov 5 n 64 64 % 256 = n % 256 ∧ ov 5 n 64 64 < 2 ^ 64 :=
  ⟨by show md 64 (sg 16 (md 64 (sg 16 (n % 65536)) % 65536)) = md 64 (sg 16 (n % 65536)); rw [low16_64], by have h : ov 5 n 64 64 % 65536 = n % 65536 := low16_64 n; omega, md_lt 64 _⟩
theorem ag6_64 (n : Nat) : ov 6 (ov 6 n 64 64) 64 64 = ov 6 n 64 64 ∧ ov 6 n 64 64 % 256 = n % 256 ∧ ov 6 n 64 64 < 2 ^ 64 :=
  ⟨by show md 64 (sg 32 (md 64 (sg 32 (n % 4294967296)) % 4294967296)) = md 64 (sg 32 (n % 4294967296)); rw [low32_64], by have h : ov 6 n 64 64 % 4294967296 = n % 4294967296 := low32_64 n; omega, md_lt 64 _⟩
end Num
theorem one_con {op : Int} {p w t a r : Nat} (hop : -9223372036854775808 ≤ op ∧ op < 9223372036854775808) (hk : kind op = (p, w, t, 1)) (h64 : a < 18446744073709551616) (ha : a < 2 ^ w) (hr : ov p a w t = r) :
    Hid (∀ W : World, Tab W → Calls Tryd.prog 10 #[.int .i64 op, .int .u64 a] W fun e W' => e = .returned (.tuple #[.int .u64 (r : Int), .int .i64 0]) ∧ Below W.heap.size W W') := fun W hT => by
  have := (code_any op hop.1 hop.2).1 W a hT h64
  rw [one_yes hk ha, hr] at this
  exact this
theorem and255 {p m : Nat} (hp : p < 18446744073709551616) (h : p % 256 = m) : bits .and .u64 (p : Int) 255 = (m : Int) := by
  have := u64_and_nat p 255 hp (by decide)
  rw [Nat.and_two_pow_sub_one_eq_mod p 8] at this
  rw [← h]; exact this
set_option maxRecDepth 100000 in
set_option maxHeartbeats 20000000 in
theorem NumExtends_walk (w : World) (hT : Tab w) (a0 : Int) (wf0 : (Lit.int .u64 a0).wf = true) (a1 : Int) (wf1 : (Lit.int .u64 a1).wf = true) :
    Calls Tryd.prog 7 #[.int .u64 a0, .int .u64 a1] w fun e w' => e = .returned (.bool true) ∧ Below w.heap.size w w' := by
  obtain ⟨p0, p1⟩ := u64_wf wf0
  obtain ⟨q0, q1⟩ := u64_wf wf1
  obtain ⟨a, rfl⟩ := Int.eq_ofNat_of_zero_le p0
  obtain ⟨b, rfl⟩ := Int.eq_ofNat_of_zero_le q0
  have HT := Lib.hid (fun W' (hb : Below w.heap.size w W') => hT.below hb)
  have HKn := Lib.hid known3_any
  have hB : Below w.heap.size w w := Below.refl _ _
  have la : a < 18446744073709551616 := by omega
  obtain ⟨x, hx⟩ : ∃ x, a / 4294967296 = x := ⟨_, rfl⟩
  obtain ⟨y, hy⟩ : ∃ y, b / 4294967296 = y := ⟨_, rfl⟩
  have ra : (a : Int) / 4294967296 = (x : Int) := by omega
  have rb : (b : Int) / 4294967296 = (y : Int) := by omega
  have lx : x < 2 ^ 32 := by omega
  have ly : y < 2 ^ 32 := by omega
  have lx4 : x < 18446744073709551616 := by omega
  have ly4 : y < 18446744073709551616 := by omega
  clear wf0 wf1 p0 p1 q0 q1 hT hx hy
  obtain ⟨p, hp⟩ : ∃ p, ov 8 x 32 64 = p := ⟨_, rfl⟩
  obtain ⟨q, hq⟩ : ∃ q, ov 8 y 32 64 = q := ⟨_, rfl⟩
  have lp : p < 2 ^ 64 := by rw [← hp]; exact md_lt 64 _
  have lq : q < 2 ^ 64 := by rw [← hq]; exact md_lt 64 _
  have O1 := one_con (op := 172) (p := 8) (w := 32) (t := 64) (r := p) (by decide) (by decide) lx4 lx hp
  have O2 := one_con (op := 172) (p := 8) (w := 32) (t := 64) (r := q) (by decide) (by decide) ly4 ly hq
  have O3 := one_con (op := 167) (p := 7) (w := 64) (t := 32) (a := p) (r := x) (by decide) (by decide) lp lp (by rw [← hp]; exact Num.ext_back lx)
  have O4 := one_con (op := 173) (p := 9) (w := 32) (t := 64) (a := x) (r := x) (by decide) (by decide) lx4 lx rfl
  have O5 := one_con (op := 173) (p := 9) (w := 32) (t := 64) (a := y) (r := y) (by decide) (by decide) ly4 ly rfl
  have O6 := one_con (op := 167) (p := 7) (w := 64) (t := 32) (a := x) (r := x) (by decide) (by decide) lx4 (show x < 2 ^ 64 from lx4) (show x % 4294967296 = x from Nat.mod_eq_of_lt lx)
  obtain ⟨r, hr⟩ : ∃ r, tw 12 32 x y = r := ⟨_, rfl⟩
  obtain ⟨s, hs⟩ : ∃ s, tw 13 32 x y = s := ⟨_, rfl⟩
  have T1 := two_is (p := 12) (op := 72) (r := r) (.inl (by decide)) w32 lx ly hr
  have T2 := two_is (p := 12) (op := 72) (a := p) (b := q) (r := r) (.inl (by decide)) w64 lp lq (by rw [← hr, ← hp, ← hq]; exact Num.ext_slt lx ly)
  have T3 := two_is (p := 13) (op := 73) (r := s) (.inl (by decide)) w32 lx ly hs
  have T4 := two_is (p := 13) (op := 73) (a := x) (b := y) (r := s) (.inl (by decide)) w64 lx4 ly4 (by rw [← hs]; exact Num.ext_ult)
  obtain ⟨e0, g0⟩ : ∃ e, ov 4 x 32 32 = e := ⟨_, rfl⟩
  have A0 := Num.ag4_32 x
  rw [g0] at A0
  have E04 : e0 < 18446744073709551616 := Nat.lt_of_lt_of_le A0.2.2 (by decide)
  have U0 := one_con (op := 192) (p := 4) (w := 32) (t := 32) (a := x) (r := e0) (by decide) (by decide) lx4 lx g0
  have V0 := one_con (op := 192) (p := 4) (w := 32) (t := 32) (a := e0) (r := e0) (by decide) (by decide) E04 A0.2.2 A0.1
  obtain ⟨m0, k0⟩ : ∃ m, x % 256 = m := ⟨_, rfl⟩
  have N0 := and255 E04 (A0.2.1.trans k0)
  have M0 := and255 lx4 k0
  obtain ⟨e1, g1⟩ : ∃ e, ov 5 x 32 32 = e := ⟨_, rfl⟩
  have A1 := Num.ag5_32 x
  rw [g1] at A1
  have E14 : e1 < 18446744073709551616 := Nat.lt_of_lt_of_le A1.2.2 (by decide)
  have U1 := one_con (op := 193) (p := 5) (w := 32) (t := 32) (a := x) (r := e1) (by decide) (by decide) lx4 lx g1
  have V1 := one_con (op := 193) (p := 5) (w := 32) (t := 32) (a := e1) (r := e1) (by decide) (by decide) E14 A1.2.2 A1.1
  obtain ⟨m1, k1⟩ : ∃ m, x % 256 = m := ⟨_, rfl⟩
  have N1 := and255 E14 (A1.2.1.trans k1)
  have M1 := and255 lx4 k1
  obtain ⟨e2, g2⟩ : ∃ e, ov 4 a 64 64 = e := ⟨_, rfl⟩
  have A2 := Num.ag4_64 a
  rw [g2] at A2
  have E24 : e2 < 18446744073709551616 := Nat.lt_of_lt_of_le A2.2.2 (by decide)
  have U2 := one_con (op := 194) (p := 4) (w := 64) (t := 64) (a := a) (r := e2) (by decide) (by decide) la la g2
  have V2 := one_con (op := 194) (p := 4) (w := 64) (t := 64) (a := e2) (r := e2) (by decide) (by decide) E24 A2.2.2 A2.1
  obtain ⟨m2, k2⟩ : ∃ m, a % 256 = m := ⟨_, rfl⟩
  have N2 := and255 E24 (A2.2.1.trans k2)
  have M2 := and255 la k2
  obtain ⟨e3, g3⟩ : ∃ e, ov 5 a 64 64 = e := ⟨_, rfl⟩
  have A3 := Num.ag5_64 a
  rw [g3] at A3
  have E34 : e3 < 18446744073709551616 := Nat.lt_of_lt_of_le A3.2.2 (by decide)
  have U3 := one_con (op := 195) (p := 5) (w := 64) (t := 64) (a := a) (r := e3) (by decide) (by decide) la la g3
  have V3 := one_con (op := 195) (p := 5) (w := 64) (t := 64) (a := e3) (r := e3) (by decide) (by decide) E34 A3.2.2 A3.1
  obtain ⟨m3, k3⟩ : ∃ m, a % 256 = m := ⟨_, rfl⟩
  have N3 := and255 E34 (A3.2.1.trans k3)
  have M3 := and255 la k3
  obtain ⟨e4, g4⟩ : ∃ e, ov 6 a 64 64 = e := ⟨_, rfl⟩
  have A4 := Num.ag6_64 a
  rw [g4] at A4
  have E44 : e4 < 18446744073709551616 := Nat.lt_of_lt_of_le A4.2.2 (by decide)
  have U4 := one_con (op := 196) (p := 6) (w := 64) (t := 64) (a := a) (r := e4) (by decide) (by decide) la la g4
  have V4 := one_con (op := 196) (p := 6) (w := 64) (t := 64) (a := e4) (r := e4) (by decide) (by decide) E44 A4.2.2 A4.1
  obtain ⟨m4, k4⟩ : ∃ m, a % 256 = m := ⟨_, rfl⟩
  have N4 := and255 E44 (A4.2.1.trans k4)
  have M4 := and255 la k4
  obtain rfl : m0 = m1 := k0.symm.trans k1
  obtain rfl : m2 = m3 := k2.symm.trans k3
  obtain rfl : m2 = m4 := k2.symm.trans k4
  clear hp hq hr hs lp lq lx ly lx4 ly4 la g0 A0 E04 k0 g1 A1 E14 k1 g2 A2 E24 k2 g3 A3 E34 k3 g4 A4 E44 k4
  go_enter Tryd.func7, Tryd.ntmps7
  go_wp2_with (first
    | (go_at_call 10; ((with_reducible refine (O1.out _ (HT.out _ hB)).mono ?_); rintro e w9 ⟨rfl, hb9⟩; have hB := below_trans hB hb9))
    | (go_at_call 10; ((with_reducible refine (O2.out _ (HT.out _ hB)).mono ?_); rintro e w9 ⟨rfl, hb9⟩; have hB := below_trans hB hb9))
    | (go_at_call 10; ((with_reducible refine (O3.out _ (HT.out _ hB)).mono ?_); rintro e w9 ⟨rfl, hb9⟩; have hB := below_trans hB hb9))
    | (go_at_call 10; ((with_reducible refine (O4.out _ (HT.out _ hB)).mono ?_); rintro e w9 ⟨rfl, hb9⟩; have hB := below_trans hB hb9))
    | (go_at_call 10; ((with_reducible refine (O5.out _ (HT.out _ hB)).mono ?_); rintro e w9 ⟨rfl, hb9⟩; have hB := below_trans hB hb9))
    | (go_at_call 10; ((with_reducible refine (O6.out _ (HT.out _ hB)).mono ?_); rintro e w9 ⟨rfl, hb9⟩; have hB := below_trans hB hb9))
    | (go_at_call 10; ((with_reducible refine (U0.out _ (HT.out _ hB)).mono ?_); rintro e w9 ⟨rfl, hb9⟩; have hB := below_trans hB hb9))
    | (go_at_call 10; ((with_reducible refine (V0.out _ (HT.out _ hB)).mono ?_); rintro e w9 ⟨rfl, hb9⟩; have hB := below_trans hB hb9))
    | (go_at_call 10; ((with_reducible refine (U1.out _ (HT.out _ hB)).mono ?_); rintro e w9 ⟨rfl, hb9⟩; have hB := below_trans hB hb9))
    | (go_at_call 10; ((with_reducible refine (V1.out _ (HT.out _ hB)).mono ?_); rintro e w9 ⟨rfl, hb9⟩; have hB := below_trans hB hb9))
    | (go_at_call 10; ((with_reducible refine (U2.out _ (HT.out _ hB)).mono ?_); rintro e w9 ⟨rfl, hb9⟩; have hB := below_trans hB hb9))
    | (go_at_call 10; ((with_reducible refine (V2.out _ (HT.out _ hB)).mono ?_); rintro e w9 ⟨rfl, hb9⟩; have hB := below_trans hB hb9))
    | (go_at_call 10; ((with_reducible refine (U3.out _ (HT.out _ hB)).mono ?_); rintro e w9 ⟨rfl, hb9⟩; have hB := below_trans hB hb9))
    | (go_at_call 10; ((with_reducible refine (V3.out _ (HT.out _ hB)).mono ?_); rintro e w9 ⟨rfl, hb9⟩; have hB := below_trans hB hb9))
    | (go_at_call 10; ((with_reducible refine (U4.out _ (HT.out _ hB)).mono ?_); rintro e w9 ⟨rfl, hb9⟩; have hB := below_trans hB hb9))
    | (go_at_call 10; ((with_reducible refine (V4.out _ (HT.out _ hB)).mono ?_); rintro e w9 ⟨rfl, hb9⟩; have hB := below_trans hB hb9))
    | (go_at_call 17; ((with_reducible refine (T1.out _).mono ?_); rintro e w9 ⟨rfl, hb9⟩; have hB := below_trans hB hb9))
    | (go_at_call 17; ((with_reducible refine (T2.out _).mono ?_); rintro e w9 ⟨rfl, hb9⟩; have hB := below_trans hB hb9))
    | (go_at_call 17; ((with_reducible refine (T3.out _).mono ?_); rintro e w9 ⟨rfl, hb9⟩; have hB := below_trans hB hb9))
    | (go_at_call 17; ((with_reducible refine (T4.out _).mono ?_); rintro e w9 ⟨rfl, hb9⟩; have hB := below_trans hB hb9))
    | (go_at_call 14; ((with_reducible refine (HKn.out _ (HT.out _ hB)).mono ?_); rintro e w5 ⟨rfl, hb⟩; have hB := below_trans hB hb)))
  refine wp_loop_rounds 3 ?_
  rw [rounds_succ]
  go_wp2_with (first
    | (go_at_call 10; ((with_reducible refine (O1.out _ (HT.out _ hB)).mono ?_); rintro e w9 ⟨rfl, hb9⟩; have hB := below_trans hB hb9))
    | (go_at_call 10; ((with_reducible refine (O2.out _ (HT.out _ hB)).mono ?_); rintro e w9 ⟨rfl, hb9⟩; have hB := below_trans hB hb9))
    | (go_at_call 10; ((with_reducible refine (O3.out _ (HT.out _ hB)).mono ?_); rintro e w9 ⟨rfl, hb9⟩; have hB := below_trans hB hb9))
    | (go_at_call 10; ((with_reducible refine (O4.out _ (HT.out _ hB)).mono ?_); rintro e w9 ⟨rfl, hb9⟩; have hB := below_trans hB hb9))
    | (go_at_call 10; ((with_reducible refine (O5.out _ (HT.out _ hB)).mono ?_); rintro e w9 ⟨rfl, hb9⟩; have hB := below_trans hB hb9))
    | (go_at_call 10; ((with_reducible refine (O6.out _ (HT.out _ hB)).mono ?_); rintro e w9 ⟨rfl, hb9⟩; have hB := below_trans hB hb9))
    | (go_at_call 10; ((with_reducible refine (U0.out _ (HT.out _ hB)).mono ?_); rintro e w9 ⟨rfl, hb9⟩; have hB := below_trans hB hb9))
    | (go_at_call 10; ((with_reducible refine (V0.out _ (HT.out _ hB)).mono ?_); rintro e w9 ⟨rfl, hb9⟩; have hB := below_trans hB hb9))
    | (go_at_call 10; ((with_reducible refine (U1.out _ (HT.out _ hB)).mono ?_); rintro e w9 ⟨rfl, hb9⟩; have hB := below_trans hB hb9))
    | (go_at_call 10; ((with_reducible refine (V1.out _ (HT.out _ hB)).mono ?_); rintro e w9 ⟨rfl, hb9⟩; have hB := below_trans hB hb9))
    | (go_at_call 10; ((with_reducible refine (U2.out _ (HT.out _ hB)).mono ?_); rintro e w9 ⟨rfl, hb9⟩; have hB := below_trans hB hb9))
    | (go_at_call 10; ((with_reducible refine (V2.out _ (HT.out _ hB)).mono ?_); rintro e w9 ⟨rfl, hb9⟩; have hB := below_trans hB hb9))
    | (go_at_call 10; ((with_reducible refine (U3.out _ (HT.out _ hB)).mono ?_); rintro e w9 ⟨rfl, hb9⟩; have hB := below_trans hB hb9))
    | (go_at_call 10; ((with_reducible refine (V3.out _ (HT.out _ hB)).mono ?_); rintro e w9 ⟨rfl, hb9⟩; have hB := below_trans hB hb9))
    | (go_at_call 10; ((with_reducible refine (U4.out _ (HT.out _ hB)).mono ?_); rintro e w9 ⟨rfl, hb9⟩; have hB := below_trans hB hb9))
    | (go_at_call 10; ((with_reducible refine (V4.out _ (HT.out _ hB)).mono ?_); rintro e w9 ⟨rfl, hb9⟩; have hB := below_trans hB hb9))
    | (go_at_call 17; ((with_reducible refine (T1.out _).mono ?_); rintro e w9 ⟨rfl, hb9⟩; have hB := below_trans hB hb9))
    | (go_at_call 17; ((with_reducible refine (T2.out _).mono ?_); rintro e w9 ⟨rfl, hb9⟩; have hB := below_trans hB hb9))
    | (go_at_call 17; ((with_reducible refine (T3.out _).mono ?_); rintro e w9 ⟨rfl, hb9⟩; have hB := below_trans hB hb9))
    | (go_at_call 17; ((with_reducible refine (T4.out _).mono ?_); rintro e w9 ⟨rfl, hb9⟩; have hB := below_trans hB hb9))
    | (go_at_call 14; ((with_reducible refine (HKn.out _ (HT.out _ hB)).mono ?_); rintro e w5 ⟨rfl, hb⟩; have hB := below_trans hB hb)))
  rw [rounds_succ]
  go_wp2_with (first
    | (go_at_call 10; ((with_reducible refine (O1.out _ (HT.out _ hB)).mono ?_); rintro e w9 ⟨rfl, hb9⟩; have hB := below_trans hB hb9))
    | (go_at_call 10; ((with_reducible refine (O2.out _ (HT.out _ hB)).mono ?_); rintro e w9 ⟨rfl, hb9⟩; have hB := below_trans hB hb9))
    | (go_at_call 10; ((with_reducible refine (O3.out _ (HT.out _ hB)).mono ?_); rintro e w9 ⟨rfl, hb9⟩; have hB := below_trans hB hb9))
    | (go_at_call 10; ((with_reducible refine (O4.out _ (HT.out _ hB)).mono ?_); rintro e w9 ⟨rfl, hb9⟩; have hB := below_trans hB hb9))
    | (go_at_call 10; ((with_reducible refine (O5.out _ (HT.out _ hB)).mono ?_); rintro e w9 ⟨rfl, hb9⟩; have hB := below_trans hB hb9))
    | (go_at_call 10; ((with_reducible refine (O6.out _ (HT.out _ hB)).mono ?_); rintro e w9 ⟨rfl, hb9⟩; have hB := below_trans hB hb9))
    | (go_at_call 10; ((with_reducible refine (U0.out _ (HT.out _ hB)).mono ?_); rintro e w9 ⟨rfl, hb9⟩; have hB := below_trans hB hb9))
    | (go_at_call 10; ((with_reducible refine (V0.out _ (HT.out _ hB)).mono ?_); rintro e w9 ⟨rfl, hb9⟩; have hB := below_trans hB hb9))
    | (go_at_call 10; ((with_reducible refine (U1.out _ (HT.out _ hB)).mono ?_); rintro e w9 ⟨rfl, hb9⟩; have hB := below_trans hB hb9))
    | (go_at_call 10; ((with_reducible refine (V1.out _ (HT.out _ hB)).mono ?_); rintro e w9 ⟨rfl, hb9⟩; have hB := below_trans hB hb9))
    | (go_at_call 10; ((with_reducible refine (U2.out _ (HT.out _ hB)).mono ?_); rintro e w9 ⟨rfl, hb9⟩; have hB := below_trans hB hb9))
    | (go_at_call 10; ((with_reducible refine (V2.out _ (HT.out _ hB)).mono ?_); rintro e w9 ⟨rfl, hb9⟩; have hB := below_trans hB hb9))
    | (go_at_call 10; ((with_reducible refine (U3.out _ (HT.out _ hB)).mono ?_); rintro e w9 ⟨rfl, hb9⟩; have hB := below_trans hB hb9))
    | (go_at_call 10; ((with_reducible refine (V3.out _ (HT.out _ hB)).mono ?_); rintro e w9 ⟨rfl, hb9⟩; have hB := below_trans hB hb9))
    | (go_at_call 10; ((with_reducible refine (U4.out _ (HT.out _ hB)).mono ?_); rintro e w9 ⟨rfl, hb9⟩; have hB := below_trans hB hb9))
    | (go_at_call 10; ((with_reducible refine (V4.out _ (HT.out _ hB)).mono ?_); rintro e w9 ⟨rfl, hb9⟩; have hB := below_trans hB hb9))
    | (go_at_call 17; ((with_reducible refine (T1.out _).mono ?_); rintro e w9 ⟨rfl, hb9⟩; have hB := below_trans hB hb9))
    | (go_at_call 17; ((with_reducible refine (T2.out _).mono ?_); rintro e w9 ⟨rfl, hb9⟩; have hB := below_trans hB hb9))
    | (go_at_call 17; ((with_reducible refine (T3.out _).mono ?_); rintro e w9 ⟨rfl, hb9⟩; have hB := below_trans hB hb9))
    | (go_at_call 17; ((with_reducible refine (T4.out _).mono ?_); rintro e w9 ⟨rfl, hb9⟩; have hB := below_trans hB hb9))
    | (go_at_call 14; ((with_reducible refine (HKn.out _ (HT.out _ hB)).mono ?_); rintro e w5 ⟨rfl, hb⟩; have hB := below_trans hB hb)))
  rw [rounds_succ]
  go_wp2_with (first
    | (go_at_call 10; ((with_reducible refine (O1.out _ (HT.out _ hB)).mono ?_); rintro e w9 ⟨rfl, hb9⟩; have hB := below_trans hB hb9))
    | (go_at_call 10; ((with_reducible refine (O2.out _ (HT.out _ hB)).mono ?_); rintro e w9 ⟨rfl, hb9⟩; have hB := below_trans hB hb9))
    | (go_at_call 10; ((with_reducible refine (O3.out _ (HT.out _ hB)).mono ?_); rintro e w9 ⟨rfl, hb9⟩; have hB := below_trans hB hb9))
    | (go_at_call 10; ((with_reducible refine (O4.out _ (HT.out _ hB)).mono ?_); rintro e w9 ⟨rfl, hb9⟩; have hB := below_trans hB hb9))
    | (go_at_call 10; ((with_reducible refine (O5.out _ (HT.out _ hB)).mono ?_); rintro e w9 ⟨rfl, hb9⟩; have hB := below_trans hB hb9))
    | (go_at_call 10; ((with_reducible refine (O6.out _ (HT.out _ hB)).mono ?_); rintro e w9 ⟨rfl, hb9⟩; have hB := below_trans hB hb9))
    | (go_at_call 10; ((with_reducible refine (U0.out _ (HT.out _ hB)).mono ?_); rintro e w9 ⟨rfl, hb9⟩; have hB := below_trans hB hb9))
    | (go_at_call 10; ((with_reducible refine (V0.out _ (HT.out _ hB)).mono ?_); rintro e w9 ⟨rfl, hb9⟩; have hB := below_trans hB hb9))
    | (go_at_call 10; ((with_reducible refine (U1.out _ (HT.out _ hB)).mono ?_); rintro e w9 ⟨rfl, hb9⟩; have hB := below_trans hB hb9))
    | (go_at_call 10; ((with_reducible refine (V1.out _ (HT.out _ hB)).mono ?_); rintro e w9 ⟨rfl, hb9⟩; have hB := below_trans hB hb9))
    | (go_at_call 10; ((with_reducible refine (U2.out _ (HT.out _ hB)).mono ?_); rintro e w9 ⟨rfl, hb9⟩; have hB := below_trans hB hb9))
    | (go_at_call 10; ((with_reducible refine (V2.out _ (HT.out _ hB)).mono ?_); rintro e w9 ⟨rfl, hb9⟩; have hB := below_trans hB hb9))
    | (go_at_call 10; ((with_reducible refine (U3.out _ (HT.out _ hB)).mono ?_); rintro e w9 ⟨rfl, hb9⟩; have hB := below_trans hB hb9))
    | (go_at_call 10; ((with_reducible refine (V3.out _ (HT.out _ hB)).mono ?_); rintro e w9 ⟨rfl, hb9⟩; have hB := below_trans hB hb9))
    | (go_at_call 10; ((with_reducible refine (U4.out _ (HT.out _ hB)).mono ?_); rintro e w9 ⟨rfl, hb9⟩; have hB := below_trans hB hb9))
    | (go_at_call 10; ((with_reducible refine (V4.out _ (HT.out _ hB)).mono ?_); rintro e w9 ⟨rfl, hb9⟩; have hB := below_trans hB hb9))
    | (go_at_call 17; ((with_reducible refine (T1.out _).mono ?_); rintro e w9 ⟨rfl, hb9⟩; have hB := below_trans hB hb9))
    | (go_at_call 17; ((with_reducible refine (T2.out _).mono ?_); rintro e w9 ⟨rfl, hb9⟩; have hB := below_trans hB hb9))
    | (go_at_call 17; ((with_reducible refine (T3.out _).mono ?_); rintro e w9 ⟨rfl, hb9⟩; have hB := below_trans hB hb9))
    | (go_at_call 17; ((with_reducible refine (T4.out _).mono ?_); rintro e w9 ⟨rfl, hb9⟩; have hB := below_trans hB hb9))
    | (go_at_call 14; ((with_reducible refine (HKn.out _ (HT.out _ hB)).mono ?_); rintro e w5 ⟨rfl, hb⟩; have hB := below_trans hB hb)))
  refine wp_loop_rounds 6 ?_
  rw [rounds_succ]
  go_wp2_with (first
    | (go_at_call 10; ((with_reducible refine (O1.out _ (HT.out _ hB)).mono ?_); rintro e w9 ⟨rfl, hb9⟩; have hB := below_trans hB hb9))
    | (go_at_call 10; ((with_reducible refine (O2.out _ (HT.out _ hB)).mono ?_); rintro e w9 ⟨rfl, hb9⟩; have hB := below_trans hB hb9))
    | (go_at_call 10; ((with_reducible refine (O3.out _ (HT.out _ hB)).mono ?_); rintro e w9 ⟨rfl, hb9⟩; have hB := below_trans hB hb9))
    | (go_at_call 10; ((with_reducible refine (O4.out _ (HT.out _ hB)).mono ?_); rintro e w9 ⟨rfl, hb9⟩; have hB := below_trans hB hb9))
    | (go_at_call 10; ((with_reducible refine (O5.out _ (HT.out _ hB)).mono ?_); rintro e w9 ⟨rfl, hb9⟩; have hB := below_trans hB hb9))
    | (go_at_call 10; ((with_reducible refine (O6.out _ (HT.out _ hB)).mono ?_); rintro e w9 ⟨rfl, hb9⟩; have hB := below_trans hB hb9))
    | (go_at_call 10; ((with_reducible refine (U0.out _ (HT.out _ hB)).mono ?_); rintro e w9 ⟨rfl, hb9⟩; have hB := below_trans hB hb9))
    | (go_at_call 10; ((with_reducible refine (V0.out _ (HT.out _ hB)).mono ?_); rintro e w9 ⟨rfl, hb9⟩; have hB := below_trans hB hb9))
    | (go_at_call 10; ((with_reducible refine (U1.out _ (HT.out _ hB)).mono ?_); rintro e w9 ⟨rfl, hb9⟩; have hB := below_trans hB hb9))
    | (go_at_call 10; ((with_reducible refine (V1.out _ (HT.out _ hB)).mono ?_); rintro e w9 ⟨rfl, hb9⟩; have hB := below_trans hB hb9))
    | (go_at_call 10; ((with_reducible refine (U2.out _ (HT.out _ hB)).mono ?_); rintro e w9 ⟨rfl, hb9⟩; have hB := below_trans hB hb9))
    | (go_at_call 10; ((with_reducible refine (V2.out _ (HT.out _ hB)).mono ?_); rintro e w9 ⟨rfl, hb9⟩; have hB := below_trans hB hb9))
    | (go_at_call 10; ((with_reducible refine (U3.out _ (HT.out _ hB)).mono ?_); rintro e w9 ⟨rfl, hb9⟩; have hB := below_trans hB hb9))
    | (go_at_call 10; ((with_reducible refine (V3.out _ (HT.out _ hB)).mono ?_); rintro e w9 ⟨rfl, hb9⟩; have hB := below_trans hB hb9))
    | (go_at_call 10; ((with_reducible refine (U4.out _ (HT.out _ hB)).mono ?_); rintro e w9 ⟨rfl, hb9⟩; have hB := below_trans hB hb9))
    | (go_at_call 10; ((with_reducible refine (V4.out _ (HT.out _ hB)).mono ?_); rintro e w9 ⟨rfl, hb9⟩; have hB := below_trans hB hb9))
    | (go_at_call 17; ((with_reducible refine (T1.out _).mono ?_); rintro e w9 ⟨rfl, hb9⟩; have hB := below_trans hB hb9))
    | (go_at_call 17; ((with_reducible refine (T2.out _).mono ?_); rintro e w9 ⟨rfl, hb9⟩; have hB := below_trans hB hb9))
    | (go_at_call 17; ((with_reducible refine (T3.out _).mono ?_); rintro e w9 ⟨rfl, hb9⟩; have hB := below_trans hB hb9))
    | (go_at_call 17; ((with_reducible refine (T4.out _).mono ?_); rintro e w9 ⟨rfl, hb9⟩; have hB := below_trans hB hb9))
    | (go_at_call 14; ((with_reducible refine (HKn.out _ (HT.out _ hB)).mono ?_); rintro e w5 ⟨rfl, hb⟩; have hB := below_trans hB hb)))
  rw [rounds_succ]
  go_wp2_with (first
    | (go_at_call 10; ((with_reducible refine (O1.out _ (HT.out _ hB)).mono ?_); rintro e w9 ⟨rfl, hb9⟩; have hB := below_trans hB hb9))
    | (go_at_call 10; ((with_reducible refine (O2.out _ (HT.out _ hB)).mono ?_); rintro e w9 ⟨rfl, hb9⟩; have hB := below_trans hB hb9))
    | (go_at_call 10; ((with_reducible refine (O3.out _ (HT.out _ hB)).mono ?_); rintro e w9 ⟨rfl, hb9⟩; have hB := below_trans hB hb9))
    | (go_at_call 10; ((with_reducible refine (O4.out _ (HT.out _ hB)).mono ?_); rintro e w9 ⟨rfl, hb9⟩; have hB := below_trans hB hb9))
    | (go_at_call 10; ((with_reducible refine (O5.out _ (HT.out _ hB)).mono ?_); rintro e w9 ⟨rfl, hb9⟩; have hB := below_trans hB hb9))
    | (go_at_call 10; ((with_reducible refine (O6.out _ (HT.out _ hB)).mono ?_); rintro e w9 ⟨rfl, hb9⟩; have hB := below_trans hB hb9))
    | (go_at_call 10; ((with_reducible refine (U0.out _ (HT.out _ hB)).mono ?_); rintro e w9 ⟨rfl, hb9⟩; have hB := below_trans hB hb9))
    | (go_at_call 10; ((with_reducible refine (V0.out _ (HT.out _ hB)).mono ?_); rintro e w9 ⟨rfl, hb9⟩; have hB := below_trans hB hb9))
    | (go_at_call 10; ((with_reducible refine (U1.out _ (HT.out _ hB)).mono ?_); rintro e w9 ⟨rfl, hb9⟩; have hB := below_trans hB hb9))
    | (go_at_call 10; ((with_reducible refine (V1.out _ (HT.out _ hB)).mono ?_); rintro e w9 ⟨rfl, hb9⟩; have hB := below_trans hB hb9))
    | (go_at_call 10; ((with_reducible refine (U2.out _ (HT.out _ hB)).mono ?_); rintro e w9 ⟨rfl, hb9⟩; have hB := below_trans hB hb9))
    | (go_at_call 10; ((with_reducible refine (V2.out _ (HT.out _ hB)).mono ?_); rintro e w9 ⟨rfl, hb9⟩; have hB := below_trans hB hb9))
    | (go_at_call 10; ((with_reducible refine (U3.out _ (HT.out _ hB)).mono ?_); rintro e w9 ⟨rfl, hb9⟩; have hB := below_trans hB hb9))
    | (go_at_call 10; ((with_reducible refine (V3.out _ (HT.out _ hB)).mono ?_); rintro e w9 ⟨rfl, hb9⟩; have hB := below_trans hB hb9))
    | (go_at_call 10; ((with_reducible refine (U4.out _ (HT.out _ hB)).mono ?_); rintro e w9 ⟨rfl, hb9⟩; have hB := below_trans hB hb9))
    | (go_at_call 10; ((with_reducible refine (V4.out _ (HT.out _ hB)).mono ?_); rintro e w9 ⟨rfl, hb9⟩; have hB := below_trans hB hb9))
    | (go_at_call 17; ((with_reducible refine (T1.out _).mono ?_); rintro e w9 ⟨rfl, hb9⟩; have hB := below_trans hB hb9))
    | (go_at_call 17; ((with_reducible refine (T2.out _).mono ?_); rintro e w9 ⟨rfl, hb9⟩; have hB := below_trans hB hb9))
    | (go_at_call 17; ((with_reducible refine (T3.out _).mono ?_); rintro e w9 ⟨rfl, hb9⟩; have hB := below_trans hB hb9))
    | (go_at_call 17; ((with_reducible refine (T4.out _).mono ?_); rintro e w9 ⟨rfl, hb9⟩; have hB := below_trans hB hb9))
    | (go_at_call 14; ((with_reducible refine (HKn.out _ (HT.out _ hB)).mono ?_); rintro e w5 ⟨rfl, hb⟩; have hB := below_trans hB hb)))
  rw [rounds_succ]
  go_wp2_with (first
    | (go_at_call 10; ((with_reducible refine (O1.out _ (HT.out _ hB)).mono ?_); rintro e w9 ⟨rfl, hb9⟩; have hB := below_trans hB hb9))
    | (go_at_call 10; ((with_reducible refine (O2.out _ (HT.out _ hB)).mono ?_); rintro e w9 ⟨rfl, hb9⟩; have hB := below_trans hB hb9))
    | (go_at_call 10; ((with_reducible refine (O3.out _ (HT.out _ hB)).mono ?_); rintro e w9 ⟨rfl, hb9⟩; have hB := below_trans hB hb9))
    | (go_at_call 10; ((with_reducible refine (O4.out _ (HT.out _ hB)).mono ?_); rintro e w9 ⟨rfl, hb9⟩; have hB := below_trans hB hb9))
    | (go_at_call 10; ((with_reducible refine (O5.out _ (HT.out _ hB)).mono ?_); rintro e w9 ⟨rfl, hb9⟩; have hB := below_trans hB hb9))
    | (go_at_call 10; ((with_reducible refine (O6.out _ (HT.out _ hB)).mono ?_); rintro e w9 ⟨rfl, hb9⟩; have hB := below_trans hB hb9))
    | (go_at_call 10; ((with_reducible refine (U0.out _ (HT.out _ hB)).mono ?_); rintro e w9 ⟨rfl, hb9⟩; have hB := below_trans hB hb9))
    | (go_at_call 10; ((with_reducible refine (V0.out _ (HT.out _ hB)).mono ?_); rintro e w9 ⟨rfl, hb9⟩; have hB := below_trans hB hb9))
    | (go_at_call 10; ((with_reducible refine (U1.out _ (HT.out _ hB)).mono ?_); rintro e w9 ⟨rfl, hb9⟩; have hB := below_trans hB hb9))
    | (go_at_call 10; ((with_reducible refine (V1.out _ (HT.out _ hB)).mono ?_); rintro e w9 ⟨rfl, hb9⟩; have hB := below_trans hB hb9))
    | (go_at_call 10; ((with_reducible refine (U2.out _ (HT.out _ hB)).mono ?_); rintro e w9 ⟨rfl, hb9⟩; have hB := below_trans hB hb9))
    | (go_at_call 10; ((with_reducible refine (V2.out _ (HT.out _ hB)).mono ?_); rintro e w9 ⟨rfl, hb9⟩; have hB := below_trans hB hb9))
    | (go_at_call 10; ((with_reducible refine (U3.out _ (HT.out _ hB)).mono ?_); rintro e w9 ⟨rfl, hb9⟩; have hB := below_trans hB hb9))
    | (go_at_call 10; ((with_reducible refine (V3.out _ (HT.out _ hB)).mono ?_); rintro e w9 ⟨rfl, hb9⟩; have hB := below_trans hB hb9))
    | (go_at_call 10; ((with_reducible refine (U4.out _ (HT.out _ hB)).mono ?_); rintro e w9 ⟨rfl, hb9⟩; have hB := below_trans hB hb9))
    | (go_at_call 10; ((with_reducible refine (V4.out _ (HT.out _ hB)).mono ?_); rintro e w9 ⟨rfl, hb9⟩; have hB := below_trans hB hb9))
    | (go_at_call 17; ((with_reducible refine (T1.out _).mono ?_); rintro e w9 ⟨rfl, hb9⟩; have hB := below_trans hB hb9))
    | (go_at_call 17; ((with_reducible refine (T2.out _).mono ?_); rintro e w9 ⟨rfl, hb9⟩; have hB := below_trans hB hb9))
    | (go_at_call 17; ((with_reducible refine (T3.out _).mono ?_); rintro e w9 ⟨rfl, hb9⟩; have hB := below_trans hB hb9))
    | (go_at_call 17; ((with_reducible refine (T4.out _).mono ?_); rintro e w9 ⟨rfl, hb9⟩; have hB := below_trans hB hb9))
    | (go_at_call 14; ((with_reducible refine (HKn.out _ (HT.out _ hB)).mono ?_); rintro e w5 ⟨rfl, hb⟩; have hB := below_trans hB hb)))
  rw [rounds_succ]
  go_wp2_with (first
    | (go_at_call 10; ((with_reducible refine (O1.out _ (HT.out _ hB)).mono ?_); rintro e w9 ⟨rfl, hb9⟩; have hB := below_trans hB hb9))
    | (go_at_call 10; ((with_reducible refine (O2.out _ (HT.out _ hB)).mono ?_); rintro e w9 ⟨rfl, hb9⟩; have hB := below_trans hB hb9))
    | (go_at_call 10; ((with_reducible refine (O3.out _ (HT.out _ hB)).mono ?_); rintro e w9 ⟨rfl, hb9⟩; have hB := below_trans hB hb9))
    | (go_at_call 10; ((with_reducible refine (O4.out _ (HT.out _ hB)).mono ?_); rintro e w9 ⟨rfl, hb9⟩; have hB := below_trans hB hb9))
    | (go_at_call 10; ((with_reducible refine (O5.out _ (HT.out _ hB)).mono ?_); rintro e w9 ⟨rfl, hb9⟩; have hB := below_trans hB hb9))
    | (go_at_call 10; ((with_reducible refine (O6.out _ (HT.out _ hB)).mono ?_); rintro e w9 ⟨rfl, hb9⟩; have hB := below_trans hB hb9))
    | (go_at_call 10; ((with_reducible refine (U0.out _ (HT.out _ hB)).mono ?_); rintro e w9 ⟨rfl, hb9⟩; have hB := below_trans hB hb9))
    | (go_at_call 10; ((with_reducible refine (V0.out _ (HT.out _ hB)).mono ?_); rintro e w9 ⟨rfl, hb9⟩; have hB := below_trans hB hb9))
    | (go_at_call 10; ((with_reducible refine (U1.out _ (HT.out _ hB)).mono ?_); rintro e w9 ⟨rfl, hb9⟩; have hB := below_trans hB hb9))
    | (go_at_call 10; ((with_reducible refine (V1.out _ (HT.out _ hB)).mono ?_); rintro e w9 ⟨rfl, hb9⟩; have hB := below_trans hB hb9))
    | (go_at_call 10; ((with_reducible refine (U2.out _ (HT.out _ hB)).mono ?_); rintro e w9 ⟨rfl, hb9⟩; have hB := below_trans hB hb9))
    | (go_at_call 10; ((with_reducible refine (V2.out _ (HT.out _ hB)).mono ?_); rintro e w9 ⟨rfl, hb9⟩; have hB := below_trans hB hb9))
    | (go_at_call 10; ((with_reducible refine (U3.out _ (HT.out _ hB)).mono ?_); rintro e w9 ⟨rfl, hb9⟩; have hB := below_trans hB hb9))
    | (go_at_call 10; ((with_reducible refine (V3.out _ (HT.out _ hB)).mono ?_); rintro e w9 ⟨rfl, hb9⟩; have hB := below_trans hB hb9))
    | (go_at_call 10; ((with_reducible refine (U4.out _ (HT.out _ hB)).mono ?_); rintro e w9 ⟨rfl, hb9⟩; have hB := below_trans hB hb9))
    | (go_at_call 10; ((with_reducible refine (V4.out _ (HT.out _ hB)).mono ?_); rintro e w9 ⟨rfl, hb9⟩; have hB := below_trans hB hb9))
    | (go_at_call 17; ((with_reducible refine (T1.out _).mono ?_); rintro e w9 ⟨rfl, hb9⟩; have hB := below_trans hB hb9))
    | (go_at_call 17; ((with_reducible refine (T2.out _).mono ?_); rintro e w9 ⟨rfl, hb9⟩; have hB := below_trans hB hb9))
    | (go_at_call 17; ((with_reducible refine (T3.out _).mono ?_); rintro e w9 ⟨rfl, hb9⟩; have hB := below_trans hB hb9))
    | (go_at_call 17; ((with_reducible refine (T4.out _).mono ?_); rintro e w9 ⟨rfl, hb9⟩; have hB := below_trans hB hb9))
    | (go_at_call 14; ((with_reducible refine (HKn.out _ (HT.out _ hB)).mono ?_); rintro e w5 ⟨rfl, hb⟩; have hB := below_trans hB hb)))
  rw [rounds_succ]
  go_wp2_with (first
    | (go_at_call 10; ((with_reducible refine (O1.out _ (HT.out _ hB)).mono ?_); rintro e w9 ⟨rfl, hb9⟩; have hB := below_trans hB hb9))
    | (go_at_call 10; ((with_reducible refine (O2.out _ (HT.out _ hB)).mono ?_); rintro e w9 ⟨rfl, hb9⟩; have hB := below_trans hB hb9))
    | (go_at_call 10; ((with_reducible refine (O3.out _ (HT.out _ hB)).mono ?_); rintro e w9 ⟨rfl, hb9⟩; have hB := below_trans hB hb9))
    | (go_at_call 10; ((with_reducible refine (O4.out _ (HT.out _ hB)).mono ?_); rintro e w9 ⟨rfl, hb9⟩; have hB := below_trans hB hb9))
    | (go_at_call 10; ((with_reducible refine (O5.out _ (HT.out _ hB)).mono ?_); rintro e w9 ⟨rfl, hb9⟩; have hB := below_trans hB hb9))
    | (go_at_call 10; ((with_reducible refine (O6.out _ (HT.out _ hB)).mono ?_); rintro e w9 ⟨rfl, hb9⟩; have hB := below_trans hB hb9))
    | (go_at_call 10; ((with_reducible refine (U0.out _ (HT.out _ hB)).mono ?_); rintro e w9 ⟨rfl, hb9⟩; have hB := below_trans hB hb9))
    | (go_at_call 10; ((with_reducible refine (V0.out _ (HT.out _ hB)).mono ?_); rintro e w9 ⟨rfl, hb9⟩; have hB := below_trans hB hb9))
    | (go_at_call 10; ((with_reducible refine (U1.out _ (HT.out _ hB)).mono ?_); rintro e w9 ⟨rfl, hb9⟩; have hB := below_trans hB hb9))
    | (go_at_call 10; ((with_reducible refine (V1.out _ (HT.out _ hB)).mono ?_); rintro e w9 ⟨rfl, hb9⟩; have hB := below_trans hB hb9))
    | (go_at_call 10; ((with_reducible refine (U2.out _ (HT.out _ hB)).mono ?_); rintro e w9 ⟨rfl, hb9⟩; have hB := below_trans hB hb9))
    | (go_at_call 10; ((with_reducible refine (V2.out _ (HT.out _ hB)).mono ?_); rintro e w9 ⟨rfl, hb9⟩; have hB := below_trans hB hb9))
    | (go_at_call 10; ((with_reducible refine (U3.out _ (HT.out _ hB)).mono ?_); rintro e w9 ⟨rfl, hb9⟩; have hB := below_trans hB hb9))
    | (go_at_call 10; ((with_reducible refine (V3.out _ (HT.out _ hB)).mono ?_); rintro e w9 ⟨rfl, hb9⟩; have hB := below_trans hB hb9))
    | (go_at_call 10; ((with_reducible refine (U4.out _ (HT.out _ hB)).mono ?_); rintro e w9 ⟨rfl, hb9⟩; have hB := below_trans hB hb9))
    | (go_at_call 10; ((with_reducible refine (V4.out _ (HT.out _ hB)).mono ?_); rintro e w9 ⟨rfl, hb9⟩; have hB := below_trans hB hb9))
    | (go_at_call 17; ((with_reducible refine (T1.out _).mono ?_); rintro e w9 ⟨rfl, hb9⟩; have hB := below_trans hB hb9))
    | (go_at_call 17; ((with_reducible refine (T2.out _).mono ?_); rintro e w9 ⟨rfl, hb9⟩; have hB := below_trans hB hb9))
    | (go_at_call 17; ((with_reducible refine (T3.out _).mono ?_); rintro e w9 ⟨rfl, hb9⟩; have hB := below_trans hB hb9))
    | (go_at_call 17; ((with_reducible refine (T4.out _).mono ?_); rintro e w9 ⟨rfl, hb9⟩; have hB := below_trans hB hb9))
    | (go_at_call 14; ((with_reducible refine (HKn.out _ (HT.out _ hB)).mono ?_); rintro e w5 ⟨rfl, hb⟩; have hB := below_trans hB hb)))
  rw [rounds_succ]
  go_wp2_with (first
    | (go_at_call 10; ((with_reducible refine (O1.out _ (HT.out _ hB)).mono ?_); rintro e w9 ⟨rfl, hb9⟩; have hB := below_trans hB hb9))
    | (go_at_call 10; ((with_reducible refine (O2.out _ (HT.out _ hB)).mono ?_); rintro e w9 ⟨rfl, hb9⟩; have hB := below_trans hB hb9))
    | (go_at_call 10; ((with_reducible refine (O3.out _ (HT.out _ hB)).mono ?_); rintro e w9 ⟨rfl, hb9⟩; have hB := below_trans hB hb9))
    | (go_at_call 10; ((with_reducible refine (O4.out _ (HT.out _ hB)).mono ?_); rintro e w9 ⟨rfl, hb9⟩; have hB := below_trans hB hb9))
    | (go_at_call 10; ((with_reducible refine (O5.out _ (HT.out _ hB)).mono ?_); rintro e w9 ⟨rfl, hb9⟩; have hB := below_trans hB hb9))
    | (go_at_call 10; ((with_reducible refine (O6.out _ (HT.out _ hB)).mono ?_); rintro e w9 ⟨rfl, hb9⟩; have hB := below_trans hB hb9))
    | (go_at_call 10; ((with_reducible refine (U0.out _ (HT.out _ hB)).mono ?_); rintro e w9 ⟨rfl, hb9⟩; have hB := below_trans hB hb9))
    | (go_at_call 10; ((with_reducible refine (V0.out _ (HT.out _ hB)).mono ?_); rintro e w9 ⟨rfl, hb9⟩; have hB := below_trans hB hb9))
    | (go_at_call 10; ((with_reducible refine (U1.out _ (HT.out _ hB)).mono ?_); rintro e w9 ⟨rfl, hb9⟩; have hB := below_trans hB hb9))
    | (go_at_call 10; ((with_reducible refine (V1.out _ (HT.out _ hB)).mono ?_); rintro e w9 ⟨rfl, hb9⟩; have hB := below_trans hB hb9))
    | (go_at_call 10; ((with_reducible refine (U2.out _ (HT.out _ hB)).mono ?_); rintro e w9 ⟨rfl, hb9⟩; have hB := below_trans hB hb9))
    | (go_at_call 10; ((with_reducible refine (V2.out _ (HT.out _ hB)).mono ?_); rintro e w9 ⟨rfl, hb9⟩; have hB := below_trans hB hb9))
    | (go_at_call 10; ((with_reducible refine (U3.out _ (HT.out _ hB)).mono ?_); rintro e w9 ⟨rfl, hb9⟩; have hB := below_trans hB hb9))
    | (go_at_call 10; ((with_reducible refine (V3.out _ (HT.out _ hB)).mono ?_); rintro e w9 ⟨rfl, hb9⟩; have hB := below_trans hB hb9))
    | (go_at_call 10; ((with_reducible refine (U4.out _ (HT.out _ hB)).mono ?_); rintro e w9 ⟨rfl, hb9⟩; have hB := below_trans hB hb9))
    | (go_at_call 10; ((with_reducible refine (V4.out _ (HT.out _ hB)).mono ?_); rintro e w9 ⟨rfl, hb9⟩; have hB := below_trans hB hb9))
    | (go_at_call 17; ((with_reducible refine (T1.out _).mono ?_); rintro e w9 ⟨rfl, hb9⟩; have hB := below_trans hB hb9))
    | (go_at_call 17; ((with_reducible refine (T2.out _).mono ?_); rintro e w9 ⟨rfl, hb9⟩; have hB := below_trans hB hb9))
    | (go_at_call 17; ((with_reducible refine (T3.out _).mono ?_); rintro e w9 ⟨rfl, hb9⟩; have hB := below_trans hB hb9))
    | (go_at_call 17; ((with_reducible refine (T4.out _).mono ?_); rintro e w9 ⟨rfl, hb9⟩; have hB := below_trans hB hb9))
    | (go_at_call 14; ((with_reducible refine (HKn.out _ (HT.out _ hB)).mono ?_); rintro e w5 ⟨rfl, hb⟩; have hB := below_trans hB hb)))
  go_ret
  exact ⟨rfl, hB⟩
end Go.Proofs.YtnhnbcjffnlicaaDoor

/-
  The walk of the statement NumShift.
-/
import Derived.Test.YtnhnbcjffnlicaaDoorNumLw
import Derived.Test.YtnhnbcjffnlicaaDoorNumSh
namespace Go.Proofs.YtnhnbcjffnlicaaDoor
open Go.RowKit Num
set_option linter.unusedVariables false
set_option maxRecDepth 100000 in
set_option maxHeartbeats 20000000 in
theorem NumShift_walk (w : World) (hT : Tab w) (a0 : Int) (wf0 : (Lit.int .u64 a0).wf = true) (a1 : Int) (wf1 : (Lit.int .u64 a1).wf = true) :
    Calls Tryd.prog 8 #[.int .u64 a0, .int .u64 a1] w fun e w' => e = .returned (.bool true) ∧ Below w.heap.size w w' := by
  obtain ⟨p0, p1⟩ := u64_wf wf0
  obtain ⟨q0, q1⟩ := u64_wf wf1
  obtain ⟨a, rfl⟩ := Int.eq_ofNat_of_zero_le p0
  obtain ⟨b, rfl⟩ := Int.eq_ofNat_of_zero_le q0
  have HN : Hid (a < 18446744073709551616 ∧ b < 18446744073709551616) := by rw [Hid]; omega
  have HT := Lib.hid (fun W' (hb : Below w.heap.size w W') => hT.below hb)
  have HKn := Lib.hid known3_any
  clear wf0 wf1 p0 p1 q0 q1 hT
  go_enter Tryd.func8, Tryd.ntmps8
  go_wp2
  go_loopw [5] (fun v wr => ∃ (u : Int), v = .int .i64 u ∧ (u = 32 ∨ u = 64 ∨ u = 96) ∧ Below w.heap.size w wr) (fun v _ => 96 - (intOf v).toNat)
  case atStart => exact ⟨32, rfl, .inl rfl, Below.refl _ _⟩
  case round =>
    obtain ⟨u, rfl, hu, hB⟩ := hrel
    rcases hu with rfl | rfl | rfl
    · obtain ⟨x, hx⟩ : ∃ x, a / 4294967296 = x := ⟨_, rfl⟩
      obtain ⟨y, hy⟩ : ∃ y, b % 4294967296 = y := ⟨_, rfl⟩
      have ra : (a : Int) / 4294967296 = (x : Int) := by omega
      have rb : (b : Int) % 4294967296 = (y : Int) := by omega
      have lx : x < 2 ^ 32 := by have := HN.out; omega
      have ly : y < 2 ^ 32 := by omega
      clear hx hy
      have L := fun (p x y : Nat) (hx : x < 2 ^ 32) (hy : y < 2 ^ 32) => tw_lt p 32 x y (by decide) hx hy
      have h0 : (0 : Nat) < 2 ^ 32 := by decide
      have h1 : (1 : Nat) < 2 ^ 32 := by decide
      obtain ⟨k, hk⟩ : ∃ k, y % 32 = k := ⟨_, rfl⟩
      have rk : (y : Int) % 32 = (k : Int) := by omega
      have lk : k < 2 ^ 32 := Nat.lt_trans (show k < 32 by omega) (by decide)
      obtain ⟨p, hp⟩ : ∃ p, tw 30 32 1 k = p := ⟨_, rfl⟩
      have lp : p < 2 ^ 32 := by rw [← hp]; exact L 30 1 k h1 lk
      have P1z := two_is (p := 30) (op := 116) (r := p) (.inr (by decide)) w32 h1 lk (hp)
      have P1 : Hid (∀ W : World, Calls Tryd.prog 17 #[.int .i64 32, .int .i64 116, .int .u64 1, .int .u64 k] W (Out p W)) := P1z
      clear P1z
      obtain ⟨i, hi⟩ : ∃ i, tw 30 32 x y = i := ⟨_, rfl⟩
      have li : i < 2 ^ 32 := by rw [← hi]; exact L 30 x y lx ly
      have P2 := two_is (p := 30) (op := 116) (r := i) (.inr (by decide)) w32 lx ly (hi)
      have P3 := two_is (p := 22) (op := 108) (r := i) (.inr (by decide)) w32 lx lp (by rw [← hp, ← hi, ← hk]; exact sh_mul (by decide))
      obtain ⟨j, hj⟩ : ∃ j, tw 32 32 x y = j := ⟨_, rfl⟩
      have lj : j < 2 ^ 32 := by rw [← hj]; exact L 32 x y lx ly
      have P4 := two_is (p := 32) (op := 118) (r := j) (.inr (by decide)) w32 lx ly (hj)
      have P5 := two_is (p := 24) (op := 110) (r := j) (.inr (by decide)) w32 lx lp (by rw [← hp, ← hj, ← hk]; exact sh_div (by decide))
      obtain ⟨q, hq⟩ : ∃ q, tw 26 32 x p = q := ⟨_, rfl⟩
      have lq : q < 2 ^ 32 := by rw [← hq]; exact L 26 x p lx lp
      have P6 := two_is (p := 26) (op := 112) (r := q) (.inr (by decide)) w32 lx lp (hq)
      obtain ⟨r, hr⟩ : ∃ r, tw 30 32 j k = r := ⟨_, rfl⟩
      have lr : r < 2 ^ 32 := by rw [← hr]; exact L 30 j k lj lk
      have P7 := two_is (p := 30) (op := 116) (r := r) (.inr (by decide)) w32 lj lk (hr)
      have P8 := two_is (p := 20) (op := 106) (r := x) (.inr (by decide)) w32 lr lq (by rw [← hr, ← hq, ← hp, ← hj, ← hk]; exact sh_back (by decide) lx)
      obtain ⟨g, hg⟩ : ∃ g, tw 21 32 0 1 = g := ⟨_, rfl⟩
      have lg : g < 2 ^ 32 := by rw [← hg]; exact L 21 0 1 h0 h1
      have P9z := two_is (p := 21) (op := 107) (r := g) (.inr (by decide)) w32 h0 h1 (hg)
      have P9 : Hid (∀ W : World, Calls Tryd.prog 17 #[.int .i64 32, .int .i64 107, .int .u64 0, .int .u64 1] W (Out g W)) := P9z
      clear P9z
      obtain ⟨z, hz⟩ : ∃ z, tw 12 32 x 0 = z := ⟨_, rfl⟩
      have lz : z < 2 ^ 32 := by rw [← hz]; exact L 12 x 0 lx h0
      have P10z := two_is (p := 12) (op := 72) (r := z) (.inl (by decide)) w32 lx h0 (hz)
      have P10 : Hid (∀ W : World, Calls Tryd.prog 17 #[.int .i64 32, .int .i64 72, .int .u64 x, .int .u64 0] W (Out z W)) := P10z
      clear P10z
      obtain ⟨s, hs⟩ : ∃ s, tw 31 32 x y = s := ⟨_, rfl⟩
      have ls : s < 2 ^ 32 := by rw [← hs]; exact L 31 x y lx ly
      have P11 := two_is (p := 31) (op := 117) (r := s) (.inr (by decide)) w32 lx ly (hs)
      obtain ⟨u, hu⟩ : ∃ u, tw 29 32 x g = u := ⟨_, rfl⟩
      have lu : u < 2 ^ 32 := by rw [← hu]; exact L 29 x g lx lg
      have P12 := two_is (p := 29) (op := 115) (r := u) (.inr (by decide)) w32 lx lg (hu)
      obtain ⟨t, ht⟩ : ∃ t, tw 32 32 u y = t := ⟨_, rfl⟩
      have lt : t < 2 ^ 32 := by rw [← ht]; exact L 32 u y lu ly
      have P13 := two_is (p := 32) (op := 118) (r := t) (.inr (by decide)) w32 lu ly (ht)
      have hzz := lt_zero (w := 32) (by decide) lx
      rw [hz] at hzz
      by_cases hc : 2 ^ (32 - 1) ≤ x
      · rw [if_pos hc] at hzz
        have t1 : ((z : Int) == 1) = true := by simp; omega
        have t2 : ((z : Int) == 0) = false := by simp; omega
        have P14 := two_is (p := 29) (op := 115) (r := s) (.inr (by decide)) w32 lt lg (by rw [← ht, ← hu, ← hg, ← hs]; exact sh_neg (by decide) lx hc)
        clear L h0 h1 hp lp hi li hj lj hq lq hr lr hg lg hz lz hs ls hu lu ht lt hk lk lx ly hzz hc
        go_wp2_with (first
          | (go_at_call 17; ((with_reducible refine (P1.out _).mono ?_); rintro e w9 ⟨rfl, hb9⟩; have hB := below_trans hB hb9))
          | (go_at_call 17; ((with_reducible refine (P2.out _).mono ?_); rintro e w9 ⟨rfl, hb9⟩; have hB := below_trans hB hb9))
          | (go_at_call 17; ((with_reducible refine (P3.out _).mono ?_); rintro e w9 ⟨rfl, hb9⟩; have hB := below_trans hB hb9))
          | (go_at_call 17; ((with_reducible refine (P4.out _).mono ?_); rintro e w9 ⟨rfl, hb9⟩; have hB := below_trans hB hb9))
          | (go_at_call 17; ((with_reducible refine (P5.out _).mono ?_); rintro e w9 ⟨rfl, hb9⟩; have hB := below_trans hB hb9))
          | (go_at_call 17; ((with_reducible refine (P6.out _).mono ?_); rintro e w9 ⟨rfl, hb9⟩; have hB := below_trans hB hb9))
          | (go_at_call 17; ((with_reducible refine (P7.out _).mono ?_); rintro e w9 ⟨rfl, hb9⟩; have hB := below_trans hB hb9))
          | (go_at_call 17; ((with_reducible refine (P8.out _).mono ?_); rintro e w9 ⟨rfl, hb9⟩; have hB := below_trans hB hb9))
          | (go_at_call 17; ((with_reducible refine (P9.out _).mono ?_); rintro e w9 ⟨rfl, hb9⟩; have hB := below_trans hB hb9))
          | (go_at_call 17; ((with_reducible refine (P10.out _).mono ?_); rintro e w9 ⟨rfl, hb9⟩; have hB := below_trans hB hb9))
          | (go_at_call 17; ((with_reducible refine (P11.out _).mono ?_); rintro e w9 ⟨rfl, hb9⟩; have hB := below_trans hB hb9))
          | (go_at_call 17; ((with_reducible refine (P12.out _).mono ?_); rintro e w9 ⟨rfl, hb9⟩; have hB := below_trans hB hb9))
          | (go_at_call 17; ((with_reducible refine (P13.out _).mono ?_); rintro e w9 ⟨rfl, hb9⟩; have hB := below_trans hB hb9))
          | (go_at_call 17; ((with_reducible refine (P14.out _).mono ?_); rintro e w9 ⟨rfl, hb9⟩; have hB := below_trans hB hb9)))
        go_roundw
        case rel => exact ⟨64, rfl, by decide, hB⟩
        case measure => simp [intOf]
      · rw [if_neg hc] at hzz
        have t1 : ((z : Int) == 1) = false := by simp; omega
        have t2 : ((z : Int) == 0) = true := by simp; omega
        clear hzz
        have hsj : s = j := by rw [← hs, ← hj]; exact sh_pos lx hc
        subst hsj
        clear L h0 h1 hp lp hi li  hq lq hr lr hg lg hz lz hs ls hu lu ht lt hk lk lx ly hc
        go_wp2_with (first
          | (go_at_call 17; ((with_reducible refine (P1.out _).mono ?_); rintro e w9 ⟨rfl, hb9⟩; have hB := below_trans hB hb9))
          | (go_at_call 17; ((with_reducible refine (P2.out _).mono ?_); rintro e w9 ⟨rfl, hb9⟩; have hB := below_trans hB hb9))
          | (go_at_call 17; ((with_reducible refine (P3.out _).mono ?_); rintro e w9 ⟨rfl, hb9⟩; have hB := below_trans hB hb9))
          | (go_at_call 17; ((with_reducible refine (P4.out _).mono ?_); rintro e w9 ⟨rfl, hb9⟩; have hB := below_trans hB hb9))
          | (go_at_call 17; ((with_reducible refine (P5.out _).mono ?_); rintro e w9 ⟨rfl, hb9⟩; have hB := below_trans hB hb9))
          | (go_at_call 17; ((with_reducible refine (P6.out _).mono ?_); rintro e w9 ⟨rfl, hb9⟩; have hB := below_trans hB hb9))
          | (go_at_call 17; ((with_reducible refine (P7.out _).mono ?_); rintro e w9 ⟨rfl, hb9⟩; have hB := below_trans hB hb9))
          | (go_at_call 17; ((with_reducible refine (P8.out _).mono ?_); rintro e w9 ⟨rfl, hb9⟩; have hB := below_trans hB hb9))
          | (go_at_call 17; ((with_reducible refine (P9.out _).mono ?_); rintro e w9 ⟨rfl, hb9⟩; have hB := below_trans hB hb9))
          | (go_at_call 17; ((with_reducible refine (P10.out _).mono ?_); rintro e w9 ⟨rfl, hb9⟩; have hB := below_trans hB hb9))
          | (go_at_call 17; ((with_reducible refine (P11.out _).mono ?_); rintro e w9 ⟨rfl, hb9⟩; have hB := below_trans hB hb9))
          | (go_at_call 17; ((with_reducible refine (P12.out _).mono ?_); rintro e w9 ⟨rfl, hb9⟩; have hB := below_trans hB hb9))
          | (go_at_call 17; ((with_reducible refine (P13.out _).mono ?_); rintro e w9 ⟨rfl, hb9⟩; have hB := below_trans hB hb9)))
        go_roundw
        case rel => exact ⟨64, rfl, by decide, hB⟩
        case measure => simp [intOf]
    · have la : a < 2 ^ 64 := HN.out.1
      have lb : b < 2 ^ 64 := HN.out.2
      have L := fun (p x y : Nat) (hx : x < 2 ^ 64) (hy : y < 2 ^ 64) => tw_lt p 64 x y (by decide) hx hy
      have h0 : (0 : Nat) < 2 ^ 64 := by decide
      have h1 : (1 : Nat) < 2 ^ 64 := by decide
      obtain ⟨k, hk⟩ : ∃ k, b % 64 = k := ⟨_, rfl⟩
      have rk : (b : Int) % 64 = (k : Int) := by omega
      have lk : k < 2 ^ 64 := Nat.lt_trans (show k < 64 by omega) (by decide)
      obtain ⟨p, hp⟩ : ∃ p, tw 30 64 1 k = p := ⟨_, rfl⟩
      have lp : p < 2 ^ 64 := by rw [← hp]; exact L 30 1 k h1 lk
      have P1z := two_is (p := 30) (op := 116) (r := p) (.inr (by decide)) w64 h1 lk (hp)
      have P1 : Hid (∀ W : World, Calls Tryd.prog 17 #[.int .i64 64, .int .i64 116, .int .u64 1, .int .u64 k] W (Out p W)) := P1z
      clear P1z
      obtain ⟨i, hi⟩ : ∃ i, tw 30 64 a b = i := ⟨_, rfl⟩
      have li : i < 2 ^ 64 := by rw [← hi]; exact L 30 a b la lb
      have P2 := two_is (p := 30) (op := 116) (r := i) (.inr (by decide)) w64 la lb (hi)
      have P3 := two_is (p := 22) (op := 108) (r := i) (.inr (by decide)) w64 la lp (by rw [← hp, ← hi, ← hk]; exact sh_mul (by decide))
      obtain ⟨j, hj⟩ : ∃ j, tw 32 64 a b = j := ⟨_, rfl⟩
      have lj : j < 2 ^ 64 := by rw [← hj]; exact L 32 a b la lb
      have P4 := two_is (p := 32) (op := 118) (r := j) (.inr (by decide)) w64 la lb (hj)
      have P5 := two_is (p := 24) (op := 110) (r := j) (.inr (by decide)) w64 la lp (by rw [← hp, ← hj, ← hk]; exact sh_div (by decide))
      obtain ⟨q, hq⟩ : ∃ q, tw 26 64 a p = q := ⟨_, rfl⟩
      have lq : q < 2 ^ 64 := by rw [← hq]; exact L 26 a p la lp
      have P6 := two_is (p := 26) (op := 112) (r := q) (.inr (by decide)) w64 la lp (hq)
      obtain ⟨r, hr⟩ : ∃ r, tw 30 64 j k = r := ⟨_, rfl⟩
      have lr : r < 2 ^ 64 := by rw [← hr]; exact L 30 j k lj lk
      have P7 := two_is (p := 30) (op := 116) (r := r) (.inr (by decide)) w64 lj lk (hr)
      have P8 := two_is (p := 20) (op := 106) (r := a) (.inr (by decide)) w64 lr lq (by rw [← hr, ← hq, ← hp, ← hj, ← hk]; exact sh_back (by decide) la)
      obtain ⟨g, hg⟩ : ∃ g, tw 21 64 0 1 = g := ⟨_, rfl⟩
      have lg : g < 2 ^ 64 := by rw [← hg]; exact L 21 0 1 h0 h1
      have P9z := two_is (p := 21) (op := 107) (r := g) (.inr (by decide)) w64 h0 h1 (hg)
      have P9 : Hid (∀ W : World, Calls Tryd.prog 17 #[.int .i64 64, .int .i64 107, .int .u64 0, .int .u64 1] W (Out g W)) := P9z
      clear P9z
      obtain ⟨z, hz⟩ : ∃ z, tw 12 64 a 0 = z := ⟨_, rfl⟩
      have lz : z < 2 ^ 64 := by rw [← hz]; exact L 12 a 0 la h0
      have P10z := two_is (p := 12) (op := 72) (r := z) (.inl (by decide)) w64 la h0 (hz)
      have P10 : Hid (∀ W : World, Calls Tryd.prog 17 #[.int .i64 64, .int .i64 72, .int .u64 a, .int .u64 0] W (Out z W)) := P10z
      clear P10z
      obtain ⟨s, hs⟩ : ∃ s, tw 31 64 a b = s := ⟨_, rfl⟩
      have ls : s < 2 ^ 64 := by rw [← hs]; exact L 31 a b la lb
      have P11 := two_is (p := 31) (op := 117) (r := s) (.inr (by decide)) w64 la lb (hs)
      obtain ⟨u, hu⟩ : ∃ u, tw 29 64 a g = u := ⟨_, rfl⟩
      have lu : u < 2 ^ 64 := by rw [← hu]; exact L 29 a g la lg
      have P12 := two_is (p := 29) (op := 115) (r := u) (.inr (by decide)) w64 la lg (hu)
      obtain ⟨t, ht⟩ : ∃ t, tw 32 64 u b = t := ⟨_, rfl⟩
      have lt : t < 2 ^ 64 := by rw [← ht]; exact L 32 u b lu lb
      have P13 := two_is (p := 32) (op := 118) (r := t) (.inr (by decide)) w64 lu lb (ht)
      have hzz := lt_zero (w := 64) (by decide) la
      rw [hz] at hzz
      by_cases hc : 2 ^ (64 - 1) ≤ a
      · rw [if_pos hc] at hzz
        have t1 : ((z : Int) == 1) = true := by simp; omega
        have t2 : ((z : Int) == 0) = false := by simp; omega
        have P14 := two_is (p := 29) (op := 115) (r := s) (.inr (by decide)) w64 lt lg (by rw [← ht, ← hu, ← hg, ← hs]; exact sh_neg (by decide) la hc)
        clear L h0 h1 hp lp hi li hj lj hq lq hr lr hg lg hz lz hs ls hu lu ht lt hk lk la lb hzz hc
        go_wp2_with (first
          | (go_at_call 17; ((with_reducible refine (P1.out _).mono ?_); rintro e w9 ⟨rfl, hb9⟩; have hB := below_trans hB hb9))
          | (go_at_call 17; ((with_reducible refine (P2.out _).mono ?_); rintro e w9 ⟨rfl, hb9⟩; have hB := below_trans hB hb9))
          | (go_at_call 17; ((with_reducible refine (P3.out _).mono ?_); rintro e w9 ⟨rfl, hb9⟩; have hB := below_trans hB hb9))
          | (go_at_call 17; ((with_reducible refine (P4.out _).mono ?_); rintro e w9 ⟨rfl, hb9⟩; have hB := below_trans hB hb9))
          | (go_at_call 17; ((with_reducible refine (P5.out _).mono ?_); rintro e w9 ⟨rfl, hb9⟩; have hB := below_trans hB hb9))
          | (go_at_call 17; ((with_reducible refine (P6.out _).mono ?_); rintro e w9 ⟨rfl, hb9⟩; have hB := below_trans hB hb9))
          | (go_at_call 17; ((with_reducible refine (P7.out _).mono ?_); rintro e w9 ⟨rfl, hb9⟩; have hB := below_trans hB hb9))
          | (go_at_call 17; ((with_reducible refine (P8.out _).mono ?_); rintro e w9 ⟨rfl, hb9⟩; have hB := below_trans hB hb9))
          | (go_at_call 17; ((with_reducible refine (P9.out _).mono ?_); rintro e w9 ⟨rfl, hb9⟩; have hB := below_trans hB hb9))
          | (go_at_call 17; ((with_reducible refine (P10.out _).mono ?_); rintro e w9 ⟨rfl, hb9⟩; have hB := below_trans hB hb9))
          | (go_at_call 17; ((with_reducible refine (P11.out _).mono ?_); rintro e w9 ⟨rfl, hb9⟩; have hB := below_trans hB hb9))
          | (go_at_call 17; ((with_reducible refine (P12.out _).mono ?_); rintro e w9 ⟨rfl, hb9⟩; have hB := below_trans hB hb9))
          | (go_at_call 17; ((with_reducible refine (P13.out _).mono ?_); rintro e w9 ⟨rfl, hb9⟩; have hB := below_trans hB hb9))
          | (go_at_call 17; ((with_reducible refine (P14.out _).mono ?_); rintro e w9 ⟨rfl, hb9⟩; have hB := below_trans hB hb9)))
        go_roundw
        case rel => exact ⟨96, rfl, by decide, hB⟩
        case measure => simp [intOf]
      · rw [if_neg hc] at hzz
        have t1 : ((z : Int) == 1) = false := by simp; omega
        have t2 : ((z : Int) == 0) = true := by simp; omega
        clear hzz
        have hsj : s = j := by rw [← hs, ← hj]; exact sh_pos la hc
        subst hsj
        clear L h0 h1 hp lp hi li  hq lq hr lr hg lg hz lz hs ls hu lu ht lt hk lk la lb hc
        go_wp2_with (first
          | (go_at_call 17; ((with_reducible refine (P1.out _).mono ?_); rintro e w9 ⟨rfl, hb9⟩; have hB := below_trans hB hb9))
          | (go_at_call 17; ((with_reducible refine (P2.out _).mono ?_); rintro e w9 ⟨rfl, hb9⟩; have hB := below_trans hB hb9))
          | (go_at_call 17; ((with_reducible refine (P3.out _).mono ?_); rintro e w9 ⟨rfl, hb9⟩; have hB := below_trans hB hb9))
          | (go_at_call 17; ((with_reducible refine (P4.out _).mono ?_); rintro e w9 ⟨rfl, hb9⟩; have hB := below_trans hB hb9))
          | (go_at_call 17; ((with_reducible refine (P5.out _).mono ?_); rintro e w9 ⟨rfl, hb9⟩; have hB := below_trans hB hb9))
          | (go_at_call 17; ((with_reducible refine (P6.out _).mono ?_); rintro e w9 ⟨rfl, hb9⟩; have hB := below_trans hB hb9))
          | (go_at_call 17; ((with_reducible refine (P7.out _).mono ?_); rintro e w9 ⟨rfl, hb9⟩; have hB := below_trans hB hb9))
          | (go_at_call 17; ((with_reducible refine (P8.out _).mono ?_); rintro e w9 ⟨rfl, hb9⟩; have hB := below_trans hB hb9))
          | (go_at_call 17; ((with_reducible refine (P9.out _).mono ?_); rintro e w9 ⟨rfl, hb9⟩; have hB := below_trans hB hb9))
          | (go_at_call 17; ((with_reducible refine (P10.out _).mono ?_); rintro e w9 ⟨rfl, hb9⟩; have hB := below_trans hB hb9))
          | (go_at_call 17; ((with_reducible refine (P11.out _).mono ?_); rintro e w9 ⟨rfl, hb9⟩; have hB := below_trans hB hb9))
          | (go_at_call 17; ((with_reducible refine (P12.out _).mono ?_); rintro e w9 ⟨rfl, hb9⟩; have hB := below_trans hB hb9))
          | (go_at_call 17; ((with_reducible refine (P13.out _).mono ?_); rintro e w9 ⟨rfl, hb9⟩; have hB := below_trans hB hb9)))
        go_roundw
        case rel => exact ⟨96, rfl, by decide, hB⟩
        case measure => simp [intOf]
    · go_wp2_with (go_at_call 14; ((with_reducible refine (HKn.out _ (HT.out _ hB)).mono ?_); rintro e w5 ⟨rfl, hb⟩; have hB := below_trans hB hb))
      go_ret
      exact ⟨rfl, hB⟩
end Go.Proofs.YtnhnbcjffnlicaaDoor

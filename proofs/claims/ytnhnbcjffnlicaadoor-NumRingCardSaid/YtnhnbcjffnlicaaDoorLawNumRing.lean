/-
  The walk of the statement NumRing.
-/
import Derived.Test.YtnhnbcjffnlicaaDoorNumLw
namespace Go.Proofs.YtnhnbcjffnlicaaDoor
open Go.RowKit Num
set_option linter.unusedVariables false
theorem mix (a b : Nat) (ha : a < 18446744073709551616) (hb : b < 18446744073709551616) : ∃ n : Nat, bits .or .u64 (IntKind.u64.wrap ((a : Int) * 4294967296)) (b : Int) = (n : Int) ∧ n < 18446744073709551616 := by
  have e : IntKind.u64.wrap ((a : Int) * 4294967296) = ((a * 4294967296 % 18446744073709551616 : Nat) : Int) := by rw [IntKind.wrap_u64]; omega
  rw [e]
  exact ⟨_, u64_or_nat _ _ (Nat.mod_lt _ (by decide)) hb, Nat.or_lt_two_pow (n := 64) (Nat.mod_lt _ (by decide)) hb⟩
set_option maxRecDepth 100000 in
set_option maxHeartbeats 20000000 in
theorem NumRing_walk (w : World) (hT : Tab w) (a0 : Int) (wf0 : (Lit.int .u64 a0).wf = true) (a1 : Int) (wf1 : (Lit.int .u64 a1).wf = true) (a2 : Int) (wf2 : (Lit.int .u64 a2).wf = true) :
    Calls Tryd.prog 5 #[.int .u64 a0, .int .u64 a1, .int .u64 a2] w fun e w' => e = .returned (.bool true) ∧ Below w.heap.size w w' := by
  obtain ⟨p0, p1⟩ := u64_wf wf0
  obtain ⟨q0, q1⟩ := u64_wf wf1
  obtain ⟨s0, s1⟩ := u64_wf wf2
  obtain ⟨a, rfl⟩ := Int.eq_ofNat_of_zero_le p0
  obtain ⟨b, rfl⟩ := Int.eq_ofNat_of_zero_le q0
  obtain ⟨c, rfl⟩ := Int.eq_ofNat_of_zero_le s0
  have HN : Hid (a < 18446744073709551616 ∧ b < 18446744073709551616 ∧ c < 18446744073709551616) := by rw [Hid]; omega
  have HT := Lib.hid (fun W' (hb : Below w.heap.size w W') => hT.below hb)
  have HKn := Lib.hid known3_any
  clear wf0 wf1 wf2 p0 p1 q0 q1 s0 s1 hT
  go_enter Tryd.func5, Tryd.ntmps5
  go_wp2
  go_loopw [0, 1, 2, 7] (fun x y z v wr => ∃ (a b c : Nat) (u : Int), x = .int .u64 a ∧ y = .int .u64 b ∧ z = .int .u64 c ∧ v = .int .i64 u ∧ Hid (a < 18446744073709551616 ∧ b < 18446744073709551616 ∧ c < 18446744073709551616) ∧ (u = 32 ∨ u = 64 ∨ u = 96) ∧ Below w.heap.size w wr) (fun _ _ _ v _ => 96 - (intOf v).toNat)
  case atStart => exact ⟨a, b, c, 32, rfl, rfl, rfl, rfl, HN, .inl rfl, Below.refl _ _⟩
  case round =>
    clear HN
    obtain ⟨a, b, c, u, rfl, rfl, rfl, rfl, HN, hu, hB⟩ := hrel
    rcases hu with rfl | rfl | rfl
    · obtain ⟨a', ha1⟩ : ∃ a', a / 4294967296 = a' := ⟨_, rfl⟩
      obtain ⟨b', hb1⟩ : ∃ b', b / 4294967296 = b' := ⟨_, rfl⟩
      obtain ⟨c', hc1⟩ : ∃ c', c / 4294967296 = c' := ⟨_, rfl⟩
      have ra : (a : Int) / 4294967296 = (a' : Int) := by omega
      have rb : (b : Int) / 4294967296 = (b' : Int) := by omega
      have rc : (c : Int) / 4294967296 = (c' : Int) := by omega
      have la : a' < 2 ^ 32 := by have := HN.out; omega
      have lb : b' < 2 ^ 32 := by have := HN.out; omega
      have lc : c' < 2 ^ 32 := by have := HN.out; omega
      clear ha1 hb1 hc1
      have L := fun (p x y : Nat) (hx : x < 2 ^ 32) (hy : y < 2 ^ 32) => tw_lt p 32 x y (by decide) hx hy
      have h0 : (0 : Nat) < 2 ^ 32 := by decide
      obtain ⟨s, hs⟩ : ∃ s, tw 20 32 a' b' = s := ⟨_, rfl⟩
      have ls : s < 2 ^ 32 := by rw [← hs]; exact L 20 a' b' la lb
      obtain ⟨m, hm⟩ : ∃ m, tw 22 32 a' b' = m := ⟨_, rfl⟩
      have lm : m < 2 ^ 32 := by rw [← hm]; exact L 22 a' b' la lb
      obtain ⟨d, hd⟩ : ∃ d, tw 20 32 b' c' = d := ⟨_, rfl⟩
      have ld : d < 2 ^ 32 := by rw [← hd]; exact L 20 b' c' lb lc
      obtain ⟨x, hx⟩ : ∃ x, tw 22 32 a' d = x := ⟨_, rfl⟩
      have lx : x < 2 ^ 32 := by rw [← hx]; exact L 22 a' d la ld
      obtain ⟨e, he⟩ : ∃ e, tw 22 32 a' c' = e := ⟨_, rfl⟩
      have le : e < 2 ^ 32 := by rw [← he]; exact L 22 a' c' la lc
      obtain ⟨y, hy⟩ : ∃ y, tw 22 32 m c' = y := ⟨_, rfl⟩
      have ly : y < 2 ^ 32 := by rw [← hy]; exact L 22 m c' lm lc
      obtain ⟨n, hn⟩ : ∃ n, tw 22 32 b' c' = n := ⟨_, rfl⟩
      have ln : n < 2 ^ 32 := by rw [← hn]; exact L 22 b' c' lb lc
      obtain ⟨z, hz⟩ : ∃ z, tw 21 32 0 b' = z := ⟨_, rfl⟩
      have lz : z < 2 ^ 32 := by rw [← hz]; exact L 21 0 b' h0 lb
      have C1 := two_is (p := 20) (op := 106) (r := s) (.inr (by decide)) w32 la lb (hs)
      have C2 := two_is (p := 21) (op := 107) (r := a') (.inr (by decide)) w32 ls lb (by rw [← hs]; exact ring_sub la lb)
      have C3 := two_is (p := 20) (op := 106) (r := s) (.inr (by decide)) w32 lb la (by rw [← hs]; exact ring_add)
      have C4 := two_is (p := 22) (op := 108) (r := m) (.inr (by decide)) w32 la lb (hm)
      have C5 := two_is (p := 22) (op := 108) (r := m) (.inr (by decide)) w32 lb la (by rw [← hm]; exact ring_mul)
      have C6 := two_is (p := 20) (op := 106) (r := d) (.inr (by decide)) w32 lb lc (hd)
      have C7 := two_is (p := 22) (op := 108) (r := x) (.inr (by decide)) w32 la ld (hx)
      have C8 := two_is (p := 22) (op := 108) (r := e) (.inr (by decide)) w32 la lc (he)
      have C9 := two_is (p := 20) (op := 106) (r := x) (.inr (by decide)) w32 lm le (by rw [← hx, ← hd, ← hm, ← he]; exact ring_dist.symm)
      have C10 := two_is (p := 22) (op := 108) (r := y) (.inr (by decide)) w32 lm lc (hy)
      have C11 := two_is (p := 22) (op := 108) (r := n) (.inr (by decide)) w32 lb lc (hn)
      have C12 := two_is (p := 22) (op := 108) (r := y) (.inr (by decide)) w32 la ln (by rw [← hy, ← hm, ← hn]; exact ring_assoc.symm)
      have C13z := two_is (p := 21) (op := 107) (r := z) (.inr (by decide)) w32 h0 lb (hz)
      have C13 : Hid (∀ W : World, Calls Tryd.prog 17 #[.int .i64 32, .int .i64 107, .int .u64 0, .int .u64 b'] W (Out z W)) := C13z
      clear C13z
      have K := Lib.hid (And.intro la (And.intro lb lc))
      by_cases hb0 : b' = 0
      · have t0 : ((b' : Int) != 0) = false := by simp [hb0]
        clear L h0 hs ls hm lm hd ld hx lx he le hy ly hn ln hz lz la lb lc hb0
        go_wp2_with (first
          | (go_at_call 17; ((with_reducible refine (C1.out _).mono ?_); rintro e w9 ⟨rfl, hb9⟩; have hB := below_trans hB hb9))
          | (go_at_call 17; ((with_reducible refine (C2.out _).mono ?_); rintro e w9 ⟨rfl, hb9⟩; have hB := below_trans hB hb9))
          | (go_at_call 17; ((with_reducible refine (C3.out _).mono ?_); rintro e w9 ⟨rfl, hb9⟩; have hB := below_trans hB hb9))
          | (go_at_call 17; ((with_reducible refine (C4.out _).mono ?_); rintro e w9 ⟨rfl, hb9⟩; have hB := below_trans hB hb9))
          | (go_at_call 17; ((with_reducible refine (C5.out _).mono ?_); rintro e w9 ⟨rfl, hb9⟩; have hB := below_trans hB hb9))
          | (go_at_call 17; ((with_reducible refine (C6.out _).mono ?_); rintro e w9 ⟨rfl, hb9⟩; have hB := below_trans hB hb9))
          | (go_at_call 17; ((with_reducible refine (C7.out _).mono ?_); rintro e w9 ⟨rfl, hb9⟩; have hB := below_trans hB hb9))
          | (go_at_call 17; ((with_reducible refine (C8.out _).mono ?_); rintro e w9 ⟨rfl, hb9⟩; have hB := below_trans hB hb9))
          | (go_at_call 17; ((with_reducible refine (C9.out _).mono ?_); rintro e w9 ⟨rfl, hb9⟩; have hB := below_trans hB hb9))
          | (go_at_call 17; ((with_reducible refine (C10.out _).mono ?_); rintro e w9 ⟨rfl, hb9⟩; have hB := below_trans hB hb9))
          | (go_at_call 17; ((with_reducible refine (C11.out _).mono ?_); rintro e w9 ⟨rfl, hb9⟩; have hB := below_trans hB hb9))
          | (go_at_call 17; ((with_reducible refine (C12.out _).mono ?_); rintro e w9 ⟨rfl, hb9⟩; have hB := below_trans hB hb9))
          | (go_at_call 17; ((with_reducible refine (C13.out _).mono ?_); rintro e w9 ⟨rfl, hb9⟩; have hB := below_trans hB hb9)))
        refine wp_loop_rounds 1 ?_
        rw [rounds_succ]
        go_wp2_with (first
          | (go_at_call 17; ((with_reducible refine (C1.out _).mono ?_); rintro e w9 ⟨rfl, hb9⟩; have hB := below_trans hB hb9))
          | (go_at_call 17; ((with_reducible refine (C2.out _).mono ?_); rintro e w9 ⟨rfl, hb9⟩; have hB := below_trans hB hb9))
          | (go_at_call 17; ((with_reducible refine (C3.out _).mono ?_); rintro e w9 ⟨rfl, hb9⟩; have hB := below_trans hB hb9))
          | (go_at_call 17; ((with_reducible refine (C4.out _).mono ?_); rintro e w9 ⟨rfl, hb9⟩; have hB := below_trans hB hb9))
          | (go_at_call 17; ((with_reducible refine (C5.out _).mono ?_); rintro e w9 ⟨rfl, hb9⟩; have hB := below_trans hB hb9))
          | (go_at_call 17; ((with_reducible refine (C6.out _).mono ?_); rintro e w9 ⟨rfl, hb9⟩; have hB := below_trans hB hb9))
          | (go_at_call 17; ((with_reducible refine (C7.out _).mono ?_); rintro e w9 ⟨rfl, hb9⟩; have hB := below_trans hB hb9))
          | (go_at_call 17; ((with_reducible refine (C8.out _).mono ?_); rintro e w9 ⟨rfl, hb9⟩; have hB := below_trans hB hb9))
          | (go_at_call 17; ((with_reducible refine (C9.out _).mono ?_); rintro e w9 ⟨rfl, hb9⟩; have hB := below_trans hB hb9))
          | (go_at_call 17; ((with_reducible refine (C10.out _).mono ?_); rintro e w9 ⟨rfl, hb9⟩; have hB := below_trans hB hb9))
          | (go_at_call 17; ((with_reducible refine (C11.out _).mono ?_); rintro e w9 ⟨rfl, hb9⟩; have hB := below_trans hB hb9))
          | (go_at_call 17; ((with_reducible refine (C12.out _).mono ?_); rintro e w9 ⟨rfl, hb9⟩; have hB := below_trans hB hb9))
          | (go_at_call 17; ((with_reducible refine (C13.out _).mono ?_); rintro e w9 ⟨rfl, hb9⟩; have hB := below_trans hB hb9)))
        obtain ⟨m1, k1, j1⟩ := mix a' a' (lt_64 (w := 32) (by decide) K.out.1) (lt_64 (w := 32) (by decide) K.out.1)
        obtain ⟨m2, k2, j2⟩ := mix b' c' (lt_64 (w := 32) (by decide) K.out.2.1) (lt_64 (w := 32) (by decide) K.out.2.2)
        obtain ⟨m3, k3, j3⟩ := mix c' b' (lt_64 (w := 32) (by decide) K.out.2.2) (lt_64 (w := 32) (by decide) K.out.2.1)
        have J : Hid (m1 < 18446744073709551616 ∧ m2 < 18446744073709551616 ∧ m3 < 18446744073709551616) := ⟨j1, j2, j3⟩
        clear j1 j2 j3
        go_wp2
        go_roundw
        case rel => exact ⟨m1, m2, m3, 64, by first | rfl | rw [k1], by first | rfl | rw [k2], by first | rfl | rw [k3], rfl, J, by decide, hB⟩
        case measure => simp [intOf]
      · have t0 : ((b' : Int) != 0) = true := by simp; exact hb0
        obtain ⟨f, hf⟩ : ∃ f, tw 24 32 a' b' = f := ⟨_, rfl⟩
        have lf : f < 2 ^ 32 := by rw [← hf]; exact L 24 a' b' la lb
        obtain ⟨g, hg⟩ : ∃ g, tw 26 32 a' b' = g := ⟨_, rfl⟩
        have lg : g < 2 ^ 32 := by rw [← hg]; exact L 26 a' b' la lb
        obtain ⟨t, ht⟩ : ∃ t, tw 22 32 f b' = t := ⟨_, rfl⟩
        have lt : t < 2 ^ 32 := by rw [← ht]; exact L 22 f b' lf lb
        have D1 := two_is (p := 24) (op := 110) (r := f) (.inr (by decide)) w32 la lb (hf)
        have D2 := two_is (p := 26) (op := 112) (r := g) (.inr (by decide)) w32 la lb (hg)
        have D3 := two_is (p := 22) (op := 108) (r := t) (.inr (by decide)) w32 lf lb (ht)
        have D4 := two_is (p := 20) (op := 106) (r := a') (.inr (by decide)) w32 lt lg (by rw [← ht, ← hf, ← hg]; exact ring_divu la hb0)
        by_cases hz1 : z = 1
        · have t1 : ((z : Int) == 1) = true := by simp [hz1]
          clear L h0 hs ls hm lm hd ld hx lx he le hy ly hn ln hz lz la lb lc hf hg ht lf lg lt hb0 hz1
          go_wp2_with (first
            | (go_at_call 17; ((with_reducible refine (C1.out _).mono ?_); rintro e w9 ⟨rfl, hb9⟩; have hB := below_trans hB hb9))
            | (go_at_call 17; ((with_reducible refine (C2.out _).mono ?_); rintro e w9 ⟨rfl, hb9⟩; have hB := below_trans hB hb9))
            | (go_at_call 17; ((with_reducible refine (C3.out _).mono ?_); rintro e w9 ⟨rfl, hb9⟩; have hB := below_trans hB hb9))
            | (go_at_call 17; ((with_reducible refine (C4.out _).mono ?_); rintro e w9 ⟨rfl, hb9⟩; have hB := below_trans hB hb9))
            | (go_at_call 17; ((with_reducible refine (C5.out _).mono ?_); rintro e w9 ⟨rfl, hb9⟩; have hB := below_trans hB hb9))
            | (go_at_call 17; ((with_reducible refine (C6.out _).mono ?_); rintro e w9 ⟨rfl, hb9⟩; have hB := below_trans hB hb9))
            | (go_at_call 17; ((with_reducible refine (C7.out _).mono ?_); rintro e w9 ⟨rfl, hb9⟩; have hB := below_trans hB hb9))
            | (go_at_call 17; ((with_reducible refine (C8.out _).mono ?_); rintro e w9 ⟨rfl, hb9⟩; have hB := below_trans hB hb9))
            | (go_at_call 17; ((with_reducible refine (C9.out _).mono ?_); rintro e w9 ⟨rfl, hb9⟩; have hB := below_trans hB hb9))
            | (go_at_call 17; ((with_reducible refine (C10.out _).mono ?_); rintro e w9 ⟨rfl, hb9⟩; have hB := below_trans hB hb9))
            | (go_at_call 17; ((with_reducible refine (C11.out _).mono ?_); rintro e w9 ⟨rfl, hb9⟩; have hB := below_trans hB hb9))
            | (go_at_call 17; ((with_reducible refine (C12.out _).mono ?_); rintro e w9 ⟨rfl, hb9⟩; have hB := below_trans hB hb9))
            | (go_at_call 17; ((with_reducible refine (C13.out _).mono ?_); rintro e w9 ⟨rfl, hb9⟩; have hB := below_trans hB hb9))
            | (go_at_call 17; ((with_reducible refine (D1.out _).mono ?_); rintro e w9 ⟨rfl, hb9⟩; have hB := below_trans hB hb9))
            | (go_at_call 17; ((with_reducible refine (D2.out _).mono ?_); rintro e w9 ⟨rfl, hb9⟩; have hB := below_trans hB hb9))
            | (go_at_call 17; ((with_reducible refine (D3.out _).mono ?_); rintro e w9 ⟨rfl, hb9⟩; have hB := below_trans hB hb9))
            | (go_at_call 17; ((with_reducible refine (D4.out _).mono ?_); rintro e w9 ⟨rfl, hb9⟩; have hB := below_trans hB hb9)))
          refine wp_loop_rounds 3 ?_
          rw [rounds_succ]
          go_wp2_with (first
            | (go_at_call 17; ((with_reducible refine (C1.out _).mono ?_); rintro e w9 ⟨rfl, hb9⟩; have hB := below_trans hB hb9))
            | (go_at_call 17; ((with_reducible refine (C2.out _).mono ?_); rintro e w9 ⟨rfl, hb9⟩; have hB := below_trans hB hb9))
            | (go_at_call 17; ((with_reducible refine (C3.out _).mono ?_); rintro e w9 ⟨rfl, hb9⟩; have hB := below_trans hB hb9))
            | (go_at_call 17; ((with_reducible refine (C4.out _).mono ?_); rintro e w9 ⟨rfl, hb9⟩; have hB := below_trans hB hb9))
            | (go_at_call 17; ((with_reducible refine (C5.out _).mono ?_); rintro e w9 ⟨rfl, hb9⟩; have hB := below_trans hB hb9))
            | (go_at_call 17; ((with_reducible refine (C6.out _).mono ?_); rintro e w9 ⟨rfl, hb9⟩; have hB := below_trans hB hb9))
            | (go_at_call 17; ((with_reducible refine (C7.out _).mono ?_); rintro e w9 ⟨rfl, hb9⟩; have hB := below_trans hB hb9))
            | (go_at_call 17; ((with_reducible refine (C8.out _).mono ?_); rintro e w9 ⟨rfl, hb9⟩; have hB := below_trans hB hb9))
            | (go_at_call 17; ((with_reducible refine (C9.out _).mono ?_); rintro e w9 ⟨rfl, hb9⟩; have hB := below_trans hB hb9))
            | (go_at_call 17; ((with_reducible refine (C10.out _).mono ?_); rintro e w9 ⟨rfl, hb9⟩; have hB := below_trans hB hb9))
            | (go_at_call 17; ((with_reducible refine (C11.out _).mono ?_); rintro e w9 ⟨rfl, hb9⟩; have hB := below_trans hB hb9))
            | (go_at_call 17; ((with_reducible refine (C12.out _).mono ?_); rintro e w9 ⟨rfl, hb9⟩; have hB := below_trans hB hb9))
            | (go_at_call 17; ((with_reducible refine (C13.out _).mono ?_); rintro e w9 ⟨rfl, hb9⟩; have hB := below_trans hB hb9))
            | (go_at_call 17; ((with_reducible refine (D1.out _).mono ?_); rintro e w9 ⟨rfl, hb9⟩; have hB := below_trans hB hb9))
            | (go_at_call 17; ((with_reducible refine (D2.out _).mono ?_); rintro e w9 ⟨rfl, hb9⟩; have hB := below_trans hB hb9))
            | (go_at_call 17; ((with_reducible refine (D3.out _).mono ?_); rintro e w9 ⟨rfl, hb9⟩; have hB := below_trans hB hb9))
            | (go_at_call 17; ((with_reducible refine (D4.out _).mono ?_); rintro e w9 ⟨rfl, hb9⟩; have hB := below_trans hB hb9)))
          rw [rounds_succ]
          go_wp2_with (first
            | (go_at_call 17; ((with_reducible refine (C1.out _).mono ?_); rintro e w9 ⟨rfl, hb9⟩; have hB := below_trans hB hb9))
            | (go_at_call 17; ((with_reducible refine (C2.out _).mono ?_); rintro e w9 ⟨rfl, hb9⟩; have hB := below_trans hB hb9))
            | (go_at_call 17; ((with_reducible refine (C3.out _).mono ?_); rintro e w9 ⟨rfl, hb9⟩; have hB := below_trans hB hb9))
            | (go_at_call 17; ((with_reducible refine (C4.out _).mono ?_); rintro e w9 ⟨rfl, hb9⟩; have hB := below_trans hB hb9))
            | (go_at_call 17; ((with_reducible refine (C5.out _).mono ?_); rintro e w9 ⟨rfl, hb9⟩; have hB := below_trans hB hb9))
            | (go_at_call 17; ((with_reducible refine (C6.out _).mono ?_); rintro e w9 ⟨rfl, hb9⟩; have hB := below_trans hB hb9))
            | (go_at_call 17; ((with_reducible refine (C7.out _).mono ?_); rintro e w9 ⟨rfl, hb9⟩; have hB := below_trans hB hb9))
            | (go_at_call 17; ((with_reducible refine (C8.out _).mono ?_); rintro e w9 ⟨rfl, hb9⟩; have hB := below_trans hB hb9))
            | (go_at_call 17; ((with_reducible refine (C9.out _).mono ?_); rintro e w9 ⟨rfl, hb9⟩; have hB := below_trans hB hb9))
            | (go_at_call 17; ((with_reducible refine (C10.out _).mono ?_); rintro e w9 ⟨rfl, hb9⟩; have hB := below_trans hB hb9))
            | (go_at_call 17; ((with_reducible refine (C11.out _).mono ?_); rintro e w9 ⟨rfl, hb9⟩; have hB := below_trans hB hb9))
            | (go_at_call 17; ((with_reducible refine (C12.out _).mono ?_); rintro e w9 ⟨rfl, hb9⟩; have hB := below_trans hB hb9))
            | (go_at_call 17; ((with_reducible refine (C13.out _).mono ?_); rintro e w9 ⟨rfl, hb9⟩; have hB := below_trans hB hb9))
            | (go_at_call 17; ((with_reducible refine (D1.out _).mono ?_); rintro e w9 ⟨rfl, hb9⟩; have hB := below_trans hB hb9))
            | (go_at_call 17; ((with_reducible refine (D2.out _).mono ?_); rintro e w9 ⟨rfl, hb9⟩; have hB := below_trans hB hb9))
            | (go_at_call 17; ((with_reducible refine (D3.out _).mono ?_); rintro e w9 ⟨rfl, hb9⟩; have hB := below_trans hB hb9))
            | (go_at_call 17; ((with_reducible refine (D4.out _).mono ?_); rintro e w9 ⟨rfl, hb9⟩; have hB := below_trans hB hb9)))
          rw [rounds_succ]
          go_wp2_with (first
            | (go_at_call 17; ((with_reducible refine (C1.out _).mono ?_); rintro e w9 ⟨rfl, hb9⟩; have hB := below_trans hB hb9))
            | (go_at_call 17; ((with_reducible refine (C2.out _).mono ?_); rintro e w9 ⟨rfl, hb9⟩; have hB := below_trans hB hb9))
            | (go_at_call 17; ((with_reducible refine (C3.out _).mono ?_); rintro e w9 ⟨rfl, hb9⟩; have hB := below_trans hB hb9))
            | (go_at_call 17; ((with_reducible refine (C4.out _).mono ?_); rintro e w9 ⟨rfl, hb9⟩; have hB := below_trans hB hb9))
            | (go_at_call 17; ((with_reducible refine (C5.out _).mono ?_); rintro e w9 ⟨rfl, hb9⟩; have hB := below_trans hB hb9))
            | (go_at_call 17; ((with_reducible refine (C6.out _).mono ?_); rintro e w9 ⟨rfl, hb9⟩; have hB := below_trans hB hb9))
            | (go_at_call 17; ((with_reducible refine (C7.out _).mono ?_); rintro e w9 ⟨rfl, hb9⟩; have hB := below_trans hB hb9))
            | (go_at_call 17; ((with_reducible refine (C8.out _).mono ?_); rintro e w9 ⟨rfl, hb9⟩; have hB := below_trans hB hb9))
            | (go_at_call 17; ((with_reducible refine (C9.out _).mono ?_); rintro e w9 ⟨rfl, hb9⟩; have hB := below_trans hB hb9))
            | (go_at_call 17; ((with_reducible refine (C10.out _).mono ?_); rintro e w9 ⟨rfl, hb9⟩; have hB := below_trans hB hb9))
            | (go_at_call 17; ((with_reducible refine (C11.out _).mono ?_); rintro e w9 ⟨rfl, hb9⟩; have hB := below_trans hB hb9))
            | (go_at_call 17; ((with_reducible refine (C12.out _).mono ?_); rintro e w9 ⟨rfl, hb9⟩; have hB := below_trans hB hb9))
            | (go_at_call 17; ((with_reducible refine (C13.out _).mono ?_); rintro e w9 ⟨rfl, hb9⟩; have hB := below_trans hB hb9))
            | (go_at_call 17; ((with_reducible refine (D1.out _).mono ?_); rintro e w9 ⟨rfl, hb9⟩; have hB := below_trans hB hb9))
            | (go_at_call 17; ((with_reducible refine (D2.out _).mono ?_); rintro e w9 ⟨rfl, hb9⟩; have hB := below_trans hB hb9))
            | (go_at_call 17; ((with_reducible refine (D3.out _).mono ?_); rintro e w9 ⟨rfl, hb9⟩; have hB := below_trans hB hb9))
            | (go_at_call 17; ((with_reducible refine (D4.out _).mono ?_); rintro e w9 ⟨rfl, hb9⟩; have hB := below_trans hB hb9)))
          obtain ⟨m1, k1, j1⟩ := mix a' a' (lt_64 (w := 32) (by decide) K.out.1) (lt_64 (w := 32) (by decide) K.out.1)
          obtain ⟨m2, k2, j2⟩ := mix b' c' (lt_64 (w := 32) (by decide) K.out.2.1) (lt_64 (w := 32) (by decide) K.out.2.2)
          obtain ⟨m3, k3, j3⟩ := mix c' b' (lt_64 (w := 32) (by decide) K.out.2.2) (lt_64 (w := 32) (by decide) K.out.2.1)
          have J : Hid (m1 < 18446744073709551616 ∧ m2 < 18446744073709551616 ∧ m3 < 18446744073709551616) := ⟨j1, j2, j3⟩
          clear j1 j2 j3
          go_wp2
          go_roundw
          case rel => exact ⟨m1, m2, m3, 64, by first | rfl | rw [k1], by first | rfl | rw [k2], by first | rfl | rw [k3], rfl, J, by decide, hB⟩
          case measure => simp [intOf]
        · have t1 : ((z : Int) == 1) = false := by simp; exact fun h => hz1 (by omega)
          obtain ⟨i, hi⟩ : ∃ i, tw 23 32 a' b' = i := ⟨_, rfl⟩
          have li : i < 2 ^ 32 := by rw [← hi]; exact L 23 a' b' la lb
          obtain ⟨j, hj⟩ : ∃ j, tw 25 32 a' b' = j := ⟨_, rfl⟩
          have lj : j < 2 ^ 32 := by rw [← hj]; exact L 25 a' b' la lb
          obtain ⟨k, hk⟩ : ∃ k, tw 22 32 i b' = k := ⟨_, rfl⟩
          have lk : k < 2 ^ 32 := by rw [← hk]; exact L 22 i b' li lb
          have E1 := two_is (p := 23) (op := 109) (r := i) (.inr (by decide)) w32 la lb (hi)
          have E2 := two_is (p := 25) (op := 111) (r := j) (.inr (by decide)) w32 la lb (hj)
          have E3 := two_is (p := 22) (op := 108) (r := k) (.inr (by decide)) w32 li lb (hk)
          have E4 := two_is (p := 20) (op := 106) (r := a') (.inr (by decide)) w32 lk lj (by rw [← hk, ← hi, ← hj]; exact ring_divs la lb hb0 (by rw [hz]; exact hz1))
          clear L h0 hs ls hm lm hd ld hx lx he le hy ly hn ln hz lz la lb lc hf hg ht lf lg lt hi hj hk li lj lk hb0 hz1
          go_wp2_with (first
            | (go_at_call 17; ((with_reducible refine (C1.out _).mono ?_); rintro e w9 ⟨rfl, hb9⟩; have hB := below_trans hB hb9))
            | (go_at_call 17; ((with_reducible refine (C2.out _).mono ?_); rintro e w9 ⟨rfl, hb9⟩; have hB := below_trans hB hb9))
            | (go_at_call 17; ((with_reducible refine (C3.out _).mono ?_); rintro e w9 ⟨rfl, hb9⟩; have hB := below_trans hB hb9))
            | (go_at_call 17; ((with_reducible refine (C4.out _).mono ?_); rintro e w9 ⟨rfl, hb9⟩; have hB := below_trans hB hb9))
            | (go_at_call 17; ((with_reducible refine (C5.out _).mono ?_); rintro e w9 ⟨rfl, hb9⟩; have hB := below_trans hB hb9))
            | (go_at_call 17; ((with_reducible refine (C6.out _).mono ?_); rintro e w9 ⟨rfl, hb9⟩; have hB := below_trans hB hb9))
            | (go_at_call 17; ((with_reducible refine (C7.out _).mono ?_); rintro e w9 ⟨rfl, hb9⟩; have hB := below_trans hB hb9))
            | (go_at_call 17; ((with_reducible refine (C8.out _).mono ?_); rintro e w9 ⟨rfl, hb9⟩; have hB := below_trans hB hb9))
            | (go_at_call 17; ((with_reducible refine (C9.out _).mono ?_); rintro e w9 ⟨rfl, hb9⟩; have hB := below_trans hB hb9))
            | (go_at_call 17; ((with_reducible refine (C10.out _).mono ?_); rintro e w9 ⟨rfl, hb9⟩; have hB := below_trans hB hb9))
            | (go_at_call 17; ((with_reducible refine (C11.out _).mono ?_); rintro e w9 ⟨rfl, hb9⟩; have hB := below_trans hB hb9))
            | (go_at_call 17; ((with_reducible refine (C12.out _).mono ?_); rintro e w9 ⟨rfl, hb9⟩; have hB := below_trans hB hb9))
            | (go_at_call 17; ((with_reducible refine (C13.out _).mono ?_); rintro e w9 ⟨rfl, hb9⟩; have hB := below_trans hB hb9))
            | (go_at_call 17; ((with_reducible refine (D1.out _).mono ?_); rintro e w9 ⟨rfl, hb9⟩; have hB := below_trans hB hb9))
            | (go_at_call 17; ((with_reducible refine (D2.out _).mono ?_); rintro e w9 ⟨rfl, hb9⟩; have hB := below_trans hB hb9))
            | (go_at_call 17; ((with_reducible refine (D3.out _).mono ?_); rintro e w9 ⟨rfl, hb9⟩; have hB := below_trans hB hb9))
            | (go_at_call 17; ((with_reducible refine (D4.out _).mono ?_); rintro e w9 ⟨rfl, hb9⟩; have hB := below_trans hB hb9))
            | (go_at_call 17; ((with_reducible refine (E1.out _).mono ?_); rintro e w9 ⟨rfl, hb9⟩; have hB := below_trans hB hb9))
            | (go_at_call 17; ((with_reducible refine (E2.out _).mono ?_); rintro e w9 ⟨rfl, hb9⟩; have hB := below_trans hB hb9))
            | (go_at_call 17; ((with_reducible refine (E3.out _).mono ?_); rintro e w9 ⟨rfl, hb9⟩; have hB := below_trans hB hb9))
            | (go_at_call 17; ((with_reducible refine (E4.out _).mono ?_); rintro e w9 ⟨rfl, hb9⟩; have hB := below_trans hB hb9)))
          refine wp_loop_rounds 3 ?_
          rw [rounds_succ]
          go_wp2_with (first
            | (go_at_call 17; ((with_reducible refine (C1.out _).mono ?_); rintro e w9 ⟨rfl, hb9⟩; have hB := below_trans hB hb9))
            | (go_at_call 17; ((with_reducible refine (C2.out _).mono ?_); rintro e w9 ⟨rfl, hb9⟩; have hB := below_trans hB hb9))
            | (go_at_call 17; ((with_reducible refine (C3.out _).mono ?_); rintro e w9 ⟨rfl, hb9⟩; have hB := below_trans hB hb9))
            | (go_at_call 17; ((with_reducible refine (C4.out _).mono ?_); rintro e w9 ⟨rfl, hb9⟩; have hB := below_trans hB hb9))
            | (go_at_call 17; ((with_reducible refine (C5.out _).mono ?_); rintro e w9 ⟨rfl, hb9⟩; have hB := below_trans hB hb9))
            | (go_at_call 17; ((with_reducible refine (C6.out _).mono ?_); rintro e w9 ⟨rfl, hb9⟩; have hB := below_trans hB hb9))
            | (go_at_call 17; ((with_reducible refine (C7.out _).mono ?_); rintro e w9 ⟨rfl, hb9⟩; have hB := below_trans hB hb9))
            | (go_at_call 17; ((with_reducible refine (C8.out _).mono ?_); rintro e w9 ⟨rfl, hb9⟩; have hB := below_trans hB hb9))
            | (go_at_call 17; ((with_reducible refine (C9.out _).mono ?_); rintro e w9 ⟨rfl, hb9⟩; have hB := below_trans hB hb9))
            | (go_at_call 17; ((with_reducible refine (C10.out _).mono ?_); rintro e w9 ⟨rfl, hb9⟩; have hB := below_trans hB hb9))
            | (go_at_call 17; ((with_reducible refine (C11.out _).mono ?_); rintro e w9 ⟨rfl, hb9⟩; have hB := below_trans hB hb9))
            | (go_at_call 17; ((with_reducible refine (C12.out _).mono ?_); rintro e w9 ⟨rfl, hb9⟩; have hB := below_trans hB hb9))
            | (go_at_call 17; ((with_reducible refine (C13.out _).mono ?_); rintro e w9 ⟨rfl, hb9⟩; have hB := below_trans hB hb9))
            | (go_at_call 17; ((with_reducible refine (D1.out _).mono ?_); rintro e w9 ⟨rfl, hb9⟩; have hB := below_trans hB hb9))
            | (go_at_call 17; ((with_reducible refine (D2.out _).mono ?_); rintro e w9 ⟨rfl, hb9⟩; have hB := below_trans hB hb9))
            | (go_at_call 17; ((with_reducible refine (D3.out _).mono ?_); rintro e w9 ⟨rfl, hb9⟩; have hB := below_trans hB hb9))
            | (go_at_call 17; ((with_reducible refine (D4.out _).mono ?_); rintro e w9 ⟨rfl, hb9⟩; have hB := below_trans hB hb9))
            | (go_at_call 17; ((with_reducible refine (E1.out _).mono ?_); rintro e w9 ⟨rfl, hb9⟩; have hB := below_trans hB hb9))
            | (go_at_call 17; ((with_reducible refine (E2.out _).mono ?_); rintro e w9 ⟨rfl, hb9⟩; have hB := below_trans hB hb9))
            | (go_at_call 17; ((with_reducible refine (E3.out _).mono ?_); rintro e w9 ⟨rfl, hb9⟩; have hB := below_trans hB hb9))
            | (go_at_call 17; ((with_reducible refine (E4.out _).mono ?_); rintro e w9 ⟨rfl, hb9⟩; have hB := below_trans hB hb9)))
          rw [rounds_succ]
          go_wp2_with (first
            | (go_at_call 17; ((with_reducible refine (C1.out _).mono ?_); rintro e w9 ⟨rfl, hb9⟩; have hB := below_trans hB hb9))
            | (go_at_call 17; ((with_reducible refine (C2.out _).mono ?_); rintro e w9 ⟨rfl, hb9⟩; have hB := below_trans hB hb9))
            | (go_at_call 17; ((with_reducible refine (C3.out _).mono ?_); rintro e w9 ⟨rfl, hb9⟩; have hB := below_trans hB hb9))
            | (go_at_call 17; ((with_reducible refine (C4.out _).mono ?_); rintro e w9 ⟨rfl, hb9⟩; have hB := below_trans hB hb9))
            | (go_at_call 17; ((with_reducible refine (C5.out _).mono ?_); rintro e w9 ⟨rfl, hb9⟩; have hB := below_trans hB hb9))
            | (go_at_call 17; ((with_reducible refine (C6.out _).mono ?_); rintro e w9 ⟨rfl, hb9⟩; have hB := below_trans hB hb9))
            | (go_at_call 17; ((with_reducible refine (C7.out _).mono ?_); rintro e w9 ⟨rfl, hb9⟩; have hB := below_trans hB hb9))
            | (go_at_call 17; ((with_reducible refine (C8.out _).mono ?_); rintro e w9 ⟨rfl, hb9⟩; have hB := below_trans hB hb9))
            | (go_at_call 17; ((with_reducible refine (C9.out _).mono ?_); rintro e w9 ⟨rfl, hb9⟩; have hB := below_trans hB hb9))
            | (go_at_call 17; ((with_reducible refine (C10.out _).mono ?_); rintro e w9 ⟨rfl, hb9⟩; have hB := below_trans hB hb9))
            | (go_at_call 17; ((with_reducible refine (C11.out _).mono ?_); rintro e w9 ⟨rfl, hb9⟩; have hB := below_trans hB hb9))
            | (go_at_call 17; ((with_reducible refine (C12.out _).mono ?_); rintro e w9 ⟨rfl, hb9⟩; have hB := below_trans hB hb9))
            | (go_at_call 17; ((with_reducible refine (C13.out _).mono ?_); rintro e w9 ⟨rfl, hb9⟩; have hB := below_trans hB hb9))
            | (go_at_call 17; ((with_reducible refine (D1.out _).mono ?_); rintro e w9 ⟨rfl, hb9⟩; have hB := below_trans hB hb9))
            | (go_at_call 17; ((with_reducible refine (D2.out _).mono ?_); rintro e w9 ⟨rfl, hb9⟩; have hB := below_trans hB hb9))
            | (go_at_call 17; ((with_reducible refine (D3.out _).mono ?_); rintro e w9 ⟨rfl, hb9⟩; have hB := below_trans hB hb9))
            | (go_at_call 17; ((with_reducible refine (D4.out _).mono ?_); rintro e w9 ⟨rfl, hb9⟩; have hB := below_trans hB hb9))
            | (go_at_call 17; ((with_reducible refine (E1.out _).mono ?_); rintro e w9 ⟨rfl, hb9⟩; have hB := below_trans hB hb9))
            | (go_at_call 17; ((with_reducible refine (E2.out _).mono ?_); rintro e w9 ⟨rfl, hb9⟩; have hB := below_trans hB hb9))
            | (go_at_call 17; ((with_reducible refine (E3.out _).mono ?_); rintro e w9 ⟨rfl, hb9⟩; have hB := below_trans hB hb9))
            | (go_at_call 17; ((with_reducible refine (E4.out _).mono ?_); rintro e w9 ⟨rfl, hb9⟩; have hB := below_trans hB hb9)))
          rw [rounds_succ]
          go_wp2_with (first
            | (go_at_call 17; ((with_reducible refine (C1.out _).mono ?_); rintro e w9 ⟨rfl, hb9⟩; have hB := below_trans hB hb9))
            | (go_at_call 17; ((with_reducible refine (C2.out _).mono ?_); rintro e w9 ⟨rfl, hb9⟩; have hB := below_trans hB hb9))
            | (go_at_call 17; ((with_reducible refine (C3.out _).mono ?_); rintro e w9 ⟨rfl, hb9⟩; have hB := below_trans hB hb9))
            | (go_at_call 17; ((with_reducible refine (C4.out _).mono ?_); rintro e w9 ⟨rfl, hb9⟩; have hB := below_trans hB hb9))
            | (go_at_call 17; ((with_reducible refine (C5.out _).mono ?_); rintro e w9 ⟨rfl, hb9⟩; have hB := below_trans hB hb9))
            | (go_at_call 17; ((with_reducible refine (C6.out _).mono ?_); rintro e w9 ⟨rfl, hb9⟩; have hB := below_trans hB hb9))
            | (go_at_call 17; ((with_reducible refine (C7.out _).mono ?_); rintro e w9 ⟨rfl, hb9⟩; have hB := below_trans hB hb9))
            | (go_at_call 17; ((with_reducible refine (C8.out _).mono ?_); rintro e w9 ⟨rfl, hb9⟩; have hB := below_trans hB hb9))
            | (go_at_call 17; ((with_reducible refine (C9.out _).mono ?_); rintro e w9 ⟨rfl, hb9⟩; have hB := below_trans hB hb9))
            | (go_at_call 17; ((with_reducible refine (C10.out _).mono ?_); rintro e w9 ⟨rfl, hb9⟩; have hB := below_trans hB hb9))
            | (go_at_call 17; ((with_reducible refine (C11.out _).mono ?_); rintro e w9 ⟨rfl, hb9⟩; have hB := below_trans hB hb9))
            | (go_at_call 17; ((with_reducible refine (C12.out _).mono ?_); rintro e w9 ⟨rfl, hb9⟩; have hB := below_trans hB hb9))
            | (go_at_call 17; ((with_reducible refine (C13.out _).mono ?_); rintro e w9 ⟨rfl, hb9⟩; have hB := below_trans hB hb9))
            | (go_at_call 17; ((with_reducible refine (D1.out _).mono ?_); rintro e w9 ⟨rfl, hb9⟩; have hB := below_trans hB hb9))
            | (go_at_call 17; ((with_reducible refine (D2.out _).mono ?_); rintro e w9 ⟨rfl, hb9⟩; have hB := below_trans hB hb9))
            | (go_at_call 17; ((with_reducible refine (D3.out _).mono ?_); rintro e w9 ⟨rfl, hb9⟩; have hB := below_trans hB hb9))
            | (go_at_call 17; ((with_reducible refine (D4.out _).mono ?_); rintro e w9 ⟨rfl, hb9⟩; have hB := below_trans hB hb9))
            | (go_at_call 17; ((with_reducible refine (E1.out _).mono ?_); rintro e w9 ⟨rfl, hb9⟩; have hB := below_trans hB hb9))
            | (go_at_call 17; ((with_reducible refine (E2.out _).mono ?_); rintro e w9 ⟨rfl, hb9⟩; have hB := below_trans hB hb9))
            | (go_at_call 17; ((with_reducible refine (E3.out _).mono ?_); rintro e w9 ⟨rfl, hb9⟩; have hB := below_trans hB hb9))
            | (go_at_call 17; ((with_reducible refine (E4.out _).mono ?_); rintro e w9 ⟨rfl, hb9⟩; have hB := below_trans hB hb9)))
          obtain ⟨m1, k1, j1⟩ := mix a' a' (lt_64 (w := 32) (by decide) K.out.1) (lt_64 (w := 32) (by decide) K.out.1)
          obtain ⟨m2, k2, j2⟩ := mix b' c' (lt_64 (w := 32) (by decide) K.out.2.1) (lt_64 (w := 32) (by decide) K.out.2.2)
          obtain ⟨m3, k3, j3⟩ := mix c' b' (lt_64 (w := 32) (by decide) K.out.2.2) (lt_64 (w := 32) (by decide) K.out.2.1)
          have J : Hid (m1 < 18446744073709551616 ∧ m2 < 18446744073709551616 ∧ m3 < 18446744073709551616) := ⟨j1, j2, j3⟩
          clear j1 j2 j3
          go_wp2
          go_roundw
          case rel => exact ⟨m1, m2, m3, 64, by first | rfl | rw [k1], by first | rfl | rw [k2], by first | rfl | rw [k3], rfl, J, by decide, hB⟩
          case measure => simp [intOf]

    · have la : a < 2 ^ 64 := HN.out.1
      have lb : b < 2 ^ 64 := HN.out.2.1
      have lc : c < 2 ^ 64 := HN.out.2.2
      have L := fun (p x y : Nat) (hx : x < 2 ^ 64) (hy : y < 2 ^ 64) => tw_lt p 64 x y (by decide) hx hy
      have h0 : (0 : Nat) < 2 ^ 64 := by decide
      obtain ⟨s, hs⟩ : ∃ s, tw 20 64 a b = s := ⟨_, rfl⟩
      have ls : s < 2 ^ 64 := by rw [← hs]; exact L 20 a b la lb
      obtain ⟨m, hm⟩ : ∃ m, tw 22 64 a b = m := ⟨_, rfl⟩
      have lm : m < 2 ^ 64 := by rw [← hm]; exact L 22 a b la lb
      obtain ⟨d, hd⟩ : ∃ d, tw 20 64 b c = d := ⟨_, rfl⟩
      have ld : d < 2 ^ 64 := by rw [← hd]; exact L 20 b c lb lc
      obtain ⟨x, hx⟩ : ∃ x, tw 22 64 a d = x := ⟨_, rfl⟩
      have lx : x < 2 ^ 64 := by rw [← hx]; exact L 22 a d la ld
      obtain ⟨e, he⟩ : ∃ e, tw 22 64 a c = e := ⟨_, rfl⟩
      have le : e < 2 ^ 64 := by rw [← he]; exact L 22 a c la lc
      obtain ⟨y, hy⟩ : ∃ y, tw 22 64 m c = y := ⟨_, rfl⟩
      have ly : y < 2 ^ 64 := by rw [← hy]; exact L 22 m c lm lc
      obtain ⟨n, hn⟩ : ∃ n, tw 22 64 b c = n := ⟨_, rfl⟩
      have ln : n < 2 ^ 64 := by rw [← hn]; exact L 22 b c lb lc
      obtain ⟨z, hz⟩ : ∃ z, tw 21 64 0 b = z := ⟨_, rfl⟩
      have lz : z < 2 ^ 64 := by rw [← hz]; exact L 21 0 b h0 lb
      have C1 := two_is (p := 20) (op := 106) (r := s) (.inr (by decide)) w64 la lb (hs)
      have C2 := two_is (p := 21) (op := 107) (r := a) (.inr (by decide)) w64 ls lb (by rw [← hs]; exact ring_sub la lb)
      have C3 := two_is (p := 20) (op := 106) (r := s) (.inr (by decide)) w64 lb la (by rw [← hs]; exact ring_add)
      have C4 := two_is (p := 22) (op := 108) (r := m) (.inr (by decide)) w64 la lb (hm)
      have C5 := two_is (p := 22) (op := 108) (r := m) (.inr (by decide)) w64 lb la (by rw [← hm]; exact ring_mul)
      have C6 := two_is (p := 20) (op := 106) (r := d) (.inr (by decide)) w64 lb lc (hd)
      have C7 := two_is (p := 22) (op := 108) (r := x) (.inr (by decide)) w64 la ld (hx)
      have C8 := two_is (p := 22) (op := 108) (r := e) (.inr (by decide)) w64 la lc (he)
      have C9 := two_is (p := 20) (op := 106) (r := x) (.inr (by decide)) w64 lm le (by rw [← hx, ← hd, ← hm, ← he]; exact ring_dist.symm)
      have C10 := two_is (p := 22) (op := 108) (r := y) (.inr (by decide)) w64 lm lc (hy)
      have C11 := two_is (p := 22) (op := 108) (r := n) (.inr (by decide)) w64 lb lc (hn)
      have C12 := two_is (p := 22) (op := 108) (r := y) (.inr (by decide)) w64 la ln (by rw [← hy, ← hm, ← hn]; exact ring_assoc.symm)
      have C13z := two_is (p := 21) (op := 107) (r := z) (.inr (by decide)) w64 h0 lb (hz)
      have C13 : Hid (∀ W : World, Calls Tryd.prog 17 #[.int .i64 64, .int .i64 107, .int .u64 0, .int .u64 b] W (Out z W)) := C13z
      clear C13z
      have K := Lib.hid (And.intro la (And.intro lb lc))
      by_cases hb0 : b = 0
      · have t0 : ((b : Int) != 0) = false := by simp [hb0]
        clear L h0 hs ls hm lm hd ld hx lx he le hy ly hn ln hz lz la lb lc hb0
        go_wp2_with (first
          | (go_at_call 17; ((with_reducible refine (C1.out _).mono ?_); rintro e w9 ⟨rfl, hb9⟩; have hB := below_trans hB hb9))
          | (go_at_call 17; ((with_reducible refine (C2.out _).mono ?_); rintro e w9 ⟨rfl, hb9⟩; have hB := below_trans hB hb9))
          | (go_at_call 17; ((with_reducible refine (C3.out _).mono ?_); rintro e w9 ⟨rfl, hb9⟩; have hB := below_trans hB hb9))
          | (go_at_call 17; ((with_reducible refine (C4.out _).mono ?_); rintro e w9 ⟨rfl, hb9⟩; have hB := below_trans hB hb9))
          | (go_at_call 17; ((with_reducible refine (C5.out _).mono ?_); rintro e w9 ⟨rfl, hb9⟩; have hB := below_trans hB hb9))
          | (go_at_call 17; ((with_reducible refine (C6.out _).mono ?_); rintro e w9 ⟨rfl, hb9⟩; have hB := below_trans hB hb9))
          | (go_at_call 17; ((with_reducible refine (C7.out _).mono ?_); rintro e w9 ⟨rfl, hb9⟩; have hB := below_trans hB hb9))
          | (go_at_call 17; ((with_reducible refine (C8.out _).mono ?_); rintro e w9 ⟨rfl, hb9⟩; have hB := below_trans hB hb9))
          | (go_at_call 17; ((with_reducible refine (C9.out _).mono ?_); rintro e w9 ⟨rfl, hb9⟩; have hB := below_trans hB hb9))
          | (go_at_call 17; ((with_reducible refine (C10.out _).mono ?_); rintro e w9 ⟨rfl, hb9⟩; have hB := below_trans hB hb9))
          | (go_at_call 17; ((with_reducible refine (C11.out _).mono ?_); rintro e w9 ⟨rfl, hb9⟩; have hB := below_trans hB hb9))
          | (go_at_call 17; ((with_reducible refine (C12.out _).mono ?_); rintro e w9 ⟨rfl, hb9⟩; have hB := below_trans hB hb9))
          | (go_at_call 17; ((with_reducible refine (C13.out _).mono ?_); rintro e w9 ⟨rfl, hb9⟩; have hB := below_trans hB hb9)))
        refine wp_loop_rounds 1 ?_
        rw [rounds_succ]
        go_wp2_with (first
          | (go_at_call 17; ((with_reducible refine (C1.out _).mono ?_); rintro e w9 ⟨rfl, hb9⟩; have hB := below_trans hB hb9))
          | (go_at_call 17; ((with_reducible refine (C2.out _).mono ?_); rintro e w9 ⟨rfl, hb9⟩; have hB := below_trans hB hb9))
          | (go_at_call 17; ((with_reducible refine (C3.out _).mono ?_); rintro e w9 ⟨rfl, hb9⟩; have hB := below_trans hB hb9))
          | (go_at_call 17; ((with_reducible refine (C4.out _).mono ?_); rintro e w9 ⟨rfl, hb9⟩; have hB := below_trans hB hb9))
          | (go_at_call 17; ((with_reducible refine (C5.out _).mono ?_); rintro e w9 ⟨rfl, hb9⟩; have hB := below_trans hB hb9))
          | (go_at_call 17; ((with_reducible refine (C6.out _).mono ?_); rintro e w9 ⟨rfl, hb9⟩; have hB := below_trans hB hb9))
          | (go_at_call 17; ((with_reducible refine (C7.out _).mono ?_); rintro e w9 ⟨rfl, hb9⟩; have hB := below_trans hB hb9))
          | (go_at_call 17; ((with_reducible refine (C8.out _).mono ?_); rintro e w9 ⟨rfl, hb9⟩; have hB := below_trans hB hb9))
          | (go_at_call 17; ((with_reducible refine (C9.out _).mono ?_); rintro e w9 ⟨rfl, hb9⟩; have hB := below_trans hB hb9))
          | (go_at_call 17; ((with_reducible refine (C10.out _).mono ?_); rintro e w9 ⟨rfl, hb9⟩; have hB := below_trans hB hb9))
          | (go_at_call 17; ((with_reducible refine (C11.out _).mono ?_); rintro e w9 ⟨rfl, hb9⟩; have hB := below_trans hB hb9))
          | (go_at_call 17; ((with_reducible refine (C12.out _).mono ?_); rintro e w9 ⟨rfl, hb9⟩; have hB := below_trans hB hb9))
          | (go_at_call 17; ((with_reducible refine (C13.out _).mono ?_); rintro e w9 ⟨rfl, hb9⟩; have hB := below_trans hB hb9)))
        obtain ⟨m1, k1, j1⟩ := mix a a (lt_64 (w := 64) (by decide) K.out.1) (lt_64 (w := 64) (by decide) K.out.1)
        obtain ⟨m2, k2, j2⟩ := mix b c (lt_64 (w := 64) (by decide) K.out.2.1) (lt_64 (w := 64) (by decide) K.out.2.2)
        obtain ⟨m3, k3, j3⟩ := mix c b (lt_64 (w := 64) (by decide) K.out.2.2) (lt_64 (w := 64) (by decide) K.out.2.1)
        have J : Hid (m1 < 18446744073709551616 ∧ m2 < 18446744073709551616 ∧ m3 < 18446744073709551616) := ⟨j1, j2, j3⟩
        clear j1 j2 j3
        go_wp2
        go_roundw
        case rel => exact ⟨m1, m2, m3, 96, by first | rfl | rw [k1], by first | rfl | rw [k2], by first | rfl | rw [k3], rfl, J, by decide, hB⟩
        case measure => simp [intOf]
      · have t0 : ((b : Int) != 0) = true := by simp; exact hb0
        obtain ⟨f, hf⟩ : ∃ f, tw 24 64 a b = f := ⟨_, rfl⟩
        have lf : f < 2 ^ 64 := by rw [← hf]; exact L 24 a b la lb
        obtain ⟨g, hg⟩ : ∃ g, tw 26 64 a b = g := ⟨_, rfl⟩
        have lg : g < 2 ^ 64 := by rw [← hg]; exact L 26 a b la lb
        obtain ⟨t, ht⟩ : ∃ t, tw 22 64 f b = t := ⟨_, rfl⟩
        have lt : t < 2 ^ 64 := by rw [← ht]; exact L 22 f b lf lb
        have D1 := two_is (p := 24) (op := 110) (r := f) (.inr (by decide)) w64 la lb (hf)
        have D2 := two_is (p := 26) (op := 112) (r := g) (.inr (by decide)) w64 la lb (hg)
        have D3 := two_is (p := 22) (op := 108) (r := t) (.inr (by decide)) w64 lf lb (ht)
        have D4 := two_is (p := 20) (op := 106) (r := a) (.inr (by decide)) w64 lt lg (by rw [← ht, ← hf, ← hg]; exact ring_divu la hb0)
        by_cases hz1 : z = 1
        · have t1 : ((z : Int) == 1) = true := by simp [hz1]
          clear L h0 hs ls hm lm hd ld hx lx he le hy ly hn ln hz lz la lb lc hf hg ht lf lg lt hb0 hz1
          go_wp2_with (first
            | (go_at_call 17; ((with_reducible refine (C1.out _).mono ?_); rintro e w9 ⟨rfl, hb9⟩; have hB := below_trans hB hb9))
            | (go_at_call 17; ((with_reducible refine (C2.out _).mono ?_); rintro e w9 ⟨rfl, hb9⟩; have hB := below_trans hB hb9))
            | (go_at_call 17; ((with_reducible refine (C3.out _).mono ?_); rintro e w9 ⟨rfl, hb9⟩; have hB := below_trans hB hb9))
            | (go_at_call 17; ((with_reducible refine (C4.out _).mono ?_); rintro e w9 ⟨rfl, hb9⟩; have hB := below_trans hB hb9))
            | (go_at_call 17; ((with_reducible refine (C5.out _).mono ?_); rintro e w9 ⟨rfl, hb9⟩; have hB := below_trans hB hb9))
            | (go_at_call 17; ((with_reducible refine (C6.out _).mono ?_); rintro e w9 ⟨rfl, hb9⟩; have hB := below_trans hB hb9))
            | (go_at_call 17; ((with_reducible refine (C7.out _).mono ?_); rintro e w9 ⟨rfl, hb9⟩; have hB := below_trans hB hb9))
            | (go_at_call 17; ((with_reducible refine (C8.out _).mono ?_); rintro e w9 ⟨rfl, hb9⟩; have hB := below_trans hB hb9))
            | (go_at_call 17; ((with_reducible refine (C9.out _).mono ?_); rintro e w9 ⟨rfl, hb9⟩; have hB := below_trans hB hb9))
            | (go_at_call 17; ((with_reducible refine (C10.out _).mono ?_); rintro e w9 ⟨rfl, hb9⟩; have hB := below_trans hB hb9))
            | (go_at_call 17; ((with_reducible refine (C11.out _).mono ?_); rintro e w9 ⟨rfl, hb9⟩; have hB := below_trans hB hb9))
            | (go_at_call 17; ((with_reducible refine (C12.out _).mono ?_); rintro e w9 ⟨rfl, hb9⟩; have hB := below_trans hB hb9))
            | (go_at_call 17; ((with_reducible refine (C13.out _).mono ?_); rintro e w9 ⟨rfl, hb9⟩; have hB := below_trans hB hb9))
            | (go_at_call 17; ((with_reducible refine (D1.out _).mono ?_); rintro e w9 ⟨rfl, hb9⟩; have hB := below_trans hB hb9))
            | (go_at_call 17; ((with_reducible refine (D2.out _).mono ?_); rintro e w9 ⟨rfl, hb9⟩; have hB := below_trans hB hb9))
            | (go_at_call 17; ((with_reducible refine (D3.out _).mono ?_); rintro e w9 ⟨rfl, hb9⟩; have hB := below_trans hB hb9))
            | (go_at_call 17; ((with_reducible refine (D4.out _).mono ?_); rintro e w9 ⟨rfl, hb9⟩; have hB := below_trans hB hb9)))
          refine wp_loop_rounds 3 ?_
          rw [rounds_succ]
          go_wp2_with (first
            | (go_at_call 17; ((with_reducible refine (C1.out _).mono ?_); rintro e w9 ⟨rfl, hb9⟩; have hB := below_trans hB hb9))
            | (go_at_call 17; ((with_reducible refine (C2.out _).mono ?_); rintro e w9 ⟨rfl, hb9⟩; have hB := below_trans hB hb9))
            | (go_at_call 17; ((with_reducible refine (C3.out _).mono ?_); rintro e w9 ⟨rfl, hb9⟩; have hB := below_trans hB hb9))
            | (go_at_call 17; ((with_reducible refine (C4.out _).mono ?_); rintro e w9 ⟨rfl, hb9⟩; have hB := below_trans hB hb9))
            | (go_at_call 17; ((with_reducible refine (C5.out _).mono ?_); rintro e w9 ⟨rfl, hb9⟩; have hB := below_trans hB hb9))
            | (go_at_call 17; ((with_reducible refine (C6.out _).mono ?_); rintro e w9 ⟨rfl, hb9⟩; have hB := below_trans hB hb9))
            | (go_at_call 17; ((with_reducible refine (C7.out _).mono ?_); rintro e w9 ⟨rfl, hb9⟩; have hB := below_trans hB hb9))
            | (go_at_call 17; ((with_reducible refine (C8.out _).mono ?_); rintro e w9 ⟨rfl, hb9⟩; have hB := below_trans hB hb9))
            | (go_at_call 17; ((with_reducible refine (C9.out _).mono ?_); rintro e w9 ⟨rfl, hb9⟩; have hB := below_trans hB hb9))
            | (go_at_call 17; ((with_reducible refine (C10.out _).mono ?_); rintro e w9 ⟨rfl, hb9⟩; have hB := below_trans hB hb9))
            | (go_at_call 17; ((with_reducible refine (C11.out _).mono ?_); rintro e w9 ⟨rfl, hb9⟩; have hB := below_trans hB hb9))
            | (go_at_call 17; ((with_reducible refine (C12.out _).mono ?_); rintro e w9 ⟨rfl, hb9⟩; have hB := below_trans hB hb9))
            | (go_at_call 17; ((with_reducible refine (C13.out _).mono ?_); rintro e w9 ⟨rfl, hb9⟩; have hB := below_trans hB hb9))
            | (go_at_call 17; ((with_reducible refine (D1.out _).mono ?_); rintro e w9 ⟨rfl, hb9⟩; have hB := below_trans hB hb9))
            | (go_at_call 17; ((with_reducible refine (D2.out _).mono ?_); rintro e w9 ⟨rfl, hb9⟩; have hB := below_trans hB hb9))
            | (go_at_call 17; ((with_reducible refine (D3.out _).mono ?_); rintro e w9 ⟨rfl, hb9⟩; have hB := below_trans hB hb9))
            | (go_at_call 17; ((with_reducible refine (D4.out _).mono ?_); rintro e w9 ⟨rfl, hb9⟩; have hB := below_trans hB hb9)))
          rw [rounds_succ]
          go_wp2_with (first
            | (go_at_call 17; ((with_reducible refine (C1.out _).mono ?_); rintro e w9 ⟨rfl, hb9⟩; have hB := below_trans hB hb9))
            | (go_at_call 17; ((with_reducible refine (C2.out _).mono ?_); rintro e w9 ⟨rfl, hb9⟩; have hB := below_trans hB hb9))
            | (go_at_call 17; ((with_reducible refine (C3.out _).mono ?_); rintro e w9 ⟨rfl, hb9⟩; have hB := below_trans hB hb9))
            | (go_at_call 17; ((with_reducible refine (C4.out _).mono ?_); rintro e w9 ⟨rfl, hb9⟩; have hB := below_trans hB hb9))
            | (go_at_call 17; ((with_reducible refine (C5.out _).mono ?_); rintro e w9 ⟨rfl, hb9⟩; have hB := below_trans hB hb9))
            | (go_at_call 17; ((with_reducible refine (C6.out _).mono ?_); rintro e w9 ⟨rfl, hb9⟩; have hB := below_trans hB hb9))
            | (go_at_call 17; ((with_reducible refine (C7.out _).mono ?_); rintro e w9 ⟨rfl, hb9⟩; have hB := below_trans hB hb9))
            | (go_at_call 17; ((with_reducible refine (C8.out _).mono ?_); rintro e w9 ⟨rfl, hb9⟩; have hB := below_trans hB hb9))
            | (go_at_call 17; ((with_reducible refine (C9.out _).mono ?_); rintro e w9 ⟨rfl, hb9⟩; have hB := below_trans hB hb9))
            | (go_at_call 17; ((with_reducible refine (C10.out _).mono ?_); rintro e w9 ⟨rfl, hb9⟩; have hB := below_trans hB hb9))
            | (go_at_call 17; ((with_reducible refine (C11.out _).mono ?_); rintro e w9 ⟨rfl, hb9⟩; have hB := below_trans hB hb9))
            | (go_at_call 17; ((with_reducible refine (C12.out _).mono ?_); rintro e w9 ⟨rfl, hb9⟩; have hB := below_trans hB hb9))
            | (go_at_call 17; ((with_reducible refine (C13.out _).mono ?_); rintro e w9 ⟨rfl, hb9⟩; have hB := below_trans hB hb9))
            | (go_at_call 17; ((with_reducible refine (D1.out _).mono ?_); rintro e w9 ⟨rfl, hb9⟩; have hB := below_trans hB hb9))
            | (go_at_call 17; ((with_reducible refine (D2.out _).mono ?_); rintro e w9 ⟨rfl, hb9⟩; have hB := below_trans hB hb9))
            | (go_at_call 17; ((with_reducible refine (D3.out _).mono ?_); rintro e w9 ⟨rfl, hb9⟩; have hB := below_trans hB hb9))
            | (go_at_call 17; ((with_reducible refine (D4.out _).mono ?_); rintro e w9 ⟨rfl, hb9⟩; have hB := below_trans hB hb9)))
          rw [rounds_succ]
          go_wp2_with (first
            | (go_at_call 17; ((with_reducible refine (C1.out _).mono ?_); rintro e w9 ⟨rfl, hb9⟩; have hB := below_trans hB hb9))
            | (go_at_call 17; ((with_reducible refine (C2.out _).mono ?_); rintro e w9 ⟨rfl, hb9⟩; have hB := below_trans hB hb9))
            | (go_at_call 17; ((with_reducible refine (C3.out _).mono ?_); rintro e w9 ⟨rfl, hb9⟩; have hB := below_trans hB hb9))
            | (go_at_call 17; ((with_reducible refine (C4.out _).mono ?_); rintro e w9 ⟨rfl, hb9⟩; have hB := below_trans hB hb9))
            | (go_at_call 17; ((with_reducible refine (C5.out _).mono ?_); rintro e w9 ⟨rfl, hb9⟩; have hB := below_trans hB hb9))
            | (go_at_call 17; ((with_reducible refine (C6.out _).mono ?_); rintro e w9 ⟨rfl, hb9⟩; have hB := below_trans hB hb9))
            | (go_at_call 17; ((with_reducible refine (C7.out _).mono ?_); rintro e w9 ⟨rfl, hb9⟩; have hB := below_trans hB hb9))
            | (go_at_call 17; ((with_reducible refine (C8.out _).mono ?_); rintro e w9 ⟨rfl, hb9⟩; have hB := below_trans hB hb9))
            | (go_at_call 17; ((with_reducible refine (C9.out _).mono ?_); rintro e w9 ⟨rfl, hb9⟩; have hB := below_trans hB hb9))
            | (go_at_call 17; ((with_reducible refine (C10.out _).mono ?_); rintro e w9 ⟨rfl, hb9⟩; have hB := below_trans hB hb9))
            | (go_at_call 17; ((with_reducible refine (C11.out _).mono ?_); rintro e w9 ⟨rfl, hb9⟩; have hB := below_trans hB hb9))
            | (go_at_call 17; ((with_reducible refine (C12.out _).mono ?_); rintro e w9 ⟨rfl, hb9⟩; have hB := below_trans hB hb9))
            | (go_at_call 17; ((with_reducible refine (C13.out _).mono ?_); rintro e w9 ⟨rfl, hb9⟩; have hB := below_trans hB hb9))
            | (go_at_call 17; ((with_reducible refine (D1.out _).mono ?_); rintro e w9 ⟨rfl, hb9⟩; have hB := below_trans hB hb9))
            | (go_at_call 17; ((with_reducible refine (D2.out _).mono ?_); rintro e w9 ⟨rfl, hb9⟩; have hB := below_trans hB hb9))
            | (go_at_call 17; ((with_reducible refine (D3.out _).mono ?_); rintro e w9 ⟨rfl, hb9⟩; have hB := below_trans hB hb9))
            | (go_at_call 17; ((with_reducible refine (D4.out _).mono ?_); rintro e w9 ⟨rfl, hb9⟩; have hB := below_trans hB hb9)))
          obtain ⟨m1, k1, j1⟩ := mix a a (lt_64 (w := 64) (by decide) K.out.1) (lt_64 (w := 64) (by decide) K.out.1)
          obtain ⟨m2, k2, j2⟩ := mix b c (lt_64 (w := 64) (by decide) K.out.2.1) (lt_64 (w := 64) (by decide) K.out.2.2)
          obtain ⟨m3, k3, j3⟩ := mix c b (lt_64 (w := 64) (by decide) K.out.2.2) (lt_64 (w := 64) (by decide) K.out.2.1)
          have J : Hid (m1 < 18446744073709551616 ∧ m2 < 18446744073709551616 ∧ m3 < 18446744073709551616) := ⟨j1, j2, j3⟩
          clear j1 j2 j3
          go_wp2
          go_roundw
          case rel => exact ⟨m1, m2, m3, 96, by first | rfl | rw [k1], by first | rfl | rw [k2], by first | rfl | rw [k3], rfl, J, by decide, hB⟩
          case measure => simp [intOf]
        · have t1 : ((z : Int) == 1) = false := by simp; exact fun h => hz1 (by omega)
          obtain ⟨i, hi⟩ : ∃ i, tw 23 64 a b = i := ⟨_, rfl⟩
          have li : i < 2 ^ 64 := by rw [← hi]; exact L 23 a b la lb
          obtain ⟨j, hj⟩ : ∃ j, tw 25 64 a b = j := ⟨_, rfl⟩
          have lj : j < 2 ^ 64 := by rw [← hj]; exact L 25 a b la lb
          obtain ⟨k, hk⟩ : ∃ k, tw 22 64 i b = k := ⟨_, rfl⟩
          have lk : k < 2 ^ 64 := by rw [← hk]; exact L 22 i b li lb
          have E1 := two_is (p := 23) (op := 109) (r := i) (.inr (by decide)) w64 la lb (hi)
          have E2 := two_is (p := 25) (op := 111) (r := j) (.inr (by decide)) w64 la lb (hj)
          have E3 := two_is (p := 22) (op := 108) (r := k) (.inr (by decide)) w64 li lb (hk)
          have E4 := two_is (p := 20) (op := 106) (r := a) (.inr (by decide)) w64 lk lj (by rw [← hk, ← hi, ← hj]; exact ring_divs la lb hb0 (by rw [hz]; exact hz1))
          clear L h0 hs ls hm lm hd ld hx lx he le hy ly hn ln hz lz la lb lc hf hg ht lf lg lt hi hj hk li lj lk hb0 hz1
          go_wp2_with (first
            | (go_at_call 17; ((with_reducible refine (C1.out _).mono ?_); rintro e w9 ⟨rfl, hb9⟩; have hB := below_trans hB hb9))
            | (go_at_call 17; ((with_reducible refine (C2.out _).mono ?_); rintro e w9 ⟨rfl, hb9⟩; have hB := below_trans hB hb9))
            | (go_at_call 17; ((with_reducible refine (C3.out _).mono ?_); rintro e w9 ⟨rfl, hb9⟩; have hB := below_trans hB hb9))
            | (go_at_call 17; ((with_reducible refine (C4.out _).mono ?_); rintro e w9 ⟨rfl, hb9⟩; have hB := below_trans hB hb9))
            | (go_at_call 17; ((with_reducible refine (C5.out _).mono ?_); rintro e w9 ⟨rfl, hb9⟩; have hB := below_trans hB hb9))
            | (go_at_call 17; ((with_reducible refine (C6.out _).mono ?_); rintro e w9 ⟨rfl, hb9⟩; have hB := below_trans hB hb9))
            | (go_at_call 17; ((with_reducible refine (C7.out _).mono ?_); rintro e w9 ⟨rfl, hb9⟩; have hB := below_trans hB hb9))
            | (go_at_call 17; ((with_reducible refine (C8.out _).mono ?_); rintro e w9 ⟨rfl, hb9⟩; have hB := below_trans hB hb9))
            | (go_at_call 17; ((with_reducible refine (C9.out _).mono ?_); rintro e w9 ⟨rfl, hb9⟩; have hB := below_trans hB hb9))
            | (go_at_call 17; ((with_reducible refine (C10.out _).mono ?_); rintro e w9 ⟨rfl, hb9⟩; have hB := below_trans hB hb9))
            | (go_at_call 17; ((with_reducible refine (C11.out _).mono ?_); rintro e w9 ⟨rfl, hb9⟩; have hB := below_trans hB hb9))
            | (go_at_call 17; ((with_reducible refine (C12.out _).mono ?_); rintro e w9 ⟨rfl, hb9⟩; have hB := below_trans hB hb9))
            | (go_at_call 17; ((with_reducible refine (C13.out _).mono ?_); rintro e w9 ⟨rfl, hb9⟩; have hB := below_trans hB hb9))
            | (go_at_call 17; ((with_reducible refine (D1.out _).mono ?_); rintro e w9 ⟨rfl, hb9⟩; have hB := below_trans hB hb9))
            | (go_at_call 17; ((with_reducible refine (D2.out _).mono ?_); rintro e w9 ⟨rfl, hb9⟩; have hB := below_trans hB hb9))
            | (go_at_call 17; ((with_reducible refine (D3.out _).mono ?_); rintro e w9 ⟨rfl, hb9⟩; have hB := below_trans hB hb9))
            | (go_at_call 17; ((with_reducible refine (D4.out _).mono ?_); rintro e w9 ⟨rfl, hb9⟩; have hB := below_trans hB hb9))
            | (go_at_call 17; ((with_reducible refine (E1.out _).mono ?_); rintro e w9 ⟨rfl, hb9⟩; have hB := below_trans hB hb9))
            | (go_at_call 17; ((with_reducible refine (E2.out _).mono ?_); rintro e w9 ⟨rfl, hb9⟩; have hB := below_trans hB hb9))
            | (go_at_call 17; ((with_reducible refine (E3.out _).mono ?_); rintro e w9 ⟨rfl, hb9⟩; have hB := below_trans hB hb9))
            | (go_at_call 17; ((with_reducible refine (E4.out _).mono ?_); rintro e w9 ⟨rfl, hb9⟩; have hB := below_trans hB hb9)))
          refine wp_loop_rounds 3 ?_
          rw [rounds_succ]
          go_wp2_with (first
            | (go_at_call 17; ((with_reducible refine (C1.out _).mono ?_); rintro e w9 ⟨rfl, hb9⟩; have hB := below_trans hB hb9))
            | (go_at_call 17; ((with_reducible refine (C2.out _).mono ?_); rintro e w9 ⟨rfl, hb9⟩; have hB := below_trans hB hb9))
            | (go_at_call 17; ((with_reducible refine (C3.out _).mono ?_); rintro e w9 ⟨rfl, hb9⟩; have hB := below_trans hB hb9))
            | (go_at_call 17; ((with_reducible refine (C4.out _).mono ?_); rintro e w9 ⟨rfl, hb9⟩; have hB := below_trans hB hb9))
            | (go_at_call 17; ((with_reducible refine (C5.out _).mono ?_); rintro e w9 ⟨rfl, hb9⟩; have hB := below_trans hB hb9))
            | (go_at_call 17; ((with_reducible refine (C6.out _).mono ?_); rintro e w9 ⟨rfl, hb9⟩; have hB := below_trans hB hb9))
            | (go_at_call 17; ((with_reducible refine (C7.out _).mono ?_); rintro e w9 ⟨rfl, hb9⟩; have hB := below_trans hB hb9))
            | (go_at_call 17; ((with_reducible refine (C8.out _).mono ?_); rintro e w9 ⟨rfl, hb9⟩; have hB := below_trans hB hb9))
            | (go_at_call 17; ((with_reducible refine (C9.out _).mono ?_); rintro e w9 ⟨rfl, hb9⟩; have hB := below_trans hB hb9))
            | (go_at_call 17; ((with_reducible refine (C10.out _).mono ?_); rintro e w9 ⟨rfl, hb9⟩; have hB := below_trans hB hb9))
            | (go_at_call 17; ((with_reducible refine (C11.out _).mono ?_); rintro e w9 ⟨rfl, hb9⟩; have hB := below_trans hB hb9))
            | (go_at_call 17; ((with_reducible refine (C12.out _).mono ?_); rintro e w9 ⟨rfl, hb9⟩; have hB := below_trans hB hb9))
            | (go_at_call 17; ((with_reducible refine (C13.out _).mono ?_); rintro e w9 ⟨rfl, hb9⟩; have hB := below_trans hB hb9))
            | (go_at_call 17; ((with_reducible refine (D1.out _).mono ?_); rintro e w9 ⟨rfl, hb9⟩; have hB := below_trans hB hb9))
            | (go_at_call 17; ((with_reducible refine (D2.out _).mono ?_); rintro e w9 ⟨rfl, hb9⟩; have hB := below_trans hB hb9))
            | (go_at_call 17; ((with_reducible refine (D3.out _).mono ?_); rintro e w9 ⟨rfl, hb9⟩; have hB := below_trans hB hb9))
            | (go_at_call 17; ((with_reducible refine (D4.out _).mono ?_); rintro e w9 ⟨rfl, hb9⟩; have hB := below_trans hB hb9))
            | (go_at_call 17; ((with_reducible refine (E1.out _).mono ?_); rintro e w9 ⟨rfl, hb9⟩; have hB := below_trans hB hb9))
            | (go_at_call 17; ((with_reducible refine (E2.out _).mono ?_); rintro e w9 ⟨rfl, hb9⟩; have hB := below_trans hB hb9))
            | (go_at_call 17; ((with_reducible refine (E3.out _).mono ?_); rintro e w9 ⟨rfl, hb9⟩; have hB := below_trans hB hb9))
            | (go_at_call 17; ((with_reducible refine (E4.out _).mono ?_); rintro e w9 ⟨rfl, hb9⟩; have hB := below_trans hB hb9)))
          rw [rounds_succ]
          go_wp2_with (first
            | (go_at_call 17; ((with_reducible refine (C1.out _).mono ?_); rintro e w9 ⟨rfl, hb9⟩; have hB := below_trans hB hb9))
            | (go_at_call 17; ((with_reducible refine (C2.out _).mono ?_); rintro e w9 ⟨rfl, hb9⟩; have hB := below_trans hB hb9))
            | (go_at_call 17; ((with_reducible refine (C3.out _).mono ?_); rintro e w9 ⟨rfl, hb9⟩; have hB := below_trans hB hb9))
            | (go_at_call 17; ((with_reducible refine (C4.out _).mono ?_); rintro e w9 ⟨rfl, hb9⟩; have hB := below_trans hB hb9))
            | (go_at_call 17; ((with_reducible refine (C5.out _).mono ?_); rintro e w9 ⟨rfl, hb9⟩; have hB := below_trans hB hb9))
            | (go_at_call 17; ((with_reducible refine (C6.out _).mono ?_); rintro e w9 ⟨rfl, hb9⟩; have hB := below_trans hB hb9))
            | (go_at_call 17; ((with_reducible refine (C7.out _).mono ?_); rintro e w9 ⟨rfl, hb9⟩; have hB := below_trans hB hb9))
            | (go_at_call 17; ((with_reducible refine (C8.out _).mono ?_); rintro e w9 ⟨rfl, hb9⟩; have hB := below_trans hB hb9))
            | (go_at_call 17; ((with_reducible refine (C9.out _).mono ?_); rintro e w9 ⟨rfl, hb9⟩; have hB := below_trans hB hb9))
            | (go_at_call 17; ((with_reducible refine (C10.out _).mono ?_); rintro e w9 ⟨rfl, hb9⟩; have hB := below_trans hB hb9))
            | (go_at_call 17; ((with_reducible refine (C11.out _).mono ?_); rintro e w9 ⟨rfl, hb9⟩; have hB := below_trans hB hb9))
            | (go_at_call 17; ((with_reducible refine (C12.out _).mono ?_); rintro e w9 ⟨rfl, hb9⟩; have hB := below_trans hB hb9))
            | (go_at_call 17; ((with_reducible refine (C13.out _).mono ?_); rintro e w9 ⟨rfl, hb9⟩; have hB := below_trans hB hb9))
            | (go_at_call 17; ((with_reducible refine (D1.out _).mono ?_); rintro e w9 ⟨rfl, hb9⟩; have hB := below_trans hB hb9))
            | (go_at_call 17; ((with_reducible refine (D2.out _).mono ?_); rintro e w9 ⟨rfl, hb9⟩; have hB := below_trans hB hb9))
            | (go_at_call 17; ((with_reducible refine (D3.out _).mono ?_); rintro e w9 ⟨rfl, hb9⟩; have hB := below_trans hB hb9))
            | (go_at_call 17; ((with_reducible refine (D4.out _).mono ?_); rintro e w9 ⟨rfl, hb9⟩; have hB := below_trans hB hb9))
            | (go_at_call 17; ((with_reducible refine (E1.out _).mono ?_); rintro e w9 ⟨rfl, hb9⟩; have hB := below_trans hB hb9))
            | (go_at_call 17; ((with_reducible refine (E2.out _).mono ?_); rintro e w9 ⟨rfl, hb9⟩; have hB := below_trans hB hb9))
            | (go_at_call 17; ((with_reducible refine (E3.out _).mono ?_); rintro e w9 ⟨rfl, hb9⟩; have hB := below_trans hB hb9))
            | (go_at_call 17; ((with_reducible refine (E4.out _).mono ?_); rintro e w9 ⟨rfl, hb9⟩; have hB := below_trans hB hb9)))
          rw [rounds_succ]
          go_wp2_with (first
            | (go_at_call 17; ((with_reducible refine (C1.out _).mono ?_); rintro e w9 ⟨rfl, hb9⟩; have hB := below_trans hB hb9))
            | (go_at_call 17; ((with_reducible refine (C2.out _).mono ?_); rintro e w9 ⟨rfl, hb9⟩; have hB := below_trans hB hb9))
            | (go_at_call 17; ((with_reducible refine (C3.out _).mono ?_); rintro e w9 ⟨rfl, hb9⟩; have hB := below_trans hB hb9))
            | (go_at_call 17; ((with_reducible refine (C4.out _).mono ?_); rintro e w9 ⟨rfl, hb9⟩; have hB := below_trans hB hb9))
            | (go_at_call 17; ((with_reducible refine (C5.out _).mono ?_); rintro e w9 ⟨rfl, hb9⟩; have hB := below_trans hB hb9))
            | (go_at_call 17; ((with_reducible refine (C6.out _).mono ?_); rintro e w9 ⟨rfl, hb9⟩; have hB := below_trans hB hb9))
            | (go_at_call 17; ((with_reducible refine (C7.out _).mono ?_); rintro e w9 ⟨rfl, hb9⟩; have hB := below_trans hB hb9))
            | (go_at_call 17; ((with_reducible refine (C8.out _).mono ?_); rintro e w9 ⟨rfl, hb9⟩; have hB := below_trans hB hb9))
            | (go_at_call 17; ((with_reducible refine (C9.out _).mono ?_); rintro e w9 ⟨rfl, hb9⟩; have hB := below_trans hB hb9))
            | (go_at_call 17; ((with_reducible refine (C10.out _).mono ?_); rintro e w9 ⟨rfl, hb9⟩; have hB := below_trans hB hb9))
            | (go_at_call 17; ((with_reducible refine (C11.out _).mono ?_); rintro e w9 ⟨rfl, hb9⟩; have hB := below_trans hB hb9))
            | (go_at_call 17; ((with_reducible refine (C12.out _).mono ?_); rintro e w9 ⟨rfl, hb9⟩; have hB := below_trans hB hb9))
            | (go_at_call 17; ((with_reducible refine (C13.out _).mono ?_); rintro e w9 ⟨rfl, hb9⟩; have hB := below_trans hB hb9))
            | (go_at_call 17; ((with_reducible refine (D1.out _).mono ?_); rintro e w9 ⟨rfl, hb9⟩; have hB := below_trans hB hb9))
            | (go_at_call 17; ((with_reducible refine (D2.out _).mono ?_); rintro e w9 ⟨rfl, hb9⟩; have hB := below_trans hB hb9))
            | (go_at_call 17; ((with_reducible refine (D3.out _).mono ?_); rintro e w9 ⟨rfl, hb9⟩; have hB := below_trans hB hb9))
            | (go_at_call 17; ((with_reducible refine (D4.out _).mono ?_); rintro e w9 ⟨rfl, hb9⟩; have hB := below_trans hB hb9))
            | (go_at_call 17; ((with_reducible refine (E1.out _).mono ?_); rintro e w9 ⟨rfl, hb9⟩; have hB := below_trans hB hb9))
            | (go_at_call 17; ((with_reducible refine (E2.out _).mono ?_); rintro e w9 ⟨rfl, hb9⟩; have hB := below_trans hB hb9))
            | (go_at_call 17; ((with_reducible refine (E3.out _).mono ?_); rintro e w9 ⟨rfl, hb9⟩; have hB := below_trans hB hb9))
            | (go_at_call 17; ((with_reducible refine (E4.out _).mono ?_); rintro e w9 ⟨rfl, hb9⟩; have hB := below_trans hB hb9)))
          obtain ⟨m1, k1, j1⟩ := mix a a (lt_64 (w := 64) (by decide) K.out.1) (lt_64 (w := 64) (by decide) K.out.1)
          obtain ⟨m2, k2, j2⟩ := mix b c (lt_64 (w := 64) (by decide) K.out.2.1) (lt_64 (w := 64) (by decide) K.out.2.2)
          obtain ⟨m3, k3, j3⟩ := mix c b (lt_64 (w := 64) (by decide) K.out.2.2) (lt_64 (w := 64) (by decide) K.out.2.1)
          have J : Hid (m1 < 18446744073709551616 ∧ m2 < 18446744073709551616 ∧ m3 < 18446744073709551616) := ⟨j1, j2, j3⟩
          clear j1 j2 j3
          go_wp2
          go_roundw
          case rel => exact ⟨m1, m2, m3, 96, by first | rfl | rw [k1], by first | rfl | rw [k2], by first | rfl | rw [k3], rfl, J, by decide, hB⟩
          case measure => simp [intOf]

    · go_wp2_with (go_at_call 14; ((with_reducible refine (HKn.out _ (HT.out _ hB)).mono ?_); rintro e w5 ⟨rfl, hb⟩; have hB := below_trans hB hb))
      go_ret
      exact ⟨rfl, hB⟩
end Go.Proofs.YtnhnbcjffnlicaaDoor

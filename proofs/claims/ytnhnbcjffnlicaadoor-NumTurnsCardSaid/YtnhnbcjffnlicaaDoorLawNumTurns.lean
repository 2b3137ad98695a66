/-
  The walk of the statement NumTurns.
-/
import Derived.Test.YtnhnbcjffnlicaaDoorNumLw
import Derived.Test.YtnhnbcjffnlicaaDoorNumTn
import Derived.Test.YtnhnbcjffnlicaaDoorNumLo
namespace Go.Proofs.YtnhnbcjffnlicaaDoor
open Go.RowKit Num
set_option linter.unusedVariables false
set_option maxRecDepth 100000 in
set_option maxHeartbeats 20000000 in
theorem NumTurns_walk (w : World) (hT : Tab w) (a0 : Int) (wf0 : (Lit.int .u64 a0).wf = true) (a1 : Int) (wf1 : (Lit.int .u64 a1).wf = true) :
    Calls Tryd.prog 6 #[.int .u64 a0, .int .u64 a1] w fun e w' => e = .returned (.bool true) ∧ Below w.heap.size w w' := by
  obtain ⟨p0, p1⟩ := u64_wf wf0
  obtain ⟨q0, q1⟩ := u64_wf wf1
  obtain ⟨a, rfl⟩ := Int.eq_ofNat_of_zero_le p0
  obtain ⟨b, rfl⟩ := Int.eq_ofNat_of_zero_le q0
  have HN : Hid (a < 18446744073709551616 ∧ b < 18446744073709551616) := by rw [Hid]; omega
  have HT := Lib.hid (fun W' (hb : Below w.heap.size w W') => hT.below hb)
  have HKn := Lib.hid known3_any
  clear wf0 wf1 p0 p1 q0 q1 hT
  go_enter Tryd.func6, Tryd.ntmps6
  go_wp2
  go_loopw [5] (fun v wr => ∃ (u : Int), v = .int .i64 u ∧ (u = 32 ∨ u = 64 ∨ u = 96) ∧ Below w.heap.size w wr) (fun v _ => 96 - (intOf v).toNat)
  case atStart => exact ⟨32, rfl, .inl rfl, Below.refl _ _⟩
  case round =>
    obtain ⟨u, rfl, hu, hB⟩ := hrel
    rcases hu with rfl | rfl | rfl
    · obtain ⟨x, hx⟩ : ∃ x, a / 4294967296 = x := ⟨_, rfl⟩
      obtain ⟨y, hy⟩ : ∃ y, b / 4294967296 = y := ⟨_, rfl⟩
      have ra : (a : Int) / 4294967296 = (x : Int) := by omega
      have rb : (b : Int) / 4294967296 = (y : Int) := by omega
      have lx : x < 2 ^ 32 := by have := HN.out; omega
      have ly : y < 2 ^ 32 := by have := HN.out; omega
      clear hx hy
      have L := fun (p x y : Nat) (hx : x < 2 ^ 32) (hy : y < 2 ^ 32) => tw_lt p 32 x y (by decide) hx hy
      have h0 : (0 : Nat) < 2 ^ 32 := by decide
      have h1 : (1 : Nat) < 2 ^ 32 := by decide
      obtain ⟨t, ht⟩ : ∃ t, tw 33 32 x y = t := ⟨_, rfl⟩
      have lt : t < 2 ^ 32 := by rw [← ht]; exact L 33 x y lx ly
      have P1 := two_is (p := 33) (op := 119) (r := t) (.inr (by decide)) w32 lx ly (ht)
      have P2 := two_is (p := 34) (op := 120) (r := x) (.inr (by decide)) w32 lt ly (by rw [← ht]; exact turn_back (by decide) lx)
      obtain ⟨n, hn⟩ : ∃ n, pop 64 x = n := ⟨_, rfl⟩
      have O1 := one_is (p := 3) (w := 32) (t := 32) (op := 105) (r := n) (.inr (.inr (.inr ⟨rfl, rfl, rfl⟩))) w32 lt (by rw [← hn, ← ht]; exact turn_ones (by decide) (by decide) lx)
      have O2 := one_is (p := 3) (w := 32) (t := 32) (op := 105) (r := n) (.inr (.inr (.inr ⟨rfl, rfl, rfl⟩))) w32 lx (hn)
      obtain ⟨u, hu⟩ : ∃ u, tw 30 32 x y = u := ⟨_, rfl⟩
      have lu : u < 2 ^ 32 := by rw [← hu]; exact L 30 x y lx ly
      have P3 := two_is (p := 30) (op := 116) (r := u) (.inr (by decide)) w32 lx ly (hu)
      obtain ⟨z, hz⟩ : ∃ z, tw 21 32 0 y = z := ⟨_, rfl⟩
      have lz : z < 2 ^ 32 := by rw [← hz]; exact L 21 0 y h0 ly
      have P4z := two_is (p := 21) (op := 107) (r := z) (.inr (by decide)) w32 h0 ly (hz)
      have P4 : Hid (∀ W : World, Calls Tryd.prog 17 #[.int .i64 32, .int .i64 107, .int .u64 0, .int .u64 y] W (Out z W)) := P4z
      clear P4z
      obtain ⟨s, hs⟩ : ∃ s, tw 32 32 x z = s := ⟨_, rfl⟩
      have ls : s < 2 ^ 32 := by rw [← hs]; exact L 32 x z lx lz
      have P5 := two_is (p := 32) (op := 118) (r := s) (.inr (by decide)) w32 lx lz (hs)
      obtain ⟨q, hq⟩ : ∃ q, tw 28 32 u s = q := ⟨_, rfl⟩
      have lq : q < 2 ^ 32 := by rw [← hq]; exact L 28 u s lu ls
      have P6 := two_is (p := 28) (op := 114) (r := q) (.inr (by decide)) w32 lu ls (hq)
      obtain ⟨e, he⟩ : ∃ e, tw 10 32 x y = e := ⟨_, rfl⟩
      have le : e < 2 ^ 32 := by rw [← he]; exact L 10 x y lx ly
      have Qe := two_is (p := 10) (op := 70) (r := e) (.inl (by decide)) w32 lx ly (he)
      obtain ⟨f, hf⟩ : ∃ f, tw 12 32 x y = f := ⟨_, rfl⟩
      have lf : f < 2 ^ 32 := by rw [← hf]; exact L 12 x y lx ly
      have Qf := two_is (p := 12) (op := 72) (r := f) (.inl (by decide)) w32 lx ly (hf)
      obtain ⟨g, hg⟩ : ∃ g, tw 14 32 x y = g := ⟨_, rfl⟩
      have lg : g < 2 ^ 32 := by rw [← hg]; exact L 14 x y lx ly
      have Qg := two_is (p := 14) (op := 74) (r := g) (.inl (by decide)) w32 lx ly (hg)
      obtain ⟨i, hi⟩ : ∃ i, tw 13 32 x y = i := ⟨_, rfl⟩
      have li : i < 2 ^ 32 := by rw [← hi]; exact L 13 x y lx ly
      have Qi := two_is (p := 13) (op := 73) (r := i) (.inl (by decide)) w32 lx ly (hi)
      obtain ⟨j, hj⟩ : ∃ j, tw 15 32 x y = j := ⟨_, rfl⟩
      have lj : j < 2 ^ 32 := by rw [← hj]; exact L 15 x y lx ly
      have Qj := two_is (p := 15) (op := 75) (r := j) (.inl (by decide)) w32 lx ly (hj)
      obtain ⟨k, hk⟩ : ∃ k, tw 16 32 x y = k := ⟨_, rfl⟩
      have lk : k < 2 ^ 32 := by rw [← hk]; exact L 16 x y lx ly
      have Qk := two_is (p := 16) (op := 76) (r := k) (.inl (by decide)) w32 lx ly (hk)
      obtain ⟨l, hl⟩ : ∃ l, tw 17 32 x y = l := ⟨_, rfl⟩
      have ll : l < 2 ^ 32 := by rw [← hl]; exact L 17 x y lx ly
      have Ql := two_is (p := 17) (op := 77) (r := l) (.inl (by decide)) w32 lx ly (hl)
      obtain ⟨m, hm⟩ : ∃ m, tw 18 32 x y = m := ⟨_, rfl⟩
      have lm : m < 2 ^ 32 := by rw [← hm]; exact L 18 x y lx ly
      have Qm := two_is (p := 18) (op := 78) (r := m) (.inl (by decide)) w32 lx ly (hm)
      obtain ⟨o, ho⟩ : ∃ o, tw 19 32 x y = o := ⟨_, rfl⟩
      have lo : o < 2 ^ 32 := by rw [← ho]; exact L 19 x y lx ly
      have Qo := two_is (p := 19) (op := 79) (r := o) (.inl (by decide)) w32 lx ly (ho)
      obtain ⟨d, hd⟩ : ∃ d, tw 11 32 x y = d := ⟨_, rfl⟩
      have ld : d < 2 ^ 32 := by rw [← hd]; exact L 11 x y lx ly
      have Qd := two_is (p := 11) (op := 71) (r := d) (.inl (by decide)) w32 lx ly (hd)
      obtain ⟨v, hv⟩ : ∃ v, tw 10 32 x 0 = v := ⟨_, rfl⟩
      have P7z := two_is (p := 10) (op := 70) (r := v) (.inl (by decide)) w32 lx h0 (hv)
      have P7 : Hid (∀ W : World, Calls Tryd.prog 17 #[.int .i64 32, .int .i64 70, .int .u64 x, .int .u64 0] W (Out v W)) := P7z
      clear P7z
      have O3 := one_is (p := 0) (w := 32) (t := 32) (op := 69) (r := v) (.inl (by decide)) w32 lx (by rw [← hv]; exact eq_zero)
      obtain ⟨r1, hr1⟩ : ∃ r1, ov 1 x 32 32 = r1 := ⟨_, rfl⟩
      obtain ⟨r2, hr2⟩ : ∃ r2, ov 2 x 32 32 = r2 := ⟨_, rfl⟩
      have O4 := one_is (p := 1) (w := 32) (t := 32) (op := 103) (r := r1) (.inr (.inl ⟨rfl, rfl, rfl⟩)) w32 lx (hr1)
      have O5 := one_is (p := 2) (w := 32) (t := 32) (op := 104) (r := r2) (.inr (.inr (.inl ⟨rfl, rfl, rfl⟩))) w32 lx (hr2)
      have E1 : (e : Int) + (f : Int) + (g : Int) = 1 := by have := tri_signed (w := 32) (by decide) lx ly; omega
      have E2 : (e : Int) + (i : Int) + (j : Int) = 1 := by have := tri_unsigned (w := 32) (x := x) (y := y); omega
      have E3 : (k : Int) + (g : Int) = 1 := by have := two_le_s (w := 32) (x := x) (y := y); omega
      have E4 : (l : Int) + (j : Int) = 1 := by have := two_le_u (w := 32) (x := x) (y := y); omega
      have E5 : (m : Int) + (f : Int) = 1 := by have := two_ge_s (w := 32) (x := x) (y := y); omega
      have E6 : (o : Int) + (i : Int) = 1 := by have := two_ge_u (w := 32) (x := x) (y := y); omega
      have E7 : (d : Int) + (e : Int) = 1 := by have := two_ne (w := 32) (x := x) (y := y); omega
      have B1 : (e : Int) ≤ 1 := by omega
      have B2 : (f : Int) ≤ 1 := by omega
      have B3 : (g : Int) ≤ 1 := by omega
      have B4 : (i : Int) ≤ 1 := by omega
      have B5 : (j : Int) ≤ 1 := by omega
      have B6 : (k : Int) ≤ 1 := by omega
      have B7 : (l : Int) ≤ 1 := by omega
      have B8 : (m : Int) ≤ 1 := by omega
      have B9 : (o : Int) ≤ 1 := by omega
      have B10 : (d : Int) ≤ 1 := by omega
      have B11 : (r1 : Int) ≤ 64 := by rw [← hr1]; show ((32 - Lib.bitLen x : Nat) : Int) ≤ 64; omega
      have B12 : (r2 : Int) ≤ 64 := by rw [← hr2]; have := trail_le 32 x (by decide) lx; show (((if x = 0 then 32 else Lib.ctz 64 x) : Nat) : Int) ≤ 64; omega
      have B13 : (n : Int) ≤ 64 := by rw [← hn]; have := pop_le64 x; omega
      obtain ⟨y1, hy1⟩ : ∃ y1, y % 32 = y1 := ⟨_, rfl⟩
      have ry : (y : Int) % 32 = (y1 : Int) := by omega
      have hqt : y1 ≠ 0 → q = t := fun h => by rw [← hq, ← hu, ← hs, ← hz, ← ht]; exact turn_parts (by decide) (by decide) ly (by omega)
      have hcs : x ≠ 0 → r1 + r2 + n ≤ 32 := fun h => by rw [← hr1, ← hr2, ← hn]; exact counts (by decide) lx h
      have hcz : x = 0 → 32 < r1 + r2 + n := fun h => by subst h; rw [← hr1, ← hr2, ← hn]; decide
      have hqc : q = t ∨ (q ≠ t ∧ y1 = 0) := by
        by_cases h : q = t
        · exact .inl h
        · exact .inr ⟨h, by by_cases h1 : y1 = 0 <;> first | exact h1 | exact absurd (hqt h1) h⟩
      have hxc : (x ≠ 0 ∧ r1 + r2 + n ≤ 32) ∨ (x = 0 ∧ 32 < r1 + r2 + n) := by
        by_cases h : x = 0
        · exact .inr ⟨h, hcz h⟩
        · exact .inl ⟨h, hcs h⟩
      clear L h0 h1 ht lt hu lu hz lz hs ls hq lq he le hf lf hg lg hi li hj lj hk lk hl ll hm lm ho lo hd ld hn hv hr1 hr2 lx ly hy1 hqt hcs hcz
      rcases hqc with hqc | ⟨hqc, hy0⟩ <;> rcases hxc with ⟨hx0, hx1⟩ | ⟨hx0, hx1⟩
      · have T1 : ((q : Int) != (t : Int)) = false := by simp; omega
        clear hqc
        have T3 : ((x : Int) != 0) = true := by simp; omega
        have T4 : (r1 : Int) + (r2 : Int) + (n : Int) ≤ 32 := by omega
        clear hx0 hx1
        go_wp2_with (first
          | (go_at_call 17; ((with_reducible refine (P1.out _).mono ?_); rintro e w9 ⟨rfl, hb9⟩; have hB := below_trans hB hb9))
          | (go_at_call 17; ((with_reducible refine (P2.out _).mono ?_); rintro e w9 ⟨rfl, hb9⟩; have hB := below_trans hB hb9))
          | (go_at_call 17; ((with_reducible refine (P3.out _).mono ?_); rintro e w9 ⟨rfl, hb9⟩; have hB := below_trans hB hb9))
          | (go_at_call 17; ((with_reducible refine (P4.out _).mono ?_); rintro e w9 ⟨rfl, hb9⟩; have hB := below_trans hB hb9))
          | (go_at_call 17; ((with_reducible refine (P5.out _).mono ?_); rintro e w9 ⟨rfl, hb9⟩; have hB := below_trans hB hb9))
          | (go_at_call 17; ((with_reducible refine (P6.out _).mono ?_); rintro e w9 ⟨rfl, hb9⟩; have hB := below_trans hB hb9))
          | (go_at_call 17; ((with_reducible refine (Qe.out _).mono ?_); rintro e w9 ⟨rfl, hb9⟩; have hB := below_trans hB hb9))
          | (go_at_call 17; ((with_reducible refine (Qf.out _).mono ?_); rintro e w9 ⟨rfl, hb9⟩; have hB := below_trans hB hb9))
          | (go_at_call 17; ((with_reducible refine (Qg.out _).mono ?_); rintro e w9 ⟨rfl, hb9⟩; have hB := below_trans hB hb9))
          | (go_at_call 17; ((with_reducible refine (Qi.out _).mono ?_); rintro e w9 ⟨rfl, hb9⟩; have hB := below_trans hB hb9))
          | (go_at_call 17; ((with_reducible refine (Qj.out _).mono ?_); rintro e w9 ⟨rfl, hb9⟩; have hB := below_trans hB hb9))
          | (go_at_call 17; ((with_reducible refine (Qk.out _).mono ?_); rintro e w9 ⟨rfl, hb9⟩; have hB := below_trans hB hb9))
          | (go_at_call 17; ((with_reducible refine (Ql.out _).mono ?_); rintro e w9 ⟨rfl, hb9⟩; have hB := below_trans hB hb9))
          | (go_at_call 17; ((with_reducible refine (Qm.out _).mono ?_); rintro e w9 ⟨rfl, hb9⟩; have hB := below_trans hB hb9))
          | (go_at_call 17; ((with_reducible refine (Qo.out _).mono ?_); rintro e w9 ⟨rfl, hb9⟩; have hB := below_trans hB hb9))
          | (go_at_call 17; ((with_reducible refine (Qd.out _).mono ?_); rintro e w9 ⟨rfl, hb9⟩; have hB := below_trans hB hb9))
          | (go_at_call 17; ((with_reducible refine (P7.out _).mono ?_); rintro e w9 ⟨rfl, hb9⟩; have hB := below_trans hB hb9))
          | (go_at_call 18; ((with_reducible refine (O1.out _ (HT.out _ hB)).mono ?_); rintro e w9 ⟨rfl, hb9⟩; have hB := below_trans hB hb9))
          | (go_at_call 18; ((with_reducible refine (O2.out _ (HT.out _ hB)).mono ?_); rintro e w9 ⟨rfl, hb9⟩; have hB := below_trans hB hb9))
          | (go_at_call 18; ((with_reducible refine (O3.out _ (HT.out _ hB)).mono ?_); rintro e w9 ⟨rfl, hb9⟩; have hB := below_trans hB hb9))
          | (go_at_call 18; ((with_reducible refine (O4.out _ (HT.out _ hB)).mono ?_); rintro e w9 ⟨rfl, hb9⟩; have hB := below_trans hB hb9))
          | (go_at_call 18; ((with_reducible refine (O5.out _ (HT.out _ hB)).mono ?_); rintro e w9 ⟨rfl, hb9⟩; have hB := below_trans hB hb9)))
        refine wp_loop_rounds 3 ?_
        rw [rounds_succ]
        go_wp2_with (first
          | (go_at_call 17; ((with_reducible refine (P1.out _).mono ?_); rintro e w9 ⟨rfl, hb9⟩; have hB := below_trans hB hb9))
          | (go_at_call 17; ((with_reducible refine (P2.out _).mono ?_); rintro e w9 ⟨rfl, hb9⟩; have hB := below_trans hB hb9))
          | (go_at_call 17; ((with_reducible refine (P3.out _).mono ?_); rintro e w9 ⟨rfl, hb9⟩; have hB := below_trans hB hb9))
          | (go_at_call 17; ((with_reducible refine (P4.out _).mono ?_); rintro e w9 ⟨rfl, hb9⟩; have hB := below_trans hB hb9))
          | (go_at_call 17; ((with_reducible refine (P5.out _).mono ?_); rintro e w9 ⟨rfl, hb9⟩; have hB := below_trans hB hb9))
          | (go_at_call 17; ((with_reducible refine (P6.out _).mono ?_); rintro e w9 ⟨rfl, hb9⟩; have hB := below_trans hB hb9))
          | (go_at_call 17; ((with_reducible refine (Qe.out _).mono ?_); rintro e w9 ⟨rfl, hb9⟩; have hB := below_trans hB hb9))
          | (go_at_call 17; ((with_reducible refine (Qf.out _).mono ?_); rintro e w9 ⟨rfl, hb9⟩; have hB := below_trans hB hb9))
          | (go_at_call 17; ((with_reducible refine (Qg.out _).mono ?_); rintro e w9 ⟨rfl, hb9⟩; have hB := below_trans hB hb9))
          | (go_at_call 17; ((with_reducible refine (Qi.out _).mono ?_); rintro e w9 ⟨rfl, hb9⟩; have hB := below_trans hB hb9))
          | (go_at_call 17; ((with_reducible refine (Qj.out _).mono ?_); rintro e w9 ⟨rfl, hb9⟩; have hB := below_trans hB hb9))
          | (go_at_call 17; ((with_reducible refine (Qk.out _).mono ?_); rintro e w9 ⟨rfl, hb9⟩; have hB := below_trans hB hb9))
          | (go_at_call 17; ((with_reducible refine (Ql.out _).mono ?_); rintro e w9 ⟨rfl, hb9⟩; have hB := below_trans hB hb9))
          | (go_at_call 17; ((with_reducible refine (Qm.out _).mono ?_); rintro e w9 ⟨rfl, hb9⟩; have hB := below_trans hB hb9))
          | (go_at_call 17; ((with_reducible refine (Qo.out _).mono ?_); rintro e w9 ⟨rfl, hb9⟩; have hB := below_trans hB hb9))
          | (go_at_call 17; ((with_reducible refine (Qd.out _).mono ?_); rintro e w9 ⟨rfl, hb9⟩; have hB := below_trans hB hb9))
          | (go_at_call 17; ((with_reducible refine (P7.out _).mono ?_); rintro e w9 ⟨rfl, hb9⟩; have hB := below_trans hB hb9))
          | (go_at_call 18; ((with_reducible refine (O1.out _ (HT.out _ hB)).mono ?_); rintro e w9 ⟨rfl, hb9⟩; have hB := below_trans hB hb9))
          | (go_at_call 18; ((with_reducible refine (O2.out _ (HT.out _ hB)).mono ?_); rintro e w9 ⟨rfl, hb9⟩; have hB := below_trans hB hb9))
          | (go_at_call 18; ((with_reducible refine (O3.out _ (HT.out _ hB)).mono ?_); rintro e w9 ⟨rfl, hb9⟩; have hB := below_trans hB hb9))
          | (go_at_call 18; ((with_reducible refine (O4.out _ (HT.out _ hB)).mono ?_); rintro e w9 ⟨rfl, hb9⟩; have hB := below_trans hB hb9))
          | (go_at_call 18; ((with_reducible refine (O5.out _ (HT.out _ hB)).mono ?_); rintro e w9 ⟨rfl, hb9⟩; have hB := below_trans hB hb9)))
        rw [rounds_succ]
        go_wp2_with (first
          | (go_at_call 17; ((with_reducible refine (P1.out _).mono ?_); rintro e w9 ⟨rfl, hb9⟩; have hB := below_trans hB hb9))
          | (go_at_call 17; ((with_reducible refine (P2.out _).mono ?_); rintro e w9 ⟨rfl, hb9⟩; have hB := below_trans hB hb9))
          | (go_at_call 17; ((with_reducible refine (P3.out _).mono ?_); rintro e w9 ⟨rfl, hb9⟩; have hB := below_trans hB hb9))
          | (go_at_call 17; ((with_reducible refine (P4.out _).mono ?_); rintro e w9 ⟨rfl, hb9⟩; have hB := below_trans hB hb9))
          | (go_at_call 17; ((with_reducible refine (P5.out _).mono ?_); rintro e w9 ⟨rfl, hb9⟩; have hB := below_trans hB hb9))
          | (go_at_call 17; ((with_reducible refine (P6.out _).mono ?_); rintro e w9 ⟨rfl, hb9⟩; have hB := below_trans hB hb9))
          | (go_at_call 17; ((with_reducible refine (Qe.out _).mono ?_); rintro e w9 ⟨rfl, hb9⟩; have hB := below_trans hB hb9))
          | (go_at_call 17; ((with_reducible refine (Qf.out _).mono ?_); rintro e w9 ⟨rfl, hb9⟩; have hB := below_trans hB hb9))
          | (go_at_call 17; ((with_reducible refine (Qg.out _).mono ?_); rintro e w9 ⟨rfl, hb9⟩; have hB := below_trans hB hb9))
          | (go_at_call 17; ((with_reducible refine (Qi.out _).mono ?_); rintro e w9 ⟨rfl, hb9⟩; have hB := below_trans hB hb9))
          | (go_at_call 17; ((with_reducible refine (Qj.out _).mono ?_); rintro e w9 ⟨rfl, hb9⟩; have hB := below_trans hB hb9))
          | (go_at_call 17; ((with_reducible refine (Qk.out _).mono ?_); rintro e w9 ⟨rfl, hb9⟩; have hB := below_trans hB hb9))
          | (go_at_call 17; ((with_reducible refine (Ql.out _).mono ?_); rintro e w9 ⟨rfl, hb9⟩; have hB := below_trans hB hb9))
          | (go_at_call 17; ((with_reducible refine (Qm.out _).mono ?_); rintro e w9 ⟨rfl, hb9⟩; have hB := below_trans hB hb9))
          | (go_at_call 17; ((with_reducible refine (Qo.out _).mono ?_); rintro e w9 ⟨rfl, hb9⟩; have hB := below_trans hB hb9))
          | (go_at_call 17; ((with_reducible refine (Qd.out _).mono ?_); rintro e w9 ⟨rfl, hb9⟩; have hB := below_trans hB hb9))
          | (go_at_call 17; ((with_reducible refine (P7.out _).mono ?_); rintro e w9 ⟨rfl, hb9⟩; have hB := below_trans hB hb9))
          | (go_at_call 18; ((with_reducible refine (O1.out _ (HT.out _ hB)).mono ?_); rintro e w9 ⟨rfl, hb9⟩; have hB := below_trans hB hb9))
          | (go_at_call 18; ((with_reducible refine (O2.out _ (HT.out _ hB)).mono ?_); rintro e w9 ⟨rfl, hb9⟩; have hB := below_trans hB hb9))
          | (go_at_call 18; ((with_reducible refine (O3.out _ (HT.out _ hB)).mono ?_); rintro e w9 ⟨rfl, hb9⟩; have hB := below_trans hB hb9))
          | (go_at_call 18; ((with_reducible refine (O4.out _ (HT.out _ hB)).mono ?_); rintro e w9 ⟨rfl, hb9⟩; have hB := below_trans hB hb9))
          | (go_at_call 18; ((with_reducible refine (O5.out _ (HT.out _ hB)).mono ?_); rintro e w9 ⟨rfl, hb9⟩; have hB := below_trans hB hb9)))
        rw [rounds_succ]
        go_wp2_with (first
          | (go_at_call 17; ((with_reducible refine (P1.out _).mono ?_); rintro e w9 ⟨rfl, hb9⟩; have hB := below_trans hB hb9))
          | (go_at_call 17; ((with_reducible refine (P2.out _).mono ?_); rintro e w9 ⟨rfl, hb9⟩; have hB := below_trans hB hb9))
          | (go_at_call 17; ((with_reducible refine (P3.out _).mono ?_); rintro e w9 ⟨rfl, hb9⟩; have hB := below_trans hB hb9))
          | (go_at_call 17; ((with_reducible refine (P4.out _).mono ?_); rintro e w9 ⟨rfl, hb9⟩; have hB := below_trans hB hb9))
          | (go_at_call 17; ((with_reducible refine (P5.out _).mono ?_); rintro e w9 ⟨rfl, hb9⟩; have hB := below_trans hB hb9))
          | (go_at_call 17; ((with_reducible refine (P6.out _).mono ?_); rintro e w9 ⟨rfl, hb9⟩; have hB := below_trans hB hb9))
          | (go_at_call 17; ((with_reducible refine (Qe.out _).mono ?_); rintro e w9 ⟨rfl, hb9⟩; have hB := below_trans hB hb9))
          | (go_at_call 17; ((with_reducible refine (Qf.out _).mono ?_); rintro e w9 ⟨rfl, hb9⟩; have hB := below_trans hB hb9))
          | (go_at_call 17; ((with_reducible refine (Qg.out _).mono ?_); rintro e w9 ⟨rfl, hb9⟩; have hB := below_trans hB hb9))
          | (go_at_call 17; ((with_reducible refine (Qi.out _).mono ?_); rintro e w9 ⟨rfl, hb9⟩; have hB := below_trans hB hb9))
          | (go_at_call 17; ((with_reducible refine (Qj.out _).mono ?_); rintro e w9 ⟨rfl, hb9⟩; have hB := below_trans hB hb9))
          | (go_at_call 17; ((with_reducible refine (Qk.out _).mono ?_); rintro e w9 ⟨rfl, hb9⟩; have hB := below_trans hB hb9))
          | (go_at_call 17; ((with_reducible refine (Ql.out _).mono ?_); rintro e w9 ⟨rfl, hb9⟩; have hB := below_trans hB hb9))
          | (go_at_call 17; ((with_reducible refine (Qm.out _).mono ?_); rintro e w9 ⟨rfl, hb9⟩; have hB := below_trans hB hb9))
          | (go_at_call 17; ((with_reducible refine (Qo.out _).mono ?_); rintro e w9 ⟨rfl, hb9⟩; have hB := below_trans hB hb9))
          | (go_at_call 17; ((with_reducible refine (Qd.out _).mono ?_); rintro e w9 ⟨rfl, hb9⟩; have hB := below_trans hB hb9))
          | (go_at_call 17; ((with_reducible refine (P7.out _).mono ?_); rintro e w9 ⟨rfl, hb9⟩; have hB := below_trans hB hb9))
          | (go_at_call 18; ((with_reducible refine (O1.out _ (HT.out _ hB)).mono ?_); rintro e w9 ⟨rfl, hb9⟩; have hB := below_trans hB hb9))
          | (go_at_call 18; ((with_reducible refine (O2.out _ (HT.out _ hB)).mono ?_); rintro e w9 ⟨rfl, hb9⟩; have hB := below_trans hB hb9))
          | (go_at_call 18; ((with_reducible refine (O3.out _ (HT.out _ hB)).mono ?_); rintro e w9 ⟨rfl, hb9⟩; have hB := below_trans hB hb9))
          | (go_at_call 18; ((with_reducible refine (O4.out _ (HT.out _ hB)).mono ?_); rintro e w9 ⟨rfl, hb9⟩; have hB := below_trans hB hb9))
          | (go_at_call 18; ((with_reducible refine (O5.out _ (HT.out _ hB)).mono ?_); rintro e w9 ⟨rfl, hb9⟩; have hB := below_trans hB hb9)))
        go_roundw
        case rel => exact ⟨64, rfl, by decide, hB⟩
        case measure => simp [intOf]
      · have T1 : ((q : Int) != (t : Int)) = false := by simp; omega
        clear hqc
        have T3 : ((x : Int) != 0) = false := by simp; omega
        have T4 : 32 < (r1 : Int) + (r2 : Int) + (n : Int) := by omega
        clear hx0 hx1
        go_wp2_with (first
          | (go_at_call 17; ((with_reducible refine (P1.out _).mono ?_); rintro e w9 ⟨rfl, hb9⟩; have hB := below_trans hB hb9))
          | (go_at_call 17; ((with_reducible refine (P2.out _).mono ?_); rintro e w9 ⟨rfl, hb9⟩; have hB := below_trans hB hb9))
          | (go_at_call 17; ((with_reducible refine (P3.out _).mono ?_); rintro e w9 ⟨rfl, hb9⟩; have hB := below_trans hB hb9))
          | (go_at_call 17; ((with_reducible refine (P4.out _).mono ?_); rintro e w9 ⟨rfl, hb9⟩; have hB := below_trans hB hb9))
          | (go_at_call 17; ((with_reducible refine (P5.out _).mono ?_); rintro e w9 ⟨rfl, hb9⟩; have hB := below_trans hB hb9))
          | (go_at_call 17; ((with_reducible refine (P6.out _).mono ?_); rintro e w9 ⟨rfl, hb9⟩; have hB := below_trans hB hb9))
          | (go_at_call 17; ((with_reducible refine (Qe.out _).mono ?_); rintro e w9 ⟨rfl, hb9⟩; have hB := below_trans hB hb9))
          | (go_at_call 17; ((with_reducible refine (Qf.out _).mono ?_); rintro e w9 ⟨rfl, hb9⟩; have hB := below_trans hB hb9))
          | (go_at_call 17; ((with_reducible refine (Qg.out _).mono ?_); rintro e w9 ⟨rfl, hb9⟩; have hB := below_trans hB hb9))
          | (go_at_call 17; ((with_reducible refine (Qi.out _).mono ?_); rintro e w9 ⟨rfl, hb9⟩; have hB := below_trans hB hb9))
          | (go_at_call 17; ((with_reducible refine (Qj.out _).mono ?_); rintro e w9 ⟨rfl, hb9⟩; have hB := below_trans hB hb9))
          | (go_at_call 17; ((with_reducible refine (Qk.out _).mono ?_); rintro e w9 ⟨rfl, hb9⟩; have hB := below_trans hB hb9))
          | (go_at_call 17; ((with_reducible refine (Ql.out _).mono ?_); rintro e w9 ⟨rfl, hb9⟩; have hB := below_trans hB hb9))
          | (go_at_call 17; ((with_reducible refine (Qm.out _).mono ?_); rintro e w9 ⟨rfl, hb9⟩; have hB := below_trans hB hb9))
          | (go_at_call 17; ((with_reducible refine (Qo.out _).mono ?_); rintro e w9 ⟨rfl, hb9⟩; have hB := below_trans hB hb9))
          | (go_at_call 17; ((with_reducible refine (Qd.out _).mono ?_); rintro e w9 ⟨rfl, hb9⟩; have hB := below_trans hB hb9))
          | (go_at_call 17; ((with_reducible refine (P7.out _).mono ?_); rintro e w9 ⟨rfl, hb9⟩; have hB := below_trans hB hb9))
          | (go_at_call 18; ((with_reducible refine (O1.out _ (HT.out _ hB)).mono ?_); rintro e w9 ⟨rfl, hb9⟩; have hB := below_trans hB hb9))
          | (go_at_call 18; ((with_reducible refine (O2.out _ (HT.out _ hB)).mono ?_); rintro e w9 ⟨rfl, hb9⟩; have hB := below_trans hB hb9))
          | (go_at_call 18; ((with_reducible refine (O3.out _ (HT.out _ hB)).mono ?_); rintro e w9 ⟨rfl, hb9⟩; have hB := below_trans hB hb9))
          | (go_at_call 18; ((with_reducible refine (O4.out _ (HT.out _ hB)).mono ?_); rintro e w9 ⟨rfl, hb9⟩; have hB := below_trans hB hb9))
          | (go_at_call 18; ((with_reducible refine (O5.out _ (HT.out _ hB)).mono ?_); rintro e w9 ⟨rfl, hb9⟩; have hB := below_trans hB hb9)))
        refine wp_loop_rounds 3 ?_
        rw [rounds_succ]
        go_wp2_with (first
          | (go_at_call 17; ((with_reducible refine (P1.out _).mono ?_); rintro e w9 ⟨rfl, hb9⟩; have hB := below_trans hB hb9))
          | (go_at_call 17; ((with_reducible refine (P2.out _).mono ?_); rintro e w9 ⟨rfl, hb9⟩; have hB := below_trans hB hb9))
          | (go_at_call 17; ((with_reducible refine (P3.out _).mono ?_); rintro e w9 ⟨rfl, hb9⟩; have hB := below_trans hB hb9))
          | (go_at_call 17; ((with_reducible refine (P4.out _).mono ?_); rintro e w9 ⟨rfl, hb9⟩; have hB := below_trans hB hb9))
          | (go_at_call 17; ((with_reducible refine (P5.out _).mono ?_); rintro e w9 ⟨rfl, hb9⟩; have hB := below_trans hB hb9))
          | (go_at_call 17; ((with_reducible refine (P6.out _).mono ?_); rintro e w9 ⟨rfl, hb9⟩; have hB := below_trans hB hb9))
          | (go_at_call 17; ((with_reducible refine (Qe.out _).mono ?_); rintro e w9 ⟨rfl, hb9⟩; have hB := below_trans hB hb9))
          | (go_at_call 17; ((with_reducible refine (Qf.out _).mono ?_); rintro e w9 ⟨rfl, hb9⟩; have hB := below_trans hB hb9))
          | (go_at_call 17; ((with_reducible refine (Qg.out _).mono ?_); rintro e w9 ⟨rfl, hb9⟩; have hB := below_trans hB hb9))
          | (go_at_call 17; ((with_reducible refine (Qi.out _).mono ?_); rintro e w9 ⟨rfl, hb9⟩; have hB := below_trans hB hb9))
          | (go_at_call 17; ((with_reducible refine (Qj.out _).mono ?_); rintro e w9 ⟨rfl, hb9⟩; have hB := below_trans hB hb9))
          | (go_at_call 17; ((with_reducible refine (Qk.out _).mono ?_); rintro e w9 ⟨rfl, hb9⟩; have hB := below_trans hB hb9))
          | (go_at_call 17; ((with_reducible refine (Ql.out _).mono ?_); rintro e w9 ⟨rfl, hb9⟩; have hB := below_trans hB hb9))
          | (go_at_call 17; ((with_reducible refine (Qm.out _).mono ?_); rintro e w9 ⟨rfl, hb9⟩; have hB := below_trans hB hb9))
          | (go_at_call 17; ((with_reducible refine (Qo.out _).mono ?_); rintro e w9 ⟨rfl, hb9⟩; have hB := below_trans hB hb9))
          | (go_at_call 17; ((with_reducible refine (Qd.out _).mono ?_); rintro e w9 ⟨rfl, hb9⟩; have hB := below_trans hB hb9))
          | (go_at_call 17; ((with_reducible refine (P7.out _).mono ?_); rintro e w9 ⟨rfl, hb9⟩; have hB := below_trans hB hb9))
          | (go_at_call 18; ((with_reducible refine (O1.out _ (HT.out _ hB)).mono ?_); rintro e w9 ⟨rfl, hb9⟩; have hB := below_trans hB hb9))
          | (go_at_call 18; ((with_reducible refine (O2.out _ (HT.out _ hB)).mono ?_); rintro e w9 ⟨rfl, hb9⟩; have hB := below_trans hB hb9))
          | (go_at_call 18; ((with_reducible refine (O3.out _ (HT.out _ hB)).mono ?_); rintro e w9 ⟨rfl, hb9⟩; have hB := below_trans hB hb9))
          | (go_at_call 18; ((with_reducible refine (O4.out _ (HT.out _ hB)).mono ?_); rintro e w9 ⟨rfl, hb9⟩; have hB := below_trans hB hb9))
          | (go_at_call 18; ((with_reducible refine (O5.out _ (HT.out _ hB)).mono ?_); rintro e w9 ⟨rfl, hb9⟩; have hB := below_trans hB hb9)))
        rw [rounds_succ]
        go_wp2_with (first
          | (go_at_call 17; ((with_reducible refine (P1.out _).mono ?_); rintro e w9 ⟨rfl, hb9⟩; have hB := below_trans hB hb9))
          | (go_at_call 17; ((with_reducible refine (P2.out _).mono ?_); rintro e w9 ⟨rfl, hb9⟩; have hB := below_trans hB hb9))
          | (go_at_call 17; ((with_reducible refine (P3.out _).mono ?_); rintro e w9 ⟨rfl, hb9⟩; have hB := below_trans hB hb9))
          | (go_at_call 17; ((with_reducible refine (P4.out _).mono ?_); rintro e w9 ⟨rfl, hb9⟩; have hB := below_trans hB hb9))
          | (go_at_call 17; ((with_reducible refine (P5.out _).mono ?_); rintro e w9 ⟨rfl, hb9⟩; have hB := below_trans hB hb9))
          | (go_at_call 17; ((with_reducible refine (P6.out _).mono ?_); rintro e w9 ⟨rfl, hb9⟩; have hB := below_trans hB hb9))
          | (go_at_call 17; ((with_reducible refine (Qe.out _).mono ?_); rintro e w9 ⟨rfl, hb9⟩; have hB := below_trans hB hb9))
          | (go_at_call 17; ((with_reducible refine (Qf.out _).mono ?_); rintro e w9 ⟨rfl, hb9⟩; have hB := below_trans hB hb9))
          | (go_at_call 17; ((with_reducible refine (Qg.out _).mono ?_); rintro e w9 ⟨rfl, hb9⟩; have hB := below_trans hB hb9))
          | (go_at_call 17; ((with_reducible refine (Qi.out _).mono ?_); rintro e w9 ⟨rfl, hb9⟩; have hB := below_trans hB hb9))
          | (go_at_call 17; ((with_reducible refine (Qj.out _).mono ?_); rintro e w9 ⟨rfl, hb9⟩; have hB := below_trans hB hb9))
          | (go_at_call 17; ((with_reducible refine (Qk.out _).mono ?_); rintro e w9 ⟨rfl, hb9⟩; have hB := below_trans hB hb9))
          | (go_at_call 17; ((with_reducible refine (Ql.out _).mono ?_); rintro e w9 ⟨rfl, hb9⟩; have hB := below_trans hB hb9))
          | (go_at_call 17; ((with_reducible refine (Qm.out _).mono ?_); rintro e w9 ⟨rfl, hb9⟩; have hB := below_trans hB hb9))
          | (go_at_call 17; ((with_reducible refine (Qo.out _).mono ?_); rintro e w9 ⟨rfl, hb9⟩; have hB := below_trans hB hb9))
          | (go_at_call 17; ((with_reducible refine (Qd.out _).mono ?_); rintro e w9 ⟨rfl, hb9⟩; have hB := below_trans hB hb9))
          | (go_at_call 17; ((with_reducible refine (P7.out _).mono ?_); rintro e w9 ⟨rfl, hb9⟩; have hB := below_trans hB hb9))
          | (go_at_call 18; ((with_reducible refine (O1.out _ (HT.out _ hB)).mono ?_); rintro e w9 ⟨rfl, hb9⟩; have hB := below_trans hB hb9))
          | (go_at_call 18; ((with_reducible refine (O2.out _ (HT.out _ hB)).mono ?_); rintro e w9 ⟨rfl, hb9⟩; have hB := below_trans hB hb9))
          | (go_at_call 18; ((with_reducible refine (O3.out _ (HT.out _ hB)).mono ?_); rintro e w9 ⟨rfl, hb9⟩; have hB := below_trans hB hb9))
          | (go_at_call 18; ((with_reducible refine (O4.out _ (HT.out _ hB)).mono ?_); rintro e w9 ⟨rfl, hb9⟩; have hB := below_trans hB hb9))
          | (go_at_call 18; ((with_reducible refine (O5.out _ (HT.out _ hB)).mono ?_); rintro e w9 ⟨rfl, hb9⟩; have hB := below_trans hB hb9)))
        rw [rounds_succ]
        go_wp2_with (first
          | (go_at_call 17; ((with_reducible refine (P1.out _).mono ?_); rintro e w9 ⟨rfl, hb9⟩; have hB := below_trans hB hb9))
          | (go_at_call 17; ((with_reducible refine (P2.out _).mono ?_); rintro e w9 ⟨rfl, hb9⟩; have hB := below_trans hB hb9))
          | (go_at_call 17; ((with_reducible refine (P3.out _).mono ?_); rintro e w9 ⟨rfl, hb9⟩; have hB := below_trans hB hb9))
          | (go_at_call 17; ((with_reducible refine (P4.out _).mono ?_); rintro e w9 ⟨rfl, hb9⟩; have hB := below_trans hB hb9))
          | (go_at_call 17; ((with_reducible refine (P5.out _).mono ?_); rintro e w9 ⟨rfl, hb9⟩; have hB := below_trans hB hb9))
          | (go_at_call 17; ((with_reducible refine (P6.out _).mono ?_); rintro e w9 ⟨rfl, hb9⟩; have hB := below_trans hB hb9))
          | (go_at_call 17; ((with_reducible refine (Qe.out _).mono ?_); rintro e w9 ⟨rfl, hb9⟩; have hB := below_trans hB hb9))
          | (go_at_call 17; ((with_reducible refine (Qf.out _).mono ?_); rintro e w9 ⟨rfl, hb9⟩; have hB := below_trans hB hb9))
          | (go_at_call 17; ((with_reducible refine (Qg.out _).mono ?_); rintro e w9 ⟨rfl, hb9⟩; have hB := below_trans hB hb9))
          | (go_at_call 17; ((with_reducible refine (Qi.out _).mono ?_); rintro e w9 ⟨rfl, hb9⟩; have hB := below_trans hB hb9))
          | (go_at_call 17; ((with_reducible refine (Qj.out _).mono ?_); rintro e w9 ⟨rfl, hb9⟩; have hB := below_trans hB hb9))
          | (go_at_call 17; ((with_reducible refine (Qk.out _).mono ?_); rintro e w9 ⟨rfl, hb9⟩; have hB := below_trans hB hb9))
          | (go_at_call 17; ((with_reducible refine (Ql.out _).mono ?_); rintro e w9 ⟨rfl, hb9⟩; have hB := below_trans hB hb9))
          | (go_at_call 17; ((with_reducible refine (Qm.out _).mono ?_); rintro e w9 ⟨rfl, hb9⟩; have hB := below_trans hB hb9))
          | (go_at_call 17; ((with_reducible refine (Qo.out _).mono ?_); rintro e w9 ⟨rfl, hb9⟩; have hB := below_trans hB hb9))
          | (go_at_call 17; ((with_reducible refine (Qd.out _).mono ?_); rintro e w9 ⟨rfl, hb9⟩; have hB := below_trans hB hb9))
          | (go_at_call 17; ((with_reducible refine (P7.out _).mono ?_); rintro e w9 ⟨rfl, hb9⟩; have hB := below_trans hB hb9))
          | (go_at_call 18; ((with_reducible refine (O1.out _ (HT.out _ hB)).mono ?_); rintro e w9 ⟨rfl, hb9⟩; have hB := below_trans hB hb9))
          | (go_at_call 18; ((with_reducible refine (O2.out _ (HT.out _ hB)).mono ?_); rintro e w9 ⟨rfl, hb9⟩; have hB := below_trans hB hb9))
          | (go_at_call 18; ((with_reducible refine (O3.out _ (HT.out _ hB)).mono ?_); rintro e w9 ⟨rfl, hb9⟩; have hB := below_trans hB hb9))
          | (go_at_call 18; ((with_reducible refine (O4.out _ (HT.out _ hB)).mono ?_); rintro e w9 ⟨rfl, hb9⟩; have hB := below_trans hB hb9))
          | (go_at_call 18; ((with_reducible refine (O5.out _ (HT.out _ hB)).mono ?_); rintro e w9 ⟨rfl, hb9⟩; have hB := below_trans hB hb9)))
        go_roundw
        case rel => exact ⟨64, rfl, by decide, hB⟩
        case measure => simp [intOf]
      · have T1 : ((q : Int) != (t : Int)) = true := by simp; omega
        have T2 : ((y1 : Int) != 0) = false := by simp; omega
        clear hqc hy0
        have T3 : ((x : Int) != 0) = true := by simp; omega
        have T4 : (r1 : Int) + (r2 : Int) + (n : Int) ≤ 32 := by omega
        clear hx0 hx1
        go_wp2_with (first
          | (go_at_call 17; ((with_reducible refine (P1.out _).mono ?_); rintro e w9 ⟨rfl, hb9⟩; have hB := below_trans hB hb9))
          | (go_at_call 17; ((with_reducible refine (P2.out _).mono ?_); rintro e w9 ⟨rfl, hb9⟩; have hB := below_trans hB hb9))
          | (go_at_call 17; ((with_reducible refine (P3.out _).mono ?_); rintro e w9 ⟨rfl, hb9⟩; have hB := below_trans hB hb9))
          | (go_at_call 17; ((with_reducible refine (P4.out _).mono ?_); rintro e w9 ⟨rfl, hb9⟩; have hB := below_trans hB hb9))
          | (go_at_call 17; ((with_reducible refine (P5.out _).mono ?_); rintro e w9 ⟨rfl, hb9⟩; have hB := below_trans hB hb9))
          | (go_at_call 17; ((with_reducible refine (P6.out _).mono ?_); rintro e w9 ⟨rfl, hb9⟩; have hB := below_trans hB hb9))
          | (go_at_call 17; ((with_reducible refine (Qe.out _).mono ?_); rintro e w9 ⟨rfl, hb9⟩; have hB := below_trans hB hb9))
          | (go_at_call 17; ((with_reducible refine (Qf.out _).mono ?_); rintro e w9 ⟨rfl, hb9⟩; have hB := below_trans hB hb9))
          | (go_at_call 17; ((with_reducible refine (Qg.out _).mono ?_); rintro e w9 ⟨rfl, hb9⟩; have hB := below_trans hB hb9))
          | (go_at_call 17; ((with_reducible refine (Qi.out _).mono ?_); rintro e w9 ⟨rfl, hb9⟩; have hB := below_trans hB hb9))
          | (go_at_call 17; ((with_reducible refine (Qj.out _).mono ?_); rintro e w9 ⟨rfl, hb9⟩; have hB := below_trans hB hb9))
          | (go_at_call 17; ((with_reducible refine (Qk.out _).mono ?_); rintro e w9 ⟨rfl, hb9⟩; have hB := below_trans hB hb9))
          | (go_at_call 17; ((with_reducible refine (Ql.out _).mono ?_); rintro e w9 ⟨rfl, hb9⟩; have hB := below_trans hB hb9))
          | (go_at_call 17; ((with_reducible refine (Qm.out _).mono ?_); rintro e w9 ⟨rfl, hb9⟩; have hB := below_trans hB hb9))
          | (go_at_call 17; ((with_reducible refine (Qo.out _).mono ?_); rintro e w9 ⟨rfl, hb9⟩; have hB := below_trans hB hb9))
          | (go_at_call 17; ((with_reducible refine (Qd.out _).mono ?_); rintro e w9 ⟨rfl, hb9⟩; have hB := below_trans hB hb9))
          | (go_at_call 17; ((with_reducible refine (P7.out _).mono ?_); rintro e w9 ⟨rfl, hb9⟩; have hB := below_trans hB hb9))
          | (go_at_call 18; ((with_reducible refine (O1.out _ (HT.out _ hB)).mono ?_); rintro e w9 ⟨rfl, hb9⟩; have hB := below_trans hB hb9))
          | (go_at_call 18; ((with_reducible refine (O2.out _ (HT.out _ hB)).mono ?_); rintro e w9 ⟨rfl, hb9⟩; have hB := below_trans hB hb9))
          | (go_at_call 18; ((with_reducible refine (O3.out _ (HT.out _ hB)).mono ?_); rintro e w9 ⟨rfl, hb9⟩; have hB := below_trans hB hb9))
          | (go_at_call 18; ((with_reducible refine (O4.out _ (HT.out _ hB)).mono ?_); rintro e w9 ⟨rfl, hb9⟩; have hB := below_trans hB hb9))
          | (go_at_call 18; ((with_reducible refine (O5.out _ (HT.out _ hB)).mono ?_); rintro e w9 ⟨rfl, hb9⟩; have hB := below_trans hB hb9)))
        refine wp_loop_rounds 3 ?_
        rw [rounds_succ]
        go_wp2_with (first
          | (go_at_call 17; ((with_reducible refine (P1.out _).mono ?_); rintro e w9 ⟨rfl, hb9⟩; have hB := below_trans hB hb9))
          | (go_at_call 17; ((with_reducible refine (P2.out _).mono ?_); rintro e w9 ⟨rfl, hb9⟩; have hB := below_trans hB hb9))
          | (go_at_call 17; ((with_reducible refine (P3.out _).mono ?_); rintro e w9 ⟨rfl, hb9⟩; have hB := below_trans hB hb9))
          | (go_at_call 17; ((with_reducible refine (P4.out _).mono ?_); rintro e w9 ⟨rfl, hb9⟩; have hB := below_trans hB hb9))
          | (go_at_call 17; ((with_reducible refine (P5.out _).mono ?_); rintro e w9 ⟨rfl, hb9⟩; have hB := below_trans hB hb9))
          | (go_at_call 17; ((with_reducible refine (P6.out _).mono ?_); rintro e w9 ⟨rfl, hb9⟩; have hB := below_trans hB hb9))
          | (go_at_call 17; ((with_reducible refine (Qe.out _).mono ?_); rintro e w9 ⟨rfl, hb9⟩; have hB := below_trans hB hb9))
          | (go_at_call 17; ((with_reducible refine (Qf.out _).mono ?_); rintro e w9 ⟨rfl, hb9⟩; have hB := below_trans hB hb9))
          | (go_at_call 17; ((with_reducible refine (Qg.out _).mono ?_); rintro e w9 ⟨rfl, hb9⟩; have hB := below_trans hB hb9))
          | (go_at_call 17; ((with_reducible refine (Qi.out _).mono ?_); rintro e w9 ⟨rfl, hb9⟩; have hB := below_trans hB hb9))
          | (go_at_call 17; ((with_reducible refine (Qj.out _).mono ?_); rintro e w9 ⟨rfl, hb9⟩; have hB := below_trans hB hb9))
          | (go_at_call 17; ((with_reducible refine (Qk.out _).mono ?_); rintro e w9 ⟨rfl, hb9⟩; have hB := below_trans hB hb9))
          | (go_at_call 17; ((with_reducible refine (Ql.out _).mono ?_); rintro e w9 ⟨rfl, hb9⟩; have hB := below_trans hB hb9))
          | (go_at_call 17; ((with_reducible refine (Qm.out _).mono ?_); rintro e w9 ⟨rfl, hb9⟩; have hB := below_trans hB hb9))
          | (go_at_call 17; ((with_reducible refine (Qo.out _).mono ?_); rintro e w9 ⟨rfl, hb9⟩; have hB := below_trans hB hb9))
          | (go_at_call 17; ((with_reducible refine (Qd.out _).mono ?_); rintro e w9 ⟨rfl, hb9⟩; have hB := below_trans hB hb9))
          | (go_at_call 17; ((with_reducible refine (P7.out _).mono ?_); rintro e w9 ⟨rfl, hb9⟩; have hB := below_trans hB hb9))
          | (go_at_call 18; ((with_reducible refine (O1.out _ (HT.out _ hB)).mono ?_); rintro e w9 ⟨rfl, hb9⟩; have hB := below_trans hB hb9))
          | (go_at_call 18; ((with_reducible refine (O2.out _ (HT.out _ hB)).mono ?_); rintro e w9 ⟨rfl, hb9⟩; have hB := below_trans hB hb9))
          | (go_at_call 18; ((with_reducible refine (O3.out _ (HT.out _ hB)).mono ?_); rintro e w9 ⟨rfl, hb9⟩; have hB := below_trans hB hb9))
          | (go_at_call 18; ((with_reducible refine (O4.out _ (HT.out _ hB)).mono ?_); rintro e w9 ⟨rfl, hb9⟩; have hB := below_trans hB hb9))
          | (go_at_call 18; ((with_reducible refine (O5.out _ (HT.out _ hB)).mono ?_); rintro e w9 ⟨rfl, hb9⟩; have hB := below_trans hB hb9)))
        rw [rounds_succ]
        go_wp2_with (first
          | (go_at_call 17; ((with_reducible refine (P1.out _).mono ?_); rintro e w9 ⟨rfl, hb9⟩; have hB := below_trans hB hb9))
          | (go_at_call 17; ((with_reducible refine (P2.out _).mono ?_); rintro e w9 ⟨rfl, hb9⟩; have hB := below_trans hB hb9))
          | (go_at_call 17; ((with_reducible refine (P3.out _).mono ?_); rintro e w9 ⟨rfl, hb9⟩; have hB := below_trans hB hb9))
          | (go_at_call 17; ((with_reducible refine (P4.out _).mono ?_); rintro e w9 ⟨rfl, hb9⟩; have hB := below_trans hB hb9))
          | (go_at_call 17; ((with_reducible refine (P5.out _).mono ?_); rintro e w9 ⟨rfl, hb9⟩; have hB := below_trans hB hb9))
          | (go_at_call 17; ((with_reducible refine (P6.out _).mono ?_); rintro e w9 ⟨rfl, hb9⟩; have hB := below_trans hB hb9))
          | (go_at_call 17; ((with_reducible refine (Qe.out _).mono ?_); rintro e w9 ⟨rfl, hb9⟩; have hB := below_trans hB hb9))
          | (go_at_call 17; ((with_reducible refine (Qf.out _).mono ?_); rintro e w9 ⟨rfl, hb9⟩; have hB := below_trans hB hb9))
          | (go_at_call 17; ((with_reducible refine (Qg.out _).mono ?_); rintro e w9 ⟨rfl, hb9⟩; have hB := below_trans hB hb9))
          | (go_at_call 17; ((with_reducible refine (Qi.out _).mono ?_); rintro e w9 ⟨rfl, hb9⟩; have hB := below_trans hB hb9))
          | (go_at_call 17; ((with_reducible refine (Qj.out _).mono ?_); rintro e w9 ⟨rfl, hb9⟩; have hB := below_trans hB hb9))
          | (go_at_call 17; ((with_reducible refine (Qk.out _).mono ?_); rintro e w9 ⟨rfl, hb9⟩; have hB := below_trans hB hb9))
          | (go_at_call 17; ((with_reducible refine (Ql.out _).mono ?_); rintro e w9 ⟨rfl, hb9⟩; have hB := below_trans hB hb9))
          | (go_at_call 17; ((with_reducible refine (Qm.out _).mono ?_); rintro e w9 ⟨rfl, hb9⟩; have hB := below_trans hB hb9))
          | (go_at_call 17; ((with_reducible refine (Qo.out _).mono ?_); rintro e w9 ⟨rfl, hb9⟩; have hB := below_trans hB hb9))
          | (go_at_call 17; ((with_reducible refine (Qd.out _).mono ?_); rintro e w9 ⟨rfl, hb9⟩; have hB := below_trans hB hb9))
          | (go_at_call 17; ((with_reducible refine (P7.out _).mono ?_); rintro e w9 ⟨rfl, hb9⟩; have hB := below_trans hB hb9))
          | (go_at_call 18; ((with_reducible refine (O1.out _ (HT.out _ hB)).mono ?_); rintro e w9 ⟨rfl, hb9⟩; have hB := below_trans hB hb9))
          | (go_at_call 18; ((with_reducible refine (O2.out _ (HT.out _ hB)).mono ?_); rintro e w9 ⟨rfl, hb9⟩; have hB := below_trans hB hb9))
          | (go_at_call 18; ((with_reducible refine (O3.out _ (HT.out _ hB)).mono ?_); rintro e w9 ⟨rfl, hb9⟩; have hB := below_trans hB hb9))
          | (go_at_call 18; ((with_reducible refine (O4.out _ (HT.out _ hB)).mono ?_); rintro e w9 ⟨rfl, hb9⟩; have hB := below_trans hB hb9))
          | (go_at_call 18; ((with_reducible refine (O5.out _ (HT.out _ hB)).mono ?_); rintro e w9 ⟨rfl, hb9⟩; have hB := below_trans hB hb9)))
        rw [rounds_succ]
        go_wp2_with (first
          | (go_at_call 17; ((with_reducible refine (P1.out _).mono ?_); rintro e w9 ⟨rfl, hb9⟩; have hB := below_trans hB hb9))
          | (go_at_call 17; ((with_reducible refine (P2.out _).mono ?_); rintro e w9 ⟨rfl, hb9⟩; have hB := below_trans hB hb9))
          | (go_at_call 17; ((with_reducible refine (P3.out _).mono ?_); rintro e w9 ⟨rfl, hb9⟩; have hB := below_trans hB hb9))
          | (go_at_call 17; ((with_reducible refine (P4.out _).mono ?_); rintro e w9 ⟨rfl, hb9⟩; have hB := below_trans hB hb9))
          | (go_at_call 17; ((with_reducible refine (P5.out _).mono ?_); rintro e w9 ⟨rfl, hb9⟩; have hB := below_trans hB hb9))
          | (go_at_call 17; ((with_reducible refine (P6.out _).mono ?_); rintro e w9 ⟨rfl, hb9⟩; have hB := below_trans hB hb9))
          | (go_at_call 17; ((with_reducible refine (Qe.out _).mono ?_); rintro e w9 ⟨rfl, hb9⟩; have hB := below_trans hB hb9))
          | (go_at_call 17; ((with_reducible refine (Qf.out _).mono ?_); rintro e w9 ⟨rfl, hb9⟩; have hB := below_trans hB hb9))
          | (go_at_call 17; ((with_reducible refine (Qg.out _).mono ?_); rintro e w9 ⟨rfl, hb9⟩; have hB := below_trans hB hb9))
          | (go_at_call 17; ((with_reducible refine (Qi.out _).mono ?_); rintro e w9 ⟨rfl, hb9⟩; have hB := below_trans hB hb9))
          | (go_at_call 17; ((with_reducible refine (Qj.out _).mono ?_); rintro e w9 ⟨rfl, hb9⟩; have hB := below_trans hB hb9))
          | (go_at_call 17; ((with_reducible refine (Qk.out _).mono ?_); rintro e w9 ⟨rfl, hb9⟩; have hB := below_trans hB hb9))
          | (go_at_call 17; ((with_reducible refine (Ql.out _).mono ?_); rintro e w9 ⟨rfl, hb9⟩; have hB := below_trans hB hb9))
          | (go_at_call 17; ((with_reducible refine (Qm.out _).mono ?_); rintro e w9 ⟨rfl, hb9⟩; have hB := below_trans hB hb9))
          | (go_at_call 17; ((with_reducible refine (Qo.out _).mono ?_); rintro e w9 ⟨rfl, hb9⟩; have hB := below_trans hB hb9))
          | (go_at_call 17; ((with_reducible refine (Qd.out _).mono ?_); rintro e w9 ⟨rfl, hb9⟩; have hB := below_trans hB hb9))
          | (go_at_call 17; ((with_reducible refine (P7.out _).mono ?_); rintro e w9 ⟨rfl, hb9⟩; have hB := below_trans hB hb9))
          | (go_at_call 18; ((with_reducible refine (O1.out _ (HT.out _ hB)).mono ?_); rintro e w9 ⟨rfl, hb9⟩; have hB := below_trans hB hb9))
          | (go_at_call 18; ((with_reducible refine (O2.out _ (HT.out _ hB)).mono ?_); rintro e w9 ⟨rfl, hb9⟩; have hB := below_trans hB hb9))
          | (go_at_call 18; ((with_reducible refine (O3.out _ (HT.out _ hB)).mono ?_); rintro e w9 ⟨rfl, hb9⟩; have hB := below_trans hB hb9))
          | (go_at_call 18; ((with_reducible refine (O4.out _ (HT.out _ hB)).mono ?_); rintro e w9 ⟨rfl, hb9⟩; have hB := below_trans hB hb9))
          | (go_at_call 18; ((with_reducible refine (O5.out _ (HT.out _ hB)).mono ?_); rintro e w9 ⟨rfl, hb9⟩; have hB := below_trans hB hb9)))
        go_roundw
        case rel => exact ⟨64, rfl, by decide, hB⟩
        case measure => simp [intOf]
      · have T1 : ((q : Int) != (t : Int)) = true := by simp; omega
        have T2 : ((y1 : Int) != 0) = false := by simp; omega
        clear hqc hy0
        have T3 : ((x : Int) != 0) = false := by simp; omega
        have T4 : 32 < (r1 : Int) + (r2 : Int) + (n : Int) := by omega
        clear hx0 hx1
        go_wp2_with (first
          | (go_at_call 17; ((with_reducible refine (P1.out _).mono ?_); rintro e w9 ⟨rfl, hb9⟩; have hB := below_trans hB hb9))
          | (go_at_call 17; ((with_reducible refine (P2.out _).mono ?_); rintro e w9 ⟨rfl, hb9⟩; have hB := below_trans hB hb9))
          | (go_at_call 17; ((with_reducible refine (P3.out _).mono ?_); rintro e w9 ⟨rfl, hb9⟩; have hB := below_trans hB hb9))
          | (go_at_call 17; ((with_reducible refine (P4.out _).mono ?_); rintro e w9 ⟨rfl, hb9⟩; have hB := below_trans hB hb9))
          | (go_at_call 17; ((with_reducible refine (P5.out _).mono ?_); rintro e w9 ⟨rfl, hb9⟩; have hB := below_trans hB hb9))
          | (go_at_call 17; ((with_reducible refine (P6.out _).mono ?_); rintro e w9 ⟨rfl, hb9⟩; have hB := below_trans hB hb9))
          | (go_at_call 17; ((with_reducible refine (Qe.out _).mono ?_); rintro e w9 ⟨rfl, hb9⟩; have hB := below_trans hB hb9))
          | (go_at_call 17; ((with_reducible refine (Qf.out _).mono ?_); rintro e w9 ⟨rfl, hb9⟩; have hB := below_trans hB hb9))
          | (go_at_call 17; ((with_reducible refine (Qg.out _).mono ?_); rintro e w9 ⟨rfl, hb9⟩; have hB := below_trans hB hb9))
          | (go_at_call 17; ((with_reducible refine (Qi.out _).mono ?_); rintro e w9 ⟨rfl, hb9⟩; have hB := below_trans hB hb9))
          | (go_at_call 17; ((with_reducible refine (Qj.out _).mono ?_); rintro e w9 ⟨rfl, hb9⟩; have hB := below_trans hB hb9))
          | (go_at_call 17; ((with_reducible refine (Qk.out _).mono ?_); rintro e w9 ⟨rfl, hb9⟩; have hB := below_trans hB hb9))
          | (go_at_call 17; ((with_reducible refine (Ql.out _).mono ?_); rintro e w9 ⟨rfl, hb9⟩; have hB := below_trans hB hb9))
          | (go_at_call 17; ((with_reducible refine (Qm.out _).mono ?_); rintro e w9 ⟨rfl, hb9⟩; have hB := below_trans hB hb9))
          | (go_at_call 17; ((with_reducible refine (Qo.out _).mono ?_); rintro e w9 ⟨rfl, hb9⟩; have hB := below_trans hB hb9))
          | (go_at_call 17; ((with_reducible refine (Qd.out _).mono ?_); rintro e w9 ⟨rfl, hb9⟩; have hB := below_trans hB hb9))
          | (go_at_call 17; ((with_reducible refine (P7.out _).mono ?_); rintro e w9 ⟨rfl, hb9⟩; have hB := below_trans hB hb9))
          | (go_at_call 18; ((with_reducible refine (O1.out _ (HT.out _ hB)).mono ?_); rintro e w9 ⟨rfl, hb9⟩; have hB := below_trans hB hb9))
          | (go_at_call 18; ((with_reducible refine (O2.out _ (HT.out _ hB)).mono ?_); rintro e w9 ⟨rfl, hb9⟩; have hB := below_trans hB hb9))
          | (go_at_call 18; ((with_reducible refine (O3.out _ (HT.out _ hB)).mono ?_); rintro e w9 ⟨rfl, hb9⟩; have hB := below_trans hB hb9))
          | (go_at_call 18; ((with_reducible refine (O4.out _ (HT.out _ hB)).mono ?_); rintro e w9 ⟨rfl, hb9⟩; have hB := below_trans hB hb9))
          | (go_at_call 18; ((with_reducible refine (O5.out _ (HT.out _ hB)).mono ?_); rintro e w9 ⟨rfl, hb9⟩; have hB := below_trans hB hb9)))
        refine wp_loop_rounds 3 ?_
        rw [rounds_succ]
        go_wp2_with (first
          | (go_at_call 17; ((with_reducible refine (P1.out _).mono ?_); rintro e w9 ⟨rfl, hb9⟩; have hB := below_trans hB hb9))
          | (go_at_call 17; ((with_reducible refine (P2.out _).mono ?_); rintro e w9 ⟨rfl, hb9⟩; have hB := below_trans hB hb9))
          | (go_at_call 17; ((with_reducible refine (P3.out _).mono ?_); rintro e w9 ⟨rfl, hb9⟩; have hB := below_trans hB hb9))
          | (go_at_call 17; ((with_reducible refine (P4.out _).mono ?_); rintro e w9 ⟨rfl, hb9⟩; have hB := below_trans hB hb9))
          | (go_at_call 17; ((with_reducible refine (P5.out _).mono ?_); rintro e w9 ⟨rfl, hb9⟩; have hB := below_trans hB hb9))
          | (go_at_call 17; ((with_reducible refine (P6.out _).mono ?_); rintro e w9 ⟨rfl, hb9⟩; have hB := below_trans hB hb9))
          | (go_at_call 17; ((with_reducible refine (Qe.out _).mono ?_); rintro e w9 ⟨rfl, hb9⟩; have hB := below_trans hB hb9))
          | (go_at_call 17; ((with_reducible refine (Qf.out _).mono ?_); rintro e w9 ⟨rfl, hb9⟩; have hB := below_trans hB hb9))
          | (go_at_call 17; ((with_reducible refine (Qg.out _).mono ?_); rintro e w9 ⟨rfl, hb9⟩; have hB := below_trans hB hb9))
          | (go_at_call 17; ((with_reducible refine (Qi.out _).mono ?_); rintro e w9 ⟨rfl, hb9⟩; have hB := below_trans hB hb9))
          | (go_at_call 17; ((with_reducible refine (Qj.out _).mono ?_); rintro e w9 ⟨rfl, hb9⟩; have hB := below_trans hB hb9))
          | (go_at_call 17; ((with_reducible refine (Qk.out _).mono ?_); rintro e w9 ⟨rfl, hb9⟩; have hB := below_trans hB hb9))
          | (go_at_call 17; ((with_reducible refine (Ql.out _).mono ?_); rintro e w9 ⟨rfl, hb9⟩; have hB := below_trans hB hb9))
          | (go_at_call 17; ((with_reducible refine (Qm.out _).mono ?_); rintro e w9 ⟨rfl, hb9⟩; have hB := below_trans hB hb9))
          | (go_at_call 17; ((with_reducible refine (Qo.out _).mono ?_); rintro e w9 ⟨rfl, hb9⟩; have hB := below_trans hB hb9))
          | (go_at_call 17; ((with_reducible refine (Qd.out _).mono ?_); rintro e w9 ⟨rfl, hb9⟩; have hB := below_trans hB hb9))
          | (go_at_call 17; ((with_reducible refine (P7.out _).mono ?_); rintro e w9 ⟨rfl, hb9⟩; have hB := below_trans hB hb9))
          | (go_at_call 18; ((with_reducible refine (O1.out _ (HT.out _ hB)).mono ?_); rintro e w9 ⟨rfl, hb9⟩; have hB := below_trans hB hb9))
          | (go_at_call 18; ((with_reducible refine (O2.out _ (HT.out _ hB)).mono ?_); rintro e w9 ⟨rfl, hb9⟩; have hB := below_trans hB hb9))
          | (go_at_call 18; ((with_reducible refine (O3.out _ (HT.out _ hB)).mono ?_); rintro e w9 ⟨rfl, hb9⟩; have hB := below_trans hB hb9))
          | (go_at_call 18; ((with_reducible refine (O4.out _ (HT.out _ hB)).mono ?_); rintro e w9 ⟨rfl, hb9⟩; have hB := below_trans hB hb9))
          | (go_at_call 18; ((with_reducible refine (O5.out _ (HT.out _ hB)).mono ?_); rintro e w9 ⟨rfl, hb9⟩; have hB := below_trans hB hb9)))
        rw [rounds_succ]
        go_wp2_with (first
          | (go_at_call 17; ((with_reducible refine (P1.out _).mono ?_); rintro e w9 ⟨rfl, hb9⟩; have hB := below_trans hB hb9))
          | (go_at_call 17; ((with_reducible refine (P2.out _).mono ?_); rintro e w9 ⟨rfl, hb9⟩; have hB := below_trans hB hb9))
          | (go_at_call 17; ((with_reducible refine (P3.out _).mono ?_); rintro e w9 ⟨rfl, hb9⟩; have hB := below_trans hB hb9))
          | (go_at_call 17; ((with_reducible refine (P4.out _).mono ?_); rintro e w9 ⟨rfl, hb9⟩; have hB := below_trans hB hb9))
          | (go_at_call 17; ((with_reducible refine (P5.out _).mono ?_); rintro e w9 ⟨rfl, hb9⟩; have hB := below_trans hB hb9))
          | (go_at_call 17; ((with_reducible refine (P6.out _).mono ?_); rintro e w9 ⟨rfl, hb9⟩; have hB := below_trans hB hb9))
          | (go_at_call 17; ((with_reducible refine (Qe.out _).mono ?_); rintro e w9 ⟨rfl, hb9⟩; have hB := below_trans hB hb9))
          | (go_at_call 17; ((with_reducible refine (Qf.out _).mono ?_); rintro e w9 ⟨rfl, hb9⟩; have hB := below_trans hB hb9))
          | (go_at_call 17; ((with_reducible refine (Qg.out _).mono ?_); rintro e w9 ⟨rfl, hb9⟩; have hB := below_trans hB hb9))
          | (go_at_call 17; ((with_reducible refine (Qi.out _).mono ?_); rintro e w9 ⟨rfl, hb9⟩; have hB := below_trans hB hb9))
          | (go_at_call 17; ((with_reducible refine (Qj.out _).mono ?_); rintro e w9 ⟨rfl, hb9⟩; have hB := below_trans hB hb9))
          | (go_at_call 17; ((with_reducible refine (Qk.out _).mono ?_); rintro e w9 ⟨rfl, hb9⟩; have hB := below_trans hB hb9))
          | (go_at_call 17; ((with_reducible refine (Ql.out _).mono ?_); rintro e w9 ⟨rfl, hb9⟩; have hB := below_trans hB hb9))
          | (go_at_call 17; ((with_reducible refine (Qm.out _).mono ?_); rintro e w9 ⟨rfl, hb9⟩; have hB := below_trans hB hb9))
          | (go_at_call 17; ((with_reducible refine (Qo.out _).mono ?_); rintro e w9 ⟨rfl, hb9⟩; have hB := below_trans hB hb9))
          | (go_at_call 17; ((with_reducible refine (Qd.out _).mono ?_); rintro e w9 ⟨rfl, hb9⟩; have hB := below_trans hB hb9))
          | (go_at_call 17; ((with_reducible refine (P7.out _).mono ?_); rintro e w9 ⟨rfl, hb9⟩; have hB := below_trans hB hb9))
          | (go_at_call 18; ((with_reducible refine (O1.out _ (HT.out _ hB)).mono ?_); rintro e w9 ⟨rfl, hb9⟩; have hB := below_trans hB hb9))
          | (go_at_call 18; ((with_reducible refine (O2.out _ (HT.out _ hB)).mono ?_); rintro e w9 ⟨rfl, hb9⟩; have hB := below_trans hB hb9))
          | (go_at_call 18; ((with_reducible refine (O3.out _ (HT.out _ hB)).mono ?_); rintro e w9 ⟨rfl, hb9⟩; have hB := below_trans hB hb9))
          | (go_at_call 18; ((with_reducible refine (O4.out _ (HT.out _ hB)).mono ?_); rintro e w9 ⟨rfl, hb9⟩; have hB := below_trans hB hb9))
          | (go_at_call 18; ((with_reducible refine (O5.out _ (HT.out _ hB)).mono ?_); rintro e w9 ⟨rfl, hb9⟩; have hB := below_trans hB hb9)))
        rw [rounds_succ]
        go_wp2_with (first
          | (go_at_call 17; ((with_reducible refine (P1.out _).mono ?_); rintro e w9 ⟨rfl, hb9⟩; have hB := below_trans hB hb9))
          | (go_at_call 17; ((with_reducible refine (P2.out _).mono ?_); rintro e w9 ⟨rfl, hb9⟩; have hB := below_trans hB hb9))
          | (go_at_call 17; ((with_reducible refine (P3.out _).mono ?_); rintro e w9 ⟨rfl, hb9⟩; have hB := below_trans hB hb9))
          | (go_at_call 17; ((with_reducible refine (P4.out _).mono ?_); rintro e w9 ⟨rfl, hb9⟩; have hB := below_trans hB hb9))
          | (go_at_call 17; ((with_reducible refine (P5.out _).mono ?_); rintro e w9 ⟨rfl, hb9⟩; have hB := below_trans hB hb9))
          | (go_at_call 17; ((with_reducible refine (P6.out _).mono ?_); rintro e w9 ⟨rfl, hb9⟩; have hB := below_trans hB hb9))
          | (go_at_call 17; ((with_reducible refine (Qe.out _).mono ?_); rintro e w9 ⟨rfl, hb9⟩; have hB := below_trans hB hb9))
          | (go_at_call 17; ((with_reducible refine (Qf.out _).mono ?_); rintro e w9 ⟨rfl, hb9⟩; have hB := below_trans hB hb9))
          | (go_at_call 17; ((with_reducible refine (Qg.out _).mono ?_); rintro e w9 ⟨rfl, hb9⟩; have hB := below_trans hB hb9))
          | (go_at_call 17; ((with_reducible refine (Qi.out _).mono ?_); rintro e w9 ⟨rfl, hb9⟩; have hB := below_trans hB hb9))
          | (go_at_call 17; ((with_reducible refine (Qj.out _).mono ?_); rintro e w9 ⟨rfl, hb9⟩; have hB := below_trans hB hb9))
          | (go_at_call 17; ((with_reducible refine (Qk.out _).mono ?_); rintro e w9 ⟨rfl, hb9⟩; have hB := below_trans hB hb9))
          | (go_at_call 17; ((with_reducible refine (Ql.out _).mono ?_); rintro e w9 ⟨rfl, hb9⟩; have hB := below_trans hB hb9))
          | (go_at_call 17; ((with_reducible refine (Qm.out _).mono ?_); rintro e w9 ⟨rfl, hb9⟩; have hB := below_trans hB hb9))
          | (go_at_call 17; ((with_reducible refine (Qo.out _).mono ?_); rintro e w9 ⟨rfl, hb9⟩; have hB := below_trans hB hb9))
          | (go_at_call 17; ((with_reducible refine (Qd.out _).mono ?_); rintro e w9 ⟨rfl, hb9⟩; have hB := below_trans hB hb9))
          | (go_at_call 17; ((with_reducible refine (P7.out _).mono ?_); rintro e w9 ⟨rfl, hb9⟩; have hB := below_trans hB hb9))
          | (go_at_call 18; ((with_reducible refine (O1.out _ (HT.out _ hB)).mono ?_); rintro e w9 ⟨rfl, hb9⟩; have hB := below_trans hB hb9))
          | (go_at_call 18; ((with_reducible refine (O2.out _ (HT.out _ hB)).mono ?_); rintro e w9 ⟨rfl, hb9⟩; have hB := below_trans hB hb9))
          | (go_at_call 18; ((with_reducible refine (O3.out _ (HT.out _ hB)).mono ?_); rintro e w9 ⟨rfl, hb9⟩; have hB := below_trans hB hb9))
          | (go_at_call 18; ((with_reducible refine (O4.out _ (HT.out _ hB)).mono ?_); rintro e w9 ⟨rfl, hb9⟩; have hB := below_trans hB hb9))
          | (go_at_call 18; ((with_reducible refine (O5.out _ (HT.out _ hB)).mono ?_); rintro e w9 ⟨rfl, hb9⟩; have hB := below_trans hB hb9)))
        go_roundw
        case rel => exact ⟨64, rfl, by decide, hB⟩
        case measure => simp [intOf]
    · have la : a < 2 ^ 64 := HN.out.1
      have lb : b < 2 ^ 64 := HN.out.2
      have L := fun (p x y : Nat) (hx : x < 2 ^ 64) (hy : y < 2 ^ 64) => tw_lt p 64 x y (by decide) hx hy
      have h0 : (0 : Nat) < 2 ^ 64 := by decide
      have h1 : (1 : Nat) < 2 ^ 64 := by decide
      obtain ⟨t, ht⟩ : ∃ t, tw 33 64 a b = t := ⟨_, rfl⟩
      have lt : t < 2 ^ 64 := by rw [← ht]; exact L 33 a b la lb
      have P1 := two_is (p := 33) (op := 119) (r := t) (.inr (by decide)) w64 la lb (ht)
      have P2 := two_is (p := 34) (op := 120) (r := a) (.inr (by decide)) w64 lt lb (by rw [← ht]; exact turn_back (by decide) la)
      obtain ⟨n, hn⟩ : ∃ n, pop 64 a = n := ⟨_, rfl⟩
      have O1 := one_is (p := 3) (w := 64) (t := 64) (op := 105) (r := n) (.inr (.inr (.inr ⟨rfl, rfl, rfl⟩))) w64 lt (by rw [← hn, ← ht]; exact turn_ones (by decide) (by decide) la)
      have O2 := one_is (p := 3) (w := 64) (t := 64) (op := 105) (r := n) (.inr (.inr (.inr ⟨rfl, rfl, rfl⟩))) w64 la (hn)
      obtain ⟨u, hu⟩ : ∃ u, tw 30 64 a b = u := ⟨_, rfl⟩
      have lu : u < 2 ^ 64 := by rw [← hu]; exact L 30 a b la lb
      have P3 := two_is (p := 30) (op := 116) (r := u) (.inr (by decide)) w64 la lb (hu)
      obtain ⟨z, hz⟩ : ∃ z, tw 21 64 0 b = z := ⟨_, rfl⟩
      have lz : z < 2 ^ 64 := by rw [← hz]; exact L 21 0 b h0 lb
      have P4z := two_is (p := 21) (op := 107) (r := z) (.inr (by decide)) w64 h0 lb (hz)
      have P4 : Hid (∀ W : World, Calls Tryd.prog 17 #[.int .i64 64, .int .i64 107, .int .u64 0, .int .u64 b] W (Out z W)) := P4z
      clear P4z
      obtain ⟨s, hs⟩ : ∃ s, tw 32 64 a z = s := ⟨_, rfl⟩
      have ls : s < 2 ^ 64 := by rw [← hs]; exact L 32 a z la lz
      have P5 := two_is (p := 32) (op := 118) (r := s) (.inr (by decide)) w64 la lz (hs)
      obtain ⟨q, hq⟩ : ∃ q, tw 28 64 u s = q := ⟨_, rfl⟩
      have lq : q < 2 ^ 64 := by rw [← hq]; exact L 28 u s lu ls
      have P6 := two_is (p := 28) (op := 114) (r := q) (.inr (by decide)) w64 lu ls (hq)
      obtain ⟨e, he⟩ : ∃ e, tw 10 64 a b = e := ⟨_, rfl⟩
      have le : e < 2 ^ 64 := by rw [← he]; exact L 10 a b la lb
      have Qe := two_is (p := 10) (op := 70) (r := e) (.inl (by decide)) w64 la lb (he)
      obtain ⟨f, hf⟩ : ∃ f, tw 12 64 a b = f := ⟨_, rfl⟩
      have lf : f < 2 ^ 64 := by rw [← hf]; exact L 12 a b la lb
      have Qf := two_is (p := 12) (op := 72) (r := f) (.inl (by decide)) w64 la lb (hf)
      obtain ⟨g, hg⟩ : ∃ g, tw 14 64 a b = g := ⟨_, rfl⟩
      have lg : g < 2 ^ 64 := by rw [← hg]; exact L 14 a b la lb
      have Qg := two_is (p := 14) (op := 74) (r := g) (.inl (by decide)) w64 la lb (hg)
      obtain ⟨i, hi⟩ : ∃ i, tw 13 64 a b = i := ⟨_, rfl⟩
      have li : i < 2 ^ 64 := by rw [← hi]; exact L 13 a b la lb
      have Qi := two_is (p := 13) (op := 73) (r := i) (.inl (by decide)) w64 la lb (hi)
      obtain ⟨j, hj⟩ : ∃ j, tw 15 64 a b = j := ⟨_, rfl⟩
      have lj : j < 2 ^ 64 := by rw [← hj]; exact L 15 a b la lb
      have Qj := two_is (p := 15) (op := 75) (r := j) (.inl (by decide)) w64 la lb (hj)
      obtain ⟨k, hk⟩ : ∃ k, tw 16 64 a b = k := ⟨_, rfl⟩
      have lk : k < 2 ^ 64 := by rw [← hk]; exact L 16 a b la lb
      have Qk := two_is (p := 16) (op := 76) (r := k) (.inl (by decide)) w64 la lb (hk)
      obtain ⟨l, hl⟩ : ∃ l, tw 17 64 a b = l := ⟨_, rfl⟩
      have ll : l < 2 ^ 64 := by rw [← hl]; exact L 17 a b la lb
      have Ql := two_is (p := 17) (op := 77) (r := l) (.inl (by decide)) w64 la lb (hl)
      obtain ⟨m, hm⟩ : ∃ m, tw 18 64 a b = m := ⟨_, rfl⟩
      have lm : m < 2 ^ 64 := by rw [← hm]; exact L 18 a b la lb
      have Qm := two_is (p := 18) (op := 78) (r := m) (.inl (by decide)) w64 la lb (hm)
      obtain ⟨o, ho⟩ : ∃ o, tw 19 64 a b = o := ⟨_, rfl⟩
      have lo : o < 2 ^ 64 := by rw [← ho]; exact L 19 a b la lb
      have Qo := two_is (p := 19) (op := 79) (r := o) (.inl (by decide)) w64 la lb (ho)
      obtain ⟨d, hd⟩ : ∃ d, tw 11 64 a b = d := ⟨_, rfl⟩
      have ld : d < 2 ^ 64 := by rw [← hd]; exact L 11 a b la lb
      have Qd := two_is (p := 11) (op := 71) (r := d) (.inl (by decide)) w64 la lb (hd)
      obtain ⟨v, hv⟩ : ∃ v, tw 10 64 a 0 = v := ⟨_, rfl⟩
      have P7z := two_is (p := 10) (op := 70) (r := v) (.inl (by decide)) w64 la h0 (hv)
      have P7 : Hid (∀ W : World, Calls Tryd.prog 17 #[.int .i64 64, .int .i64 70, .int .u64 a, .int .u64 0] W (Out v W)) := P7z
      clear P7z
      have O3 := one_is (p := 0) (w := 64) (t := 32) (op := 69) (r := v) (.inl (by decide)) w64 la (by rw [← hv]; exact eq_zero)
      obtain ⟨r1, hr1⟩ : ∃ r1, ov 1 a 64 64 = r1 := ⟨_, rfl⟩
      obtain ⟨r2, hr2⟩ : ∃ r2, ov 2 a 64 64 = r2 := ⟨_, rfl⟩
      have O4 := one_is (p := 1) (w := 64) (t := 64) (op := 103) (r := r1) (.inr (.inl ⟨rfl, rfl, rfl⟩)) w64 la (hr1)
      have O5 := one_is (p := 2) (w := 64) (t := 64) (op := 104) (r := r2) (.inr (.inr (.inl ⟨rfl, rfl, rfl⟩))) w64 la (hr2)
      have E1 : (e : Int) + (f : Int) + (g : Int) = 1 := by have := tri_signed (w := 64) (by decide) la lb; omega
      have E2 : (e : Int) + (i : Int) + (j : Int) = 1 := by have := tri_unsigned (w := 64) (x := a) (y := b); omega
      have E3 : (k : Int) + (g : Int) = 1 := by have := two_le_s (w := 64) (x := a) (y := b); omega
      have E4 : (l : Int) + (j : Int) = 1 := by have := two_le_u (w := 64) (x := a) (y := b); omega
      have E5 : (m : Int) + (f : Int) = 1 := by have := two_ge_s (w := 64) (x := a) (y := b); omega
      have E6 : (o : Int) + (i : Int) = 1 := by have := two_ge_u (w := 64) (x := a) (y := b); omega
      have E7 : (d : Int) + (e : Int) = 1 := by have := two_ne (w := 64) (x := a) (y := b); omega
      have B1 : (e : Int) ≤ 1 := by omega
      have B2 : (f : Int) ≤ 1 := by omega
      have B3 : (g : Int) ≤ 1 := by omega
      have B4 : (i : Int) ≤ 1 := by omega
      have B5 : (j : Int) ≤ 1 := by omega
      have B6 : (k : Int) ≤ 1 := by omega
      have B7 : (l : Int) ≤ 1 := by omega
      have B8 : (m : Int) ≤ 1 := by omega
      have B9 : (o : Int) ≤ 1 := by omega
      have B10 : (d : Int) ≤ 1 := by omega
      have B11 : (r1 : Int) ≤ 64 := by rw [← hr1]; show ((64 - Lib.bitLen a : Nat) : Int) ≤ 64; omega
      have B12 : (r2 : Int) ≤ 64 := by rw [← hr2]; have := trail_le 64 a (by decide) la; show (((if a = 0 then 64 else Lib.ctz 64 a) : Nat) : Int) ≤ 64; omega
      have B13 : (n : Int) ≤ 64 := by rw [← hn]; have := pop_le64 a; omega
      obtain ⟨y1, hy1⟩ : ∃ y1, b % 64 = y1 := ⟨_, rfl⟩
      have ry : (b : Int) % 64 = (y1 : Int) := by omega
      have hqt : y1 ≠ 0 → q = t := fun h => by rw [← hq, ← hu, ← hs, ← hz, ← ht]; exact turn_parts (by decide) (by decide) lb (by omega)
      have hcs : a ≠ 0 → r1 + r2 + n ≤ 64 := fun h => by rw [← hr1, ← hr2, ← hn]; exact counts (by decide) la h
      have hcz : a = 0 → 64 < r1 + r2 + n := fun h => by subst h; rw [← hr1, ← hr2, ← hn]; decide
      have hqc : q = t ∨ (q ≠ t ∧ y1 = 0) := by
        by_cases h : q = t
        · exact .inl h
        · exact .inr ⟨h, by by_cases h1 : y1 = 0 <;> first | exact h1 | exact absurd (hqt h1) h⟩
      have hxc : (a ≠ 0 ∧ r1 + r2 + n ≤ 64) ∨ (a = 0 ∧ 64 < r1 + r2 + n) := by
        by_cases h : a = 0
        · exact .inr ⟨h, hcz h⟩
        · exact .inl ⟨h, hcs h⟩
      clear L h0 h1 ht lt hu lu hz lz hs ls hq lq he le hf lf hg lg hi li hj lj hk lk hl ll hm lm ho lo hd ld hn hv hr1 hr2 la lb hy1 hqt hcs hcz
      rcases hqc with hqc | ⟨hqc, hy0⟩ <;> rcases hxc with ⟨hx0, hx1⟩ | ⟨hx0, hx1⟩
      · have T1 : ((q : Int) != (t : Int)) = false := by simp; omega
        clear hqc
        have T3 : ((a : Int) != 0) = true := by simp; omega
        have T4 : (r1 : Int) + (r2 : Int) + (n : Int) ≤ 64 := by omega
        clear hx0 hx1
        go_wp2_with (first
          | (go_at_call 17; ((with_reducible refine (P1.out _).mono ?_); rintro e w9 ⟨rfl, hb9⟩; have hB := below_trans hB hb9))
          | (go_at_call 17; ((with_reducible refine (P2.out _).mono ?_); rintro e w9 ⟨rfl, hb9⟩; have hB := below_trans hB hb9))
          | (go_at_call 17; ((with_reducible refine (P3.out _).mono ?_); rintro e w9 ⟨rfl, hb9⟩; have hB := below_trans hB hb9))
          | (go_at_call 17; ((with_reducible refine (P4.out _).mono ?_); rintro e w9 ⟨rfl, hb9⟩; have hB := below_trans hB hb9))
          | (go_at_call 17; ((with_reducible refine (P5.out _).mono ?_); rintro e w9 ⟨rfl, hb9⟩; have hB := below_trans hB hb9))
          | (go_at_call 17; ((with_reducible refine (P6.out _).mono ?_); rintro e w9 ⟨rfl, hb9⟩; have hB := below_trans hB hb9))
          | (go_at_call 17; ((with_reducible refine (Qe.out _).mono ?_); rintro e w9 ⟨rfl, hb9⟩; have hB := below_trans hB hb9))
          | (go_at_call 17; ((with_reducible refine (Qf.out _).mono ?_); rintro e w9 ⟨rfl, hb9⟩; have hB := below_trans hB hb9))
          | (go_at_call 17; ((with_reducible refine (Qg.out _).mono ?_); rintro e w9 ⟨rfl, hb9⟩; have hB := below_trans hB hb9))
          | (go_at_call 17; ((with_reducible refine (Qi.out _).mono ?_); rintro e w9 ⟨rfl, hb9⟩; have hB := below_trans hB hb9))
          | (go_at_call 17; ((with_reducible refine (Qj.out _).mono ?_); rintro e w9 ⟨rfl, hb9⟩; have hB := below_trans hB hb9))
          | (go_at_call 17; ((with_reducible refine (Qk.out _).mono ?_); rintro e w9 ⟨rfl, hb9⟩; have hB := below_trans hB hb9))
          | (go_at_call 17; ((with_reducible refine (Ql.out _).mono ?_); rintro e w9 ⟨rfl, hb9⟩; have hB := below_trans hB hb9))
          | (go_at_call 17; ((with_reducible refine (Qm.out _).mono ?_); rintro e w9 ⟨rfl, hb9⟩; have hB := below_trans hB hb9))
          | (go_at_call 17; ((with_reducible refine (Qo.out _).mono ?_); rintro e w9 ⟨rfl, hb9⟩; have hB := below_trans hB hb9))
          | (go_at_call 17; ((with_reducible refine (Qd.out _).mono ?_); rintro e w9 ⟨rfl, hb9⟩; have hB := below_trans hB hb9))
          | (go_at_call 17; ((with_reducible refine (P7.out _).mono ?_); rintro e w9 ⟨rfl, hb9⟩; have hB := below_trans hB hb9))
          | (go_at_call 18; ((with_reducible refine (O1.out _ (HT.out _ hB)).mono ?_); rintro e w9 ⟨rfl, hb9⟩; have hB := below_trans hB hb9))
          | (go_at_call 18; ((with_reducible refine (O2.out _ (HT.out _ hB)).mono ?_); rintro e w9 ⟨rfl, hb9⟩; have hB := below_trans hB hb9))
          | (go_at_call 18; ((with_reducible refine (O3.out _ (HT.out _ hB)).mono ?_); rintro e w9 ⟨rfl, hb9⟩; have hB := below_trans hB hb9))
          | (go_at_call 18; ((with_reducible refine (O4.out _ (HT.out _ hB)).mono ?_); rintro e w9 ⟨rfl, hb9⟩; have hB := below_trans hB hb9))
          | (go_at_call 18; ((with_reducible refine (O5.out _ (HT.out _ hB)).mono ?_); rintro e w9 ⟨rfl, hb9⟩; have hB := below_trans hB hb9)))
        refine wp_loop_rounds 3 ?_
        rw [rounds_succ]
        go_wp2_with (first
          | (go_at_call 17; ((with_reducible refine (P1.out _).mono ?_); rintro e w9 ⟨rfl, hb9⟩; have hB := below_trans hB hb9))
          | (go_at_call 17; ((with_reducible refine (P2.out _).mono ?_); rintro e w9 ⟨rfl, hb9⟩; have hB := below_trans hB hb9))
          | (go_at_call 17; ((with_reducible refine (P3.out _).mono ?_); rintro e w9 ⟨rfl, hb9⟩; have hB := below_trans hB hb9))
          | (go_at_call 17; ((with_reducible refine (P4.out _).mono ?_); rintro e w9 ⟨rfl, hb9⟩; have hB := below_trans hB hb9))
          | (go_at_call 17; ((with_reducible refine (P5.out _).mono ?_); rintro e w9 ⟨rfl, hb9⟩; have hB := below_trans hB hb9))
          | (go_at_call 17; ((with_reducible refine (P6.out _).mono ?_); rintro e w9 ⟨rfl, hb9⟩; have hB := below_trans hB hb9))
          | (go_at_call 17; ((with_reducible refine (Qe.out _).mono ?_); rintro e w9 ⟨rfl, hb9⟩; have hB := below_trans hB hb9))
          | (go_at_call 17; ((with_reducible refine (Qf.out _).mono ?_); rintro e w9 ⟨rfl, hb9⟩; have hB := below_trans hB hb9))
          | (go_at_call 17; ((with_reducible refine (Qg.out _).mono ?_); rintro e w9 ⟨rfl, hb9⟩; have hB := below_trans hB hb9))
          | (go_at_call 17; ((with_reducible refine (Qi.out _).mono ?_); rintro e w9 ⟨rfl, hb9⟩; have hB := below_trans hB hb9))
          | (go_at_call 17; ((with_reducible refine (Qj.out _).mono ?_); rintro e w9 ⟨rfl, hb9⟩; have hB := below_trans hB hb9))
          | (go_at_call 17; ((with_reducible refine (Qk.out _).mono ?_); rintro e w9 ⟨rfl, hb9⟩; have hB := below_trans hB hb9))
          | (go_at_call 17; ((with_reducible refine (Ql.out _).mono ?_); rintro e w9 ⟨rfl, hb9⟩; have hB := below_trans hB hb9))
          | (go_at_call 17; ((with_reducible refine (Qm.out _).mono ?_); rintro e w9 ⟨rfl, hb9⟩; have hB := below_trans hB hb9))
          | (go_at_call 17; ((with_reducible refine (Qo.out _).mono ?_); rintro e w9 ⟨rfl, hb9⟩; have hB := below_trans hB hb9))
          | (go_at_call 17; ((with_reducible refine (Qd.out _).mono ?_); rintro e w9 ⟨rfl, hb9⟩; have hB := below_trans hB hb9))
          | (go_at_call 17; ((with_reducible refine (P7.out _).mono ?_); rintro e w9 ⟨rfl, hb9⟩; have hB := below_trans hB hb9))
          | (go_at_call 18; ((with_reducible refine (O1.out _ (HT.out _ hB)).mono ?_); rintro e w9 ⟨rfl, hb9⟩; have hB := below_trans hB hb9))
          | (go_at_call 18; ((with_reducible refine (O2.out _ (HT.out _ hB)).mono ?_); rintro e w9 ⟨rfl, hb9⟩; have hB := below_trans hB hb9))
          | (go_at_call 18; ((with_reducible refine (O3.out _ (HT.out _ hB)).mono ?_); rintro e w9 ⟨rfl, hb9⟩; have hB := below_trans hB hb9))
          | (go_at_call 18; ((with_reducible refine (O4.out _ (HT.out _ hB)).mono ?_); rintro e w9 ⟨rfl, hb9⟩; have hB := below_trans hB hb9))
          | (go_at_call 18; ((with_reducible refine (O5.out _ (HT.out _ hB)).mono ?_); rintro e w9 ⟨rfl, hb9⟩; have hB := below_trans hB hb9)))
        rw [rounds_succ]
        go_wp2_with (first
          | (go_at_call 17; ((with_reducible refine (P1.out _).mono ?_); rintro e w9 ⟨rfl, hb9⟩; have hB := below_trans hB hb9))
          | (go_at_call 17; ((with_reducible refine (P2.out _).mono ?_); rintro e w9 ⟨rfl, hb9⟩; have hB := below_trans hB hb9))
          | (go_at_call 17; ((with_reducible refine (P3.out _).mono ?_); rintro e w9 ⟨rfl, hb9⟩; have hB := below_trans hB hb9))
          | (go_at_call 17; ((with_reducible refine (P4.out _).mono ?_); rintro e w9 ⟨rfl, hb9⟩; have hB := below_trans hB hb9))
          | (go_at_call 17; ((with_reducible refine (P5.out _).mono ?_); rintro e w9 ⟨rfl, hb9⟩; have hB := below_trans hB hb9))
          | (go_at_call 17; ((with_reducible refine (P6.out _).mono ?_); rintro e w9 ⟨rfl, hb9⟩; have hB := below_trans hB hb9))
          | (go_at_call 17; ((with_reducible refine (Qe.out _).mono ?_); rintro e w9 ⟨rfl, hb9⟩; have hB := below_trans hB hb9))
          | (go_at_call 17; ((with_reducible refine (Qf.out _).mono ?_); rintro e w9 ⟨rfl, hb9⟩; have hB := below_trans hB hb9))
          | (go_at_call 17; ((with_reducible refine (Qg.out _).mono ?_); rintro e w9 ⟨rfl, hb9⟩; have hB := below_trans hB hb9))
          | (go_at_call 17; ((with_reducible refine (Qi.out _).mono ?_); rintro e w9 ⟨rfl, hb9⟩; have hB := below_trans hB hb9))
          | (go_at_call 17; ((with_reducible refine (Qj.out _).mono ?_); rintro e w9 ⟨rfl, hb9⟩; have hB := below_trans hB hb9))
          | (go_at_call 17; ((with_reducible refine (Qk.out _).mono ?_); rintro e w9 ⟨rfl, hb9⟩; have hB := below_trans hB hb9))
          | (go_at_call 17; ((with_reducible refine (Ql.out _).mono ?_); rintro e w9 ⟨rfl, hb9⟩; have hB := below_trans hB hb9))
          | (go_at_call 17; ((with_reducible refine (Qm.out _).mono ?_); rintro e w9 ⟨rfl, hb9⟩; have hB := below_trans hB hb9))
          | (go_at_call 17; ((with_reducible refine (Qo.out _).mono ?_); rintro e w9 ⟨rfl, hb9⟩; have hB := below_trans hB hb9))
          | (go_at_call 17; ((with_reducible refine (Qd.out _).mono ?_); rintro e w9 ⟨rfl, hb9⟩; have hB := below_trans hB hb9))
          | (go_at_call 17; ((with_reducible refine (P7.out _).mono ?_); rintro e w9 ⟨rfl, hb9⟩; have hB := below_trans hB hb9))
          | (go_at_call 18; ((with_reducible refine (O1.out _ (HT.out _ hB)).mono ?_); rintro e w9 ⟨rfl, hb9⟩; have hB := below_trans hB hb9))
          | (go_at_call 18; ((with_reducible refine (O2.out _ (HT.out _ hB)).mono ?_); rintro e w9 ⟨rfl, hb9⟩; have hB := below_trans hB hb9))
          | (go_at_call 18; ((with_reducible refine (O3.out _ (HT.out _ hB)).mono ?_); rintro e w9 ⟨rfl, hb9⟩; have hB := below_trans hB hb9))
          | (go_at_call 18; ((with_reducible refine (O4.out _ (HT.out _ hB)).mono ?_); rintro e w9 ⟨rfl, hb9⟩; have hB := below_trans hB hb9))
          | (go_at_call 18; ((with_reducible refine (O5.out _ (HT.out _ hB)).mono ?_); rintro e w9 ⟨rfl, hb9⟩; have hB := below_trans hB hb9)))
        rw [rounds_succ]
        go_wp2_with (first
          | (go_at_call 17; ((with_reducible refine (P1.out _).mono ?_); rintro e w9 ⟨rfl, hb9⟩; have hB := below_trans hB hb9))
          | (go_at_call 17; ((with_reducible refine (P2.out _).mono ?_); rintro e w9 ⟨rfl, hb9⟩; have hB := below_trans hB hb9))
          | (go_at_call 17; ((with_reducible refine (P3.out _).mono ?_); rintro e w9 ⟨rfl, hb9⟩; have hB := below_trans hB hb9))
          | (go_at_call 17; ((with_reducible refine (P4.out _).mono ?_); rintro e w9 ⟨rfl, hb9⟩; have hB := below_trans hB hb9))
          | (go_at_call 17; ((with_reducible refine (P5.out _).mono ?_); rintro e w9 ⟨rfl, hb9⟩; have hB := below_trans hB hb9))
          | (go_at_call 17; ((with_reducible refine (P6.out _).mono ?_); rintro e w9 ⟨rfl, hb9⟩; have hB := below_trans hB hb9))
          | (go_at_call 17; ((with_reducible refine (Qe.out _).mono ?_); rintro e w9 ⟨rfl, hb9⟩; have hB := below_trans hB hb9))
          | (go_at_call 17; ((with_reducible refine (Qf.out _).mono ?_); rintro e w9 ⟨rfl, hb9⟩; have hB := below_trans hB hb9))
          | (go_at_call 17; ((with_reducible refine (Qg.out _).mono ?_); rintro e w9 ⟨rfl, hb9⟩; have hB := below_trans hB hb9))
          | (go_at_call 17; ((with_reducible refine (Qi.out _).mono ?_); rintro e w9 ⟨rfl, hb9⟩; have hB := below_trans hB hb9))
          | (go_at_call 17; ((with_reducible refine (Qj.out _).mono ?_); rintro e w9 ⟨rfl, hb9⟩; have hB := below_trans hB hb9))
          | (go_at_call 17; ((with_reducible refine (Qk.out _).mono ?_); rintro e w9 ⟨rfl, hb9⟩; have hB := below_trans hB hb9))
          | (go_at_call 17; ((with_reducible refine (Ql.out _).mono ?_); rintro e w9 ⟨rfl, hb9⟩; have hB := below_trans hB hb9))
          | (go_at_call 17; ((with_reducible refine (Qm.out _).mono ?_); rintro e w9 ⟨rfl, hb9⟩; have hB := below_trans hB hb9))
          | (go_at_call 17; ((with_reducible refine (Qo.out _).mono ?_); rintro e w9 ⟨rfl, hb9⟩; have hB := below_trans hB hb9))
          | (go_at_call 17; ((with_reducible refine (Qd.out _).mono ?_); rintro e w9 ⟨rfl, hb9⟩; have hB := below_trans hB hb9))
          | (go_at_call 17; ((with_reducible refine (P7.out _).mono ?_); rintro e w9 ⟨rfl, hb9⟩; have hB := below_trans hB hb9))
          | (go_at_call 18; ((with_reducible refine (O1.out _ (HT.out _ hB)).mono ?_); rintro e w9 ⟨rfl, hb9⟩; have hB := below_trans hB hb9))
          | (go_at_call 18; ((with_reducible refine (O2.out _ (HT.out _ hB)).mono ?_); rintro e w9 ⟨rfl, hb9⟩; have hB := below_trans hB hb9))
          | (go_at_call 18; ((with_reducible refine (O3.out _ (HT.out _ hB)).mono ?_); rintro e w9 ⟨rfl, hb9⟩; have hB := below_trans hB hb9))
          | (go_at_call 18; ((with_reducible refine (O4.out _ (HT.out _ hB)).mono ?_); rintro e w9 ⟨rfl, hb9⟩; have hB := below_trans hB hb9))
          | (go_at_call 18; ((with_reducible refine (O5.out _ (HT.out _ hB)).mono ?_); rintro e w9 ⟨rfl, hb9⟩; have hB := below_trans hB hb9)))
        go_roundw
        case rel => exact ⟨96, rfl, by decide, hB⟩
        case measure => simp [intOf]
      · have T1 : ((q : Int) != (t : Int)) = false := by simp; omega
        clear hqc
        have T3 : ((a : Int) != 0) = false := by simp; omega
        have T4 : 64 < (r1 : Int) + (r2 : Int) + (n : Int) := by omega
        clear hx0 hx1
        go_wp2_with (first
          | (go_at_call 17; ((with_reducible refine (P1.out _).mono ?_); rintro e w9 ⟨rfl, hb9⟩; have hB := below_trans hB hb9))
          | (go_at_call 17; ((with_reducible refine (P2.out _).mono ?_); rintro e w9 ⟨rfl, hb9⟩; have hB := below_trans hB hb9))
          | (go_at_call 17; ((with_reducible refine (P3.out _).mono ?_); rintro e w9 ⟨rfl, hb9⟩; have hB := below_trans hB hb9))
          | (go_at_call 17; ((with_reducible refine (P4.out _).mono ?_); rintro e w9 ⟨rfl, hb9⟩; have hB := below_trans hB hb9))
          | (go_at_call 17; ((with_reducible refine (P5.out _).mono ?_); rintro e w9 ⟨rfl, hb9⟩; have hB := below_trans hB hb9))
          | (go_at_call 17; ((with_reducible refine (P6.out _).mono ?_); rintro e w9 ⟨rfl, hb9⟩; have hB := below_trans hB hb9))
          | (go_at_call 17; ((with_reducible refine (Qe.out _).mono ?_); rintro e w9 ⟨rfl, hb9⟩; have hB := below_trans hB hb9))
          | (go_at_call 17; ((with_reducible refine (Qf.out _).mono ?_); rintro e w9 ⟨rfl, hb9⟩; have hB := below_trans hB hb9))
          | (go_at_call 17; ((with_reducible refine (Qg.out _).mono ?_); rintro e w9 ⟨rfl, hb9⟩; have hB := below_trans hB hb9))
          | (go_at_call 17; ((with_reducible refine (Qi.out _).mono ?_); rintro e w9 ⟨rfl, hb9⟩; have hB := below_trans hB hb9))
          | (go_at_call 17; ((with_reducible refine (Qj.out _).mono ?_); rintro e w9 ⟨rfl, hb9⟩; have hB := below_trans hB hb9))
          | (go_at_call 17; ((with_reducible refine (Qk.out _).mono ?_); rintro e w9 ⟨rfl, hb9⟩; have hB := below_trans hB hb9))
          | (go_at_call 17; ((with_reducible refine (Ql.out _).mono ?_); rintro e w9 ⟨rfl, hb9⟩; have hB := below_trans hB hb9))
          | (go_at_call 17; ((with_reducible refine (Qm.out _).mono ?_); rintro e w9 ⟨rfl, hb9⟩; have hB := below_trans hB hb9))
          | (go_at_call 17; ((with_reducible refine (Qo.out _).mono ?_); rintro e w9 ⟨rfl, hb9⟩; have hB := below_trans hB hb9))
          | (go_at_call 17; ((with_reducible refine (Qd.out _).mono ?_); rintro e w9 ⟨rfl, hb9⟩; have hB := below_trans hB hb9))
          | (go_at_call 17; ((with_reducible refine (P7.out _).mono ?_); rintro e w9 ⟨rfl, hb9⟩; have hB := below_trans hB hb9))
          | (go_at_call 18; ((with_reducible refine (O1.out _ (HT.out _ hB)).mono ?_); rintro e w9 ⟨rfl, hb9⟩; have hB := below_trans hB hb9))
          | (go_at_call 18; ((with_reducible refine (O2.out _ (HT.out _ hB)).mono ?_); rintro e w9 ⟨rfl, hb9⟩; have hB := below_trans hB hb9))
          | (go_at_call 18; ((with_reducible refine (O3.out _ (HT.out _ hB)).mono ?_); rintro e w9 ⟨rfl, hb9⟩; have hB := below_trans hB hb9))
          | (go_at_call 18; ((with_reducible refine (O4.out _ (HT.out _ hB)).mono ?_); rintro e w9 ⟨rfl, hb9⟩; have hB := below_trans hB hb9))
          | (go_at_call 18; ((with_reducible refine (O5.out _ (HT.out _ hB)).mono ?_); rintro e w9 ⟨rfl, hb9⟩; have hB := below_trans hB hb9)))
        refine wp_loop_rounds 3 ?_
        rw [rounds_succ]
        go_wp2_with (first
          | (go_at_call 17; ((with_reducible refine (P1.out _).mono ?_); rintro e w9 ⟨rfl, hb9⟩; have hB := below_trans hB hb9))
          | (go_at_call 17; ((with_reducible refine (P2.out _).mono ?_); rintro e w9 ⟨rfl, hb9⟩; have hB := below_trans hB hb9))
          | (go_at_call 17; ((with_reducible refine (P3.out _).mono ?_); rintro e w9 ⟨rfl, hb9⟩; have hB := below_trans hB hb9))
          | (go_at_call 17; ((with_reducible refine (P4.out _).mono ?_); rintro e w9 ⟨rfl, hb9⟩; have hB := below_trans hB hb9))
          | (go_at_call 17; ((with_reducible refine (P5.out _).mono ?_); rintro e w9 ⟨rfl, hb9⟩; have hB := below_trans hB hb9))
          | (go_at_call 17; ((with_reducible refine (P6.out _).mono ?_); rintro e w9 ⟨rfl, hb9⟩; have hB := below_trans hB hb9))
          | (go_at_call 17; ((with_reducible refine (Qe.out _).mono ?_); rintro e w9 ⟨rfl, hb9⟩; have hB := below_trans hB hb9))
          | (go_at_call 17; ((with_reducible refine (Qf.out _).mono ?_); rintro e w9 ⟨rfl, hb9⟩; have hB := below_trans hB hb9))
          | (go_at_call 17; ((with_reducible refine (Qg.out _).mono ?_); rintro e w9 ⟨rfl, hb9⟩; have hB := below_trans hB hb9))
          | (go_at_call 17; ((with_reducible refine (Qi.out _).mono ?_); rintro e w9 ⟨rfl, hb9⟩; have hB := below_trans hB hb9))
          | (go_at_call 17; ((with_reducible refine (Qj.out _).mono ?_); rintro e w9 ⟨rfl, hb9⟩; have hB := below_trans hB hb9))
          | (go_at_call 17; ((with_reducible refine (Qk.out _).mono ?_); rintro e w9 ⟨rfl, hb9⟩; have hB := below_trans hB hb9))
          | (go_at_call 17; ((with_reducible refine (Ql.out _).mono ?_); rintro e w9 ⟨rfl, hb9⟩; have hB := below_trans hB hb9))
          | (go_at_call 17; ((with_reducible refine (Qm.out _).mono ?_); rintro e w9 ⟨rfl, hb9⟩; have hB := below_trans hB hb9))
          | (go_at_call 17; ((with_reducible refine (Qo.out _).mono ?_); rintro e w9 ⟨rfl, hb9⟩; have hB := below_trans hB hb9))
          | (go_at_call 17; ((with_reducible refine (Qd.out _).mono ?_); rintro e w9 ⟨rfl, hb9⟩; have hB := below_trans hB hb9))
          | (go_at_call 17; ((with_reducible refine (P7.out _).mono ?_); rintro e w9 ⟨rfl, hb9⟩; have hB := below_trans hB hb9))
          | (go_at_call 18; ((with_reducible refine (O1.out _ (HT.out _ hB)).mono ?_); rintro e w9 ⟨rfl, hb9⟩; have hB := below_trans hB hb9))
          | (go_at_call 18; ((with_reducible refine (O2.out _ (HT.out _ hB)).mono ?_); rintro e w9 ⟨rfl, hb9⟩; have hB := below_trans hB hb9))
          | (go_at_call 18; ((with_reducible refine (O3.out _ (HT.out _ hB)).mono ?_); rintro e w9 ⟨rfl, hb9⟩; have hB := below_trans hB hb9))
          | (go_at_call 18; ((with_reducible refine (O4.out _ (HT.out _ hB)).mono ?_); rintro e w9 ⟨rfl, hb9⟩; have hB := below_trans hB hb9))
          | (go_at_call 18; ((with_reducible refine (O5.out _ (HT.out _ hB)).mono ?_); rintro e w9 ⟨rfl, hb9⟩; have hB := below_trans hB hb9)))
        rw [rounds_succ]
        go_wp2_with (first
          | (go_at_call 17; ((with_reducible refine (P1.out _).mono ?_); rintro e w9 ⟨rfl, hb9⟩; have hB := below_trans hB hb9))
          | (go_at_call 17; ((with_reducible refine (P2.out _).mono ?_); rintro e w9 ⟨rfl, hb9⟩; have hB := below_trans hB hb9))
          | (go_at_call 17; ((with_reducible refine (P3.out _).mono ?_); rintro e w9 ⟨rfl, hb9⟩; have hB := below_trans hB hb9))
          | (go_at_call 17; ((with_reducible refine (P4.out _).mono ?_); rintro e w9 ⟨rfl, hb9⟩; have hB := below_trans hB hb9))
          | (go_at_call 17; ((with_reducible refine (P5.out _).mono ?_); rintro e w9 ⟨rfl, hb9⟩; have hB := below_trans hB hb9))
          | (go_at_call 17; ((with_reducible refine (P6.out _).mono ?_); rintro e w9 ⟨rfl, hb9⟩; have hB := below_trans hB hb9))
          | (go_at_call 17; ((with_reducible refine (Qe.out _).mono ?_); rintro e w9 ⟨rfl, hb9⟩; have hB := below_trans hB hb9))
          | (go_at_call 17; ((with_reducible refine (Qf.out _).mono ?_); rintro e w9 ⟨rfl, hb9⟩; have hB := below_trans hB hb9))
          | (go_at_call 17; ((with_reducible refine (Qg.out _).mono ?_); rintro e w9 ⟨rfl, hb9⟩; have hB := below_trans hB hb9))
          | (go_at_call 17; ((with_reducible refine (Qi.out _).mono ?_); rintro e w9 ⟨rfl, hb9⟩; have hB := below_trans hB hb9))
          | (go_at_call 17; ((with_reducible refine (Qj.out _).mono ?_); rintro e w9 ⟨rfl, hb9⟩; have hB := below_trans hB hb9))
          | (go_at_call 17; ((with_reducible refine (Qk.out _).mono ?_); rintro e w9 ⟨rfl, hb9⟩; have hB := below_trans hB hb9))
          | (go_at_call 17; ((with_reducible refine (Ql.out _).mono ?_); rintro e w9 ⟨rfl, hb9⟩; have hB := below_trans hB hb9))
          | (go_at_call 17; ((with_reducible refine (Qm.out _).mono ?_); rintro e w9 ⟨rfl, hb9⟩; have hB := below_trans hB hb9))
          | (go_at_call 17; ((with_reducible refine (Qo.out _).mono ?_); rintro e w9 ⟨rfl, hb9⟩; have hB := below_trans hB hb9))
          | (go_at_call 17; ((with_reducible refine (Qd.out _).mono ?_); rintro e w9 ⟨rfl, hb9⟩; have hB := below_trans hB hb9))
          | (go_at_call 17; ((with_reducible refine (P7.out _).mono ?_); rintro e w9 ⟨rfl, hb9⟩; have hB := below_trans hB hb9))
          | (go_at_call 18; ((with_reducible refine (O1.out _ (HT.out _ hB)).mono ?_); rintro e w9 ⟨rfl, hb9⟩; have hB := below_trans hB hb9))
          | (go_at_call 18; ((with_reducible refine (O2.out _ (HT.out _ hB)).mono ?_); rintro e w9 ⟨rfl, hb9⟩; have hB := below_trans hB hb9))
          | (go_at_call 18; ((with_reducible refine (O3.out _ (HT.out _ hB)).mono ?_); rintro e w9 ⟨rfl, hb9⟩; have hB := below_trans hB hb9))
          | (go_at_call 18; ((with_reducible refine (O4.out _ (HT.out _ hB)).mono ?_); rintro e w9 ⟨rfl, hb9⟩; have hB := below_trans hB hb9))
          | (go_at_call 18; ((with_reducible refine (O5.out _ (HT.out _ hB)).mono ?_); rintro e w9 ⟨rfl, hb9⟩; have hB := below_trans hB hb9)))
        rw [rounds_succ]
        go_wp2_with (first
          | (go_at_call 17; ((with_reducible refine (P1.out _).mono ?_); rintro e w9 ⟨rfl, hb9⟩; have hB := below_trans hB hb9))
          | (go_at_call 17; ((with_reducible refine (P2.out _).mono ?_); rintro e w9 ⟨rfl, hb9⟩; have hB := below_trans hB hb9))
          | (go_at_call 17; ((with_reducible refine (P3.out _).mono ?_); rintro e w9 ⟨rfl, hb9⟩; have hB := below_trans hB hb9))
          | (go_at_call 17; ((with_reducible refine (P4.out _).mono ?_); rintro e w9 ⟨rfl, hb9⟩; have hB := below_trans hB hb9))
          | (go_at_call 17; ((with_reducible refine (P5.out _).mono ?_); rintro e w9 ⟨rfl, hb9⟩; have hB := below_trans hB hb9))
          | (go_at_call 17; ((with_reducible refine (P6.out _).mono ?_); rintro e w9 ⟨rfl, hb9⟩; have hB := below_trans hB hb9))
          | (go_at_call 17; ((with_reducible refine (Qe.out _).mono ?_); rintro e w9 ⟨rfl, hb9⟩; have hB := below_trans hB hb9))
          | (go_at_call 17; ((with_reducible refine (Qf.out _).mono ?_); rintro e w9 ⟨rfl, hb9⟩; have hB := below_trans hB hb9))
          | (go_at_call 17; ((with_reducible refine (Qg.out _).mono ?_); rintro e w9 ⟨rfl, hb9⟩; have hB := below_trans hB hb9))
          | (go_at_call 17; ((with_reducible refine (Qi.out _).mono ?_); rintro e w9 ⟨rfl, hb9⟩; have hB := below_trans hB hb9))
          | (go_at_call 17; ((with_reducible refine (Qj.out _).mono ?_); rintro e w9 ⟨rfl, hb9⟩; have hB := below_trans hB hb9))
          | (go_at_call 17; ((with_reducible refine (Qk.out _).mono ?_); rintro e w9 ⟨rfl, hb9⟩; have hB := below_trans hB hb9))
          | (go_at_call 17; ((with_reducible refine (Ql.out _).mono ?_); rintro e w9 ⟨rfl, hb9⟩; have hB := below_trans hB hb9))
          | (go_at_call 17; ((with_reducible refine (Qm.out _).mono ?_); rintro e w9 ⟨rfl, hb9⟩; have hB := below_trans hB hb9))
          | (go_at_call 17; ((with_reducible refine (Qo.out _).mono ?_); rintro e w9 ⟨rfl, hb9⟩; have hB := below_trans hB hb9))
          | (go_at_call 17; ((with_reducible refine (Qd.out _).mono ?_); rintro e w9 ⟨rfl, hb9⟩; have hB := below_trans hB hb9))
          | (go_at_call 17; ((with_reducible refine (P7.out _).mono ?_); rintro e w9 ⟨rfl, hb9⟩; have hB := below_trans hB hb9))
          | (go_at_call 18; ((with_reducible refine (O1.out _ (HT.out _ hB)).mono ?_); rintro e w9 ⟨rfl, hb9⟩; have hB := below_trans hB hb9))
          | (go_at_call 18; ((with_reducible refine (O2.out _ (HT.out _ hB)).mono ?_); rintro e w9 ⟨rfl, hb9⟩; have hB := below_trans hB hb9))
          | (go_at_call 18; ((with_reducible refine (O3.out _ (HT.out _ hB)).mono ?_); rintro e w9 ⟨rfl, hb9⟩; have hB := below_trans hB hb9))
          | (go_at_call 18; ((with_reducible refine (O4.out _ (HT.out _ hB)).mono ?_); rintro e w9 ⟨rfl, hb9⟩; have hB := below_trans hB hb9))
          | (go_at_call 18; ((with_reducible refine (O5.out _ (HT.out _ hB)).mono ?_); rintro e w9 ⟨rfl, hb9⟩; have hB := below_trans hB hb9)))
        go_roundw
        case rel => exact ⟨96, rfl, by decide, hB⟩
        case measure => simp [intOf]
      · have T1 : ((q : Int) != (t : Int)) = true := by simp; omega
        have T2 : ((y1 : Int) != 0) = false := by simp; omega
        clear hqc hy0
        have T3 : ((a : Int) != 0) = true := by simp; omega
        have T4 : (r1 : Int) + (r2 : Int) + (n : Int) ≤ 64 := by omega
        clear hx0 hx1
        go_wp2_with (first
          | (go_at_call 17; ((with_reducible refine (P1.out _).mono ?_); rintro e w9 ⟨rfl, hb9⟩; have hB := below_trans hB hb9))
          | (go_at_call 17; ((with_reducible refine (P2.out _).mono ?_); rintro e w9 ⟨rfl, hb9⟩; have hB := below_trans hB hb9))
          | (go_at_call 17; ((with_reducible refine (P3.out _).mono ?_); rintro e w9 ⟨rfl, hb9⟩; have hB := below_trans hB hb9))
          | (go_at_call 17; ((with_reducible refine (P4.out _).mono ?_); rintro e w9 ⟨rfl, hb9⟩; have hB := below_trans hB hb9))
          | (go_at_call 17; ((with_reducible refine (P5.out _).mono ?_); rintro e w9 ⟨rfl, hb9⟩; have hB := below_trans hB hb9))
          | (go_at_call 17; ((with_reducible refine (P6.out _).mono ?_); rintro e w9 ⟨rfl, hb9⟩; have hB := below_trans hB hb9))
          | (go_at_call 17; ((with_reducible refine (Qe.out _).mono ?_); rintro e w9 ⟨rfl, hb9⟩; have hB := below_trans hB hb9))
          | (go_at_call 17; ((with_reducible refine (Qf.out _).mono ?_); rintro e w9 ⟨rfl, hb9⟩; have hB := below_trans hB hb9))
          | (go_at_call 17; ((with_reducible refine (Qg.out _).mono ?_); rintro e w9 ⟨rfl, hb9⟩; have hB := below_trans hB hb9))
          | (go_at_call 17; ((with_reducible refine (Qi.out _).mono ?_); rintro e w9 ⟨rfl, hb9⟩; have hB := below_trans hB hb9))
          | (go_at_call 17; ((with_reducible refine (Qj.out _).mono ?_); rintro e w9 ⟨rfl, hb9⟩; have hB := below_trans hB hb9))
          | (go_at_call 17; ((with_reducible refine (Qk.out _).mono ?_); rintro e w9 ⟨rfl, hb9⟩; have hB := below_trans hB hb9))
          | (go_at_call 17; ((with_reducible refine (Ql.out _).mono ?_); rintro e w9 ⟨rfl, hb9⟩; have hB := below_trans hB hb9))
          | (go_at_call 17; ((with_reducible refine (Qm.out _).mono ?_); rintro e w9 ⟨rfl, hb9⟩; have hB := below_trans hB hb9))
          | (go_at_call 17; ((with_reducible refine (Qo.out _).mono ?_); rintro e w9 ⟨rfl, hb9⟩; have hB := below_trans hB hb9))
          | (go_at_call 17; ((with_reducible refine (Qd.out _).mono ?_); rintro e w9 ⟨rfl, hb9⟩; have hB := below_trans hB hb9))
          | (go_at_call 17; ((with_reducible refine (P7.out _).mono ?_); rintro e w9 ⟨rfl, hb9⟩; have hB := below_trans hB hb9))
          | (go_at_call 18; ((with_reducible refine (O1.out _ (HT.out _ hB)).mono ?_); rintro e w9 ⟨rfl, hb9⟩; have hB := below_trans hB hb9))
          | (go_at_call 18; ((with_reducible refine (O2.out _ (HT.out _ hB)).mono ?_); rintro e w9 ⟨rfl, hb9⟩; have hB := below_trans hB hb9))
          | (go_at_call 18; ((with_reducible refine (O3.out _ (HT.out _ hB)).mono ?_); rintro e w9 ⟨rfl, hb9⟩; have hB := below_trans hB hb9))
          | (go_at_call 18; ((with_reducible refine (O4.out _ (HT.out _ hB)).mono ?_); rintro e w9 ⟨rfl, hb9⟩; have hB := below_trans hB hb9))
          | (go_at_call 18; ((with_reducible refine (O5.out _ (HT.out _ hB)).mono ?_); rintro e w9 ⟨rfl, hb9⟩; have hB := below_trans hB hb9)))
        refine wp_loop_rounds 3 ?_
        rw [rounds_succ]
        go_wp2_with (first
          | (go_at_call 17; ((with_reducible refine (P1.out _).mono ?_); rintro e w9 ⟨rfl, hb9⟩; have hB := below_trans hB hb9))
          | (go_at_call 17; ((with_reducible refine (P2.out _).mono ?_); rintro e w9 ⟨rfl, hb9⟩; have hB := below_trans hB hb9))
          | (go_at_call 17; ((with_reducible refine (P3.out _).mono ?_); rintro e w9 ⟨rfl, hb9⟩; have hB := below_trans hB hb9))
          | (go_at_call 17; ((with_reducible refine (P4.out _).mono ?_); rintro e w9 ⟨rfl, hb9⟩; have hB := below_trans hB hb9))
          | (go_at_call 17; ((with_reducible refine (P5.out _).mono ?_); rintro e w9 ⟨rfl, hb9⟩; have hB := below_trans hB hb9))
          | (go_at_call 17; ((with_reducible refine (P6.out _).mono ?_); rintro e w9 ⟨rfl, hb9⟩; have hB := below_trans hB hb9))
          | (go_at_call 17; ((with_reducible refine (Qe.out _).mono ?_); rintro e w9 ⟨rfl, hb9⟩; have hB := below_trans hB hb9))
          | (go_at_call 17; ((with_reducible refine (Qf.out _).mono ?_); rintro e w9 ⟨rfl, hb9⟩; have hB := below_trans hB hb9))
          | (go_at_call 17; ((with_reducible refine (Qg.out _).mono ?_); rintro e w9 ⟨rfl, hb9⟩; have hB := below_trans hB hb9))
          | (go_at_call 17; ((with_reducible refine (Qi.out _).mono ?_); rintro e w9 ⟨rfl, hb9⟩; have hB := below_trans hB hb9))
          | (go_at_call 17; ((with_reducible refine (Qj.out _).mono ?_); rintro e w9 ⟨rfl, hb9⟩; have hB := below_trans hB hb9))
          | (go_at_call 17; ((with_reducible refine (Qk.out _).mono ?_); rintro e w9 ⟨rfl, hb9⟩; have hB := below_trans hB hb9))
          | (go_at_call 17; ((with_reducible refine (Ql.out _).mono ?_); rintro e w9 ⟨rfl, hb9⟩; have hB := below_trans hB hb9))
          | (go_at_call 17; ((with_reducible refine (Qm.out _).mono ?_); rintro e w9 ⟨rfl, hb9⟩; have hB := below_trans hB hb9))
          | (go_at_call 17; ((with_reducible refine (Qo.out _).mono ?_); rintro e w9 ⟨rfl, hb9⟩; have hB := below_trans hB hb9))
          | (go_at_call 17; ((with_reducible refine (Qd.out _).mono ?_); rintro e w9 ⟨rfl, hb9⟩; have hB := below_trans hB hb9))
          | (go_at_call 17; ((with_reducible refine (P7.out _).mono ?_); rintro e w9 ⟨rfl, hb9⟩; have hB := below_trans hB hb9))
          | (go_at_call 18; ((with_reducible refine (O1.out _ (HT.out _ hB)).mono ?_); rintro e w9 ⟨rfl, hb9⟩; have hB := below_trans hB hb9))
          | (go_at_call 18; ((with_reducible refine (O2.out _ (HT.out _ hB)).mono ?_); rintro e w9 ⟨rfl, hb9⟩; have hB := below_trans hB hb9))
          | (go_at_call 18; ((with_reducible refine (O3.out _ (HT.out _ hB)).mono ?_); rintro e w9 ⟨rfl, hb9⟩; have hB := below_trans hB hb9))
          | (go_at_call 18; ((with_reducible refine (O4.out _ (HT.out _ hB)).mono ?_); rintro e w9 ⟨rfl, hb9⟩; have hB := below_trans hB hb9))
          | (go_at_call 18; ((with_reducible refine (O5.out _ (HT.out _ hB)).mono ?_); rintro e w9 ⟨rfl, hb9⟩; have hB := below_trans hB hb9)))
        rw [rounds_succ]
        go_wp2_with (first
          | (go_at_call 17; ((with_reducible refine (P1.out _).mono ?_); rintro e w9 ⟨rfl, hb9⟩; have hB := below_trans hB hb9))
          | (go_at_call 17; ((with_reducible refine (P2.out _).mono ?_); rintro e w9 ⟨rfl, hb9⟩; have hB := below_trans hB hb9))
          | (go_at_call 17; ((with_reducible refine (P3.out _).mono ?_); rintro e w9 ⟨rfl, hb9⟩; have hB := below_trans hB hb9))
          | (go_at_call 17; ((with_reducible refine (P4.out _).mono ?_); rintro e w9 ⟨rfl, hb9⟩; have hB := below_trans hB hb9))
          | (go_at_call 17; ((with_reducible refine (P5.out _).mono ?_); rintro e w9 ⟨rfl, hb9⟩; have hB := below_trans hB hb9))
          | (go_at_call 17; ((with_reducible refine (P6.out _).mono ?_); rintro e w9 ⟨rfl, hb9⟩; have hB := below_trans hB hb9))
          | (go_at_call 17; ((with_reducible refine (Qe.out _).mono ?_); rintro e w9 ⟨rfl, hb9⟩; have hB := below_trans hB hb9))
          | (go_at_call 17; ((with_reducible refine (Qf.out _).mono ?_); rintro e w9 ⟨rfl, hb9⟩; have hB := below_trans hB hb9))
          | (go_at_call 17; ((with_reducible refine (Qg.out _).mono ?_); rintro e w9 ⟨rfl, hb9⟩; have hB := below_trans hB hb9))
          | (go_at_call 17; ((with_reducible refine (Qi.out _).mono ?_); rintro e w9 ⟨rfl, hb9⟩; have hB := below_trans hB hb9))
          | (go_at_call 17; ((with_reducible refine (Qj.out _).mono ?_); rintro e w9 ⟨rfl, hb9⟩; have hB := below_trans hB hb9))
          | (go_at_call 17; ((with_reducible refine (Qk.out _).mono ?_); rintro e w9 ⟨rfl, hb9⟩; have hB := below_trans hB hb9))
          | (go_at_call 17; ((with_reducible refine (Ql.out _).mono ?_); rintro e w9 ⟨rfl, hb9⟩; have hB := below_trans hB hb9))
          | (go_at_call 17; ((with_reducible refine (Qm.out _).mono ?_); rintro e w9 ⟨rfl, hb9⟩; have hB := below_trans hB hb9))
          | (go_at_call 17; ((with_reducible refine (Qo.out _).mono ?_); rintro e w9 ⟨rfl, hb9⟩; have hB := below_trans hB hb9))
          | (go_at_call 17; ((with_reducible refine (Qd.out _).mono ?_); rintro e w9 ⟨rfl, hb9⟩; have hB := below_trans hB hb9))
          | (go_at_call 17; ((with_reducible refine (P7.out _).mono ?_); rintro e w9 ⟨rfl, hb9⟩; have hB := below_trans hB hb9))
          | (go_at_call 18; ((with_reducible refine (O1.out _ (HT.out _ hB)).mono ?_); rintro e w9 ⟨rfl, hb9⟩; have hB := below_trans hB hb9))
          | (go_at_call 18; ((with_reducible refine (O2.out _ (HT.out _ hB)).mono ?_); rintro e w9 ⟨rfl, hb9⟩; have hB := below_trans hB hb9))
          | (go_at_call 18; ((with_reducible refine (O3.out _ (HT.out _ hB)).mono ?_); rintro e w9 ⟨rfl, hb9⟩; have hB := below_trans hB hb9))
          | (go_at_call 18; ((with_reducible refine (O4.out _ (HT.out _ hB)).mono ?_); rintro e w9 ⟨rfl, hb9⟩; have hB := below_trans hB hb9))
          | (go_at_call 18; ((with_reducible refine (O5.out _ (HT.out _ hB)).mono ?_); rintro e w9 ⟨rfl, hb9⟩; have hB := below_trans hB hb9)))
        rw [rounds_succ]
        go_wp2_with (first
          | (go_at_call 17; ((with_reducible refine (P1.out _).mono ?_); rintro e w9 ⟨rfl, hb9⟩; have hB := below_trans hB hb9))
          | (go_at_call 17; ((with_reducible refine (P2.out _).mono ?_); rintro e w9 ⟨rfl, hb9⟩; have hB := below_trans hB hb9))
          | (go_at_call 17; ((with_reducible refine (P3.out _).mono ?_); rintro e w9 ⟨rfl, hb9⟩; have hB := below_trans hB hb9))
          | (go_at_call 17; ((with_reducible refine (P4.out _).mono ?_); rintro e w9 ⟨rfl, hb9⟩; have hB := below_trans hB hb9))
          | (go_at_call 17; ((with_reducible refine (P5.out _).mono ?_); rintro e w9 ⟨rfl, hb9⟩; have hB := below_trans hB hb9))
          | (go_at_call 17; ((with_reducible refine (P6.out _).mono ?_); rintro e w9 ⟨rfl, hb9⟩; have hB := below_trans hB hb9))
          | (go_at_call 17; ((with_reducible refine (Qe.out _).mono ?_); rintro e w9 ⟨rfl, hb9⟩; have hB := below_trans hB hb9))
          | (go_at_call 17; ((with_reducible refine (Qf.out _).mono ?_); rintro e w9 ⟨rfl, hb9⟩; have hB := below_trans hB hb9))
          | (go_at_call 17; ((with_reducible refine (Qg.out _).mono ?_); rintro e w9 ⟨rfl, hb9⟩; have hB := below_trans hB hb9))
          | (go_at_call 17; ((with_reducible refine (Qi.out _).mono ?_); rintro e w9 ⟨rfl, hb9⟩; have hB := below_trans hB hb9))
          | (go_at_call 17; ((with_reducible refine (Qj.out _).mono ?_); rintro e w9 ⟨rfl, hb9⟩; have hB := below_trans hB hb9))
          | (go_at_call 17; ((with_reducible refine (Qk.out _).mono ?_); rintro e w9 ⟨rfl, hb9⟩; have hB := below_trans hB hb9))
          | (go_at_call 17; ((with_reducible refine (Ql.out _).mono ?_); rintro e w9 ⟨rfl, hb9⟩; have hB := below_trans hB hb9))
          | (go_at_call 17; ((with_reducible refine (Qm.out _).mono ?_); rintro e w9 ⟨rfl, hb9⟩; have hB := below_trans hB hb9))
          | (go_at_call 17; ((with_reducible refine (Qo.out _).mono ?_); rintro e w9 ⟨rfl, hb9⟩; have hB := below_trans hB hb9))
          | (go_at_call 17; ((with_reducible refine (Qd.out _).mono ?_); rintro e w9 ⟨rfl, hb9⟩; have hB := below_trans hB hb9))
          | (go_at_call 17; ((with_reducible refine (P7.out _).mono ?_); rintro e w9 ⟨rfl, hb9⟩; have hB := below_trans hB hb9))
          | (go_at_call 18; ((with_reducible refine (O1.out _ (HT.out _ hB)).mono ?_); rintro e w9 ⟨rfl, hb9⟩; have hB := below_trans hB hb9))
          | (go_at_call 18; ((with_reducible refine (O2.out _ (HT.out _ hB)).mono ?_); rintro e w9 ⟨rfl, hb9⟩; have hB := below_trans hB hb9))
          | (go_at_call 18; ((with_reducible refine (O3.out _ (HT.out _ hB)).mono ?_); rintro e w9 ⟨rfl, hb9⟩; have hB := below_trans hB hb9))
          | (go_at_call 18; ((with_reducible refine (O4.out _ (HT.out _ hB)).mono ?_); rintro e w9 ⟨rfl, hb9⟩; have hB := below_trans hB hb9))
          | (go_at_call 18; ((with_reducible refine (O5.out _ (HT.out _ hB)).mono ?_); rintro e w9 ⟨rfl, hb9⟩; have hB := below_trans hB hb9)))
        go_roundw
        case rel => exact ⟨96, rfl, by decide, hB⟩
        case measure => simp [intOf]
      · have T1 : ((q : Int) != (t : Int)) = true := by simp; omega
        have T2 : ((y1 : Int) != 0) = false := by simp; omega
        clear hqc hy0
        have T3 : ((a : Int) != 0) = false := by simp; omega
        have T4 : 64 < (r1 : Int) + (r2 : Int) + (n : Int) := by omega
        clear hx0 hx1
        go_wp2_with (first
          | (go_at_call 17; ((with_reducible refine (P1.out _).mono ?_); rintro e w9 ⟨rfl, hb9⟩; have hB := below_trans hB hb9))
          | (go_at_call 17; ((with_reducible refine (P2.out _).mono ?_); rintro e w9 ⟨rfl, hb9⟩; have hB := below_trans hB hb9))
          | (go_at_call 17; ((with_reducible refine (P3.out _).mono ?_); rintro e w9 ⟨rfl, hb9⟩; have hB := below_trans hB hb9))
          | (go_at_call 17; ((with_reducible refine (P4.out _).mono ?_); rintro e w9 ⟨rfl, hb9⟩; have hB := below_trans hB hb9))
          | (go_at_call 17; ((with_reducible refine (P5.out _).mono ?_); rintro e w9 ⟨rfl, hb9⟩; have hB := below_trans hB hb9))
          | (go_at_call 17; ((with_reducible refine (P6.out _).mono ?_); rintro e w9 ⟨rfl, hb9⟩; have hB := below_trans hB hb9))
          | (go_at_call 17; ((with_reducible refine (Qe.out _).mono ?_); rintro e w9 ⟨rfl, hb9⟩; have hB := below_trans hB hb9))
          | (go_at_call 17; ((with_reducible refine (Qf.out _).mono ?_); rintro e w9 ⟨rfl, hb9⟩; have hB := below_trans hB hb9))
          | (go_at_call 17; ((with_reducible refine (Qg.out _).mono ?_); rintro e w9 ⟨rfl, hb9⟩; have hB := below_trans hB hb9))
          | (go_at_call 17; ((with_reducible refine (Qi.out _).mono ?_); rintro e w9 ⟨rfl, hb9⟩; have hB := below_trans hB hb9))
          | (go_at_call 17; ((with_reducible refine (Qj.out _).mono ?_); rintro e w9 ⟨rfl, hb9⟩; have hB := below_trans hB hb9))
          | (go_at_call 17; ((with_reducible refine (Qk.out _).mono ?_); rintro e w9 ⟨rfl, hb9⟩; have hB := below_trans hB hb9))
          | (go_at_call 17; ((with_reducible refine (Ql.out _).mono ?_); rintro e w9 ⟨rfl, hb9⟩; have hB := below_trans hB hb9))
          | (go_at_call 17; ((with_reducible refine (Qm.out _).mono ?_); rintro e w9 ⟨rfl, hb9⟩; have hB := below_trans hB hb9))
          | (go_at_call 17; ((with_reducible refine (Qo.out _).mono ?_); rintro e w9 ⟨rfl, hb9⟩; have hB := below_trans hB hb9))
          | (go_at_call 17; ((with_reducible refine (Qd.out _).mono ?_); rintro e w9 ⟨rfl, hb9⟩; have hB := below_trans hB hb9))
          | (go_at_call 17; ((with_reducible refine (P7.out _).mono ?_); rintro e w9 ⟨rfl, hb9⟩; have hB := below_trans hB hb9))
          | (go_at_call 18; ((with_reducible refine (O1.out _ (HT.out _ hB)).mono ?_); rintro e w9 ⟨rfl, hb9⟩; have hB := below_trans hB hb9))
          | (go_at_call 18; ((with_reducible refine (O2.out _ (HT.out _ hB)).mono ?_); rintro e w9 ⟨rfl, hb9⟩; have hB := below_trans hB hb9))
          | (go_at_call 18; ((with_reducible refine (O3.out _ (HT.out _ hB)).mono ?_); rintro e w9 ⟨rfl, hb9⟩; have hB := below_trans hB hb9))
          | (go_at_call 18; ((with_reducible refine (O4.out _ (HT.out _ hB)).mono ?_); rintro e w9 ⟨rfl, hb9⟩; have hB := below_trans hB hb9))
          | (go_at_call 18; ((with_reducible refine (O5.out _ (HT.out _ hB)).mono ?_); rintro e w9 ⟨rfl, hb9⟩; have hB := below_trans hB hb9)))
        refine wp_loop_rounds 3 ?_
        rw [rounds_succ]
        go_wp2_with (first
          | (go_at_call 17; ((with_reducible refine (P1.out _).mono ?_); rintro e w9 ⟨rfl, hb9⟩; have hB := below_trans hB hb9))
          | (go_at_call 17; ((with_reducible refine (P2.out _).mono ?_); rintro e w9 ⟨rfl, hb9⟩; have hB := below_trans hB hb9))
          | (go_at_call 17; ((with_reducible refine (P3.out _).mono ?_); rintro e w9 ⟨rfl, hb9⟩; have hB := below_trans hB hb9))
          | (go_at_call 17; ((with_reducible refine (P4.out _).mono ?_); rintro e w9 ⟨rfl, hb9⟩; have hB := below_trans hB hb9))
          | (go_at_call 17; ((with_reducible refine (P5.out _).mono ?_); rintro e w9 ⟨rfl, hb9⟩; have hB := below_trans hB hb9))
          | (go_at_call 17; ((with_reducible refine (P6.out _).mono ?_); rintro e w9 ⟨rfl, hb9⟩; have hB := below_trans hB hb9))
          | (go_at_call 17; ((with_reducible refine (Qe.out _).mono ?_); rintro e w9 ⟨rfl, hb9⟩; have hB := below_trans hB hb9))
          | (go_at_call 17; ((with_reducible refine (Qf.out _).mono ?_); rintro e w9 ⟨rfl, hb9⟩; have hB := below_trans hB hb9))
          | (go_at_call 17; ((with_reducible refine (Qg.out _).mono ?_); rintro e w9 ⟨rfl, hb9⟩; have hB := below_trans hB hb9))
          | (go_at_call 17; ((with_reducible refine (Qi.out _).mono ?_); rintro e w9 ⟨rfl, hb9⟩; have hB := below_trans hB hb9))
          | (go_at_call 17; ((with_reducible refine (Qj.out _).mono ?_); rintro e w9 ⟨rfl, hb9⟩; have hB := below_trans hB hb9))
          | (go_at_call 17; ((with_reducible refine (Qk.out _).mono ?_); rintro e w9 ⟨rfl, hb9⟩; have hB := below_trans hB hb9))
          | (go_at_call 17; ((with_reducible refine (Ql.out _).mono ?_); rintro e w9 ⟨rfl, hb9⟩; have hB := below_trans hB hb9))
          | (go_at_call 17; ((with_reducible refine (Qm.out _).mono ?_); rintro e w9 ⟨rfl, hb9⟩; have hB := below_trans hB hb9))
          | (go_at_call 17; ((with_reducible refine (Qo.out _).mono ?_); rintro e w9 ⟨rfl, hb9⟩; have hB := below_trans hB hb9))
          | (go_at_call 17; ((with_reducible refine (Qd.out _).mono ?_); rintro e w9 ⟨rfl, hb9⟩; have hB := below_trans hB hb9))
          | (go_at_call 17; ((with_reducible refine (P7.out _).mono ?_); rintro e w9 ⟨rfl, hb9⟩; have hB := below_trans hB hb9))
          | (go_at_call 18; ((with_reducible refine (O1.out _ (HT.out _ hB)).mono ?_); rintro e w9 ⟨rfl, hb9⟩; have hB := below_trans hB hb9))
          | (go_at_call 18; ((with_reducible refine (O2.out _ (HT.out _ hB)).mono ?_); rintro e w9 ⟨rfl, hb9⟩; have hB := below_trans hB hb9))
          | (go_at_call 18; ((with_reducible refine (O3.out _ (HT.out _ hB)).mono ?_); rintro e w9 ⟨rfl, hb9⟩; have hB := below_trans hB hb9))
          | (go_at_call 18; ((with_reducible refine (O4.out _ (HT.out _ hB)).mono ?_); rintro e w9 ⟨rfl, hb9⟩; have hB := below_trans hB hb9))
          | (go_at_call 18; ((with_reducible refine (O5.out _ (HT.out _ hB)).mono ?_); rintro e w9 ⟨rfl, hb9⟩; have hB := below_trans hB hb9)))
        rw [rounds_succ]
        go_wp2_with (first
          | (go_at_call 17; ((with_reducible refine (P1.out _).mono ?_); rintro e w9 ⟨rfl, hb9⟩; have hB := below_trans hB hb9))
          | (go_at_call 17; ((with_reducible refine (P2.out _).mono ?_); rintro e w9 ⟨rfl, hb9⟩; have hB := below_trans hB hb9))
          | (go_at_call 17; ((with_reducible refine (P3.out _).mono ?_); rintro e w9 ⟨rfl, hb9⟩; have hB := below_trans hB hb9))
          | (go_at_call 17; ((with_reducible refine (P4.out _).mono ?_); rintro e w9 ⟨rfl, hb9⟩; have hB := below_trans hB hb9))
          | (go_at_call 17; ((with_reducible refine (P5.out _).mono ?_); rintro e w9 ⟨rfl, hb9⟩; have hB := below_trans hB hb9))
          | (go_at_call 17; ((with_reducible refine (P6.out _).mono ?_); rintro e w9 ⟨rfl, hb9⟩; have hB := below_trans hB hb9))
          | (go_at_call 17; ((with_reducible refine (Qe.out _).mono ?_); rintro e w9 ⟨rfl, hb9⟩; have hB := below_trans hB hb9))
          | (go_at_call 17; ((with_reducible refine (Qf.out _).mono ?_); rintro e w9 ⟨rfl, hb9⟩; have hB := below_trans hB hb9))
          | (go_at_call 17; ((with_reducible refine (Qg.out _).mono ?_); rintro e w9 ⟨rfl, hb9⟩; have hB := below_trans hB hb9))
          | (go_at_call 17; ((with_reducible refine (Qi.out _).mono ?_); rintro e w9 ⟨rfl, hb9⟩; have hB := below_trans hB hb9))
          | (go_at_call 17; ((with_reducible refine (Qj.out _).mono ?_); rintro e w9 ⟨rfl, hb9⟩; have hB := below_trans hB hb9))
          | (go_at_call 17; ((with_reducible refine (Qk.out _).mono ?_); rintro e w9 ⟨rfl, hb9⟩; have hB := below_trans hB hb9))
          | (go_at_call 17; ((with_reducible refine (Ql.out _).mono ?_); rintro e w9 ⟨rfl, hb9⟩; have hB := below_trans hB hb9))
          | (go_at_call 17; ((with_reducible refine (Qm.out _).mono ?_); rintro e w9 ⟨rfl, hb9⟩; have hB := below_trans hB hb9))
          | (go_at_call 17; ((with_reducible refine (Qo.out _).mono ?_); rintro e w9 ⟨rfl, hb9⟩; have hB := below_trans hB hb9))
          | (go_at_call 17; ((with_reducible refine (Qd.out _).mono ?_); rintro e w9 ⟨rfl, hb9⟩; have hB := below_trans hB hb9))
          | (go_at_call 17; ((with_reducible refine (P7.out _).mono ?_); rintro e w9 ⟨rfl, hb9⟩; have hB := below_trans hB hb9))
          | (go_at_call 18; ((with_reducible refine (O1.out _ (HT.out _ hB)).mono ?_); rintro e w9 ⟨rfl, hb9⟩; have hB := below_trans hB hb9))
          | (go_at_call 18; ((with_reducible refine (O2.out _ (HT.out _ hB)).mono ?_); rintro e w9 ⟨rfl, hb9⟩; have hB := below_trans hB hb9))
          | (go_at_call 18; ((with_reducible refine (O3.out _ (HT.out _ hB)).mono ?_); rintro e w9 ⟨rfl, hb9⟩; have hB := below_trans hB hb9))
          | (go_at_call 18; ((with_reducible refine (O4.out _ (HT.out _ hB)).mono ?_); rintro e w9 ⟨rfl, hb9⟩; have hB := below_trans hB hb9))
          | (go_at_call 18; ((with_reducible refine (O5.out _ (HT.out _ hB)).mono ?_); rintro e w9 ⟨rfl, hb9⟩; have hB := below_trans hB hb9)))
        rw [rounds_succ]
        go_wp2_with (first
          | (go_at_call 17; ((with_reducible refine (P1.out _).mono ?_); rintro e w9 ⟨rfl, hb9⟩; have hB := below_trans hB hb9))
          | (go_at_call 17; ((with_reducible refine (P2.out _).mono ?_); rintro e w9 ⟨rfl, hb9⟩; have hB := below_trans hB hb9))
          | (go_at_call 17; ((with_reducible refine (P3.out _).mono ?_); rintro e w9 ⟨rfl, hb9⟩; have hB := below_trans hB hb9))
          | (go_at_call 17; ((with_reducible refine (P4.out _).mono ?_); rintro e w9 ⟨rfl, hb9⟩; have hB := below_trans hB hb9))
          | (go_at_call 17; ((with_reducible refine (P5.out _).mono ?_); rintro e w9 ⟨rfl, hb9⟩; have hB := below_trans hB hb9))
          | (go_at_call 17; ((with_reducible refine (P6.out _).mono ?_); rintro e w9 ⟨rfl, hb9⟩; have hB := below_trans hB hb9))
          | (go_at_call 17; ((with_reducible refine (Qe.out _).mono ?_); rintro e w9 ⟨rfl, hb9⟩; have hB := below_trans hB hb9))
          | (go_at_call 17; ((with_reducible refine (Qf.out _).mono ?_); rintro e w9 ⟨rfl, hb9⟩; have hB := below_trans hB hb9))
          | (go_at_call 17; ((with_reducible refine (Qg.out _).mono ?_); rintro e w9 ⟨rfl, hb9⟩; have hB := below_trans hB hb9))
          | (go_at_call 17; ((with_reducible refine (Qi.out _).mono ?_); rintro e w9 ⟨rfl, hb9⟩; have hB := below_trans hB hb9))
          | (go_at_call 17; ((with_reducible refine (Qj.out _).mono ?_); rintro e w9 ⟨rfl, hb9⟩; have hB := below_trans hB hb9))
          | (go_at_call 17; ((with_reducible refine (Qk.out _).mono ?_); rintro e w9 ⟨rfl, hb9⟩; have hB := below_trans hB hb9))
          | (go_at_call 17; ((with_reducible refine (Ql.out _).mono ?_); rintro e w9 ⟨rfl, hb9⟩; have hB := below_trans hB hb9))
          | (go_at_call 17; ((with_reducible refine (Qm.out _).mono ?_); rintro e w9 ⟨rfl, hb9⟩; have hB := below_trans hB hb9))
          | (go_at_call 17; ((with_reducible refine (Qo.out _).mono ?_); rintro e w9 ⟨rfl, hb9⟩; have hB := below_trans hB hb9))
          | (go_at_call 17; ((with_reducible refine (Qd.out _).mono ?_); rintro e w9 ⟨rfl, hb9⟩; have hB := below_trans hB hb9))
          | (go_at_call 17; ((with_reducible refine (P7.out _).mono ?_); rintro e w9 ⟨rfl, hb9⟩; have hB := below_trans hB hb9))
          | (go_at_call 18; ((with_reducible refine (O1.out _ (HT.out _ hB)).mono ?_); rintro e w9 ⟨rfl, hb9⟩; have hB := below_trans hB hb9))
          | (go_at_call 18; ((with_reducible refine (O2.out _ (HT.out _ hB)).mono ?_); rintro e w9 ⟨rfl, hb9⟩; have hB := below_trans hB hb9))
          | (go_at_call 18; ((with_reducible refine (O3.out _ (HT.out _ hB)).mono ?_); rintro e w9 ⟨rfl, hb9⟩; have hB := below_trans hB hb9))
          | (go_at_call 18; ((with_reducible refine (O4.out _ (HT.out _ hB)).mono ?_); rintro e w9 ⟨rfl, hb9⟩; have hB := below_trans hB hb9))
          | (go_at_call 18; ((with_reducible refine (O5.out _ (HT.out _ hB)).mono ?_); rintro e w9 ⟨rfl, hb9⟩; have hB := below_trans hB hb9)))
        go_roundw
        case rel => exact ⟨96, rfl, by decide, hB⟩
        case measure => simp [intOf]
    · go_wp2_with (go_at_call 14; ((with_reducible refine (HKn.out _ (HT.out _ hB)).mono ?_); rintro e w5 ⟨rfl, hb⟩; have hB := below_trans hB hb))
      go_ret
      exact ⟨rfl, hB⟩
end Go.Proofs.YtnhnbcjffnlicaaDoor

/-
  The document's Two where it goes place by place: and, or, xor.
-/
import Derived.Test.YtnhnbcjffnlicaaDoorNumN
import Derived.BigRegion
import Derived.RegionTactic
namespace Go.Proofs.YtnhnbcjffnlicaaDoor
open Go.RowKit Num
set_option linter.unusedVariables false
set_option maxRecDepth 100000 in
set_option maxHeartbeats 8000000 in
theorem rTwo_27 (op : Int) (a b w : Nat) (f t : Int) (h : Wd w f) (ha : a < 2 ^ w) (hb : b < 2 ^ w) (W : World) (hOf : ∀ W, Calls Tryd.prog 13 #[.int .i64 op] W (K4 27 f t 2 W)) :
    Calls Tryd.prog 16 #[.int .i64 op, .int .u64 a, .int .u64 b] W (Two2 (tv 27 w a b, 0) W) := by
  have hw64 : w ≤ 64 := by rcases h with ⟨rfl, _⟩ | ⟨rfl, _⟩ <;> omega
  have hw1 : 1 ≤ w := by rcases h with ⟨rfl, _⟩ | ⟨rfl, _⟩ <;> omega
  have hf : f = (w : Int) := by rcases h with ⟨rfl, rfl⟩ | ⟨rfl, rfl⟩ <;> rfl
  subst hf
  have HO := Lib.hid hOf
  have HF := Lib.hid (fun W => rfits_any a w _ rfl (wd64 h ha) hw64 W)
  have HG := Lib.hid (fun W => rfits_any b w _ rfl (wd64 h hb) hw64 W)
  have HBa := Lib.hid (fun W => RBits_any a w _ rfl (wd64 h ha) hw64 W)
  have HBb := Lib.hid (fun W => RBits_any b w _ rfl (wd64 h hb) hw64 W)
  have HC := Lib.hid (fun (m : Nat) (hm : m < 18446744073709551616) W => rcut_any m w _ rfl hm hw64 W)
  have hd : decide (a < 2 ^ w) = true := by rw [decide_eq_true_eq]; exact ha
  have hd2 : decide (b < 2 ^ w) = true := by rw [decide_eq_true_eq]; exact hb
  have HD := Lib.hid hd
  have HD2 := Lib.hid hd2
  have H := Lib.hid (And.intro ha (And.intro hb (And.intro (wd64 h ha) (wd64 h hb))))
  have hwz : ((w : Int) == 0) = false := by rw [beq_eq_false_iff_ne]; omega
  have hwz2 : (w : Int) ≠ 0 := by omega
  have hwi : (0 : Int) < (w : Int) := by omega
  have hwj : (w : Int) ≤ 64 := by omega
  have HW := Lib.hid hw64
  have HTV := Lib.hid (vb_tv 27 w a b hw1 ha hb (by omega) (by omega))
  obtain ⟨K, hK⟩ : ∃ K, b % w = K := ⟨_, rfl⟩
  have hKw : K < w := by rw [← hK]; exact Nat.mod_lt _ hw1
  rw [hK] at HTV
  have hKI : (b : Int) % (w : Int) = (K : Int) := by rw [← hK]; rfl
  have hKl : (K : Int) < (w : Int) := by omega
  have HK := Lib.hid hKw
  clear hOf ha hb hd hd2 hw64 hw1 h hK hKw
  have HV2 := Lib.hid (vb_lt 27 w K a b)
  have HL2 := Lib.hid (outl_lt 27 w K a b)
  go_enter Tryd.func16, Tryd.ntmps16
  go_wp2_with (first
      | (go_at_call 13; ((with_reducible refine (HO.out _).mono ?_); rintro e w1 ⟨rfl, hb⟩))
      | (go_at_call 23; ((with_reducible refine (HF.out _).mono ?_); rw [HD.out]; rintro e w2 ⟨rfl, hb2⟩; obtain ⟨hc2, hf2⟩ := bcell hb2; have hB2 := below_trans (hb.alloc hb.size _) hb2))
      | (go_at_call 23; ((with_reducible refine (HG.out _).mono ?_); rw [HD2.out]; rintro e w3 ⟨rfl, hb3⟩; have hk0 : w3.cell? ⟨w1.heap.size, 0, none⟩ = some (.int .i64 27) := (by rw [(bcell hb3).1 _ _ (Nat.lt_of_lt_of_le (by simp) hb2.size), hc2 _ _ (by simp)]; go_simp); have hlt3 : w1.heap.size < w3.heap.size := (by have q2 := hb2.size; have q3 := hb3.size; simp at q2; omega); have hB3 := below_trans hB2 hb3))
      | (go_at_call 24; ((with_reducible refine (HBa.out _).mono ?_); rintro e w4 ⟨A4, c4, rfl, ho4, hb4⟩))
      | (go_at_call 24; ((with_reducible refine (HBb.out _).mono ?_); rintro e w5 ⟨A5, c5, rfl, ho5, hb5⟩; obtain ⟨w6, hrun, ho6, hg6⟩ := run_make_ints w5 w5.heap.size w (by have := HW.out; omega) (Nat.le_refl _); have hB56 := Below.grownNone' hg6 (Nat.le_refl _) (Below.refl w5.heap.size w5); have hB6 : Below W.heap.size W w6 := below_trans (below_trans (below_trans hB3 hb4) hb5) hB56; have hk6 : w6.cell? ⟨w1.heap.size, 0, none⟩ = some (.int .i64 27) := (by rw [(bcell (below_trans (below_trans hb4 hb5) hB56)).1 _ _ hlt3, hk0]))))
  obtain ⟨hz4, g4, hA4, hg41, hg42, hcell4⟩ := ho4.open_ (by omega)
  subst hA4
  obtain ⟨hz5, g5, hA5, hg51, hg52, hcell5⟩ := ho5.open_ (by omega)
  subst hA5
  have H4 : Hid (∀ wr : World, Below w5.heap.size w5 wr → ∀ i, i < w → wr.cell? ⟨g4, i, none⟩ = some (.int .i64 ((bt a i : Nat) : Int))) := fun wr hr i hi => by
    have h1 : i < (bl w a).length := by rw [bl_length]; exact hi
    rw [hr.cell (p := ⟨g4, i, none⟩) (Nat.lt_of_lt_of_le hg42 hb5.size), hb5.cell (p := ⟨g4, i, none⟩) hg42, hcell4 i h1, bl_get]; rfl
  have H5 : Hid (∀ wr : World, Below w5.heap.size w5 wr → ∀ i, i < w → wr.cell? ⟨g5, i, none⟩ = some (.int .i64 ((bt b i : Nat) : Int))) := fun wr hr i hi => by
    have h1 : i < (bl w b).length := by rw [bl_length]; exact hi
    rw [hr.cell (p := ⟨g5, i, none⟩) hg52, hcell5 i h1, bl_get]; rfl
  have HK6 : Hid (∀ wr : World, Below w5.heap.size w5 wr → wr.cell? ⟨w1.heap.size, 0, none⟩ = some (.int .i64 27)) := fun wr hr => by
    exact (hr.cell (p := ⟨w1.heap.size, 0, none⟩) (Nat.lt_of_lt_of_le hlt3 (Nat.le_trans hb4.size hb5.size))).trans (((bcell (below_trans hb4 hb5)).1 _ _ hlt3).trans hk0)
  have hW5 : Below W.heap.size W w5 := below_trans (below_trans hB3 hb4) hb5
  clear hz4 hz5 hcell4 hcell5 hg41 hg51 hg42 hg52 hrun hk6 hk0 ho4 ho5 hg6 hc2 hf2
  go_loopw [17] (fun i wr => ∃ k : Nat, k ≤ w ∧ i = .int .i64 k ∧ OwnI w5.heap.size wr (.slice (some ⟨w5.heap.size, 0, none⟩) w w) (outl (vb 27 w K a b) w k) ∧ Below w5.heap.size w5 wr) (fun i _ => w - (intOf i).toNat)
  case atStart => exact ⟨0, by omega, rfl, by rw [outl_zero]; exact ho6, hB56⟩
  case round =>
    obtain ⟨k, hk, rfl, hown, hbr⟩ := hrel
    by_cases hlt : k < w
    · have hkp := HK6.out _ hbr
      obtain ⟨hz9, g6, hge, _, _, hcO, hfO, hsO⟩ := hown.openS (by omega)
      have hge2 : w5.heap.size = g6 := by simpa using hge
      subst hge2
      have hco := hcO k (by rw [outl_length]; exact hlt)
      have hfo := hfO k
      have HSO := Lib.hid hsO
      have HOS := Lib.hid (outl_set (vb 27 w K a b) w k hlt)
      have HO0 := Lib.hid (outl_same (vb 27 w K a b) w k)
      generalize (outl (vb 27 w K a b) w k)[k]'(by rw [outl_length]; exact hlt) = Z at hco
      have hltI : (k : Int) < (w : Int) := by omega
      clear hz9 hge hcO hfO hsO hk
      have hxy1 := H4.out _ hbr k hlt
      have hxy2 := H5.out _ hbr k hlt
      have hx := bt_lt a k
      have hy := bt_lt b k
      have HVK : Hid (vb 27 w K a b k = bt a k * bt b k) := rfl
      generalize bt a k = x at hxy1 hx HVK
      generalize bt b k = y at hxy2 hy HVK
      have hx : x = 0 ∨ x = 1 := by omega
      have hy : y = 0 ∨ y = 1 := by omega
      clear hlt
      rcases hx with rfl | rfl <;> rcases hy with rfl | rfl
      all_goals
        go_wp2_with fail
        go_region
        all_goals
          go_wp2_with fail
          go_roundw
          case rel =>
            refine ⟨k + 1, by omega, by go_num, ?_, (hbr.setCell (by simp) _).drew⟩
            have hO := HSO.out k (vb 27 w K a b k)
            rw [HOS.out, HVK.out] at hO
            exact hO
          case measure => simp [intOf]; omega
    · obtain rfl : w = k := by omega
      go_wp2_with fail
      refine (RNumber_any _ w _ _ _ hown.ints (HL2.out w) HW.out).mono ?_
      rw [HTV.out]
      rintro e w7 ⟨rfl, rfl⟩
      go_wp2_with fail
      go_ret2
      exact ⟨rfl, below_trans hW5 hbr⟩
set_option maxRecDepth 100000 in
set_option maxHeartbeats 8000000 in
theorem rTwo_28 (op : Int) (a b w : Nat) (f t : Int) (h : Wd w f) (ha : a < 2 ^ w) (hb : b < 2 ^ w) (W : World) (hOf : ∀ W, Calls Tryd.prog 13 #[.int .i64 op] W (K4 28 f t 2 W)) :
    Calls Tryd.prog 16 #[.int .i64 op, .int .u64 a, .int .u64 b] W (Two2 (tv 28 w a b, 0) W) := by
  have hw64 : w ≤ 64 := by rcases h with ⟨rfl, _⟩ | ⟨rfl, _⟩ <;> omega
  have hw1 : 1 ≤ w := by rcases h with ⟨rfl, _⟩ | ⟨rfl, _⟩ <;> omega
  have hf : f = (w : Int) := by rcases h with ⟨rfl, rfl⟩ | ⟨rfl, rfl⟩ <;> rfl
  subst hf
  have HO := Lib.hid hOf
  have HF := Lib.hid (fun W => rfits_any a w _ rfl (wd64 h ha) hw64 W)
  have HG := Lib.hid (fun W => rfits_any b w _ rfl (wd64 h hb) hw64 W)
  have HBa := Lib.hid (fun W => RBits_any a w _ rfl (wd64 h ha) hw64 W)
  have HBb := Lib.hid (fun W => RBits_any b w _ rfl (wd64 h hb) hw64 W)
  have HC := Lib.hid (fun (m : Nat) (hm : m < 18446744073709551616) W => rcut_any m w _ rfl hm hw64 W)
  have hd : decide (a < 2 ^ w) = true := by rw [decide_eq_true_eq]; exact ha
  have hd2 : decide (b < 2 ^ w) = true := by rw [decide_eq_true_eq]; exact hb
  have HD := Lib.hid hd
  have HD2 := Lib.hid hd2
  have H := Lib.hid (And.intro ha (And.intro hb (And.intro (wd64 h ha) (wd64 h hb))))
  have hwz : ((w : Int) == 0) = false := by rw [beq_eq_false_iff_ne]; omega
  have hwz2 : (w : Int) ≠ 0 := by omega
  have hwi : (0 : Int) < (w : Int) := by omega
  have hwj : (w : Int) ≤ 64 := by omega
  have HW := Lib.hid hw64
  have HTV := Lib.hid (vb_tv 28 w a b hw1 ha hb (by omega) (by omega))
  obtain ⟨K, hK⟩ : ∃ K, b % w = K := ⟨_, rfl⟩
  have hKw : K < w := by rw [← hK]; exact Nat.mod_lt _ hw1
  rw [hK] at HTV
  have hKI : (b : Int) % (w : Int) = (K : Int) := by rw [← hK]; rfl
  have hKl : (K : Int) < (w : Int) := by omega
  have HK := Lib.hid hKw
  clear hOf ha hb hd hd2 hw64 hw1 h hK hKw
  have HV2 := Lib.hid (vb_lt 28 w K a b)
  have HL2 := Lib.hid (outl_lt 28 w K a b)
  go_enter Tryd.func16, Tryd.ntmps16
  go_wp2_with (first
      | (go_at_call 13; ((with_reducible refine (HO.out _).mono ?_); rintro e w1 ⟨rfl, hb⟩))
      | (go_at_call 23; ((with_reducible refine (HF.out _).mono ?_); rw [HD.out]; rintro e w2 ⟨rfl, hb2⟩; obtain ⟨hc2, hf2⟩ := bcell hb2; have hB2 := below_trans (hb.alloc hb.size _) hb2))
      | (go_at_call 23; ((with_reducible refine (HG.out _).mono ?_); rw [HD2.out]; rintro e w3 ⟨rfl, hb3⟩; have hk0 : w3.cell? ⟨w1.heap.size, 0, none⟩ = some (.int .i64 28) := (by rw [(bcell hb3).1 _ _ (Nat.lt_of_lt_of_le (by simp) hb2.size), hc2 _ _ (by simp)]; go_simp); have hlt3 : w1.heap.size < w3.heap.size := (by have q2 := hb2.size; have q3 := hb3.size; simp at q2; omega); have hB3 := below_trans hB2 hb3))
      | (go_at_call 24; ((with_reducible refine (HBa.out _).mono ?_); rintro e w4 ⟨A4, c4, rfl, ho4, hb4⟩))
      | (go_at_call 24; ((with_reducible refine (HBb.out _).mono ?_); rintro e w5 ⟨A5, c5, rfl, ho5, hb5⟩; obtain ⟨w6, hrun, ho6, hg6⟩ := run_make_ints w5 w5.heap.size w (by have := HW.out; omega) (Nat.le_refl _); have hB56 := Below.grownNone' hg6 (Nat.le_refl _) (Below.refl w5.heap.size w5); have hB6 : Below W.heap.size W w6 := below_trans (below_trans (below_trans hB3 hb4) hb5) hB56; have hk6 : w6.cell? ⟨w1.heap.size, 0, none⟩ = some (.int .i64 28) := (by rw [(bcell (below_trans (below_trans hb4 hb5) hB56)).1 _ _ hlt3, hk0]))))
  obtain ⟨hz4, g4, hA4, hg41, hg42, hcell4⟩ := ho4.open_ (by omega)
  subst hA4
  obtain ⟨hz5, g5, hA5, hg51, hg52, hcell5⟩ := ho5.open_ (by omega)
  subst hA5
  have H4 : Hid (∀ wr : World, Below w5.heap.size w5 wr → ∀ i, i < w → wr.cell? ⟨g4, i, none⟩ = some (.int .i64 ((bt a i : Nat) : Int))) := fun wr hr i hi => by
    have h1 : i < (bl w a).length := by rw [bl_length]; exact hi
    rw [hr.cell (p := ⟨g4, i, none⟩) (Nat.lt_of_lt_of_le hg42 hb5.size), hb5.cell (p := ⟨g4, i, none⟩) hg42, hcell4 i h1, bl_get]; rfl
  have H5 : Hid (∀ wr : World, Below w5.heap.size w5 wr → ∀ i, i < w → wr.cell? ⟨g5, i, none⟩ = some (.int .i64 ((bt b i : Nat) : Int))) := fun wr hr i hi => by
    have h1 : i < (bl w b).length := by rw [bl_length]; exact hi
    rw [hr.cell (p := ⟨g5, i, none⟩) hg52, hcell5 i h1, bl_get]; rfl
  have HK6 : Hid (∀ wr : World, Below w5.heap.size w5 wr → wr.cell? ⟨w1.heap.size, 0, none⟩ = some (.int .i64 28)) := fun wr hr => by
    exact (hr.cell (p := ⟨w1.heap.size, 0, none⟩) (Nat.lt_of_lt_of_le hlt3 (Nat.le_trans hb4.size hb5.size))).trans (((bcell (below_trans hb4 hb5)).1 _ _ hlt3).trans hk0)
  have hW5 : Below W.heap.size W w5 := below_trans (below_trans hB3 hb4) hb5
  clear hz4 hz5 hcell4 hcell5 hg41 hg51 hg42 hg52 hrun hk6 hk0 ho4 ho5 hg6 hc2 hf2
  go_loopw [17] (fun i wr => ∃ k : Nat, k ≤ w ∧ i = .int .i64 k ∧ OwnI w5.heap.size wr (.slice (some ⟨w5.heap.size, 0, none⟩) w w) (outl (vb 28 w K a b) w k) ∧ Below w5.heap.size w5 wr) (fun i _ => w - (intOf i).toNat)
  case atStart => exact ⟨0, by omega, rfl, by rw [outl_zero]; exact ho6, hB56⟩
  case round =>
    obtain ⟨k, hk, rfl, hown, hbr⟩ := hrel
    by_cases hlt : k < w
    · have hkp := HK6.out _ hbr
      obtain ⟨hz9, g6, hge, _, _, hcO, hfO, hsO⟩ := hown.openS (by omega)
      have hge2 : w5.heap.size = g6 := by simpa using hge
      subst hge2
      have hco := hcO k (by rw [outl_length]; exact hlt)
      have hfo := hfO k
      have HSO := Lib.hid hsO
      have HOS := Lib.hid (outl_set (vb 28 w K a b) w k hlt)
      have HO0 := Lib.hid (outl_same (vb 28 w K a b) w k)
      generalize (outl (vb 28 w K a b) w k)[k]'(by rw [outl_length]; exact hlt) = Z at hco
      have hltI : (k : Int) < (w : Int) := by omega
      clear hz9 hge hcO hfO hsO hk
      have hxy1 := H4.out _ hbr k hlt
      have hxy2 := H5.out _ hbr k hlt
      have hx := bt_lt a k
      have hy := bt_lt b k
      have HVK : Hid (vb 28 w K a b k = (bt a k + bt b k + 1) / 2) := rfl
      generalize bt a k = x at hxy1 hx HVK
      generalize bt b k = y at hxy2 hy HVK
      have hx : x = 0 ∨ x = 1 := by omega
      have hy : y = 0 ∨ y = 1 := by omega
      clear hlt
      rcases hx with rfl | rfl <;> rcases hy with rfl | rfl
      all_goals
        go_wp2_with fail
        go_region
        all_goals
          go_wp2_with fail
          go_roundw
          case rel =>
            refine ⟨k + 1, by omega, by go_num, ?_, (hbr.setCell (by simp) _).drew⟩
            have hO := HSO.out k (vb 28 w K a b k)
            rw [HOS.out, HVK.out] at hO
            exact hO
          case measure => simp [intOf]; omega
    · obtain rfl : w = k := by omega
      go_wp2_with fail
      refine (RNumber_any _ w _ _ _ hown.ints (HL2.out w) HW.out).mono ?_
      rw [HTV.out]
      rintro e w7 ⟨rfl, rfl⟩
      go_wp2_with fail
      go_ret2
      exact ⟨rfl, below_trans hW5 hbr⟩
set_option maxRecDepth 100000 in
set_option maxHeartbeats 8000000 in
theorem rTwo_29 (op : Int) (a b w : Nat) (f t : Int) (h : Wd w f) (ha : a < 2 ^ w) (hb : b < 2 ^ w) (W : World) (hOf : ∀ W, Calls Tryd.prog 13 #[.int .i64 op] W (K4 29 f t 2 W)) :
    Calls Tryd.prog 16 #[.int .i64 op, .int .u64 a, .int .u64 b] W (Two2 (tv 29 w a b, 0) W) := by
  have hw64 : w ≤ 64 := by rcases h with ⟨rfl, _⟩ | ⟨rfl, _⟩ <;> omega
  have hw1 : 1 ≤ w := by rcases h with ⟨rfl, _⟩ | ⟨rfl, _⟩ <;> omega
  have hf : f = (w : Int) := by rcases h with ⟨rfl, rfl⟩ | ⟨rfl, rfl⟩ <;> rfl
  subst hf
  have HO := Lib.hid hOf
  have HF := Lib.hid (fun W => rfits_any a w _ rfl (wd64 h ha) hw64 W)
  have HG := Lib.hid (fun W => rfits_any b w _ rfl (wd64 h hb) hw64 W)
  have HBa := Lib.hid (fun W => RBits_any a w _ rfl (wd64 h ha) hw64 W)
  have HBb := Lib.hid (fun W => RBits_any b w _ rfl (wd64 h hb) hw64 W)
  have HC := Lib.hid (fun (m : Nat) (hm : m < 18446744073709551616) W => rcut_any m w _ rfl hm hw64 W)
  have hd : decide (a < 2 ^ w) = true := by rw [decide_eq_true_eq]; exact ha
  have hd2 : decide (b < 2 ^ w) = true := by rw [decide_eq_true_eq]; exact hb
  have HD := Lib.hid hd
  have HD2 := Lib.hid hd2
  have H := Lib.hid (And.intro ha (And.intro hb (And.intro (wd64 h ha) (wd64 h hb))))
  have hwz : ((w : Int) == 0) = false := by rw [beq_eq_false_iff_ne]; omega
  have hwz2 : (w : Int) ≠ 0 := by omega
  have hwi : (0 : Int) < (w : Int) := by omega
  have hwj : (w : Int) ≤ 64 := by omega
  have HW := Lib.hid hw64
  have HTV := Lib.hid (vb_tv 29 w a b hw1 ha hb (by omega) (by omega))
  obtain ⟨K, hK⟩ : ∃ K, b % w = K := ⟨_, rfl⟩
  have hKw : K < w := by rw [← hK]; exact Nat.mod_lt _ hw1
  rw [hK] at HTV
  have hKI : (b : Int) % (w : Int) = (K : Int) := by rw [← hK]; rfl
  have hKl : (K : Int) < (w : Int) := by omega
  have HK := Lib.hid hKw
  clear hOf ha hb hd hd2 hw64 hw1 h hK hKw
  have HV2 := Lib.hid (vb_lt 29 w K a b)
  have HL2 := Lib.hid (outl_lt 29 w K a b)
  go_enter Tryd.func16, Tryd.ntmps16
  go_wp2_with (first
      | (go_at_call 13; ((with_reducible refine (HO.out _).mono ?_); rintro e w1 ⟨rfl, hb⟩))
      | (go_at_call 23; ((with_reducible refine (HF.out _).mono ?_); rw [HD.out]; rintro e w2 ⟨rfl, hb2⟩; obtain ⟨hc2, hf2⟩ := bcell hb2; have hB2 := below_trans (hb.alloc hb.size _) hb2))
      | (go_at_call 23; ((with_reducible refine (HG.out _).mono ?_); rw [HD2.out]; rintro e w3 ⟨rfl, hb3⟩; have hk0 : w3.cell? ⟨w1.heap.size, 0, none⟩ = some (.int .i64 29) := (by rw [(bcell hb3).1 _ _ (Nat.lt_of_lt_of_le (by simp) hb2.size), hc2 _ _ (by simp)]; go_simp); have hlt3 : w1.heap.size < w3.heap.size := (by have q2 := hb2.size; have q3 := hb3.size; simp at q2; omega); have hB3 := below_trans hB2 hb3))
      | (go_at_call 24; ((with_reducible refine (HBa.out _).mono ?_); rintro e w4 ⟨A4, c4, rfl, ho4, hb4⟩))
      | (go_at_call 24; ((with_reducible refine (HBb.out _).mono ?_); rintro e w5 ⟨A5, c5, rfl, ho5, hb5⟩; obtain ⟨w6, hrun, ho6, hg6⟩ := run_make_ints w5 w5.heap.size w (by have := HW.out; omega) (Nat.le_refl _); have hB56 := Below.grownNone' hg6 (Nat.le_refl _) (Below.refl w5.heap.size w5); have hB6 : Below W.heap.size W w6 := below_trans (below_trans (below_trans hB3 hb4) hb5) hB56; have hk6 : w6.cell? ⟨w1.heap.size, 0, none⟩ = some (.int .i64 29) := (by rw [(bcell (below_trans (below_trans hb4 hb5) hB56)).1 _ _ hlt3, hk0]))))
  obtain ⟨hz4, g4, hA4, hg41, hg42, hcell4⟩ := ho4.open_ (by omega)
  subst hA4
  obtain ⟨hz5, g5, hA5, hg51, hg52, hcell5⟩ := ho5.open_ (by omega)
  subst hA5
  have H4 : Hid (∀ wr : World, Below w5.heap.size w5 wr → ∀ i, i < w → wr.cell? ⟨g4, i, none⟩ = some (.int .i64 ((bt a i : Nat) : Int))) := fun wr hr i hi => by
    have h1 : i < (bl w a).length := by rw [bl_length]; exact hi
    rw [hr.cell (p := ⟨g4, i, none⟩) (Nat.lt_of_lt_of_le hg42 hb5.size), hb5.cell (p := ⟨g4, i, none⟩) hg42, hcell4 i h1, bl_get]; rfl
  have H5 : Hid (∀ wr : World, Below w5.heap.size w5 wr → ∀ i, i < w → wr.cell? ⟨g5, i, none⟩ = some (.int .i64 ((bt b i : Nat) : Int))) := fun wr hr i hi => by
    have h1 : i < (bl w b).length := by rw [bl_length]; exact hi
    rw [hr.cell (p := ⟨g5, i, none⟩) hg52, hcell5 i h1, bl_get]; rfl
  have HK6 : Hid (∀ wr : World, Below w5.heap.size w5 wr → wr.cell? ⟨w1.heap.size, 0, none⟩ = some (.int .i64 29)) := fun wr hr => by
    exact (hr.cell (p := ⟨w1.heap.size, 0, none⟩) (Nat.lt_of_lt_of_le hlt3 (Nat.le_trans hb4.size hb5.size))).trans (((bcell (below_trans hb4 hb5)).1 _ _ hlt3).trans hk0)
  have hW5 : Below W.heap.size W w5 := below_trans (below_trans hB3 hb4) hb5
  clear hz4 hz5 hcell4 hcell5 hg41 hg51 hg42 hg52 hrun hk6 hk0 ho4 ho5 hg6 hc2 hf2
  go_loopw [17] (fun i wr => ∃ k : Nat, k ≤ w ∧ i = .int .i64 k ∧ OwnI w5.heap.size wr (.slice (some ⟨w5.heap.size, 0, none⟩) w w) (outl (vb 29 w K a b) w k) ∧ Below w5.heap.size w5 wr) (fun i _ => w - (intOf i).toNat)
  case atStart => exact ⟨0, by omega, rfl, by rw [outl_zero]; exact ho6, hB56⟩
  case round =>
    obtain ⟨k, hk, rfl, hown, hbr⟩ := hrel
    by_cases hlt : k < w
    · have hkp := HK6.out _ hbr
      obtain ⟨hz9, g6, hge, _, _, hcO, hfO, hsO⟩ := hown.openS (by omega)
      have hge2 : w5.heap.size = g6 := by simpa using hge
      subst hge2
      have hco := hcO k (by rw [outl_length]; exact hlt)
      have hfo := hfO k
      have HSO := Lib.hid hsO
      have HOS := Lib.hid (outl_set (vb 29 w K a b) w k hlt)
      have HO0 := Lib.hid (outl_same (vb 29 w K a b) w k)
      generalize (outl (vb 29 w K a b) w k)[k]'(by rw [outl_length]; exact hlt) = Z at hco
      have hltI : (k : Int) < (w : Int) := by omega
      clear hz9 hge hcO hfO hsO hk
      have hxy1 := H4.out _ hbr k hlt
      have hxy2 := H5.out _ hbr k hlt
      have hx := bt_lt a k
      have hy := bt_lt b k
      have HVK : Hid (vb 29 w K a b k = (bt a k + bt b k) % 2) := rfl
      generalize bt a k = x at hxy1 hx HVK
      generalize bt b k = y at hxy2 hy HVK
      have hx : x = 0 ∨ x = 1 := by omega
      have hy : y = 0 ∨ y = 1 := by omega
      clear hlt
      rcases hx with rfl | rfl <;> rcases hy with rfl | rfl
      all_goals
        go_wp2_with fail
        go_region
        all_goals
          go_wp2_with fail
          go_roundw
          case rel =>
            refine ⟨k + 1, by omega, by go_num, ?_, (hbr.setCell (by simp) _).drew⟩
            have hO := HSO.out k (vb 29 w K a b k)
            rw [HOS.out, HVK.out] at hO
            exact hO
          case measure => simp [intOf]; omega
    · obtain rfl : w = k := by omega
      go_wp2_with fail
      refine (RNumber_any _ w _ _ _ hown.ints (HL2.out w) HW.out).mono ?_
      rw [HTV.out]
      rintro e w7 ⟨rfl, rfl⟩
      go_wp2_with fail
      go_ret2
      exact ⟨rfl, below_trans hW5 hbr⟩
end Go.Proofs.YtnhnbcjffnlicaaDoor

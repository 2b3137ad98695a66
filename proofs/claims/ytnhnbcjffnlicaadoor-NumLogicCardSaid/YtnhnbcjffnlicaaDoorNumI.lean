/-
  The document's One, walked.
-/
import Derived.Test.YtnhnbcjffnlicaaDoorNumX
import Derived.Test.YtnhnbcjffnlicaaDoorNumO
import Derived.Test.YtnhnbcjffnlicaaDoorNumH
import Derived.Deep.CutRange
import Derived.Deep.CutBlock
namespace Go.Proofs.YtnhnbcjffnlicaaDoor
open Go.RowKit Num
set_option linter.unusedVariables false

theorem bcell {W w1 : World} (hb : Below W.heap.size W w1) : (∀ b o, b < W.heap.size → w1.cell? ⟨b, o, none⟩ = W.cell? ⟨b, o, none⟩) ∧ (∀ b o, b < W.heap.size → w1.frozen? ⟨b, o, none⟩ = W.frozen? ⟨b, o, none⟩) :=
  ⟨fun b o h => hb.cell (p := ⟨b, o, none⟩) h, fun b o h => hb.frozen (p := ⟨b, o, none⟩) h⟩
/-- A value and an error. -/
def Two2 (r : Nat × Nat) (W : World) (e : Ending) (W' : World) : Prop := e = .returned (.tuple #[.int .u64 (r.1 : Int), .int .i64 (r.2 : Int)]) ∧ Below W.heap.size W W'
theorem rOne_no (op : Int) (a : Nat) (p f t m : Int) (hm : (m == 1) = false) (W : World) (hOf : ∀ W, Calls Tryd.prog 13 #[.int .i64 op] W (K4 p f t m W)) :
    Calls Tryd.prog 11 #[.int .i64 op, .int .u64 a] W (Two2 (0, 2) W) := by
  have HO := Lib.hid hOf
  have hm2 : (m != 1) = true := by simp [bne, hm]
  clear hOf
  go_enter Tryd.func11, Tryd.ntmps11
  go_wp2_with (go_at_call 13; ((with_reducible refine (HO.out _).mono ?_); rintro e w1 ⟨rfl, hb⟩))
  go_ret2
  exact ⟨rfl, hb.alloc hb.size _⟩
set_option maxRecDepth 100000 in
theorem rOne_unfit (op : Int) (a w : Nat) (f : Int) (hf : f = (w : Int)) (hw : w ≤ 64) (ha : a < 18446744073709551616) (hn : ¬ a < 2 ^ w) (p t : Int) (W : World) (hOf : ∀ W, Calls Tryd.prog 13 #[.int .i64 op] W (K4 p f t 1 W)) :
    Calls Tryd.prog 11 #[.int .i64 op, .int .u64 a] W (Two2 (0, 2) W) := by
  have HO := Lib.hid hOf
  have HF := Lib.hid (fun W => rfits_any a w f hf ha hw W)
  have hd : decide (a < 2 ^ w) = false := by rw [decide_eq_false_iff_not]; exact hn
  have HD := Lib.hid hd
  clear hOf hn hf ha hd
  go_enter Tryd.func11, Tryd.ntmps11
  go_wp2_with (first
    | (go_at_call 13; ((with_reducible refine (HO.out _).mono ?_); rintro e w1 ⟨rfl, hb⟩))
    | (go_at_call 23; ((with_reducible refine (HF.out _).mono ?_); rw [HD.out]; rintro e w2 ⟨rfl, hb2⟩)))
  go_ret2
  exact ⟨rfl, below_trans (hb.alloc hb.size _) hb2⟩
def Place (p : Nat) (pi : Int) (t : Nat) (u : Int) : Prop := (p = 0 ∧ pi = 0) ∨ (p = 1 ∧ pi = 1) ∨ (p = 2 ∧ pi = 2) ∨ (p = 3 ∧ pi = 3) ∨ (p = 4 ∧ pi = 4) ∨ (p = 5 ∧ pi = 5) ∨ (p = 6 ∧ pi = 6) ∨ (p = 7 ∧ pi = 7) ∨ (p = 8 ∧ pi = 8 ∧ t = 64 ∧ u = 64) ∨ (p = 9 ∧ pi = 9)
theorem ov68 (a w t : Nat) : ov 6 a w t = ov 8 a w t := rfl
theorem ov9 (a w t : Nat) : ov 9 a w t = a := rfl
theorem two_of {x y : Int} (h : x = y) : Ending.returned (.tuple #[.int .u64 x, .int .i64 0]) = .returned (.tuple #[.int .u64 y, .int .i64 0]) := by rw [h]
set_option maxRecDepth 100000 in
set_option maxHeartbeats 4000000 in
theorem rOne_ok (op : Int) (a w t p : Nat) (pi f u : Int) (h : Wd w f) (h' : Wd t u) (ha : a < 2 ^ w) (hp : Place p pi t u) (W : World) (hOf : ∀ W, Calls Tryd.prog 13 #[.int .i64 op] W (K4 pi f u 1 W)) :
    Calls Tryd.prog 11 #[.int .i64 op, .int .u64 a] W (Two2 (ov p a w t, 0) W) := by
  have HO := Lib.hid hOf
  have hw64 : w ≤ 64 := by rcases h with ⟨rfl, _⟩ | ⟨rfl, _⟩ <;> omega
  have hw1 : 1 ≤ w := by rcases h with ⟨rfl, _⟩ | ⟨rfl, _⟩ <;> omega
  have hA := Lib.hid (wd64 h ha)
  have hf : f = (w : Int) := by rcases h with ⟨rfl, rfl⟩ | ⟨rfl, rfl⟩ <;> rfl
  have HF := Lib.hid (fun W => rfits_any a w f hf hA.out hw64 W)
  have HB := Lib.hid (fun W => RBits_any a w f hf hA.out hw64 W)
  have hd : decide (a < 2 ^ w) = true := by rw [decide_eq_true_eq]; exact ha
  have HD := Lib.hid hd
  have H1 : Hid (Wd w f ∧ Wd t u ∧ a < 2 ^ w ∧ 1 ≤ w ∧ w ≤ 64) := ⟨h, h', ha, hw1, hw64⟩
  have HP := Lib.hid hp
  have hu : u = (t : Int) := by rcases h' with ⟨rfl, rfl⟩ | ⟨rfl, rfl⟩ <;> rfl
  have ht : 32 ≤ t ∧ t ≤ 64 := by rcases h' with ⟨rfl, _⟩ | ⟨rfl, _⟩ <;> omega
  have E8 : Hid (∀ W : World, Calls Tryd.prog 26 #[.int .u64 a, .int .i64 8, .int .i64 u] W (Out (ov 4 a w t) W)) := fun W => rext_any a 8 t 8 u rfl hu hA.out (by omega) (by omega) ht.2 W
  have E16 : Hid (∀ W : World, Calls Tryd.prog 26 #[.int .u64 a, .int .i64 16, .int .i64 u] W (Out (ov 5 a w t) W)) := fun W => rext_any a 16 t 16 u rfl hu hA.out (by omega) (by omega) ht.2 W
  have E32 : Hid (∀ W : World, Calls Tryd.prog 26 #[.int .u64 a, .int .i64 32, .int .i64 u] W (Out (ov 6 a w t) W)) := fun W => rext_any a 32 t 32 u rfl hu hA.out (by omega) ht.1 ht.2 W
  have EC : Hid (∀ W : World, Calls Tryd.prog 27 #[.int .u64 a, .int .i64 32] W (Out (ov 7 a w t) W)) := fun W => rcut_any a 32 32 rfl hA.out (by omega) W
  clear hu ht
  have hwi : (0 : Int) < (w : Int) := by omega
  have hwj : (w : Int) ≤ 64 := by omega
  clear hOf hf ha hd h h' hw64 hw1 hp
  go_enter Tryd.func11, Tryd.ntmps11
  go_wp2_with (first
    | (go_at_call 13; ((with_reducible refine (HO.out _).mono ?_); rintro e w1 ⟨rfl, hb⟩))
    | (go_at_call 23; ((with_reducible refine (HF.out _).mono ?_); rw [HD.out]; rintro e w2 ⟨rfl, hb2⟩; obtain ⟨hc2, hf2⟩ := bcell hb2))
    | (go_at_call 24; ((with_reducible refine (HB.out _).mono ?_); rintro e w3 ⟨A, c, rfl, ho, hb3⟩)))
  have hk0 : w3.cell? ⟨w1.heap.size, 0, none⟩ = some (.int .i64 pi) := by
    rw [(bcell hb3).1 _ _ (Nat.lt_of_lt_of_le (by simp) hb2.size), hc2 _ _ (by simp)]; go_simp
  have hk2 : w3.cell? ⟨w1.heap.size, 2, none⟩ = some (.int .i64 u) := by
    rw [(bcell hb3).1 _ _ (Nat.lt_of_lt_of_le (by simp) hb2.size), hc2 _ _ (by simp)]; go_simp
  have hBw : Below W.heap.size W w3 := below_trans (below_trans (hb.alloc hb.size _) hb2) hb3
  obtain ⟨hz9, g, rfl, hg1, hg2, hcell⟩ := ho.open_ (by omega)
  have HC : Hid (∀ i, i < w → w3.cell? ⟨g, i, none⟩ = some (.int .i64 ((a / 2 ^ i % 2 : Nat) : Int))) := fun i hi => by
    have h1 : i < (bl w a).length := by rw [bl_length]; exact hi
    rw [hcell i h1, bl_get]
  clear hz9 hcell ho hc2 hf2 hb hb2 hb3 hg1 hg2
  go_loop [8, 9] (fun s i => ∃ k : Nat, k ≤ w ∧ i = .int .i64 k ∧ s = .int .i64 (pop k a : Nat)) (fun _ i => w - (intOf i).toNat)
  case atStart => exact ⟨0, by omega, rfl, rfl⟩
  case round =>
    obtain ⟨k, hk, rfl, rfl⟩ := hrel
    have hpl : ((pop k a : Nat) : Int) ≤ 64 := by have := pop_le k a; omega
    by_cases hlt : k < w
    · have hck := HC.out k hlt
      have hst := Lib.hid (pop_snoc k a)
      have hy2 : (((a / 2 ^ k % 2 : Nat)) : Int) < 2 := by have := Nat.mod_lt (a / 2 ^ k) (show 0 < 2 by omega); omega
      generalize hP : pop k a = P at hst hpl ⊢
      generalize hY : a / 2 ^ k % 2 = y at hck hst hy2
      clear hP hY hk
      go_wp2_with fail
      go_round
      case rel => exact ⟨k + 1, by omega, by go_num, by rw [hst.out]; go_num⟩
      case measure => simp [intOf]; omega
    · obtain rfl : w = k := by omega
      generalize hP : pop w a = P at hpl ⊢
      have HPP := Lib.hid hP
      clear hP hk hlt
      obtain ⟨L, hL⟩ : ∃ L, w - Lib.bitLen a = L := ⟨_, rfl⟩
      obtain ⟨C, hC⟩ : ∃ C, (if a = 0 then w else Lib.ctz 64 a) = C := ⟨_, rfl⟩
      have HL := Lib.hid hL
      have HT := Lib.hid hC
      clear hL hC
      go_upto_block 2 with fail
      go_cut [10] from 40 to 56 (fun s10 wx => s10 = .int .i64 L ∧ (L : Int) ≤ 64 ∧ w3 = wx)
      case first =>
        go_wp2_with fail
        go_loop [10] (fun s => ∃ j : Nat, s = .int .i64 j ∧ Hid (j ≤ w ∧ a < 2 ^ (w - j))) (fun s => w - (intOf s).toNat)
        case atStart => exact ⟨0, rfl, by omega, H1.out.2.2.1⟩
        case round =>
          obtain ⟨j, rfl, HJ⟩ := hrel
          by_cases hlt : j < w
          · obtain ⟨d, hd⟩ : ∃ d : Nat, (w : Int) - 1 - (j : Int) = (d : Int) := ⟨w - 1 - j, by omega⟩
            have hdw : (d : Int) < (w : Int) := by omega
            have hd2 : Hid (w - 1 - j = d) := by rw [Hid]; omega
            have hck := HC.out d (by omega)
            have hy2 : a / 2 ^ d % 2 = 0 ∨ a / 2 ^ d % 2 = 1 := by omega
            generalize hY : a / 2 ^ d % 2 = y at hck hy2
            have HY := Lib.hid hY
            clear hY
            rcases hy2 with rfl | rfl
            · go_wp2_with fail
              go_round
              case rel => exact ⟨j + 1, by go_num, by omega, lead_step w a j (by omega) HJ.out.2 (by rw [hd2.out]; exact HY.out)⟩
              case measure => simp [intOf]; omega
            · have HL2 := lead_of w a j H1.out.2.2.2.2 HJ.out.1 HJ.out.2 (.inr (lead_stop w a j (by rw [hd2.out, HY.out]; omega)))
              rw [HL.out] at HL2
              have HLJ := Lib.hid HL2
              clear HL2
              go_wp2_with fail
              go_meet
              exact ⟨by rw [HLJ.out], by rw [HLJ.out]; omega, rfl⟩
          · have HL2 := lead_of w a j H1.out.2.2.2.2 HJ.out.1 HJ.out.2 (.inl (by have := HJ.out.1; omega))
            rw [HL.out] at HL2
            have HLJ := Lib.hid HL2
            have hgeJ : (w : Int) ≤ (j : Int) := by omega
            clear hlt HL2
            go_wp2_with fail
            go_meet
            exact ⟨by rw [HLJ.out], by rw [HLJ.out]; have := HJ.out.1; omega, rfl⟩
      case rest =>
        obtain ⟨rfl, hjI, rfl⟩ := hcut
        go_upto_block 4 with fail
        go_cut [11] from 57 to 69 (fun s11 wx => s11 = .int .i64 C ∧ (C : Int) ≤ 64 ∧ w3 = wx)
        case first =>
          go_wp2_with fail
          go_loop [11] (fun s => ∃ i : Nat, s = .int .i64 i ∧ Hid (i ≤ w ∧ a % 2 ^ i = 0)) (fun s => w - (intOf s).toNat)
          case atStart => exact ⟨0, rfl, by omega, by simp [Nat.mod_one]⟩
          case round =>
            obtain ⟨i, rfl, HI⟩ := hrel
            have hi1 := HI.out.1
            have hiI : (i : Int) ≤ 64 := by omega
            rcases Nat.lt_or_ge i w with hlt2 | hge
            · have hck2 := HC.out i hlt2
              have hy3 : a / 2 ^ i % 2 = 0 ∨ a / 2 ^ i % 2 = 1 := by omega
              generalize hY : a / 2 ^ i % 2 = y at hck2 hy3
              have HY2 := Lib.hid hY
              have hltI : (i : Int) < (w : Int) := by omega
              clear hY hi1 hlt2
              rcases hy3 with rfl | rfl
              · go_wp2_with fail
                go_round
                case rel => exact ⟨i + 1, by go_num, by omega, ctz_step a i HI.out.2 HY2.out⟩
                case measure => simp [intOf]; omega
              · have HT2 := ctz_of w a i H1.out.2.2.2.2 H1.out.2.2.1 HI.out.1 HI.out.2 (.inr HY2.out)
                rw [HT.out] at HT2
                have HTI := Lib.hid HT2
                clear HT2
                go_wp2_with fail
                go_meet
                exact ⟨by rw [HTI.out], by rw [HTI.out]; exact hiI, rfl⟩
            · have HT2 := ctz_of w a i H1.out.2.2.2.2 H1.out.2.2.1 HI.out.1 HI.out.2 (.inl (by omega))
              rw [HT.out] at HT2
              have HTI := Lib.hid HT2
              have hgeI : (w : Int) ≤ (i : Int) := by omega
              clear hi1 hge HT2
              go_wp2_with fail
              go_meet
              exact ⟨by rw [HTI.out], by rw [HTI.out]; exact hiI, rfl⟩
        case rest =>
          obtain ⟨rfl, hiI, rfl⟩ := hcut
          rcases HP.out with ⟨rfl, rfl⟩ | ⟨rfl, rfl⟩ | ⟨rfl, rfl⟩ | ⟨rfl, rfl⟩ | ⟨rfl, rfl⟩ | ⟨rfl, rfl⟩ | ⟨rfl, rfl⟩ | ⟨rfl, rfl⟩ | ⟨rfl, rfl, rfl, rfl⟩ | ⟨rfl, rfl⟩
          all_goals
            go_wp2_with (first
              | (go_at_call 25; refine (ryes_any _ _).mono ?_; rintro e w4 ⟨rfl, rfl⟩)
              | (go_at_call 26; ((with_reducible refine (E8.out _).mono ?_); rintro e w4 ⟨rfl, hb4⟩; have hBw := below_trans hBw hb4))
              | (go_at_call 26; ((with_reducible refine (E16.out _).mono ?_); rintro e w4 ⟨rfl, hb4⟩; have hBw := below_trans hBw hb4))
              | (go_at_call 26; ((with_reducible refine (E32.out _).mono ?_); rintro e w4 ⟨rfl, hb4⟩; have hBw := below_trans hBw hb4))
              | (go_at_call 27; ((with_reducible refine (EC.out _).mono ?_); rintro e w4 ⟨rfl, hb4⟩; have hBw := below_trans hBw hb4)))
            go_ret2
            refine ⟨two_of ?_, hBw⟩
          · show ((yes _ : Nat) : Int) = ((yes _ : Nat) : Int)
            congr 2; rw [Bool.eq_iff_iff]; simp
          · show ((L : Nat) : Int) = ((w - Lib.bitLen a : Nat) : Int)
            rw [HL.out]
          · show ((C : Nat) : Int) = (((if a = 0 then w else Lib.ctz 64 a) : Nat) : Int)
            rw [HT.out]
          · show ((P : Nat) : Int) = ((pop 64 a : Nat) : Int)
            rw [pop_64 w a H1.out.2.2.2.2 H1.out.2.2.1, HPP.out]
          · with_reducible rfl
          · with_reducible rfl
          · with_reducible rfl
          · with_reducible rfl
          · exact congrArg Int.ofNat (ov68 a w 64)
          · exact congrArg Int.ofNat (ov9 a w t).symm
end Go.Proofs.YtnhnbcjffnlicaaDoor

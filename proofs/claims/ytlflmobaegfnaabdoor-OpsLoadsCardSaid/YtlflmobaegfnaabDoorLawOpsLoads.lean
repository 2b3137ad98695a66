/-
  geodelaw05.OpsLoads: the walk.
-/
import Derived.Test.YtlflmobaegfnaabDoorOpK
import Derived.Test.YtlflmobaegfnaabDoorOpY
namespace Go.Proofs.YtlflmobaegfnaabDoor
open Go.RowKit
set_option linter.unusedVariables false
set_option linter.unusedSimpArgs false
set_option maxRecDepth 100000

set_option maxHeartbeats 8000000 in
theorem OpsLoads_none (w : World) (hT : Tab5 w) (a b : Int) (hs : Op5.shapeOf a ≠ 8) :
    Calls Tryd.prog 4 #[.int .i64 a, .int .i64 b] w fun e w' => e = .returned (.bool true) ∧ Below w.heap.size w w' := by
  have hT0 := Lib.hid hT
  have hlt := hT.lt
  have HB : Hid (Below w.heap.size w w) := Lib.hid (Below.refl _ _)
  have KN := Lib.hid (fun W hT => known5_any W hT)
  obtain ⟨x, hx⟩ : ∃ s : ByteArray, (ByteArray.mk (Op5.nameOf a).toArray) = s := ⟨_, rfl⟩
  obtain ⟨vs, hvs⟩ : ∃ v, Op5.shapeOf a = v := ⟨_, rfl⟩
  have S1 : Hid (∀ W, Calls Tryd.prog 6 #[.int .i64 a] W fun e w' => e = .returned (.int .i64 vs) ∧ Below W.heap.size W w') := Lib.hid fun W => by
    rw [← hvs]
    exact shape_any a W
  have B1 : Hid (∀ W, Calls Tryd.prog 9 #[.int .i64 a] W fun e w' => e = .returned (.int .i64 0) ∧ Below W.heap.size W w') := Lib.hid fun W => by
    rw [← Op5.bytes_none a hs]
    exact bytes_any a W
  have N1 : Hid (∀ W, Tab5 W → Calls Tryd.prog 5 #[.int .i64 a] W fun e w' => e = .returned (.string x) ∧ Below W.heap.size W w') := Lib.hid fun W hT => by
    rw [← hx]
    exact name_any a W hT
  have f1 : (vs == 8) = false := by rw [← hvs]; exact beq_eq_false_iff_ne.2 hs
  clear hT hvs hx hs
  go_enter Tryd.func4, Tryd.ntmps4
  go_wp2_with (first
      | (go_at_call 11; ((with_reducible refine (KN.out _ (hT0.out.below HB.out hlt)).mono ?_); rintro e w2 ⟨rfl, hb⟩; have HB' := Lib.hid (HB.out.trans (hb.mono HB.out.size)); clear HB hb; have HB := HB'; clear HB'))
      | (go_at_call 6; ((with_reducible refine (S1.out _).mono ?_); rintro e w2 ⟨rfl, hb⟩; have HB' := Lib.hid (HB.out.trans (hb.mono HB.out.size)); clear HB hb; have HB := HB'; clear HB'))
      | (go_at_call 9; ((with_reducible refine (B1.out _).mono ?_); rintro e w2 ⟨rfl, hb⟩; have HB' := Lib.hid (HB.out.trans (hb.mono HB.out.size)); clear HB hb; have HB := HB'; clear HB'))
      | (go_at_call 5; ((with_reducible refine (N1.out _ (hT0.out.below HB.out hlt)).mono ?_); rintro e w2 ⟨rfl, hb⟩; have HB' := Lib.hid (HB.out.trans (hb.mono HB.out.size)); clear HB hb; have HB := HB'; clear HB')))
  go_ret
  exact ⟨rfl, HB.out⟩
set_option maxHeartbeats 16000000 in
theorem OpsLoads_mem (w : World) (hT : Tab5 w) (a b : Int) (hs : Op5.shapeOf a = 8) :
    Calls Tryd.prog 4 #[.int .i64 a, .int .i64 b] w fun e w' => e = .returned (.bool true) ∧ Below w.heap.size w w' := by
  have hT0 := Lib.hid hT
  have hlt := hT.lt
  have HB : Hid (Below w.heap.size w w) := Lib.hid (Below.refl _ _)
  have KN := Lib.hid (fun W hT => known5_any W hT)
  have hm := Op5.shape_mem a hs
  have hok := List.all_eq_true.1 Op5.loads_ok a hm
  simp only [Bool.and_eq_true] at hok
  obtain ⟨⟨⟨hk, h8⟩, h15⟩, hw⟩ := hok
  have h8 := of_decide_eq_true h8
  have h15 := of_decide_eq_true h15
  have hw := of_decide_eq_true hw
  have hno : Op5.shapeOf b = 8 → (decide (8 < (Op5.nameOf a).length) && decide (((Op5.nameOf a).take 8).drop 4 = Op5.ldn) && decide (8 < (Op5.nameOf b).length) && decide (((Op5.nameOf b).take 9).drop 4 = Op5.stn) && decide (b ≤ a)) = false := fun h => by
    have := List.all_eq_true.1 (List.all_eq_true.1 Op5.loads_stores a hm) b (Op5.shape_mem b h)
    simpa only [Bool.not_eq_true'] using this
  obtain ⟨vb, hvb⟩ : ∃ v, Op5.bytesOf a = v := ⟨_, rfl⟩
  obtain ⟨sb, hsb⟩ : ∃ v, Op5.shapeOf b = v := ⟨_, rfl⟩
  obtain ⟨x, hx⟩ : ∃ s : ByteArray, (ByteArray.mk (Op5.nameOf a).toArray) = s := ⟨_, rfl⟩
  obtain ⟨y, hy⟩ : ∃ s : ByteArray, (ByteArray.mk (Op5.nameOf b).toArray) = s := ⟨_, rfl⟩
  have xl : x.data.toList = Op5.nameOf a := by rw [← hx]
  have yl : y.data.toList = Op5.nameOf b := by rw [← hy]
  have xs : x.data.toList.length = x.size := by simp
  have ys : y.data.toList.length = y.size := by simp
  have B1 : Hid (∀ W, Calls Tryd.prog 9 #[.int .i64 a] W fun e w' => e = .returned (.int .i64 vb) ∧ Below W.heap.size W w') := Lib.hid fun W => by
    rw [← hvb]
    exact bytes_any a W
  have N1 : Hid (∀ W, Tab5 W → Calls Tryd.prog 5 #[.int .i64 a] W fun e w' => e = .returned (.string x) ∧ Below W.heap.size W w') := Lib.hid fun W hT => by
    rw [← hx]
    exact name_any a W hT
  have N2 : Hid (∀ W, Tab5 W → Calls Tryd.prog 5 #[.int .i64 b] W fun e w' => e = .returned (.string y) ∧ Below W.heap.size W w') := Lib.hid fun W hT => by
    rw [← hy]
    exact name_any b W hT
  have S1 : Hid (∀ W, Calls Tryd.prog 6 #[.int .i64 a] W fun e w' => e = .returned (.int .i64 8) ∧ Below W.heap.size W w') := Lib.hid fun W => by
    rw [← hs]
    exact shape_any a W
  have S2 : Hid (∀ W, Calls Tryd.prog 6 #[.int .i64 b] W fun e w' => e = .returned (.int .i64 sb) ∧ Below W.heap.size W w') := Lib.hid fun W => by
    rw [← hsb]
    exact shape_any b W
  rw [← xl] at hk h8 h15 hw hno
  rw [← yl, hsb] at hno
  rw [hvb] at hw
  rw [xs] at hk h8 h15 hno
  rw [ys] at hno
  have HK : Hid (∀ k, k ≤ x.size → 0 ≤ Op5.bitsOf (x.data.toList.take k) ∧ Op5.bitsOf (x.data.toList.take k) ≤ 100) := Lib.hid fun k hkx => by
    have := List.all_eq_true.1 hk k (List.mem_range.2 (by omega))
    simp only [Bool.and_eq_true] at this
    exact ⟨of_decide_eq_true this.1, of_decide_eq_true this.2⟩
  have HL := Lib.hid xs
  obtain ⟨cb, gb⟩ : ∃ c, (sb == 8) = c := ⟨_, rfl⟩
  obtain ⟨cl, gl⟩ : ∃ c, decide ((8 : Int) < (x.size : Int)) = c := ⟨_, rfl⟩
  obtain ⟨cd, gd⟩ : ∃ c, ((x.extract 4 8).toList == [108, 111, 97, 100]) = c := ⟨_, rfl⟩
  obtain ⟨cm, gm⟩ : ∃ c, decide ((8 : Int) < (y.size : Int)) = c := ⟨_, rfl⟩
  obtain ⟨cs, gs⟩ : ∃ c, ((y.extract 4 9).toList == [115, 116, 111, 114, 101]) = c := ⟨_, rfl⟩
  obtain ⟨ce, ge⟩ : ∃ c, decide (b ≤ a) = c := ⟨_, rfl⟩
  obtain ⟨ci, gi⟩ : ∃ c, ((x.extract 0 3).toList == [105, 51, 50]) = c := ⟨_, rfl⟩
  have h6 : Hid _ := Lib.hid (Op5.six cb cl cd cm cs ce (by
    cases cb with
    | false => rfl
    | true =>
      have h := hno (by simpa using gb)
      rw [← gl, ← gd, ← gm, ← gs, ← ge, Bool.true_and, Op5.ext_list, Op5.ext_list]
      rw [show decide ((8 : Int) < (x.size : Int)) = decide (8 < x.size) from by rw [decide_eq_decide]; omega, show decide ((8 : Int) < (y.size : Int)) = decide (8 < y.size) from by rw [decide_eq_decide]; omega]
      have hbd : ∀ l m : List UInt8, (l == m) = decide (l = m) := fun l m => by rw [Bool.eq_iff_iff, beq_iff_eq, decide_eq_true_iff]
      rw [hbd, hbd]
      exact h))
  have hW : Hid (vb = if Op5.bitsOf x.data.toList = 0 then (if ci = true then 4 else 8) else (Op5.bitsOf x.data.toList).tdiv 8) := Lib.hid (by
    rw [hw]
    congr 1
    rw [← gi, Op5.ext_list]
    by_cases h : (x.data.toList.take 3).drop 0 = Op5.i32n
    · rw [if_pos h, if_pos (by rw [h]; rfl)]
    · rw [if_neg h, if_neg (fun e : ((x.data.toList.take 3).drop 0 == [105, 51, 50]) = true => h (eq_of_beq e))])
  have hbb : (vb == vb) = true := by simp
  clear hT hs hm hk hw hno hvb hsb hx hy xl yl xs ys
  go_enter Tryd.func4, Tryd.ntmps4
  go_wp2_with (first
      | (go_at_call 6; ((with_reducible refine (S1.out _).mono ?_); rintro e w2 ⟨rfl, hb⟩; have HB' := Lib.hid (HB.out.trans (hb.mono HB.out.size)); clear HB hb; have HB := HB'; clear HB'))
      | (go_at_call 5; ((with_reducible refine (N1.out _ (hT0.out.below HB.out hlt)).mono ?_); rintro e w2 ⟨rfl, hb⟩; have HB' := Lib.hid (HB.out.trans (hb.mono HB.out.size)); clear HB hb; have HB := HB'; clear HB')))
  have hsx : ∀ wx : World, (Instr.slice 9 (.string x) (some (.int .i64 4)) (some (.int .i64 8)) none).run Tryd.prog wx = .ok (.string (x.extract 4 8)) wx := fun wx => run_slice_string (P := Tryd.prog) wx 9 x .i64 .i64 4 8 Tryd.underlying9 (by omega) (by omega) (by omega)
  have hm9 : cm = true → 9 ≤ y.size := fun h => by
    rw [h] at gm
    have := of_decide_eq_true gm
    omega
  have hsy : cm = true → ∀ wx : World, (Instr.slice 9 (.string y) (some (.int .i64 4)) (some (.int .i64 9)) none).run Tryd.prog wx = .ok (.string (y.extract 4 9)) wx := fun h wx => by
    have := hm9 h
    exact run_slice_string (P := Tryd.prog) wx 9 y .i64 .i64 4 9 Tryd.underlying9 (by omega) (by omega) (by omega)
  go_loop [7, 8, 9] (fun t d i => ∃ k : Nat, k ≤ x.size ∧ i = .int .i64 k ∧ t = .int .i64 (Op5.atOf (x.data.toList.take k) : Nat) ∧ d = .int .i64 (Op5.bitsOf (x.data.toList.take k))) (fun _ _ i => x.size - (intOf i).toNat)
  case atStart => exact ⟨0, Nat.zero_le _, rfl, rfl, rfl⟩
  case round =>
    obtain ⟨k, hk, rfl, rfl, rfl⟩ := hrel
    have hbd := HK.out k hk
    obtain ⟨t, ht⟩ : ∃ t : Nat, Op5.atOf (x.data.toList.take k) = t := ⟨_, rfl⟩
    obtain ⟨n, hn⟩ : ∃ n, Op5.bitsOf (x.data.toList.take k) = n := ⟨_, rfl⟩
    rw [hn] at hbd
    rw [ht, hn]
    obtain ⟨hd0, hd9⟩ := hbd
    by_cases hlt' : k < x.size
    · have hkl : k < x.data.toList.length := by rw [HL.out]; exact hlt'
      obtain ⟨z, hz⟩ : ∃ z, (x[k]'hlt').toNat = z := ⟨_, rfl⟩
      have hz256 : (z : Int) < 256 := by
        have := UInt8.toNat_lt (x[k]'hlt')
        omega
      have hcz : (x.data.toList[k] = 46) ↔ z = 46 := by
        show (x[k]'hlt' = 46) ↔ _
        rw [← hz, ← UInt8.toNat_inj]
        rfl
      have hzt : (x.data.toList[k]).toNat = z := hz
      have hat : Hid (Op5.atOf (x.data.toList.take (k + 1)) = if z = 46 then k else t) := Lib.hid (by
        rw [List.take_succ_eq_append_getElem hkl, Op5.at_snoc, ht, List.length_take, Nat.min_eq_left (Nat.le_of_lt hkl)]
        by_cases h : z = 46
        · rw [if_pos h, if_pos (hcz.2 h)]
        · rw [if_neg h, if_neg (fun e => h (hcz.1 e))])
      have hbt : Hid (Op5.bitsOf (x.data.toList.take (k + 1)) = if z ≠ 46 ∧ 0 < t ∧ 48 ≤ z ∧ z ≤ 57 then 10 * n + (z - 48) else n) := Lib.hid (by
        rw [List.take_succ_eq_append_getElem hkl, Op5.bits_snoc, ht, hn, hzt]
        by_cases h : z = 46
        · rw [if_neg (fun e => e.1 (hcz.2 h)), if_neg (fun e => e.1 h)]
        · by_cases h2 : 0 < t ∧ 48 ≤ z ∧ z ≤ 57
          · rw [if_pos ⟨fun e => h (hcz.1 e), h2⟩, if_pos ⟨h, h2⟩]
          · rw [if_neg (fun e => h2 e.2), if_neg (fun e => h2 e.2)])
      clear hcz hzt ht hn hkl
      by_cases h46 : z = 46
      · subst h46
        rw [if_pos rfl] at hat
        rw [if_neg (fun e => e.1 rfl)] at hbt
        go_wp2
        go_round
        case rel => exact ⟨k + 1, by omega, by go_num, by rw [hat.out], by rw [hbt.out]⟩
        case measure => simp [intOf]; omega
      · have e46 : ((z : Int) == 46) = false := by simp; omega
        rw [if_neg h46] at hat
        by_cases h0 : 0 < t
        · have d0 : decide ((0 : Int) < (t : Int)) = true := by simp; omega
          by_cases hlo : 48 ≤ z
          · have d1 : decide ((48 : Int) ≤ (z : Int)) = true := by simp; omega
            by_cases hhi : z ≤ 57
            · have d2 : decide ((z : Int) ≤ 57) = true := by simp; omega
              rw [if_pos ⟨h46, h0, hlo, hhi⟩] at hbt
              go_wp2
              go_round
              case rel => exact ⟨k + 1, by omega, by go_num, by rw [hat.out], by rw [hbt.out]⟩
              case measure => simp [intOf]; omega
            · have d2 : decide ((z : Int) ≤ 57) = false := by simp; omega
              rw [if_neg (fun e => hhi e.2.2.2)] at hbt
              go_wp2
              go_round
              case rel => exact ⟨k + 1, by omega, by go_num, by rw [hat.out], by rw [hbt.out]⟩
              case measure => simp [intOf]; omega
          · have d1 : decide ((48 : Int) ≤ (z : Int)) = false := by simp; omega
            rw [if_neg (fun e => hlo e.2.2.1)] at hbt
            go_wp2
            go_round
            case rel => exact ⟨k + 1, by omega, by go_num, by rw [hat.out], by rw [hbt.out]⟩
            case measure => simp [intOf]; omega
        · have d0 : decide ((0 : Int) < (t : Int)) = false := by simp; omega
          rw [if_neg (fun e => h0 e.2.1)] at hbt
          go_wp2
          go_round
          case rel => exact ⟨k + 1, by omega, by go_num, by rw [hat.out], by rw [hbt.out]⟩
          case measure => simp [intOf]; omega
    · obtain rfl : k = x.size := by omega
      have hn' : Op5.bitsOf x.data.toList = n := by rw [← hn, List.take_of_length_le (by rw [HL.out]; exact Nat.le_refl _)]
      have hW' := hW.out
      rw [hn'] at hW'
      clear hn hn' ht
      by_cases hz : n = 0
      · subst hz
        rw [if_pos rfl] at hW'
        cases ci
        · obtain rfl : vb = 8 := by rw [hW']; rfl
          clear hW' hW
          rcases h6.out with rfl | ⟨rfl, rfl⟩ | ⟨rfl, rfl, rfl⟩ | ⟨rfl, rfl, rfl, rfl⟩ | ⟨rfl, rfl, rfl, rfl, rfl⟩ | ⟨rfl, rfl, rfl, rfl, rfl, rfl⟩
          all_goals try replace hm9 := hm9 rfl
          all_goals try replace hsy := hsy rfl
          all_goals
            go_wp2_with (first
              | (go_at_call 11; ((with_reducible refine (KN.out _ (hT0.out.below HB.out hlt)).mono ?_); rintro e w2 ⟨rfl, hb⟩; have HB' := Lib.hid (HB.out.trans (hb.mono HB.out.size)); clear HB hb; have HB := HB'; clear HB'))
              | (go_at_call 6; ((with_reducible refine (S1.out _).mono ?_); rintro e w2 ⟨rfl, hb⟩; have HB' := Lib.hid (HB.out.trans (hb.mono HB.out.size)); clear HB hb; have HB := HB'; clear HB'))
              | (go_at_call 6; ((with_reducible refine (S2.out _).mono ?_); rintro e w2 ⟨rfl, hb⟩; have HB' := Lib.hid (HB.out.trans (hb.mono HB.out.size)); clear HB hb; have HB := HB'; clear HB'))
              | (go_at_call 9; ((with_reducible refine (B1.out _).mono ?_); rintro e w2 ⟨rfl, hb⟩; have HB' := Lib.hid (HB.out.trans (hb.mono HB.out.size)); clear HB hb; have HB := HB'; clear HB'))
              | (go_at_call 5; ((with_reducible refine (N1.out _ (hT0.out.below HB.out hlt)).mono ?_); rintro e w2 ⟨rfl, hb⟩; have HB' := Lib.hid (HB.out.trans (hb.mono HB.out.size)); clear HB hb; have HB := HB'; clear HB'))
              | (go_at_call 5; ((with_reducible refine (N2.out _ (hT0.out.below HB.out hlt)).mono ?_); rintro e w2 ⟨rfl, hb⟩; have HB' := Lib.hid (HB.out.trans (hb.mono HB.out.size)); clear HB hb; have HB := HB'; clear HB')))
            go_ret
            exact ⟨rfl, HB.out⟩
        · obtain rfl : vb = 4 := by rw [hW']; rfl
          clear hW' hW
          rcases h6.out with rfl | ⟨rfl, rfl⟩ | ⟨rfl, rfl, rfl⟩ | ⟨rfl, rfl, rfl, rfl⟩ | ⟨rfl, rfl, rfl, rfl, rfl⟩ | ⟨rfl, rfl, rfl, rfl, rfl, rfl⟩
          all_goals try replace hm9 := hm9 rfl
          all_goals try replace hsy := hsy rfl
          all_goals
            go_wp2_with (first
              | (go_at_call 11; ((with_reducible refine (KN.out _ (hT0.out.below HB.out hlt)).mono ?_); rintro e w2 ⟨rfl, hb⟩; have HB' := Lib.hid (HB.out.trans (hb.mono HB.out.size)); clear HB hb; have HB := HB'; clear HB'))
              | (go_at_call 6; ((with_reducible refine (S1.out _).mono ?_); rintro e w2 ⟨rfl, hb⟩; have HB' := Lib.hid (HB.out.trans (hb.mono HB.out.size)); clear HB hb; have HB := HB'; clear HB'))
              | (go_at_call 6; ((with_reducible refine (S2.out _).mono ?_); rintro e w2 ⟨rfl, hb⟩; have HB' := Lib.hid (HB.out.trans (hb.mono HB.out.size)); clear HB hb; have HB := HB'; clear HB'))
              | (go_at_call 9; ((with_reducible refine (B1.out _).mono ?_); rintro e w2 ⟨rfl, hb⟩; have HB' := Lib.hid (HB.out.trans (hb.mono HB.out.size)); clear HB hb; have HB := HB'; clear HB'))
              | (go_at_call 5; ((with_reducible refine (N1.out _ (hT0.out.below HB.out hlt)).mono ?_); rintro e w2 ⟨rfl, hb⟩; have HB' := Lib.hid (HB.out.trans (hb.mono HB.out.size)); clear HB hb; have HB := HB'; clear HB'))
              | (go_at_call 5; ((with_reducible refine (N2.out _ (hT0.out.below HB.out hlt)).mono ?_); rintro e w2 ⟨rfl, hb⟩; have HB' := Lib.hid (HB.out.trans (hb.mono HB.out.size)); clear HB hb; have HB := HB'; clear HB')))
            go_ret
            exact ⟨rfl, HB.out⟩
      · have fz : (n == 0) = false := beq_eq_false_iff_ne.2 hz
        rw [if_neg hz] at hW'
        have hr : n.tdiv 8 = vb := hW'.symm
        have hq : 0 ≤ vb ∧ vb ≤ 100 := by
          rw [← hr, Int.tdiv_eq_ediv_of_nonneg hd0]
          omega
        clear hW' hW
        rcases h6.out with rfl | ⟨rfl, rfl⟩ | ⟨rfl, rfl, rfl⟩ | ⟨rfl, rfl, rfl, rfl⟩ | ⟨rfl, rfl, rfl, rfl, rfl⟩ | ⟨rfl, rfl, rfl, rfl, rfl, rfl⟩
        all_goals try replace hm9 := hm9 rfl
        all_goals try replace hsy := hsy rfl
        all_goals
          go_wp2_with (first
            | (go_at_call 11; ((with_reducible refine (KN.out _ (hT0.out.below HB.out hlt)).mono ?_); rintro e w2 ⟨rfl, hb⟩; have HB' := Lib.hid (HB.out.trans (hb.mono HB.out.size)); clear HB hb; have HB := HB'; clear HB'))
            | (go_at_call 6; ((with_reducible refine (S1.out _).mono ?_); rintro e w2 ⟨rfl, hb⟩; have HB' := Lib.hid (HB.out.trans (hb.mono HB.out.size)); clear HB hb; have HB := HB'; clear HB'))
            | (go_at_call 6; ((with_reducible refine (S2.out _).mono ?_); rintro e w2 ⟨rfl, hb⟩; have HB' := Lib.hid (HB.out.trans (hb.mono HB.out.size)); clear HB hb; have HB := HB'; clear HB'))
            | (go_at_call 9; ((with_reducible refine (B1.out _).mono ?_); rintro e w2 ⟨rfl, hb⟩; have HB' := Lib.hid (HB.out.trans (hb.mono HB.out.size)); clear HB hb; have HB := HB'; clear HB'))
            | (go_at_call 5; ((with_reducible refine (N1.out _ (hT0.out.below HB.out hlt)).mono ?_); rintro e w2 ⟨rfl, hb⟩; have HB' := Lib.hid (HB.out.trans (hb.mono HB.out.size)); clear HB hb; have HB := HB'; clear HB'))
            | (go_at_call 5; ((with_reducible refine (N2.out _ (hT0.out.below HB.out hlt)).mono ?_); rintro e w2 ⟨rfl, hb⟩; have HB' := Lib.hid (HB.out.trans (hb.mono HB.out.size)); clear HB hb; have HB := HB'; clear HB')))
          go_ret
          exact ⟨rfl, HB.out⟩
theorem OpsLoads_walk (w : World) (hT : Tab5 w) (a b : Int) :
    Calls Tryd.prog 4 #[.int .i64 a, .int .i64 b] w fun e w' => e = .returned (.bool true) ∧ Below w.heap.size w w' := by
  by_cases hs : Op5.shapeOf a = 8
  · exact OpsLoads_mem w hT a b hs
  · exact OpsLoads_none w hT a b hs
end Go.Proofs.YtlflmobaegfnaabDoor

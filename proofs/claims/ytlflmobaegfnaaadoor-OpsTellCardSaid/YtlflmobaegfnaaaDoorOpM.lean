/-
  Layer 5, the document's side: Bytes.
-/
import Derived.Test.YtlflmobaegfnaaaDoorOpP
import Derived.Test.YtlflmobaegfnaaaDoorOpF
namespace Go.Proofs.YtlflmobaegfnaaaDoor
open Go.RowKit
set_option linter.unusedVariables false
set_option linter.unusedSimpArgs false
set_option maxRecDepth 100000

theorem pow_small (n : Nat) (h : n ≤ 15) : (10 : Int) ^ n ≤ 1000000000000000 := by
  have : ((List.range 16).all fun n => decide ((10 : Int) ^ n ≤ 1000000000000000)) = true := by decide +kernel
  exact of_decide_eq_true (List.all_eq_true.1 this n (List.mem_range.2 (by omega)))
set_option maxHeartbeats 4000000 in
theorem rbytes_walk (op : Int) (w : World) (s : ByteArray)
    (HN : Hid (∀ W, Calls Tryd.prog 29 #[.int .i64 op] W fun e w' => e = .returned (.string s) ∧ Below W.heap.size W w'))
    (HS : Hid (∀ W, Calls Tryd.prog 27 #[.int .i64 op] W fun e w' => e = .returned (.int .i64 8) ∧ w' = W)) (hlen : s.size ≤ 15) (h5 : 5 ≤ s.size) :
    Calls Tryd.prog 33 #[.int .i64 op] w fun e w' => e = .returned (.int .i64 (Op5.bytesName s.data.toList)) ∧ Below w.heap.size w w' := by
  have HL := Lib.hid (show s.data.toList.length = s.size by simp)
  unfold Op5.bytesName
  by_cases h1 : s.data.toList = Op5.i32load
  · rw [if_pos (.inl h1)]
    have e1 : (s.toList == [105, 51, 50, 46, 108, 111, 97, 100]) = true := by rw [ByteArray.toList_eq, h1]; rfl
    clear h1 HL
    go_enter Tryd.func33, Tryd.ntmps33
    go_wp2_with (first
      | (go_at_call 29; ((with_reducible refine (HN.out _).mono ?_); rintro e w1 ⟨rfl, hb1⟩))
      | (go_at_call 27; ((with_reducible refine (HS.out _).mono ?_); rintro e w2 ⟨rfl, rfl⟩)))
    go_ret
    exact ⟨rfl, hb1⟩
  · have e1 : (s.toList == [105, 51, 50, 46, 108, 111, 97, 100]) = false := by rw [ByteArray.toList_eq]; exact beq_eq_false_iff_ne.2 h1
    by_cases h2 : s.data.toList = Op5.i32store
    · rw [if_pos (.inr h2)]
      have e2 : (s.toList == [105, 51, 50, 46, 115, 116, 111, 114, 101]) = true := by rw [ByteArray.toList_eq, h2]; rfl
      clear h1 h2 HL
      go_enter Tryd.func33, Tryd.ntmps33
      go_wp2_with (first
        | (go_at_call 29; ((with_reducible refine (HN.out _).mono ?_); rintro e w1 ⟨rfl, hb1⟩))
        | (go_at_call 27; ((with_reducible refine (HS.out _).mono ?_); rintro e w2 ⟨rfl, rfl⟩)))
      go_ret
      exact ⟨rfl, hb1⟩
    · have e2 : (s.toList == [105, 51, 50, 46, 115, 116, 111, 114, 101]) = false := by rw [ByteArray.toList_eq]; exact beq_eq_false_iff_ne.2 h2
      rw [if_neg (by rintro (h | h); exact h1 h; exact h2 h)]
      by_cases h3 : s.data.toList = Op5.i64load
      · rw [if_pos (.inl h3)]
        have e3 : (s.toList == [105, 54, 52, 46, 108, 111, 97, 100]) = true := by rw [ByteArray.toList_eq, h3]; rfl
        clear h1 h2 h3 HL
        go_enter Tryd.func33, Tryd.ntmps33
        go_wp2_with (first
          | (go_at_call 29; ((with_reducible refine (HN.out _).mono ?_); rintro e w1 ⟨rfl, hb1⟩))
          | (go_at_call 27; ((with_reducible refine (HS.out _).mono ?_); rintro e w2 ⟨rfl, rfl⟩)))
        go_ret
        exact ⟨rfl, hb1⟩
      · have e3 : (s.toList == [105, 54, 52, 46, 108, 111, 97, 100]) = false := by rw [ByteArray.toList_eq]; exact beq_eq_false_iff_ne.2 h3
        by_cases h4 : s.data.toList = Op5.i64store
        · rw [if_pos (.inr h4)]
          have e4 : (s.toList == [105, 54, 52, 46, 115, 116, 111, 114, 101]) = true := by rw [ByteArray.toList_eq, h4]; rfl
          clear h1 h2 h3 h4 HL
          go_enter Tryd.func33, Tryd.ntmps33
          go_wp2_with (first
            | (go_at_call 29; ((with_reducible refine (HN.out _).mono ?_); rintro e w1 ⟨rfl, hb1⟩))
            | (go_at_call 27; ((with_reducible refine (HS.out _).mono ?_); rintro e w2 ⟨rfl, rfl⟩)))
          go_ret
          exact ⟨rfl, hb1⟩
        · have e4 : (s.toList == [105, 54, 52, 46, 115, 116, 111, 114, 101]) = false := by rw [ByteArray.toList_eq]; exact beq_eq_false_iff_ne.2 h4
          rw [if_neg (by rintro (h | h); exact h3 h; exact h4 h)]
          obtain ⟨res, hres⟩ : ∃ res, (Op5.dig (s.data.toList.drop 5)).tdiv 8 = res := ⟨_, rfl⟩
          rw [hres]
          have HR := Lib.hid hres
          clear h1 h2 h3 h4 hres
          go_enter Tryd.func33, Tryd.ntmps33
          go_wp2_with (first
            | (go_at_call 29; ((with_reducible refine (HN.out _).mono ?_); rintro e w1 ⟨rfl, hb1⟩))
            | (go_at_call 27; ((with_reducible refine (HS.out _).mono ?_); rintro e w2 ⟨rfl, rfl⟩)))
          go_loop [4, 5] (fun n i => ∃ k : Nat, 5 ≤ k ∧ k ≤ s.size ∧ i = .int .i64 k ∧ n = .int .i64 (Op5.dig ((s.data.toList.take k).drop 5))) (fun _ i => s.size - (intOf i).toNat)
          case atStart => exact ⟨5, by omega, h5, rfl, by rw [Op5.take_drop_self]; rfl⟩
          case round =>
            obtain ⟨k, hk5, hk, rfl, rfl⟩ := hrel
            have hd := Op5.dig_bd _ ((s.data.toList.take k).drop 5) rfl
            have hd2 := pow_small ((s.data.toList.take k).drop 5).length (by rw [List.length_drop, List.length_take]; omega)
            obtain ⟨n, hn⟩ : ∃ n, Op5.dig ((s.data.toList.take k).drop 5) = n := ⟨_, rfl⟩
            rw [hn] at hd ⊢
            have hd0 : 0 ≤ n := hd.1
            have hd9 : n ≤ 1000000000000000 := by omega
            clear hd hd2
            by_cases hlt : k < s.size
            · have hkl : k < s.data.toList.length := by rw [HL.out]; exact hlt
              obtain ⟨y, hy⟩ : ∃ y, (s[k]'hlt).toNat = y := ⟨_, rfl⟩
              have hst : Hid (Op5.dig ((s.data.toList.take (k + 1)).drop 5) = if 48 ≤ (y : Int) ∧ (y : Int) ≤ 57 then n * 10 + y - 48 else n) := Lib.hid (by
                rw [Op5.take_drop_snoc _ k 5 hkl hk5, Op5.dig_snoc, hn, ← hy]
                rfl)
              have hy256 : (y : Int) < 256 := by
                have := UInt8.toNat_lt (s[k]'hlt)
                omega
              clear hn
              have hm1 : s.size - (k + 1) < s.size - k := by omega
              by_cases hlo : 48 ≤ (y : Int)
              · have d1 : decide ((48 : Int) ≤ (y : Int)) = true := by simp; omega
                by_cases hhi : (y : Int) ≤ 57
                · have d2 : decide ((y : Int) ≤ 57) = true := by simp; omega
                  rw [if_pos ⟨hlo, hhi⟩] at hst
                  go_wp2
                  go_round
                  case rel => exact ⟨k + 1, by omega, by omega, by go_num, by rw [hst.out]⟩
                  case measure => simp [intOf]; omega
                · have d2 : decide ((y : Int) ≤ 57) = false := by simp; omega
                  rw [if_neg (fun h => hhi h.2)] at hst
                  go_wp2
                  go_round
                  case rel => exact ⟨k + 1, by omega, by omega, by go_num, by rw [hst.out]⟩
                  case measure => simp [intOf]; omega
              · have d1 : decide ((48 : Int) ≤ (y : Int)) = false := by simp; omega
                rw [if_neg (fun h => hlo h.1)] at hst
                go_wp2
                go_round
                case rel => exact ⟨k + 1, by omega, by omega, by go_num, by rw [hst.out]⟩
                case measure => simp [intOf]; omega
            · obtain rfl : k = s.size := by omega
              have hr : n.tdiv 8 = res := by
                rw [← hn, ← HR.out, List.take_of_length_le (by rw [HL.out]; exact Nat.le_refl _)]
              have hq : 0 ≤ res ∧ res ≤ 1000000000000000 := by
                rw [← hr, Int.tdiv_eq_ediv_of_nonneg hd0]
                omega
              clear hn
              go_wp2
              go_ret
              exact ⟨rfl, hb1⟩
set_option maxHeartbeats 4000000 in
theorem rbytes_none (op : Int) (w : World) (s : ByteArray) (sh : Int) (hsh : (sh == 8) = false)
    (HN : Hid (∀ W, Calls Tryd.prog 29 #[.int .i64 op] W fun e w' => e = .returned (.string s) ∧ Below W.heap.size W w'))
    (HS : Hid (∀ W, Calls Tryd.prog 27 #[.int .i64 op] W fun e w' => e = .returned (.int .i64 sh) ∧ w' = W)) :
    Calls Tryd.prog 33 #[.int .i64 op] w fun e w' => e = .returned (.int .i64 0) ∧ Below w.heap.size w w' := by
  go_enter Tryd.func33, Tryd.ntmps33
  go_wp2_with (first
    | (go_at_call 29; ((with_reducible refine (HN.out _).mono ?_); rintro e w1 ⟨rfl, hb1⟩))
    | (go_at_call 27; ((with_reducible refine (HS.out _).mono ?_); rintro e w2 ⟨rfl, rfl⟩)))
  go_ret
  exact ⟨rfl, hb1⟩
end Go.Proofs.YtlflmobaegfnaaaDoor

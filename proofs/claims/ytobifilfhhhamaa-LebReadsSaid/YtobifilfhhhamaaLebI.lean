/-
  The document's own S, walked.
-/
import Derived.Test.YtobifilfhhhamaaLebH
namespace Go.Proofs.Ytobifilfhhhamaa
open Go.RowKit
set_option linter.unusedVariables false

theorem wrap64_w64 (n : Int) : wrap64 n = Leb.w64 n := by unfold wrap64 Leb.w64; rfl
def RefS (r : Nat × Nat × Nat) (w : World) (e : Ending) (w' : World) : Prop := e = .returned (.tuple #[.int .i64 (Leb.sOf r.1), .int .i64 r.2.1, .int .i64 r.2.2]) ∧ Below w.heap.size w w'

set_option maxRecDepth 100000 in
set_option maxHeartbeats 1000000 in
theorem refReadS_bad (A : Option Addr) (n c : Nat) (at0 bits : Int) (w : World) (hm : n ≤ maxLen) (h : bits < 1 ∨ 64 < bits ∨ at0 < 0 ∨ (n : Int) < at0) :
    Calls Try.prog 14 #[.slice A n c, .int .i64 at0, .int .i64 bits] w fun e w' => e = .returned (.tuple #[.int .i64 0, .int .i64 0, .int .i64 2]) ∧ w = w' := by
  unfold maxLen at hm
  have H : Hid (bits < 1 ∨ 64 < bits ∨ at0 < 0 ∨ (n : Int) < at0) := h
  clear h
  by_cases h1 : bits < 1
  · have t1 : decide (bits < 1) = true := by simpa using h1
    go_enter Try.func14, Try.ntmps14
    go_wp2_with fail
    go_ret3
    exact ⟨rfl, rfl⟩
  have t1 : decide (bits < 1) = false := by simpa using h1
  by_cases h2 : 64 < bits
  · have t2 : decide (64 < bits) = true := by simpa using h2
    go_enter Try.func14, Try.ntmps14
    go_wp2_with fail
    go_ret3
    exact ⟨rfl, rfl⟩
  have t2 : decide (64 < bits) = false := by simpa using h2
  by_cases h3 : at0 < 0
  · have t3 : decide (at0 < 0) = true := by simpa using h3
    go_enter Try.func14, Try.ntmps14
    go_wp2_with fail
    go_ret3
    exact ⟨rfl, rfl⟩
  have t3 : decide (at0 < 0) = false := by simpa using h3
  have t4 : decide ((n : Int) < at0) = true := by have := H.out; simp; omega
  go_enter Try.func14, Try.ntmps14
  go_wp2_with fail
  go_ret3
  exact ⟨rfl, rfl⟩

set_option maxRecDepth 100000 in
set_option maxHeartbeats 2000000 in
theorem refS_ok (A : Option Addr) (n c : Nat) (l : List Nat) (at0 bits : Nat) (w : World) (hy : Bytes w w.heap.size A n c l) (hn5 : n ≤ 500) (ha : at0 ≤ n) (h1 : 1 ≤ bits) (h2 : bits ≤ 64) :
    Calls Try.prog 14 #[.slice A n c, .int .i64 at0, .int .i64 bits] w (RefS (told true l at0 bits) w) := by
  have ha5 : at0 ≤ 500 := by omega
  have hm := hy.2.2.1
  have hnc := hy.2.1
  unfold maxLen at hm
  have hl0 := hy.1
  have t1 : decide ((bits : Int) < 1) = false := by simp; omega
  have t2 : decide (64 < (bits : Int)) = false := by simp; omega
  have t3 : decide ((at0 : Int) < 0) = false := by simp
  have t4 : decide (n < at0) = false := by simp; omega
  have hc1 : at0 ≤ c := by omega
  have hyd := hy.from_ ha
  have HB := Lib.hid (Bits_any _ _ _ _ bits true w hyd h1 h2)
  have hrel := Leb.rdB_rd bits true h2 (l.drop at0) 0 [] at0 (fun x hx => hy.2.2.2.1 x (List.mem_of_mem_drop hx)) rfl (by omega) (by simp)
  have hT := told_eq true l at0 bits h1 h2 (by omega)
  rw [show Leb.val [] = 0 from rfl, Nat.mul_zero] at hrel
  rw [← hT] at hrel
  have HREL := Lib.hid hrel
  clear hrel hT hl0
  generalize hq : Leb.rdB bits true (l.drop at0) 0 [] = q at HB HREL
  clear hq hyd hy
  generalize told true l at0 bits = r at HREL
  by_cases hcap : c = at0
  · obtain rfl : at0 = n := by omega
    obtain rfl : at0 = c := by omega
    rw [if_pos rfl, Nat.sub_self] at HB
    clear hm
    go_enter Try.func14, Try.ntmps14
    go_wp2_with fail
    refine HB.out.mono ?_
    rintro e w1 ⟨A5, c5, rfl, ho, hb⟩
    rcases HREL.out with ⟨g1, g2, g3⟩ | ⟨res, cc, g1, g2, g3, g4, g5, g6⟩
    · generalize q.2.2 = e at *
      subst g2 g3
      clear HREL HB
      have hne : ((e : Int) != 0) = true := by simp; exact g1
      clear g1
      go_wp2_with fail
      go_ret3
      exact ⟨rfl, hb⟩
    · subst g1
      clear HREL HB
      have hlen : Hid (res.length = 7 * (0 + cc)) := g3
      have hres : Hid (∀ y ∈ res, y < 2) := g5
      have hr : Hid (r = (Leb.ext true (Leb.val res % 18446744073709551616) res.length, at0 + cc, 0)) := g6
      have hL : res.length ≤ 70 := by omega
      have hL1 : 7 ≤ res.length := by omega
      rw [Nat.zero_add] at ho g4 ⊢
      clear g5 g6 g3
      simp only at ho
      obtain ⟨_, g, rfl, hg, hgs, hci⟩ := ho.open_ (by omega)
      have HCI := Lib.hid hci
      clear hci
      have hne : res ≠ [] := by intro h; rw [h] at hL1; simp at hL1
      have hct := HCI.out (res.length - 1) (by omega)
      have hW := Leb.hornS_word res hres.out cc (by have := hlen.out; omega) g2 g4 hne
      rw [← List.getLast_eq_getElem hne] at hct
      generalize res.getLast hne = t at hct hW
      by_cases ht : t = 1
      · have t5 : ((t : Int) == 1) = true := by simp; omega
        rw [if_pos ht] at hW
        have HW := Lib.hid hW
        clear hW ht
        go_wp2_with fail
        go_loop [12, 13] (fun t u => ∃ j : Nat, t = .int .i64 (Leb.hornS (-1) (res.drop j)) ∧ u = .int .i64 ((j : Int) - 1) ∧ j ≤ res.length) (fun _ u => (intOf u + 1).toNat)
        case atStart => exact ⟨res.length, by rw [List.drop_of_length_le (by omega)]; rfl, rfl, by omega⟩
        case round =>
          obtain ⟨j, rfl, rfl, hj⟩ := hrel
          rcases Nat.eq_zero_or_pos j with rfl | hj0
          · generalize hX : Leb.hornS (-1) (res.drop 0) = X
            have HX := Lib.hid hX
            clear hX
            go_wp2_with fail
            go_ret3
            have hr2 := hr.out
            rw [List.drop_zero] at HX
            have hw := HW.out
            rw [HX.out] at hw
            exact ⟨by rw [hr2]; simp only; rw [← hw]; rfl, hb⟩
          · obtain ⟨j, rfl⟩ : ∃ k, j = k + 1 := ⟨j - 1, by omega⟩
            have hjl : j < res.length := by omega
            have hcj := HCI.out j hjl
            have hst : Hid (Leb.hornS (-1) (res.drop j) = wrap64 (wrap64 (Leb.hornS (-1) (res.drop (j + 1)) * 2) + (res[j] : Int))) := by
              rw [Hid, List.drop_eq_getElem_cons hjl, wrap64_w64, wrap64_w64]; rfl
            generalize Leb.hornS (-1) (res.drop (j + 1)) = X at hst ⊢
            generalize res[j] = y at hcj hst
            go_wp2_with fail
            go_round
            case rel => exact ⟨j, by rw [hst.out], rfl, by omega⟩
            case measure => simp [intOf]
      · have t5 : ((t : Int) == 1) = false := by simp; omega
        rw [if_neg ht] at hW
        have HW := Lib.hid hW
        clear hW ht
        go_wp2_with fail
        go_loop [12, 13] (fun t u => ∃ j : Nat, t = .int .i64 (Leb.hornS 0 (res.drop j)) ∧ u = .int .i64 ((j : Int) - 1) ∧ j ≤ res.length) (fun _ u => (intOf u + 1).toNat)
        case atStart => exact ⟨res.length, by rw [List.drop_of_length_le (by omega)]; rfl, rfl, by omega⟩
        case round =>
          obtain ⟨j, rfl, rfl, hj⟩ := hrel
          rcases Nat.eq_zero_or_pos j with rfl | hj0
          · generalize hX : Leb.hornS 0 (res.drop 0) = X
            have HX := Lib.hid hX
            clear hX
            go_wp2_with fail
            go_ret3
            have hr2 := hr.out
            rw [List.drop_zero] at HX
            have hw := HW.out
            rw [HX.out] at hw
            exact ⟨by rw [hr2]; simp only; rw [← hw]; rfl, hb⟩
          · obtain ⟨j, rfl⟩ : ∃ k, j = k + 1 := ⟨j - 1, by omega⟩
            have hjl : j < res.length := by omega
            have hcj := HCI.out j hjl
            have hst : Hid (Leb.hornS 0 (res.drop j) = wrap64 (wrap64 (Leb.hornS 0 (res.drop (j + 1)) * 2) + (res[j] : Int))) := by
              rw [Hid, List.drop_eq_getElem_cons hjl, wrap64_w64, wrap64_w64]; rfl
            generalize Leb.hornS 0 (res.drop (j + 1)) = X at hst ⊢
            generalize res[j] = y at hcj hst
            go_wp2_with fail
            go_round
            case rel => exact ⟨j, by rw [hst.out], rfl, by omega⟩
            case measure => simp [intOf]
  · rw [if_neg hcap] at HB
    clear hm
    go_enter Try.func14, Try.ntmps14
    go_wp2_with fail
    refine HB.out.mono ?_
    rintro e w1 ⟨A5, c5, rfl, ho, hb⟩
    rcases HREL.out with ⟨g1, g2, g3⟩ | ⟨res, cc, g1, g2, g3, g4, g5, g6⟩
    · generalize q.2.2 = e at *
      subst g2 g3
      clear HREL HB
      have hne : ((e : Int) != 0) = true := by simp; exact g1
      clear g1
      go_wp2_with fail
      go_ret3
      exact ⟨rfl, hb⟩
    · subst g1
      clear HREL HB
      have hlen : Hid (res.length = 7 * (0 + cc)) := g3
      have hres : Hid (∀ y ∈ res, y < 2) := g5
      have hr : Hid (r = (Leb.ext true (Leb.val res % 18446744073709551616) res.length, at0 + cc, 0)) := g6
      have hL : res.length ≤ 70 := by omega
      have hL1 : 7 ≤ res.length := by omega
      rw [Nat.zero_add] at ho g4 ⊢
      clear g5 g6 g3
      simp only at ho
      obtain ⟨_, g, rfl, hg, hgs, hci⟩ := ho.open_ (by omega)
      have HCI := Lib.hid hci
      clear hci
      have hne : res ≠ [] := by intro h; rw [h] at hL1; simp at hL1
      have hct := HCI.out (res.length - 1) (by omega)
      have hW := Leb.hornS_word res hres.out cc (by have := hlen.out; omega) g2 g4 hne
      rw [← List.getLast_eq_getElem hne] at hct
      generalize res.getLast hne = t at hct hW
      by_cases ht : t = 1
      · have t5 : ((t : Int) == 1) = true := by simp; omega
        rw [if_pos ht] at hW
        have HW := Lib.hid hW
        clear hW ht
        go_wp2_with fail
        go_loop [12, 13] (fun t u => ∃ j : Nat, t = .int .i64 (Leb.hornS (-1) (res.drop j)) ∧ u = .int .i64 ((j : Int) - 1) ∧ j ≤ res.length) (fun _ u => (intOf u + 1).toNat)
        case atStart => exact ⟨res.length, by rw [List.drop_of_length_le (by omega)]; rfl, rfl, by omega⟩
        case round =>
          obtain ⟨j, rfl, rfl, hj⟩ := hrel
          rcases Nat.eq_zero_or_pos j with rfl | hj0
          · generalize hX : Leb.hornS (-1) (res.drop 0) = X
            have HX := Lib.hid hX
            clear hX
            go_wp2_with fail
            go_ret3
            have hr2 := hr.out
            rw [List.drop_zero] at HX
            have hw := HW.out
            rw [HX.out] at hw
            exact ⟨by rw [hr2]; simp only; rw [← hw]; rfl, hb⟩
          · obtain ⟨j, rfl⟩ : ∃ k, j = k + 1 := ⟨j - 1, by omega⟩
            have hjl : j < res.length := by omega
            have hcj := HCI.out j hjl
            have hst : Hid (Leb.hornS (-1) (res.drop j) = wrap64 (wrap64 (Leb.hornS (-1) (res.drop (j + 1)) * 2) + (res[j] : Int))) := by
              rw [Hid, List.drop_eq_getElem_cons hjl, wrap64_w64, wrap64_w64]; rfl
            generalize Leb.hornS (-1) (res.drop (j + 1)) = X at hst ⊢
            generalize res[j] = y at hcj hst
            go_wp2_with fail
            go_round
            case rel => exact ⟨j, by rw [hst.out], rfl, by omega⟩
            case measure => simp [intOf]
      · have t5 : ((t : Int) == 1) = false := by simp; omega
        rw [if_neg ht] at hW
        have HW := Lib.hid hW
        clear hW ht
        go_wp2_with fail
        go_loop [12, 13] (fun t u => ∃ j : Nat, t = .int .i64 (Leb.hornS 0 (res.drop j)) ∧ u = .int .i64 ((j : Int) - 1) ∧ j ≤ res.length) (fun _ u => (intOf u + 1).toNat)
        case atStart => exact ⟨res.length, by rw [List.drop_of_length_le (by omega)]; rfl, rfl, by omega⟩
        case round =>
          obtain ⟨j, rfl, rfl, hj⟩ := hrel
          rcases Nat.eq_zero_or_pos j with rfl | hj0
          · generalize hX : Leb.hornS 0 (res.drop 0) = X
            have HX := Lib.hid hX
            clear hX
            go_wp2_with fail
            go_ret3
            have hr2 := hr.out
            rw [List.drop_zero] at HX
            have hw := HW.out
            rw [HX.out] at hw
            exact ⟨by rw [hr2]; simp only; rw [← hw]; rfl, hb⟩
          · obtain ⟨j, rfl⟩ : ∃ k, j = k + 1 := ⟨j - 1, by omega⟩
            have hjl : j < res.length := by omega
            have hcj := HCI.out j hjl
            have hst : Hid (Leb.hornS 0 (res.drop j) = wrap64 (wrap64 (Leb.hornS 0 (res.drop (j + 1)) * 2) + (res[j] : Int))) := by
              rw [Hid, List.drop_eq_getElem_cons hjl, wrap64_w64, wrap64_w64]; rfl
            generalize Leb.hornS 0 (res.drop (j + 1)) = X at hst ⊢
            generalize res[j] = y at hcj hst
            go_wp2_with fail
            go_round
            case rel => exact ⟨j, by rw [hst.out], rfl, by omega⟩
            case measure => simp [intOf]

/-- The document's S, at all arguments. -/
theorem refSall (A : Option Addr) (n c : Nat) (l : List Nat) (at0 bits : Int) (w : World) (hy : Bytes w w.heap.size A n c l) (hn5 : n ≤ 500) :
    Calls Try.prog 14 #[.slice A n c, .int .i64 at0, .int .i64 bits] w (RefS (told true l at0 bits) w) := by
  by_cases h : bits < 1 ∨ 64 < bits ∨ at0 < 0 ∨ (n : Int) < at0
  · refine (refReadS_bad A n c at0 bits w (Nat.le_trans hy.2.1 hy.2.2.1) h).mono ?_
    rintro e w' ⟨rfl, rfl⟩
    have hT : told true l at0 bits = (0, 0, 2) := by
      unfold told
      rw [if_pos (by rw [hy.1]; exact h)]
    rw [hT]
    exact ⟨rfl, Below.refl _ _⟩
  · obtain ⟨p, rfl⟩ := Int.eq_ofNat_of_zero_le (show 0 ≤ at0 by omega)
    obtain ⟨q, rfl⟩ := Int.eq_ofNat_of_zero_le (show 0 ≤ bits by omega)
    exact refS_ok A n c l p q w hy hn5 (by omega) (by omega) (by omega)
end Go.Proofs.Ytobifilfhhhamaa

/-
  Layer 4, the document's side: what is plain.
-/
import Derived.Test.YtabeidgkgbkliaaDoorKdE
namespace Go.Proofs.YtabeidgkgbkliaaDoor
open Go.RowKit
set_option linter.unusedVariables false
set_option maxRecDepth 100000

theorem Kd.pHeap_iff (k n : Int) : Kd.pHeap ⟨k, n⟩ = true ↔ (1 ≤ k ∧ k ≤ 12 ∧ n = 0) ∨ (k = 13 ∧ 0 ≤ n ∧ n ≤ 4294967295) := by
  unfold Kd.pHeap Kd.given Kd.pIdx
  dsimp only
  by_cases h : 1 ≤ k ∧ k ≤ 12
  · rw [if_pos (by simp [h])]
    simp only [decide_eq_true_eq]
    omega
  · rw [if_neg (by simp; omega)]
    simp only [Bool.and_eq_true, decide_eq_true_eq]
    omega
theorem rHeap_any (h : Hp) (w : World) :
    Calls Tryd.prog 34 #[h.val] w fun e w' => e = .returned (.bool (Kd.pHeap h)) ∧ Below w.heap.size w w' := by
  obtain ⟨r, hr⟩ : ∃ r, Kd.pHeap h = r := ⟨_, rfl⟩
  rw [hr]
  have hr' := Lib.hid hr
  clear hr
  obtain ⟨k, n⟩ := h
  unfold Hp.val
  dsimp only
  by_cases h1 : k = 13
  · subst h1
    by_cases h0 : 0 ≤ n
    all_goals
      go_enter Tryd.func34, Tryd.ntmps34
      go_wp2
      go_ret
      refine ⟨ret_bool ?_, (Below.refl _ _).alloc (Nat.le_refl _) _⟩
      rw [← hr'.out]
      rw [Bool.eq_iff_iff, Kd.pHeap_iff]
      simp
      try omega
  · by_cases h0 : n = 0
    · by_cases hk : 1 ≤ k
      all_goals
        go_enter Tryd.func34, Tryd.ntmps34
        go_wp2
        go_ret
        refine ⟨ret_bool ?_, (Below.refl _ _).alloc (Nat.le_refl _) _⟩
        rw [← hr'.out]
        rw [Bool.eq_iff_iff, Kd.pHeap_iff]
        simp
        try omega
    · go_enter Tryd.func34, Tryd.ntmps34
      go_wp2
      go_ret
      refine ⟨ret_bool ?_, (Below.refl _ _).alloc (Nat.le_refl _) _⟩
      rw [← hr'.out]
      rw [Bool.eq_iff_iff, Kd.pHeap_iff]
      simp
      try omega
theorem rVal_any (v : Vl) (w : World) :
    Calls Tryd.prog 13 #[v.val] w fun e w' => e = .returned (.bool (Kd.pVal v)) ∧ Below w.heap.size w w' := by
  obtain ⟨r, hr⟩ : ∃ r, Kd.pVal v = r := ⟨_, rfl⟩
  rw [hr]
  have hr' := Lib.hid hr
  clear hr
  obtain ⟨k, nu, hk, hn⟩ := v
  unfold Vl.val
  dsimp only
  by_cases h3 : k = 3
  · subst h3
    go_enter Tryd.func13, Tryd.ntmps13
    go_wp2_with (go_at_call 34; refine (rHeap_any ⟨hk, hn⟩ _).mono ?_; rintro e w' ⟨rfl, hb⟩)
    go_ret
    exact ⟨ret_bool (by rw [← hr'.out]; simp [Kd.pVal]), below_trans ((Below.refl _ _).alloc (Nat.le_refl _) _) hb⟩
  · by_cases h1 : k = 1
    · subst h1
      cases nu
      all_goals
        by_cases a0 : hk = 0
        all_goals
          go_enter Tryd.func13, Tryd.ntmps13
          go_wp2
          go_ret
          refine ⟨ret_bool ?_, (Below.refl _ _).alloc (Nat.le_refl _) _⟩
          rw [← hr'.out]
          simp [Kd.pVal, a0]
          try rfl
    · by_cases h2 : k = 2
      · subst h2
        cases nu
        all_goals
          by_cases a0 : hk = 0
          all_goals
            go_enter Tryd.func13, Tryd.ntmps13
            go_wp2
            go_ret
            refine ⟨ret_bool ?_, (Below.refl _ _).alloc (Nat.le_refl _) _⟩
            rw [← hr'.out]
            simp [Kd.pVal, a0]
            try rfl
      · go_enter Tryd.func13, Tryd.ntmps13
        go_wp2
        go_ret
        refine ⟨ret_bool ?_, (Below.refl _ _).alloc (Nat.le_refl _) _⟩
        rw [← hr'.out]
        simp [Kd.pVal, h1, h2, h3]
theorem rVals_any (l : List Vl) (A : Option Addr) (c : Nat) (w : World) (hl : l.length ≤ 100) (hs : Seg 4 Vl.cs w w.heap.size A c l) :
    Calls Tryd.prog 35 #[.slice A l.length c] w fun e w' => e = .returned (.bool (l.all Kd.pVal)) ∧ Below w.heap.size w w' := by
  obtain ⟨r, hr⟩ : ∃ r, l.all Kd.pVal = r := ⟨_, rfl⟩
  rw [hr]
  have hr' := Lib.hid hr
  have HS := Lib.hid hs
  clear hr hs
  go_enter Tryd.func35, Tryd.ntmps35
  go_wp2
  go_loopw [3] (fun i wr => ∃ k : Nat, k ≤ l.length ∧ i = .int .i64 k ∧ Below w.heap.size w wr ∧ (l.take k).all Kd.pVal = true) (fun i _ => l.length - (intOf i).toNat)
  case atStart => exact ⟨0, Nat.zero_le _, rfl, Below.refl _ _, by simp⟩
  case round =>
    obtain ⟨k, hk, rfl, hB, hall⟩ := hrel
    have hall' := Lib.hid hall
    have HB := Lib.hid hB
    clear hall hB
    by_cases hlt : k < l.length
    · obtain ⟨b, off, rfl, hb, hc⟩ := HS.out.2.2 (by omega)
      have hW : ∀ o, wr.cell? ⟨b, o, none⟩ = w.cell? ⟨b, o, none⟩ := fun o => HB.out.cell (p := ⟨b, o, none⟩) hb
      obtain ⟨x, hx⟩ : ∃ x, x = l[k] := ⟨_, rfl⟩
      have g0 := (hW (off + k * 4 + 0)).trans (hc k hlt 0 _ rfl)
      have g1 := (hW (off + k * 4 + 1)).trans (hc k hlt 1 _ rfl)
      have g2 := (hW (off + k * 4 + 2)).trans (hc k hlt 2 _ rfl)
      have g3 := (hW (off + k * 4 + 3)).trans (hc k hlt 3 _ rfl)
      rw [← hx] at g0 g1 g2 g3
      simp only [Nat.add_zero] at g0
      have hx' := Lib.hid hx
      clear hx hc hW HS
      have htk : Hid ((l.take (k + 1)).all Kd.pVal = Kd.pVal x) := Lib.hid (by rw [List.take_succ_eq_append_getElem hlt, List.all_append, hall'.out, hx'.out]; simp)
      cases hp : Kd.pVal x
      · go_wp2_with (go_at_call 13; refine (rVal_any x _).mono ?_; rw [hp]; rintro e w1 ⟨rfl, hb1⟩)
        go_ret
        refine ⟨ret_bool ?_, below_trans2 HB.out hb1⟩
        rw [← hr'.out]
        refine (Bool.eq_false_iff.2 fun e => ?_).symm
        have := List.all_eq_true.1 e x (by rw [hx'.out]; exact List.getElem_mem hlt)
        rw [hp] at this; cases this
      · go_wp2_with (go_at_call 13; refine (rVal_any x _).mono ?_; rw [hp]; rintro e w1 ⟨rfl, hb1⟩)
        go_roundw
        case rel => exact ⟨k + 1, by omega, by go_num, below_trans2 HB.out hb1, by rw [htk.out]; exact hp⟩
        case measure => simp [intOf]; omega
    · clear HS
      go_wp2
      go_ret
      refine ⟨ret_bool ?_, HB.out⟩
      rw [← hr'.out]
      have h := hall'.out
      rw [List.take_of_length_le (by omega)] at h
      exact h.symm
end Go.Proofs.YtabeidgkgbkliaaDoor

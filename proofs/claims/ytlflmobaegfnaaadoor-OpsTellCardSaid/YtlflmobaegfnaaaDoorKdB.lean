/-
  Layer 4, code: 'all' over a predicate of the package's own, at heap types, value types and fields.
-/
import Derived.Test.YtlflmobaegfnaaaDoorKdA
namespace Go.Proofs.YtlflmobaegfnaaaDoor
open Go.RowKit
set_option linter.unusedVariables false
set_option maxRecDepth 100000
theorem below_trans2 {w a b : World} (h : Below w.heap.size w a) (h2 : Below a.heap.size a b) : Below w.heap.size w b := h.trans (h2.mono h.size)

section
theorem ix_h (l : List Hp) (A : Option Addr) (c : Nat) (B : Nat) (q : Hp → Bool) (w : World) (hl : l.length ≤ 100) (hs : Seg 2 Hp.cs w w.heap.size A c l)
    (hq : Hid (∀ x W, Below w.heap.size w W → Calls Tryd.prog 72 #[x.val, .pointer (some ⟨B, 0, none⟩)] W fun e W' => e = .returned (.bool (q x)) ∧ Below W.heap.size W W')) :
    Calls Tryd.prog 87 #[.slice A l.length c, .func (.func 72) #[] #[.pointer (some ⟨B, 0, none⟩)]] w fun e w' => (∃ i : Int, e = .returned (.int .i64 i) ∧ decide (0 ≤ i) = l.any q) ∧ Below w.heap.size w w' := by
  obtain ⟨Q, hQ⟩ : ∃ Q : Ending → World → Prop, Q = (fun e w' => (∃ i : Int, e = .returned (.int .i64 i) ∧ decide (0 ≤ i) = l.any q) ∧ Below w.heap.size w w') := ⟨_, rfl⟩
  rw [← hQ]
  have hQ' := Lib.hid hQ
  clear hQ
  go_enter Tryd.func87, Tryd.ntmps87
  go_wp2
  go_loopw [5, 8] (fun _ i wr => ∃ k : Nat, k ≤ l.length ∧ i = .int .i64 k ∧ Below w.heap.size w wr ∧ (l.take k).any q = false) (fun _ i _ => l.length - (intOf i).toNat)
  case atStart => exact ⟨0, Nat.zero_le _, rfl, Below.refl _ _, by simp⟩
  case round =>
    obtain ⟨k, hk, rfl, hB, hany⟩ := hrel
    have hany' := Lib.hid hany
    clear hany
    by_cases hlt : k < l.length
    · obtain ⟨b, off, rfl, hb, hc⟩ := hs.2.2 (by omega)
      have g0 := (hB.cell (p := ⟨b, off + k * 2 + 0, none⟩) hb).trans (hc k hlt 0 _ rfl)
      have g1 := (hB.cell (p := ⟨b, off + k * 2 + 1, none⟩) hb).trans (hc k hlt 1 _ rfl)
      simp only [Nat.add_zero] at g0
      clear hc hs
      have htk : Hid ((l.take (k + 1)).any q = q l[k]) := Lib.hid (by rw [List.take_succ_eq_append_getElem hlt, List.any_append, hany'.out]; simp)
      cases hqx : q l[k]
      · go_wp2_with (go_at_call 72; refine (hq.out l[k] _ hB).mono ?_; rw [hqx]; rintro e w1 ⟨rfl, hb1⟩)
        go_roundw
        case rel => exact ⟨k + 1, by omega, by go_num, below_trans2 hB hb1, by rw [htk.out]; exact hqx⟩
        case measure => simp [intOf]; omega
      · go_wp2_with (go_at_call 72; refine (hq.out l[k] _ hB).mono ?_; rw [hqx]; rintro e w1 ⟨rfl, hb1⟩)
        rw [hQ'.out]
        exact ⟨⟨_, rfl, by rw [List.any_eq_true.2 ⟨l[k], List.getElem_mem hlt, hqx⟩]; simp⟩, below_trans2 hB hb1⟩
    · clear hs
      go_wp2
      rw [hQ'.out]
      exact ⟨⟨-1, rfl, by rw [List.take_of_length_le (by omega)] at hany'; rw [hany'.out]; rfl⟩, hB⟩
theorem cf_h (l : List Hp) (A : Option Addr) (c : Nat) (B : Nat) (q : Hp → Bool) (w : World) (hl : l.length ≤ 100) (hs : Seg 2 Hp.cs w w.heap.size A c l)
    (hq : Hid (∀ x W, Below w.heap.size w W → Calls Tryd.prog 72 #[x.val, .pointer (some ⟨B, 0, none⟩)] W fun e W' => e = .returned (.bool (q x)) ∧ Below W.heap.size W W')) :
    Calls Tryd.prog 71 #[.slice A l.length c, .func (.func 72) #[] #[.pointer (some ⟨B, 0, none⟩)]] w fun e w' => e = .returned (.bool (l.any q)) ∧ Below w.heap.size w w' := by
  have hs' := Lib.hid hs
  clear hs
  go_enter Tryd.func71, Tryd.ntmps71
  go_wp2_with (go_at_call 87; refine (ix_h l A c B q _ hl hs'.out hq).mono ?_; rintro e w1 ⟨⟨i, rfl, hi⟩, hb1⟩; have hi := Lib.hid hi)
  go_ret
  exact ⟨rfl, hb1⟩
theorem clo_h (x : Hp) (B : Nat) (w : World) (hB : w.cell? ⟨B, 0, none⟩ = some (.func (.func 49) #[] #[])) (hlt : B < w.heap.size) :
    Calls Tryd.prog 72 #[x.val, .pointer (some ⟨B, 0, none⟩)] w fun e w' => e = .returned (.bool (!Kd.pIdx x)) ∧ Below w.heap.size w w' := by
  unfold Hp.val
  go_enter Tryd.func72, Tryd.ntmps72
  go_wp2_with (go_at_call 49; refine (pIdx_any x _).mono ?_; rintro e w1 ⟨rfl, hb1⟩)
  go_ret
  exact ⟨rfl, below_trans ((Below.refl _ _).alloc (Nat.le_refl _) _) hb1⟩
theorem all_h (l : List Hp) (A : Option Addr) (c : Nat) (w : World) (hl : l.length ≤ 100) (hs : Seg 2 Hp.cs w w.heap.size A c l) :
    Calls Tryd.prog 48 #[.slice A l.length c, .func (.func 49) #[] #[]] w fun e w' => e = .returned (.bool (l.all Kd.pIdx)) ∧ Below w.heap.size w w' := by
  have hs' := Lib.hid hs
  clear hs
  go_enter Tryd.func48, Tryd.ntmps48
  go_wp2_with fail
  refine (cf_h l A c w.heap.size (fun x => !Kd.pIdx x) _ hl ((hs'.out.below ((Below.refl _ _).alloc (Nat.le_refl _) _)).more (by simp))
    (Lib.hid fun x W hW => clo_h x w.heap.size W ((hW.cell (p := ⟨w.heap.size, 0, none⟩) (by simp)).trans (by simp)) (Nat.lt_of_lt_of_le (by simp) hW.size))).mono ?_
  rintro e w1 ⟨rfl, hb1⟩
  go_wp2
  go_ret
  exact ⟨ret_bool (by simp [List.any_eq_not_all_not]), below_trans ((Below.refl _ _).alloc (Nat.le_refl _) _) hb1⟩
end

section
theorem ix_v (l : List Vl) (A : Option Addr) (c : Nat) (B : Nat) (q : Vl → Bool) (w : World) (hl : l.length ≤ 100) (hs : Seg 4 Vl.cs w w.heap.size A c l)
    (hq : Hid (∀ x W, Below w.heap.size w W → Calls Tryd.prog 89 #[x.val, .pointer (some ⟨B, 0, none⟩)] W fun e W' => e = .returned (.bool (q x)) ∧ Below W.heap.size W W')) :
    Calls Tryd.prog 101 #[.slice A l.length c, .func (.func 89) #[] #[.pointer (some ⟨B, 0, none⟩)]] w fun e w' => (∃ i : Int, e = .returned (.int .i64 i) ∧ decide (0 ≤ i) = l.any q) ∧ Below w.heap.size w w' := by
  obtain ⟨Q, hQ⟩ : ∃ Q : Ending → World → Prop, Q = (fun e w' => (∃ i : Int, e = .returned (.int .i64 i) ∧ decide (0 ≤ i) = l.any q) ∧ Below w.heap.size w w') := ⟨_, rfl⟩
  rw [← hQ]
  have hQ' := Lib.hid hQ
  clear hQ
  go_enter Tryd.func101, Tryd.ntmps101
  go_wp2
  go_loopw [5, 8] (fun _ i wr => ∃ k : Nat, k ≤ l.length ∧ i = .int .i64 k ∧ Below w.heap.size w wr ∧ (l.take k).any q = false) (fun _ i _ => l.length - (intOf i).toNat)
  case atStart => exact ⟨0, Nat.zero_le _, rfl, Below.refl _ _, by simp⟩
  case round =>
    obtain ⟨k, hk, rfl, hB, hany⟩ := hrel
    have hany' := Lib.hid hany
    clear hany
    by_cases hlt : k < l.length
    · obtain ⟨b, off, rfl, hb, hc⟩ := hs.2.2 (by omega)
      have g0 := (hB.cell (p := ⟨b, off + k * 4 + 0, none⟩) hb).trans (hc k hlt 0 _ rfl)
      have g1 := (hB.cell (p := ⟨b, off + k * 4 + 1, none⟩) hb).trans (hc k hlt 1 _ rfl)
      have g2 := (hB.cell (p := ⟨b, off + k * 4 + 2, none⟩) hb).trans (hc k hlt 2 _ rfl)
      have g3 := (hB.cell (p := ⟨b, off + k * 4 + 3, none⟩) hb).trans (hc k hlt 3 _ rfl)
      simp only [Nat.add_zero] at g0
      clear hc hs
      have htk : Hid ((l.take (k + 1)).any q = q l[k]) := Lib.hid (by rw [List.take_succ_eq_append_getElem hlt, List.any_append, hany'.out]; simp)
      cases hqx : q l[k]
      · go_wp2_with (go_at_call 89; refine (hq.out l[k] _ hB).mono ?_; rw [hqx]; rintro e w1 ⟨rfl, hb1⟩)
        go_roundw
        case rel => exact ⟨k + 1, by omega, by go_num, below_trans2 hB hb1, by rw [htk.out]; exact hqx⟩
        case measure => simp [intOf]; omega
      · go_wp2_with (go_at_call 89; refine (hq.out l[k] _ hB).mono ?_; rw [hqx]; rintro e w1 ⟨rfl, hb1⟩)
        rw [hQ'.out]
        exact ⟨⟨_, rfl, by rw [List.any_eq_true.2 ⟨l[k], List.getElem_mem hlt, hqx⟩]; simp⟩, below_trans2 hB hb1⟩
    · clear hs
      go_wp2
      rw [hQ'.out]
      exact ⟨⟨-1, rfl, by rw [List.take_of_length_le (by omega)] at hany'; rw [hany'.out]; rfl⟩, hB⟩
theorem cf_v (l : List Vl) (A : Option Addr) (c : Nat) (B : Nat) (q : Vl → Bool) (w : World) (hl : l.length ≤ 100) (hs : Seg 4 Vl.cs w w.heap.size A c l)
    (hq : Hid (∀ x W, Below w.heap.size w W → Calls Tryd.prog 89 #[x.val, .pointer (some ⟨B, 0, none⟩)] W fun e W' => e = .returned (.bool (q x)) ∧ Below W.heap.size W W')) :
    Calls Tryd.prog 88 #[.slice A l.length c, .func (.func 89) #[] #[.pointer (some ⟨B, 0, none⟩)]] w fun e w' => e = .returned (.bool (l.any q)) ∧ Below w.heap.size w w' := by
  have hs' := Lib.hid hs
  clear hs
  go_enter Tryd.func88, Tryd.ntmps88
  go_wp2_with (go_at_call 101; refine (ix_v l A c B q _ hl hs'.out hq).mono ?_; rintro e w1 ⟨⟨i, rfl, hi⟩, hb1⟩; have hi := Lib.hid hi)
  go_ret
  exact ⟨rfl, hb1⟩
theorem clo_v (x : Vl) (B : Nat) (w : World) (hB : w.cell? ⟨B, 0, none⟩ = some (.func (.func 25) #[] #[])) (hlt : B < w.heap.size) :
    Calls Tryd.prog 89 #[x.val, .pointer (some ⟨B, 0, none⟩)] w fun e w' => e = .returned (.bool (!Kd.pVal x)) ∧ Below w.heap.size w w' := by
  unfold Vl.val
  go_enter Tryd.func89, Tryd.ntmps89
  go_wp2_with (go_at_call 25; refine (pVal_any x _).mono ?_; rintro e w1 ⟨rfl, hb1⟩)
  go_ret
  exact ⟨rfl, below_trans ((Below.refl _ _).alloc (Nat.le_refl _) _) hb1⟩
theorem all_v (l : List Vl) (A : Option Addr) (c : Nat) (w : World) (hl : l.length ≤ 100) (hs : Seg 4 Vl.cs w w.heap.size A c l) :
    Calls Tryd.prog 73 #[.slice A l.length c, .func (.func 25) #[] #[]] w fun e w' => e = .returned (.bool (l.all Kd.pVal)) ∧ Below w.heap.size w w' := by
  have hs' := Lib.hid hs
  clear hs
  go_enter Tryd.func73, Tryd.ntmps73
  go_wp2_with fail
  refine (cf_v l A c w.heap.size (fun x => !Kd.pVal x) _ hl ((hs'.out.below ((Below.refl _ _).alloc (Nat.le_refl _) _)).more (by simp))
    (Lib.hid fun x W hW => clo_v x w.heap.size W ((hW.cell (p := ⟨w.heap.size, 0, none⟩) (by simp)).trans (by simp)) (Nat.lt_of_lt_of_le (by simp) hW.size))).mono ?_
  rintro e w1 ⟨rfl, hb1⟩
  go_wp2
  go_ret
  exact ⟨ret_bool (by simp [List.any_eq_not_all_not]), below_trans ((Below.refl _ _).alloc (Nat.le_refl _) _) hb1⟩
end

section
theorem ix_f (l : List Fd) (A : Option Addr) (c : Nat) (B : Nat) (q : Fd → Bool) (w : World) (hl : l.length ≤ 100) (hs : Seg 6 Fd.cs w w.heap.size A c l)
    (hq : Hid (∀ x W, Below w.heap.size w W → Calls Tryd.prog 91 #[x.val, .pointer (some ⟨B, 0, none⟩)] W fun e W' => e = .returned (.bool (q x)) ∧ Below W.heap.size W W')) :
    Calls Tryd.prog 102 #[.slice A l.length c, .func (.func 91) #[] #[.pointer (some ⟨B, 0, none⟩)]] w fun e w' => (∃ i : Int, e = .returned (.int .i64 i) ∧ decide (0 ≤ i) = l.any q) ∧ Below w.heap.size w w' := by
  obtain ⟨Q, hQ⟩ : ∃ Q : Ending → World → Prop, Q = (fun e w' => (∃ i : Int, e = .returned (.int .i64 i) ∧ decide (0 ≤ i) = l.any q) ∧ Below w.heap.size w w') := ⟨_, rfl⟩
  rw [← hQ]
  have hQ' := Lib.hid hQ
  clear hQ
  go_enter Tryd.func102, Tryd.ntmps102
  go_wp2
  go_loopw [5, 8] (fun _ i wr => ∃ k : Nat, k ≤ l.length ∧ i = .int .i64 k ∧ Below w.heap.size w wr ∧ (l.take k).any q = false) (fun _ i _ => l.length - (intOf i).toNat)
  case atStart => exact ⟨0, Nat.zero_le _, rfl, Below.refl _ _, by simp⟩
  case round =>
    obtain ⟨k, hk, rfl, hB, hany⟩ := hrel
    have hany' := Lib.hid hany
    clear hany
    by_cases hlt : k < l.length
    · obtain ⟨b, off, rfl, hb, hc⟩ := hs.2.2 (by omega)
      have g0 := (hB.cell (p := ⟨b, off + k * 6 + 0, none⟩) hb).trans (hc k hlt 0 _ rfl)
      have g1 := (hB.cell (p := ⟨b, off + k * 6 + 1, none⟩) hb).trans (hc k hlt 1 _ rfl)
      have g2 := (hB.cell (p := ⟨b, off + k * 6 + 2, none⟩) hb).trans (hc k hlt 2 _ rfl)
      have g3 := (hB.cell (p := ⟨b, off + k * 6 + 3, none⟩) hb).trans (hc k hlt 3 _ rfl)
      have g4 := (hB.cell (p := ⟨b, off + k * 6 + 4, none⟩) hb).trans (hc k hlt 4 _ rfl)
      have g5 := (hB.cell (p := ⟨b, off + k * 6 + 5, none⟩) hb).trans (hc k hlt 5 _ rfl)
      simp only [Nat.add_zero] at g0
      clear hc hs
      have htk : Hid ((l.take (k + 1)).any q = q l[k]) := Lib.hid (by rw [List.take_succ_eq_append_getElem hlt, List.any_append, hany'.out]; simp)
      cases hqx : q l[k]
      · go_wp2_with (go_at_call 91; refine (hq.out l[k] _ hB).mono ?_; rw [hqx]; rintro e w1 ⟨rfl, hb1⟩)
        go_roundw
        case rel => exact ⟨k + 1, by omega, by go_num, below_trans2 hB hb1, by rw [htk.out]; exact hqx⟩
        case measure => simp [intOf]; omega
      · go_wp2_with (go_at_call 91; refine (hq.out l[k] _ hB).mono ?_; rw [hqx]; rintro e w1 ⟨rfl, hb1⟩)
        rw [hQ'.out]
        exact ⟨⟨_, rfl, by rw [List.any_eq_true.2 ⟨l[k], List.getElem_mem hlt, hqx⟩]; simp⟩, below_trans2 hB hb1⟩
    · clear hs
      go_wp2
      rw [hQ'.out]
      exact ⟨⟨-1, rfl, by rw [List.take_of_length_le (by omega)] at hany'; rw [hany'.out]; rfl⟩, hB⟩
theorem cf_f (l : List Fd) (A : Option Addr) (c : Nat) (B : Nat) (q : Fd → Bool) (w : World) (hl : l.length ≤ 100) (hs : Seg 6 Fd.cs w w.heap.size A c l)
    (hq : Hid (∀ x W, Below w.heap.size w W → Calls Tryd.prog 91 #[x.val, .pointer (some ⟨B, 0, none⟩)] W fun e W' => e = .returned (.bool (q x)) ∧ Below W.heap.size W W')) :
    Calls Tryd.prog 90 #[.slice A l.length c, .func (.func 91) #[] #[.pointer (some ⟨B, 0, none⟩)]] w fun e w' => e = .returned (.bool (l.any q)) ∧ Below w.heap.size w w' := by
  have hs' := Lib.hid hs
  clear hs
  go_enter Tryd.func90, Tryd.ntmps90
  go_wp2_with (go_at_call 102; refine (ix_f l A c B q _ hl hs'.out hq).mono ?_; rintro e w1 ⟨⟨i, rfl, hi⟩, hb1⟩; have hi := Lib.hid hi)
  go_ret
  exact ⟨rfl, hb1⟩
theorem clo_f (x : Fd) (B : Nat) (w : World) (hB : w.cell? ⟨B, 0, none⟩ = some (.func (.func 76) #[] #[])) (hlt : B < w.heap.size) :
    Calls Tryd.prog 91 #[x.val, .pointer (some ⟨B, 0, none⟩)] w fun e w' => e = .returned (.bool (!Kd.pField x)) ∧ Below w.heap.size w w' := by
  unfold Fd.val
  go_enter Tryd.func91, Tryd.ntmps91
  go_wp2_with (go_at_call 76; refine (pField_any x _).mono ?_; rintro e w1 ⟨rfl, hb1⟩)
  go_ret
  exact ⟨rfl, below_trans ((Below.refl _ _).alloc (Nat.le_refl _) _) hb1⟩
theorem all_f (l : List Fd) (A : Option Addr) (c : Nat) (w : World) (hl : l.length ≤ 100) (hs : Seg 6 Fd.cs w w.heap.size A c l) :
    Calls Tryd.prog 75 #[.slice A l.length c, .func (.func 76) #[] #[]] w fun e w' => e = .returned (.bool (l.all Kd.pField)) ∧ Below w.heap.size w w' := by
  have hs' := Lib.hid hs
  clear hs
  go_enter Tryd.func75, Tryd.ntmps75
  go_wp2_with fail
  refine (cf_f l A c w.heap.size (fun x => !Kd.pField x) _ hl ((hs'.out.below ((Below.refl _ _).alloc (Nat.le_refl _) _)).more (by simp))
    (Lib.hid fun x W hW => clo_f x w.heap.size W ((hW.cell (p := ⟨w.heap.size, 0, none⟩) (by simp)).trans (by simp)) (Nat.lt_of_lt_of_le (by simp) hW.size))).mono ?_
  rintro e w1 ⟨rfl, hb1⟩
  go_wp2
  go_ret
  exact ⟨ret_bool (by simp [List.any_eq_not_all_not]), below_trans ((Below.refl _ _).alloc (Nat.le_refl _) _) hb1⟩
end
end Go.Proofs.YtlflmobaegfnaaaDoor

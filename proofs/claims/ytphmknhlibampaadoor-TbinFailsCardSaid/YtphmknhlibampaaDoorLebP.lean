/-
  leb's put, walked.
-/
import Derived.Test.YtphmknhlibampaaDoorLebA
namespace Go.Proofs.YtphmknhlibampaaDoor
open Go.RowKit
set_option linter.unusedVariables false

theorem make10 (w : World) : (Instr.makeSlice 22 (.int .i64 0) (.int .i64 10)).run Tryd.prog w = .ok (.slice (some ⟨w.heap.size, 0, none⟩) 0 10) (w.alloc (.cells (Array.replicate 10 (.int .u8 0)) 5)) := by kernel_rfl

theorem and127 (y : Int) (h0 : 0 ≤ y) (h1 : y < 256) : bits .and .u8 y 127 = y % 128 := bits_mask .u8 8 (by decide) wraps_u8 7 (by decide) y h0 h1
theorem or128 (y : Nat) (h : y < 128) : bits .or .u8 (y : Int) 128 = ((y + 128 : Nat) : Int) := by
  have e := Nat.two_pow_add_eq_or_of_lt (i := 7) (b := y) (by omega) 1
  rw [show (128 : Int) = ((128 : Nat) : Int) from rfl, u8_or_nat y 128 (by omega) (by omega), Nat.or_comm]
  simp at e
  omega
theorem low_byte (m : Nat) (h : m < 128) : bits .and .u8 (m : Int) 127 = (m : Int) := by rw [and127 _ (by omega) (by omega)]; omega
theorem more_byte (y : Int) : bits .or .u8 (bits .and .u8 (y % 256) 127) 128 = (((y % 128).toNat + 128 : Nat) : Int) := by
  rw [and127 _ (by omega) (by omega), show y % 256 % 128 = (((y % 128).toNat : Nat) : Int) by omega]
  exact or128 _ (by omega)

set_option maxHeartbeats 400000 in
theorem put_u (n : Nat) (w : World) (hn : n < 18446744073709551616) :
    Calls Tryd.prog 122 #[.int .u64 n] w fun e w' => ∃ v, e = .returned v ∧ Own w.heap.size w' v (Leb.putU n) ∧ Below w.heap.size w w' := by
  have hmk := make10
  have hx : decide (bits .xor .u64 IntKind.u64.max 0 < 0) = false := by decide
  go_enter Tryd.func122, Tryd.ntmps122
  go_wp2_with fail
  go_loopw [0, 4] (fun t v wr => ∃ (m : Nat) (pre : List Nat), m < 18446744073709551616 ∧ t = .int .u64 m ∧ Own w.heap.size wr v pre ∧ pre.length ≤ 10 ∧ Below w.heap.size w wr ∧ Hid (Leb.putU n = pre ++ Leb.putU m) ∧ Hid (pre.length + (Leb.putU m).length ≤ 10))
    (fun t _ _ => (intOf t).toNat)
  case atStart => exact ⟨n, [], hn, rfl, World.ownsRow_made w _ 10 (Nat.le_refl _) (by decide) (by simp), by simp, (Below.refl _ _).alloc (Nat.le_refl _) _, by simp [Hid], by simpa [Hid] using Leb.putU_len10 n hn⟩
  case round =>
    obtain ⟨m, pre, hm, rfl, hown, hpre, hb, H1, H2⟩ := hrel
    by_cases hlt : m < 128
    · have h0 : (m : Int) / 128 = 0 := by omega
      go_wp2_with (first
        | (go_at_call 137; refine (only_u _ _ (by omega) (by omega)).mono ?_; rintro e w' ⟨rfl, rfl⟩)
        | (at_builtin; refine push_arm rfl (.tmp 25) (.tmp 29) rfl wr m _ rfl rfl hown hb.size (by omega) ?_ (low_byte m hlt); intro v' w' hown' hg'))
      go_ret
      refine ⟨v', rfl, ?_, Own.grown hown hg' (Nat.le_refl _) hb.size hb⟩
      have e := H1.out
      rw [Leb.putU_lo hlt] at e
      rw [e]; exact hown'
    · have h0 : ¬ (m : Int) / 128 = 0 := by omega
      go_wp2_with (first
        | (go_at_call 137; refine (only_u _ _ (by omega) (by omega)).mono ?_; rintro e w' ⟨rfl, rfl⟩)
        | (at_builtin; refine push_arm rfl (.tmp 16) (.tmp 21) rfl wr (((m : Int) % 128).toNat + 128) _ rfl rfl hown hb.size (by omega) ?_ (more_byte m); intro v' w' hown' hg'))
      have e := H1.out
      have e2 := H2.out
      rw [Leb.putU_hi hlt] at e e2
      simp at e2
      go_roundw
      case rel => exact ⟨m / 128, pre ++ [((m : Int) % 128).toNat + 128], by omega, by congr 1, hown', by have := Leb.putU_pos (m / 128); simp; omega, Own.grown hown hg' (Nat.le_refl _) hb.size hb, by rw [Hid, e, show ((m : Int) % 128).toNat = m % 128 by omega]; simp, by rw [Hid]; simp; omega⟩
      case measure => simp [intOf]; omega

theorem only_yes (n : Int) (w : World) (h : n = 0 ∨ n = -1) :
    Calls Tryd.prog 144 #[.int .i64 n] w fun e w' => e = .returned (.bool true) ∧ w = w' := (only_s n w).mono fun _ _ ⟨he, hw⟩ => ⟨by rw [he, decide_eq_true h], hw⟩
theorem only_no (n : Int) (w : World) (h : ¬(n = 0 ∨ n = -1)) :
    Calls Tryd.prog 144 #[.int .i64 n] w fun e w' => e = .returned (.bool false) ∧ w = w' := (only_s n w).mono fun _ _ ⟨he, hw⟩ => ⟨by rw [he, decide_eq_false h], hw⟩
theorem low_byte_s (m : Int) : bits .and .u8 (m % 256) 127 = (((m % 128).toNat : Nat) : Int) := by rw [and127 _ (by omega) (by omega)]; omega

set_option maxHeartbeats 400000 in
theorem put_s (n : Int) (w : World) (hn : -9223372036854775808 ≤ n) (hn' : n < 9223372036854775808) :
    Calls Tryd.prog 139 #[.int .i64 n] w fun e w' => ∃ v, e = .returned v ∧ Own w.heap.size w' v (Leb.putS n) ∧ Below w.heap.size w w' := by
  have hmk := make10
  have hx : decide (bits .xor .i64 (-1) 0 < 0) = true := by decide
  go_enter Tryd.func139, Tryd.ntmps139
  go_wp2_with fail
  go_loopw [0, 4] (fun t v wr => ∃ (m : Int) (pre : List Nat), -9223372036854775808 ≤ m ∧ m < 9223372036854775808 ∧ t = .int .i64 m ∧ Own w.heap.size wr v pre ∧ pre.length ≤ 10 ∧ Below w.heap.size w wr ∧ Hid (Leb.putS n = pre ++ Leb.putS m) ∧ Hid (pre.length + (Leb.putS m).length ≤ 10))
    (fun t _ _ => (intOf t).natAbs)
  case atStart => exact ⟨n, [], hn, hn', rfl, World.ownsRow_made w _ 10 (Nat.le_refl _) (by decide) (by simp), by simp, (Below.refl _ _).alloc (Nat.le_refl _) _, by simp [Hid], by simpa [Hid] using Leb.putS_len10 n ⟨hn, hn'⟩⟩
  case round =>
    obtain ⟨m, pre, hm, hm', rfl, hown, hpre, hb, H1, H2⟩ := hrel
    by_cases hlt : -64 ≤ m ∧ m < 64
    · have H3 := Lib.hid hlt
      obtain ⟨hl1, hl2⟩ := hlt
      go_wp2_with (first
        | (go_at_call 144; refine (only_yes _ _ (by omega)).mono ?_; rintro e w' ⟨rfl, rfl⟩)
        | (at_builtin; refine push_arm rfl (.tmp 25) (.tmp 29) rfl wr (m % 128).toNat _ rfl rfl hown hb.size (by omega) ?_ (low_byte_s m); intro v' w' hown' hg'))
      go_ret
      refine ⟨v', rfl, ?_, Own.grown hown hg' (Nat.le_refl _) hb.size hb⟩
      have e := H1.out
      rw [Leb.putS_lo H3.out] at e
      rw [e]; exact hown'
    · have H3 := Lib.hid hlt
      clear hlt
      go_wp2_with (first
        | (go_at_call 144; refine (only_no _ _ (by have := H3.out; omega)).mono ?_; rintro e w' ⟨rfl, rfl⟩)
        | (at_builtin; refine push_arm rfl (.tmp 16) (.tmp 21) rfl wr ((m % 128).toNat + 128) _ rfl rfl hown hb.size (by omega) ?_ (more_byte m); intro v' w' hown' hg'))
      have e := H1.out
      have e2 := H2.out
      have hlt := H3.out
      rw [Leb.putS_hi hlt] at e e2
      simp at e2
      go_roundw
      case rel => exact ⟨m / 128, pre ++ [(m % 128).toNat + 128], by omega, by omega, rfl, hown', by have := Leb.putS_pos (m / 128); simp; omega, Own.grown hown hg' (Nat.le_refl _) hb.size hb, by rw [Hid, e]; simp, by rw [Hid]; simp; omega⟩
      case measure => simp [intOf]; omega
end Go.Proofs.YtphmknhlibampaaDoor

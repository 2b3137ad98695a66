/-
  leb's read, walked.
-/
import Derived.Test.YtphmknhlibampaaDoorLebP
import Derived.Test.YtphmknhlibampaaDoorLebM
import Derived.WalkMore
import Derived.ScopeJumps
namespace Go.Proofs.YtphmknhlibampaaDoor
open Go.RowKit
set_option linter.unusedVariables false

theorem fits_int (sg : Bool) (x : Nat) (left : Int) (w : World) (hx' : x < 128) (hl : 1 ≤ left) (hl' : left ≤ 64) :
    Calls Tryd.prog 102 #[.int .u8 x, .int .i64 left, .bool sg] w fun e w' => e = .returned (.bool (Leb.fits sg x left.toNat)) ∧ ∃ n, w' = w.drewN n := by
  obtain ⟨k, rfl⟩ := Int.eq_ofNat_of_zero_le (show 0 ≤ left by omega)
  exact fits_any sg x k w hx' (by omega) (by omega)
theorem extend_int (sg : Bool) (n : Nat) (r : Int) (w : World) (h : n < 18446744073709551616) (h2 : n < 2 ^ r.toNat) (hr : 1 ≤ r) (hr' : r ≤ 70) :
    Calls Tryd.prog 103 #[.int .u64 n, .int .i64 r, .bool sg] w fun e w' => e = .returned (.int .u64 (Leb.ext sg n r.toNat : Nat)) ∧ w = w' := by
  obtain ⟨k, rfl⟩ := Int.eq_ofNat_of_zero_le (show 0 ≤ r by omega)
  exact extend_any sg n k w h h2 (by omega) (by omega)
theorem and127n (x : Nat) (h : x < 256) : bits .and .u8 (x : Int) 127 = ((x % 128 : Nat) : Int) := by rw [and127 _ (by omega) (by omega)]; omega
theorem and128 (x : Nat) (h : x < 256) : (bits .and .u8 (x : Int) 128 == 0) = decide (x < 128) := by
  have : ∀ y : Fin 256, (bits .and .u8 (y.val : Int) 128 == 0) = decide (y.val < 128) := by decide +kernel
  exact this ⟨x, h⟩

/-- What read hands back. -/
def Told (r : Nat × Nat × Nat) (w : World) (e : Ending) (w' : World) : Prop := e = .returned (.tuple #[.int .u64 r.1, .int .i64 r.2.1, .int .i64 r.2.2]) ∧ ∃ k, w' = w.drewN k

theorem acc_or (m x place : Nat) (hm : m < 2 ^ place) (hp : place ≤ 63) :
    ∃ m2 : Nat, bits .or .u64 (m : Int) (IntKind.u64.wrap ((x : Int) % 128 * 2 ^ place)) = (m2 : Int) ∧ m2 < 18446744073709551616 ∧ Hid (m2 < 2 ^ (place + 7)) ∧ Hid (m2 = (m + x % 128 * 2 ^ place) % 18446744073709551616) := by
  refine ⟨(m + x % 128 * 2 ^ place) % 18446744073709551616, ?_, Nat.mod_lt _ (by omega), ?_, rfl⟩
  · have hm64 : m < 18446744073709551616 := Nat.lt_of_lt_of_le hm (by have := Nat.pow_le_pow_right (n := 2) (by omega) (show place ≤ 64 by omega); omega)
    have e : IntKind.u64.wrap ((x : Int) % 128 * 2 ^ place) = ((x % 128 * 2 ^ place % 18446744073709551616 : Nat) : Int) := by
      simp [IntKind.wrap, IntKind.bits, IntKind.signed]
    have hmod : x % 128 * 2 ^ place % 18446744073709551616 = 2 ^ place * (x % 128 % 2 ^ (64 - place)) := by
      rw [show (18446744073709551616 : Nat) = 2 ^ place * 2 ^ (64 - place) by rw [← Nat.pow_add, show place + (64 - place) = 64 by omega], Nat.mul_comm, Nat.mul_mod_mul_left]
    rw [e, u64_or_nat m _ hm64 (Nat.mod_lt _ (by omega)), hmod, Nat.or_comm, ← Nat.two_pow_add_eq_or_of_lt hm, ← hmod]
    have hle : m + x % 128 * 2 ^ place % 18446744073709551616 < 18446744073709551616 := by
      rw [hmod]
      have h1 : x % 128 % 2 ^ (64 - place) + 1 ≤ 2 ^ (64 - place) := Nat.mod_lt _ (Nat.two_pow_pos _)
      have h2 := Nat.mul_le_mul_left (2 ^ place) h1
      rw [← Nat.pow_add, show place + (64 - place) = 64 by omega, Nat.mul_add] at h2
      omega
    omega
  · refine Nat.lt_of_le_of_lt (Nat.mod_le _ _) ?_
    have h1 : x % 128 + 1 ≤ 128 := by omega
    have h2 := Nat.mul_le_mul_right (2 ^ place) h1
    rw [Nat.pow_add, Nat.add_mul] at *
    omega

set_option maxHeartbeats 800000 in
theorem read_ok (A : Option Addr) (n c : Nat) (l : List Nat) (C : Nat) (at0 bits : Nat) (sg : Bool) (w : World) (hb : Bytes w C A n c l) (ha : at0 ≤ n) (h1 : 1 ≤ bits) (h2 : bits ≤ 64) :
    Calls Tryd.prog 79 #[.slice A n c, .int .i64 at0, .int .i64 bits, .bool sg] w (Told (Leb.rd bits sg (l.drop at0) at0 0 0) w) := by
  obtain ⟨hn, hc, hm, hlt, hcell⟩ := hb
  unfold maxLen at hm
  have t1 : decide ((bits : Int) < 1) = false := by simp; omega
  have t2 : decide (64 < (bits : Int)) = false := by simp; omega
  have t3 : decide ((at0 : Int) < 0) = false := by simp
  have t4 : decide (n < at0) = false := by simp; omega
  have Hn := Lib.hid hn
  clear hn
  go_enter Tryd.func79, Tryd.ntmps79
  go_wp2_with fail
  refine wp_scope_jumps 0 (fun a' w' => ∃ (code : Nat) (t : Array Value), (∃ k, w' = w.drewN k) ∧ a' = ⟨t, []⟩ ∧ t.size = 72 ∧ t.getD 12 undef = .int .i64 code ∧ Hid (Leb.rd bits sg (l.drop at0) at0 0 0 = (0, 0, code))) (fun _ _ => 0) rfl ?_ ?_
  rotate_left
  · rintro a' w' ⟨code, t, ⟨k, rfl⟩, rfl, hs, h12, H⟩
    clear t1 t2 t3 t4
    go_wp2
    simp only [Exit.jump]
    go_ret3
    refine ⟨?_, k, rfl⟩
    rw [H.out]
    simp [hs]
  go_wp2_with fail
  go_loopw [1, 11, 13] (fun t u p wr => ∃ a m place : Nat, t = .int .i64 a ∧ u = .int .u64 m ∧ p = .int .i64 place ∧ a ≤ n ∧ place < bits ∧ m < 18446744073709551616 ∧ Hid (m < 2 ^ place) ∧ (∃ k, wr = w.drewN k) ∧ Hid (Leb.rd bits sg (l.drop at0) at0 0 0 = Leb.rd bits sg (l.drop a) a place m))
    (fun t _ _ _ => n - (intOf t).toNat)
  case atStart => exact ⟨at0, 0, 0, rfl, rfl, rfl, ha, by omega, by omega, by simp [Hid], ⟨0, rfl⟩, rfl⟩
  case round =>
    obtain ⟨a, m, place, rfl, rfl, rfl, ha', hp, hm', H1, ⟨k, rfl⟩, H2⟩ := hrel
    clear t1 t2 t3 t4
    by_cases hlt2 : a < n
    · obtain ⟨b, off, rfl, hbC, hcell⟩ := hcell (by omega)
      have hla : a < l.length := by rw [Hn.out]; exact hlt2
      have hc := hcell a hla
      have hx := hlt l[a] (List.getElem_mem hla)
      have H3 : Hid (l.drop a = l[a] :: l.drop (a + 1)) := List.drop_eq_getElem_cons hla
      clear hcell
      generalize l[a] = x at hc hx H3
      have q1 := and127n x hx
      have q2 := and128 x hx
      have q3 : x % 128 < 128 := by omega
      obtain ⟨m2, q4, q5, H5, H6⟩ := acc_or m x place H1.out (by omega)
      have e := H2.out
      rw [H3.out, Leb.rd] at e
      rw [← H6.out] at e
      by_cases hf : Leb.fits sg (x % 128) (bits - place) = true
      · rw [if_pos hf] at e
        by_cases h128 : x < 128
        · rw [if_pos h128] at e
          have E := Lib.hid e
          clear e
          go_wp2_with (first
            | (go_at_call 102; refine (fits_int sg (x % 128) _ _ q3 (by omega) (by omega)).mono ?_; rintro e w' ⟨rfl, k1, rfl⟩)
            | (go_at_call 103; refine (extend_int sg m2 _ _ q5 (by rw [show ((place : Int) + 7).toNat = place + 7 by omega]; exact H5.out) (by omega) (by omega)).mono ?_; rintro e w' ⟨rfl, rfl⟩))
          simp only [Exit.jump]
          go_ret3
          refine ⟨?_, _, rfl⟩
          rw [E.out]
          rfl
        · rw [if_neg h128] at e
          by_cases hle : bits ≤ place + 7
          · rw [if_pos hle] at e
            have E := Lib.hid e
            clear e
            go_wp2_with (first
              | (go_at_call 102; refine (fits_int sg (x % 128) _ _ q3 (by omega) (by omega)).mono ?_; rintro e w' ⟨rfl, k1, rfl⟩))
            go_step3
            exact ⟨rfl, 11, _, ⟨_, rfl⟩, rfl, rfl, rfl, E⟩
          · rw [if_neg hle] at e
            have E := Lib.hid e
            clear e
            go_wp2_with (first
              | (go_at_call 102; refine (fits_int sg (x % 128) _ _ q3 (by omega) (by omega)).mono ?_; rintro e w' ⟨rfl, k1, rfl⟩))
            go_roundw
            case rel => exact ⟨a + 1, m2, place + 7, rfl, rfl, rfl, by omega, by omega, q5, H5, ⟨_, rfl⟩, E⟩
            case measure => simp [intOf]; omega
      · rw [if_neg hf] at e
        have E := Lib.hid e
        clear e
        go_wp2_with (first
          | (go_at_call 102; refine (fits_int sg (x % 128) _ _ q3 (by omega) (by omega)).mono ?_; rintro e w' ⟨rfl, k1, rfl⟩))
        go_step3
        exact ⟨rfl, 11, _, ⟨_, rfl⟩, rfl, rfl, rfl, E⟩
    · obtain rfl : a = n := by omega
      have e := H2.out
      rw [List.drop_of_length_le (show l.length ≤ a by rw [Hn.out]; omega)] at e
      have E : Hid (Leb.rd bits sg (List.drop at0 l) at0 0 0 = (0, 0, 10)) := e
      clear e
      go_wp2_with fail
      go_step3
      exact ⟨rfl, 10, _, ⟨_, rfl⟩, rfl, rfl, rfl, E⟩

set_option maxHeartbeats 800000 in
theorem read_bad (A : Option Addr) (n c : Nat) (at0 bits : Int) (sg : Bool) (w : World) (hm : n ≤ maxLen) (h : bits < 1 ∨ 64 < bits ∨ at0 < 0 ∨ (n : Int) < at0) :
    Calls Tryd.prog 79 #[.slice A n c, .int .i64 at0, .int .i64 bits, .bool sg] w (Told (0, 0, 2) w) := by
  unfold maxLen at hm
  have H : Hid (bits < 1 ∨ 64 < bits ∨ at0 < 0 ∨ (n : Int) < at0) := h
  clear h
  go_enter Tryd.func79, Tryd.ntmps79
  go_wp2_with fail
  refine wp_scope_jumps 0 (fun a' w' => ∃ (t : Array Value), w' = w ∧ a' = ⟨t, []⟩ ∧ t.size = 72 ∧ t.getD 12 undef = .int .i64 2) (fun _ _ => 0) rfl ?_ ?_
  rotate_left
  · rintro a' w' ⟨t, rfl, rfl, hs, h12⟩
    go_wp2
    simp only [Exit.jump]
    go_ret3
    refine ⟨?_, 0, rfl⟩
    simp [hs]
  by_cases h1 : bits < 1
  · have t1 : decide (bits < 1) = true := by simpa using h1
    go_wp2_with fail
    go_step3
    exact ⟨rfl, _, rfl, rfl, rfl, rfl⟩
  · have t1 : decide (bits < 1) = false := by simpa using h1
    by_cases h2 : 64 < bits
    · have t2 : decide (64 < bits) = true := by simpa using h2
      go_wp2_with fail
      go_step3
      exact ⟨rfl, _, rfl, rfl, rfl, rfl⟩
    · have t2 : decide (64 < bits) = false := by simpa using h2
      by_cases h3 : at0 < 0
      · have t3 : decide (at0 < 0) = true := by simpa using h3
        go_wp2_with fail
        go_step3
        exact ⟨rfl, _, rfl, rfl, rfl, rfl⟩
      · have t3 : decide (at0 < 0) = false := by simpa using h3
        have t4 : decide ((n : Int) < at0) = true := by have := H.out; simp; omega
        go_wp2_with fail
        go_step3
        exact ⟨rfl, _, rfl, rfl, rfl, rfl⟩

/-- What U and S tell, at all arguments. -/
def told (sg : Bool) (l : List Nat) (at0 bits : Int) : Nat × Nat × Nat :=
  if bits < 1 ∨ 64 < bits ∨ at0 < 0 ∨ (l.length : Int) < at0 then (0, 0, 2) else Leb.rd bits.toNat sg (l.drop at0.toNat) at0.toNat 0 0
theorem read_any (A : Option Addr) (n c : Nat) (l : List Nat) (C : Nat) (at0 bits : Int) (sg : Bool) (w : World) (hb : Bytes w C A n c l) :
    Calls Tryd.prog 79 #[.slice A n c, .int .i64 at0, .int .i64 bits, .bool sg] w (Told (told sg l at0 bits) w) := by
  have hn := hb.1
  unfold told
  split
  · next h => exact read_bad A n c at0 bits sg w (Nat.le_trans hb.2.1 hb.2.2.1) (by rw [hn] at h; exact h)
  · next h =>
    obtain ⟨p, rfl⟩ := Int.eq_ofNat_of_zero_le (show 0 ≤ at0 by omega)
    obtain ⟨q, rfl⟩ := Int.eq_ofNat_of_zero_le (show 0 ≤ bits by omega)
    exact read_ok A n c l C p q sg w hb (by omega) (by omega) (by omega)
def ToldU (r : Nat × Nat × Nat) (w : World) (e : Ending) (w' : World) : Prop := e = .returned (.tuple #[.int .u64 r.1, .int .i64 r.2.1, .int .i64 r.2.2]) ∧ ∃ k, w' = w.drewN k
def ToldS (r : Nat × Nat × Nat) (w : World) (e : Ending) (w' : World) : Prop := e = .returned (.tuple #[.int .i64 (Leb.sOf r.1), .int .i64 r.2.1, .int .i64 r.2.2]) ∧ ∃ k, w' = w.drewN k
theorem U_any (A : Option Addr) (n c : Nat) (l : List Nat) (C : Nat) (at0 bits : Int) (w : World) (hb : Bytes w C A n c l) :
    Calls Tryd.prog 45 #[.slice A n c, .int .i64 at0, .int .i64 bits] w (ToldU (told false l at0 bits) w) := by
  generalize hr : told false l at0 bits = r
  have hR : Hid (Calls Tryd.prog 79 #[.slice A n c, .int .i64 at0, .int .i64 bits, .bool false] w (Told r w)) := by rw [← hr]; exact read_any A n c l C at0 bits false w hb
  clear hr hb
  go_enter Tryd.func45, Tryd.ntmps45
  go_wp2_with fail
  refine hR.out.mono ?_
  rintro e w' ⟨rfl, k, rfl⟩
  go_wp2
  go_ret3
  exact ⟨rfl, k, rfl⟩
theorem told_lt (sg : Bool) (l : List Nat) (at0 bits : Int) : (told sg l at0 bits).1 < 18446744073709551616 := by
  unfold told
  split
  · simp
  · exact Leb.rd_lt _ _ _ _ _ _ (by simp)
theorem word_i64 (n : Nat) (h : n < 18446744073709551616) : wrap64 (n : Int) = Leb.sOf n := by
  unfold wrap64 Leb.sOf
  split <;> omega
theorem S_any (A : Option Addr) (n c : Nat) (l : List Nat) (C : Nat) (at0 bits : Int) (w : World) (hb : Bytes w C A n c l) :
    Calls Tryd.prog 49 #[.slice A n c, .int .i64 at0, .int .i64 bits] w (ToldS (told true l at0 bits) w) := by
  have hlt := told_lt true l at0 bits
  generalize hr : told true l at0 bits = r at hlt
  have hR : Hid (Calls Tryd.prog 79 #[.slice A n c, .int .i64 at0, .int .i64 bits, .bool true] w (Told r w)) := by rw [← hr]; exact read_any A n c l C at0 bits true w hb
  clear hr hb
  go_enter Tryd.func49, Tryd.ntmps49
  go_wp2_with fail
  refine hR.out.mono ?_
  rintro e w' ⟨rfl, k, rfl⟩
  go_wp2
  go_ret3
  exact ⟨by rw [← word_i64 _ hlt]; rfl, k, rfl⟩
theorem PutU_any (n : Nat) (w : World) (hn : n < 18446744073709551616) :
    Calls Tryd.prog 97 #[.int .u64 n] w fun e w' => ∃ v, e = .returned v ∧ Own w.heap.size w' v (Leb.putU n) ∧ Below w.heap.size w w' := by
  go_enter Tryd.func97, Tryd.ntmps97
  go_wp2_with fail
  refine (put_u n w hn).mono ?_
  rintro e w' ⟨v, rfl, ho, hb⟩
  go_wp2
  go_ret
  exact ⟨v, rfl, ho, hb⟩
theorem PutS_any (n : Int) (w : World) (hn : -9223372036854775808 ≤ n) (hn' : n < 9223372036854775808) :
    Calls Tryd.prog 126 #[.int .i64 n] w fun e w' => ∃ v, e = .returned v ∧ Own w.heap.size w' v (Leb.putS n) ∧ Below w.heap.size w w' := by
  go_enter Tryd.func126, Tryd.ntmps126
  go_wp2_with fail
  refine (put_s n w hn hn').mono ?_
  rintro e w' ⟨v, rfl, ho, hb⟩
  go_wp2
  go_ret
  exact ⟨v, rfl, ho, hb⟩
end Go.Proofs.YtphmknhlibampaaDoor

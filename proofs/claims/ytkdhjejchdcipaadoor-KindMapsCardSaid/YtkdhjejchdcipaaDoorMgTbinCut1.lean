/-
  Texts of this claim, one behind the other: part 1.
-/
import Derived.WalkMore
import Derived.ScopeJumps
import Derived.Deep.DeepCutAuto
import Derived.Test.YtkdhjejchdcipaaDoorMgTbinCut0
/-
  leb's read, walked.
-/
namespace Go.Proofs.YtkdhjejchdcipaaDoor
open Go.RowKit
set_option linter.unusedVariables false

theorem fits_int (sg : Bool) (x : Nat) (left : Int) (w : World) (hx' : x < 128) (hl : 1 ≤ left) (hl' : left ≤ 64) :
    Calls Tryd.prog 144 #[.int .u8 x, .int .i64 left, .bool sg] w fun e w' => e = .returned (.bool (Leb.fits sg x left.toNat)) ∧ ∃ n, w' = w.drewN n := by
  obtain ⟨k, rfl⟩ := Int.eq_ofNat_of_zero_le (show 0 ≤ left by omega)
  exact fits_any sg x k w hx' (by omega) (by omega)
theorem extend_int (sg : Bool) (n : Nat) (r : Int) (w : World) (h : n < 18446744073709551616) (h2 : n < 2 ^ r.toNat) (hr : 1 ≤ r) (hr' : r ≤ 70) :
    Calls Tryd.prog 145 #[.int .u64 n, .int .i64 r, .bool sg] w fun e w' => e = .returned (.int .u64 (Leb.ext sg n r.toNat : Nat)) ∧ w = w' := by
  obtain ⟨k, rfl⟩ := Int.eq_ofNat_of_zero_le (show 0 ≤ r by omega)
  exact extend_any sg n k w h h2 (by omega) (by omega)
theorem and127n (x : Nat) (h : x < 256) : bits .and .u8 (x : Int) 127 = ((x % 128 : Nat) : Int) := by rw [and127 _ (by omega) (by omega)]; omega
theorem and128 (x : Nat) (h : x < 256) : (bits .and .u8 (x : Int) 128 == 0) = decide (x < 128) := by
  have : ∀ y : Fin 256, (bits .and .u8 (y.val : Int) 128 == 0) = decide (y.val < 128) := by decide +kernel
  exact this ⟨x, h⟩

/-- What read hands back. -/
def Told (r : Nat × Nat × Nat) (w : World) (e : Ending) (w' : World) : Prop := e = .returned (.tuple #[.int .u64 r.1, .int .i64 r.2.1, .int .i64 r.2.2]) ∧ ∃ k, w' = w.drewN k

theorem acc_or (m x place : Nat) (hm : m < 2 ^ place) (hp : place ≤ 63) :
    ∃ m2 : Nat, bits .or .u64 (m : Int) (IntKind.u64.wrap ((x : Int) % 128 * 2 ^ place)) = (m2 : Int) ∧ m2 < 18446744073709551616 ∧ Hid (m2 < 2 ^ (place + 7)) ∧ Hid (m2 = (m + x % 128 * 2 ^ place) % 18446744073709551616) := by
  refine ⟨(m + x % 128 * 2 ^ place) % 18446744073709551616, ?_, Nat.mod_lt _ (by omega), ?_, rfl⟩
  · have hm64 : m < 18446744073709551616 := Nat.lt_of_lt_of_le hm (by have := Nat.pow_le_pow_right (n := 2) (by omega) (show place ≤ 64 by omega); omega)
    have e : IntKind.u64.wrap ((x : Int) % 128 * 2 ^ place) = ((x % 128 * 2 ^ place % 18446744073709551616 : Nat) : Int) := by
      simp [IntKind.wrap, IntKind.bits, IntKind.signed]
    have hmod : x % 128 * 2 ^ place % 18446744073709551616 = 2 ^ place * (x % 128 % 2 ^ (64 - place)) := by
      rw [show (18446744073709551616 : Nat) = 2 ^ place * 2 ^ (64 - place) by rw [← Nat.pow_add, show place + (64 - place) = 64 by omega], Nat.mul_comm, Nat.mul_mod_mul_left]
    rw [e, u64_or_nat m _ hm64 (Nat.mod_lt _ (by omega)), hmod, Nat.or_comm, ← Nat.two_pow_add_eq_or_of_lt hm, ← hmod]
    have hle : m + x % 128 * 2 ^ place % 18446744073709551616 < 18446744073709551616 := by
      rw [hmod]
      have h1 : x % 128 % 2 ^ (64 - place) + 1 ≤ 2 ^ (64 - place) := Nat.mod_lt _ (Nat.two_pow_pos _)
      have h2 := Nat.mul_le_mul_left (2 ^ place) h1
      rw [← Nat.pow_add, show place + (64 - place) = 64 by omega, Nat.mul_add] at h2
      omega
    omega
  · refine Nat.lt_of_le_of_lt (Nat.mod_le _ _) ?_
    have h1 : x % 128 + 1 ≤ 128 := by omega
    have h2 := Nat.mul_le_mul_right (2 ^ place) h1
    rw [Nat.pow_add, Nat.add_mul] at *
    omega

set_option maxHeartbeats 800000 in
theorem read_ok (A : Option Addr) (n c : Nat) (l : List Nat) (C : Nat) (at0 bits : Nat) (sg : Bool) (w : World) (hb : Bytes w C A n c l) (ha : at0 ≤ n) (h1 : 1 ≤ bits) (h2 : bits ≤ 64) :
    Calls Tryd.prog 111 #[.slice A n c, .int .i64 at0, .int .i64 bits, .bool sg] w (Told (Leb.rd bits sg (l.drop at0) at0 0 0) w) := by
  obtain ⟨hn, hc, hm, hlt, hcell⟩ := hb
  unfold maxLen at hm
  have t1 : decide ((bits : Int) < 1) = false := by simp; omega
  have t2 : decide (64 < (bits : Int)) = false := by simp; omega
  have t3 : decide ((at0 : Int) < 0) = false := by simp
  have t4 : decide (n < at0) = false := by simp; omega
  have Hn := Lib.hid hn
  clear hn
  go_enter Tryd.func111, Tryd.ntmps111
  go_wp2_with fail
  refine wp_scope_jumps 0 (fun a' w' => ∃ (code : Nat) (t : Array Value), (∃ k, w' = w.drewN k) ∧ a' = ⟨t, []⟩ ∧ t.size = 72 ∧ t.getD 12 undef = .int .i64 code ∧ Hid (Leb.rd bits sg (l.drop at0) at0 0 0 = (0, 0, code))) (fun _ _ => 0) rfl ?_ ?_
  rotate_left
  · rintro a' w' ⟨code, t, ⟨k, rfl⟩, rfl, hs, h12, H⟩
    clear t1 t2 t3 t4
    go_wp2
    simp only [Exit.jump]
    go_ret3
    refine ⟨?_, k, rfl⟩
    rw [H.out]
    simp [hs]
  go_wp2_with fail
  go_loopw [1, 11, 13] (fun t u p wr => ∃ a m place : Nat, t = .int .i64 a ∧ u = .int .u64 m ∧ p = .int .i64 place ∧ a ≤ n ∧ place < bits ∧ m < 18446744073709551616 ∧ Hid (m < 2 ^ place) ∧ (∃ k, wr = w.drewN k) ∧ Hid (Leb.rd bits sg (l.drop at0) at0 0 0 = Leb.rd bits sg (l.drop a) a place m))
    (fun t _ _ _ => n - (intOf t).toNat)
  case atStart => exact ⟨at0, 0, 0, rfl, rfl, rfl, ha, by omega, by omega, by simp [Hid], ⟨0, rfl⟩, rfl⟩
  case round =>
    obtain ⟨a, m, place, rfl, rfl, rfl, ha', hp, hm', H1, ⟨k, rfl⟩, H2⟩ := hrel
    clear t1 t2 t3 t4
    by_cases hlt2 : a < n
    · obtain ⟨b, off, rfl, hbC, hcell⟩ := hcell (by omega)
      have hla : a < l.length := by rw [Hn.out]; exact hlt2
      have hc := hcell a hla
      have hx := hlt l[a] (List.getElem_mem hla)
      have H3 : Hid (l.drop a = l[a] :: l.drop (a + 1)) := List.drop_eq_getElem_cons hla
      clear hcell
      generalize l[a] = x at hc hx H3
      have q1 := and127n x hx
      have q2 := and128 x hx
      have q3 : x % 128 < 128 := by omega
      obtain ⟨m2, q4, q5, H5, H6⟩ := acc_or m x place H1.out (by omega)
      have e := H2.out
      rw [H3.out, Leb.rd] at e
      rw [← H6.out] at e
      by_cases hf : Leb.fits sg (x % 128) (bits - place) = true
      · rw [if_pos hf] at e
        by_cases h128 : x < 128
        · rw [if_pos h128] at e
          have E := Lib.hid e
          clear e
          go_wp2_with (first
            | (go_at_call 144; refine (fits_int sg (x % 128) _ _ q3 (by omega) (by omega)).mono ?_; rintro e w' ⟨rfl, k1, rfl⟩)
            | (go_at_call 145; refine (extend_int sg m2 _ _ q5 (by rw [show ((place : Int) + 7).toNat = place + 7 by omega]; exact H5.out) (by omega) (by omega)).mono ?_; rintro e w' ⟨rfl, rfl⟩))
          simp only [Exit.jump]
          go_ret3
          refine ⟨?_, _, rfl⟩
          rw [E.out]
          rfl
        · rw [if_neg h128] at e
          by_cases hle : bits ≤ place + 7
          · rw [if_pos hle] at e
            have E := Lib.hid e
            clear e
            go_wp2_with (first
              | (go_at_call 144; refine (fits_int sg (x % 128) _ _ q3 (by omega) (by omega)).mono ?_; rintro e w' ⟨rfl, k1, rfl⟩))
            go_step3
            exact ⟨rfl, 11, _, ⟨_, rfl⟩, rfl, rfl, rfl, E⟩
          · rw [if_neg hle] at e
            have E := Lib.hid e
            clear e
            go_wp2_with (first
              | (go_at_call 144; refine (fits_int sg (x % 128) _ _ q3 (by omega) (by omega)).mono ?_; rintro e w' ⟨rfl, k1, rfl⟩))
            go_roundw
            case rel => exact ⟨a + 1, m2, place + 7, rfl, rfl, rfl, by omega, by omega, q5, H5, ⟨_, rfl⟩, E⟩
            case measure => simp [intOf]; omega
      · rw [if_neg hf] at e
        have E := Lib.hid e
        clear e
        go_wp2_with (first
          | (go_at_call 144; refine (fits_int sg (x % 128) _ _ q3 (by omega) (by omega)).mono ?_; rintro e w' ⟨rfl, k1, rfl⟩))
        go_step3
        exact ⟨rfl, 11, _, ⟨_, rfl⟩, rfl, rfl, rfl, E⟩
    · obtain rfl : a = n := by omega
      have e := H2.out
      rw [List.drop_of_length_le (show l.length ≤ a by rw [Hn.out]; omega)] at e
      have E : Hid (Leb.rd bits sg (List.drop at0 l) at0 0 0 = (0, 0, 10)) := e
      clear e
      go_wp2_with fail
      go_step3
      exact ⟨rfl, 10, _, ⟨_, rfl⟩, rfl, rfl, rfl, E⟩

set_option maxHeartbeats 800000 in
theorem read_bad (A : Option Addr) (n c : Nat) (at0 bits : Int) (sg : Bool) (w : World) (hm : n ≤ maxLen) (h : bits < 1 ∨ 64 < bits ∨ at0 < 0 ∨ (n : Int) < at0) :
    Calls Tryd.prog 111 #[.slice A n c, .int .i64 at0, .int .i64 bits, .bool sg] w (Told (0, 0, 2) w) := by
  unfold maxLen at hm
  have H : Hid (bits < 1 ∨ 64 < bits ∨ at0 < 0 ∨ (n : Int) < at0) := h
  clear h
  go_enter Tryd.func111, Tryd.ntmps111
  go_wp2_with fail
  refine wp_scope_jumps 0 (fun a' w' => ∃ (t : Array Value), w' = w ∧ a' = ⟨t, []⟩ ∧ t.size = 72 ∧ t.getD 12 undef = .int .i64 2) (fun _ _ => 0) rfl ?_ ?_
  rotate_left
  · rintro a' w' ⟨t, rfl, rfl, hs, h12⟩
    go_wp2
    simp only [Exit.jump]
    go_ret3
    refine ⟨?_, 0, rfl⟩
    simp [hs]
  by_cases h1 : bits < 1
  · have t1 : decide (bits < 1) = true := by simpa using h1
    go_wp2_with fail
    go_step3
    exact ⟨rfl, _, rfl, rfl, rfl, rfl⟩
  · have t1 : decide (bits < 1) = false := by simpa using h1
    by_cases h2 : 64 < bits
    · have t2 : decide (64 < bits) = true := by simpa using h2
      go_wp2_with fail
      go_step3
      exact ⟨rfl, _, rfl, rfl, rfl, rfl⟩
    · have t2 : decide (64 < bits) = false := by simpa using h2
      by_cases h3 : at0 < 0
      · have t3 : decide (at0 < 0) = true := by simpa using h3
        go_wp2_with fail
        go_step3
        exact ⟨rfl, _, rfl, rfl, rfl, rfl⟩
      · have t3 : decide (at0 < 0) = false := by simpa using h3
        have t4 : decide ((n : Int) < at0) = true := by have := H.out; simp; omega
        go_wp2_with fail
        go_step3
        exact ⟨rfl, _, rfl, rfl, rfl, rfl⟩

/-- What U and S tell, at all arguments. -/
def told (sg : Bool) (l : List Nat) (at0 bits : Int) : Nat × Nat × Nat :=
  if bits < 1 ∨ 64 < bits ∨ at0 < 0 ∨ (l.length : Int) < at0 then (0, 0, 2) else Leb.rd bits.toNat sg (l.drop at0.toNat) at0.toNat 0 0
theorem read_any (A : Option Addr) (n c : Nat) (l : List Nat) (C : Nat) (at0 bits : Int) (sg : Bool) (w : World) (hb : Bytes w C A n c l) :
    Calls Tryd.prog 111 #[.slice A n c, .int .i64 at0, .int .i64 bits, .bool sg] w (Told (told sg l at0 bits) w) := by
  have hn := hb.1
  unfold told
  split
  · next h => exact read_bad A n c at0 bits sg w (Nat.le_trans hb.2.1 hb.2.2.1) (by rw [hn] at h; exact h)
  · next h =>
    obtain ⟨p, rfl⟩ := Int.eq_ofNat_of_zero_le (show 0 ≤ at0 by omega)
    obtain ⟨q, rfl⟩ := Int.eq_ofNat_of_zero_le (show 0 ≤ bits by omega)
    exact read_ok A n c l C p q sg w hb (by omega) (by omega) (by omega)
def ToldU (r : Nat × Nat × Nat) (w : World) (e : Ending) (w' : World) : Prop := e = .returned (.tuple #[.int .u64 r.1, .int .i64 r.2.1, .int .i64 r.2.2]) ∧ ∃ k, w' = w.drewN k
def ToldS (r : Nat × Nat × Nat) (w : World) (e : Ending) (w' : World) : Prop := e = .returned (.tuple #[.int .i64 (Leb.sOf r.1), .int .i64 r.2.1, .int .i64 r.2.2]) ∧ ∃ k, w' = w.drewN k
theorem U_any (A : Option Addr) (n c : Nat) (l : List Nat) (C : Nat) (at0 bits : Int) (w : World) (hb : Bytes w C A n c l) :
    Calls Tryd.prog 69 #[.slice A n c, .int .i64 at0, .int .i64 bits] w (ToldU (told false l at0 bits) w) := by
  generalize hr : told false l at0 bits = r
  have hR : Hid (Calls Tryd.prog 111 #[.slice A n c, .int .i64 at0, .int .i64 bits, .bool false] w (Told r w)) := by rw [← hr]; exact read_any A n c l C at0 bits false w hb
  clear hr hb
  go_enter Tryd.func69, Tryd.ntmps69
  go_wp2_with fail
  refine hR.out.mono ?_
  rintro e w' ⟨rfl, k, rfl⟩
  go_wp2
  go_ret3
  exact ⟨rfl, k, rfl⟩
theorem told_lt (sg : Bool) (l : List Nat) (at0 bits : Int) : (told sg l at0 bits).1 < 18446744073709551616 := by
  unfold told
  split
  · simp
  · exact Leb.rd_lt _ _ _ _ _ _ (by simp)
theorem word_i64 (n : Nat) (h : n < 18446744073709551616) : wrap64 (n : Int) = Leb.sOf n := by
  unfold wrap64 Leb.sOf
  split <;> omega
theorem S_any (A : Option Addr) (n c : Nat) (l : List Nat) (C : Nat) (at0 bits : Int) (w : World) (hb : Bytes w C A n c l) :
    Calls Tryd.prog 73 #[.slice A n c, .int .i64 at0, .int .i64 bits] w (ToldS (told true l at0 bits) w) := by
  have hlt := told_lt true l at0 bits
  generalize hr : told true l at0 bits = r at hlt
  have hR : Hid (Calls Tryd.prog 111 #[.slice A n c, .int .i64 at0, .int .i64 bits, .bool true] w (Told r w)) := by rw [← hr]; exact read_any A n c l C at0 bits true w hb
  clear hr hb
  go_enter Tryd.func73, Tryd.ntmps73
  go_wp2_with fail
  refine hR.out.mono ?_
  rintro e w' ⟨rfl, k, rfl⟩
  go_wp2
  go_ret3
  exact ⟨by rw [← word_i64 _ hlt]; rfl, k, rfl⟩
theorem PutU_any (n : Nat) (w : World) (hn : n < 18446744073709551616) :
    Calls Tryd.prog 126 #[.int .u64 n] w fun e w' => ∃ v, e = .returned v ∧ Own w.heap.size w' v (Leb.putU n) ∧ Below w.heap.size w w' := by
  go_enter Tryd.func126, Tryd.ntmps126
  go_wp2_with fail
  refine (put_u n w hn).mono ?_
  rintro e w' ⟨v, rfl, ho, hb⟩
  go_wp2
  go_ret
  exact ⟨v, rfl, ho, hb⟩
theorem PutS_any (n : Int) (w : World) (hn : -9223372036854775808 ≤ n) (hn' : n < 9223372036854775808) :
    Calls Tryd.prog 159 #[.int .i64 n] w fun e w' => ∃ v, e = .returned v ∧ Own w.heap.size w' v (Leb.putS n) ∧ Below w.heap.size w w' := by
  go_enter Tryd.func159, Tryd.ntmps159
  go_wp2_with fail
  refine (put_s n w hn hn').mono ?_
  rintro e w' ⟨v, rfl, ho, hb⟩
  go_wp2
  go_ret
  exact ⟨v, rfl, ho, hb⟩
end Go.Proofs.YtkdhjejchdcipaaDoor
/-
  leb.Len, and what the statements ask first ('known').
-/
namespace Go.Proofs.YtkdhjejchdcipaaDoor
open Go.RowKit
set_option linter.unusedVariables false

theorem U_lit (l : List Nat) (hl : ∀ x ∈ l, x < 256) (hm : l.length < 1000000) (bits : Int) (r : Nat × Nat × Nat) (hr : told false l 0 bits = r) (w : World) :
    Calls Tryd.prog 69 #[.slice (some ⟨w.heap.size, 0, none⟩) l.length l.length, .int .i64 0, .int .i64 bits] (w.alloc (.cells (l.map U8).toArray 5)) fun e w' =>
      e = .returned (.tuple #[.int .u64 r.1, .int .i64 r.2.1, .int .i64 r.2.2]) ∧ Below w.heap.size w w' := by
  refine (U_any _ _ _ l _ 0 bits _ (bytes_new w l hl hm)).mono ?_
  rintro e w' ⟨rfl, k, rfl⟩
  rw [hr]
  exact ⟨rfl, ((Below.refl _ _).alloc (Nat.le_refl _) _).trans ⟨rfl, rfl, rfl, Nat.le_refl _, fun _ _ => rfl⟩⟩
theorem U_at (A : Option Addr) (n c : Nat) (l : List Nat) (C : Nat) (at0 bits : Int) (w : World) (x y z : Nat) (hb : Bytes w C A n c l) (hr : told false l at0 bits = (x, y, z)) :
    Calls Tryd.prog 69 #[.slice A n c, .int .i64 at0, .int .i64 bits] w fun e w' => e = .returned (.tuple #[.int .u64 x, .int .i64 y, .int .i64 z]) ∧ ∃ k, w' = w.drewN k := by
  refine (U_any A n c l C at0 bits w hb).mono ?_
  rintro e w' ⟨rfl, k, rfl⟩
  rw [hr]
  exact ⟨rfl, k, rfl⟩
theorem S_at (A : Option Addr) (n c : Nat) (l : List Nat) (C : Nat) (at0 bits : Int) (w : World) (x : Int) (x' y z : Nat) (hb : Bytes w C A n c l) (hr : told true l at0 bits = (x', y, z)) (hx : Leb.sOf x' = x) :
    Calls Tryd.prog 73 #[.slice A n c, .int .i64 at0, .int .i64 bits] w fun e w' => e = .returned (.tuple #[.int .i64 x, .int .i64 y, .int .i64 z]) ∧ ∃ k, w' = w.drewN k := by
  refine (S_any A n c l C at0 bits w hb).mono ?_
  rintro e w' ⟨rfl, k, rfl⟩
  rw [hr, ← hx]
  exact ⟨rfl, k, rfl⟩
theorem told_eq (sg : Bool) (l : List Nat) (a bits : Nat) (h1 : 1 ≤ bits) (h2 : bits ≤ 64) (h3 : a ≤ l.length) : told sg l (a : Int) (bits : Int) = Leb.rd bits sg (l.drop a) a 0 0 := by
  unfold told
  rw [if_neg (by omega)]
  rfl
end Go.Proofs.YtkdhjejchdcipaaDoor
/-
  PLAIN: the document's own way to read a number: its bits as a list. No Go in sight.
-/
namespace Go.Proofs.YtkdhjejchdcipaaDoor.Leb
set_option linter.unusedVariables false

def bits7 (x : Nat) : List Nat := [x % 2, x / 2 % 2, x / 4 % 2, x / 8 % 2, x / 16 % 2, x / 32 % 2, x / 64 % 2]
def must (bits : Nat) (sg : Bool) (all : List Nat) : Nat := if sg && decide (bits ≤ all.length) then all.getD (bits - 1) 0 else 0
def bad (bits : Nat) (sg : Bool) (all : List Nat) : Bool := (all.drop bits).any fun y => decide (y ≠ must bits sg all)
def rdB (bits : Nat) (sg : Bool) : List Nat → Nat → List Nat → List Nat × Nat × Nat
  | [], _, _ => ([], 0, 10)
  | x :: l, i, all =>
    if bad bits sg (all ++ bits7 x) then ([], 0, 11)
    else if x < 128 then (all ++ bits7 x, i + 1, 0)
    else if bits ≤ 7 * (i + 1) then ([], 0, 11) else rdB bits sg l (i + 1) (all ++ bits7 x)

def val (l : List Nat) : Nat := l.foldr (fun b acc => acc * 2 + b) 0
theorem val_append (l m : List Nat) : val (l ++ m) = val l + val m * 2 ^ l.length := by
  induction l with
  | nil => simp [val]
  | cons x l ih =>
    have e : val (x :: l ++ m) = val (l ++ m) * 2 + x := rfl
    have e2 : val (x :: l) = val l * 2 + x := rfl
    rw [e, e2, ih, List.length_cons, Nat.pow_succ, Nat.add_mul, Nat.mul_assoc]; omega
theorem val_bits7 (x : Nat) (h : x < 256) : val (bits7 x) = x % 128 := by
  have : ∀ y : Fin 256, val (bits7 y.val) = y.val % 128 := by decide +kernel
  exact this ⟨x, h⟩
theorem val_lt (l : List Nat) (h : ∀ x ∈ l, x < 2) : val l < 2 ^ l.length := by
  induction l with
  | nil => simp [val]
  | cons x l ih =>
    have e2 : val (x :: l) = val l * 2 + x := rfl
    have := ih (fun y hy => h y (List.mem_cons_of_mem _ hy))
    have := h x (List.mem_cons_self ..)
    rw [e2, List.length_cons, Nat.pow_succ]; omega
theorem bits7_lt (x : Nat) : ∀ y ∈ bits7 x, y < 2 := by
  intro y hy
  simp [bits7] at hy
  omega
/-- What is told of the last byte's places beyond the bits. -/
theorem bad_fits_dec : ∀ (sg : Bool) (x : Fin 256) (left : Fin 8), 1 ≤ left.val →
    ((bits7 x.val).drop left.val).any (fun y => decide (y ≠ (if sg then (bits7 x.val).getD (left.val - 1) 0 else 0))) = !fits sg (x.val % 128) left.val := by decide +kernel
theorem fits_big (sg : Bool) (x left : Nat) (h : x < 128) (hl : 7 ≤ left) : fits sg x left = true := by
  cases sg
  · simp only [fits, Bool.false_eq_true, if_false, decide_eq_true_eq]
    exact Nat.div_eq_of_lt (Nat.lt_of_lt_of_le (show x < 2 ^ 7 by omega) (Nat.pow_le_pow_right (by omega) (by omega)))
  · simp only [fits, if_true, Bool.or_eq_true, decide_eq_true_eq]
    rcases Nat.lt_or_ge left 8 with h8 | h8
    · obtain rfl : left = 7 := by omega
      simp; omega
    · left
      exact Nat.div_eq_of_lt (Nat.lt_of_lt_of_le (show x < 2 ^ 7 by omega) (Nat.pow_le_pow_right (by omega) (by omega)))
theorem bad_fits (bits : Nat) (sg : Bool) (all : List Nat) (x : Nat) (hx : x < 256) (hl : all.length < bits) : bad bits sg (all ++ bits7 x) = !fits sg (x % 128) (bits - all.length) := by
  have h7 : (bits7 x).length = 7 := rfl
  rcases Nat.lt_or_ge (bits - all.length) 8 with h8 | h8
  · have := bad_fits_dec sg ⟨x, hx⟩ ⟨bits - all.length, h8⟩ (by show 1 ≤ bits - all.length; omega)
    simp only at this
    rw [← this]
    unfold bad
    have e : (all ++ bits7 x).drop bits = (bits7 x).drop (bits - all.length) := by rw [List.drop_append, List.drop_of_length_le (by omega), List.nil_append]
    rw [e]
    rcases Nat.lt_or_ge 7 (bits - all.length) with h9 | h9
    · omega
    · have em : must bits sg (all ++ bits7 x) = if sg then (bits7 x).getD (bits - all.length - 1) 0 else 0 := by
        unfold must
        have hle : bits ≤ (all ++ bits7 x).length := by rw [List.length_append, h7]; omega
        rw [decide_eq_true hle, Bool.and_true]
        cases sg
        · rfl
        · simp only [if_true]
          rw [List.getD_eq_getElem?_getD, List.getElem?_append_right (by omega), ← List.getD_eq_getElem?_getD]
          congr 1; omega
      rw [em]
  · rw [fits_big sg _ _ (by omega) (by omega)]
    unfold bad
    rw [List.drop_of_length_le (by rw [List.length_append, h7]; omega)]
    rfl

theorem rdB_rd (bits : Nat) (sg : Bool) (hb : bits ≤ 64) (l : List Nat) : ∀ (i : Nat) (all : List Nat) (a : Nat), (∀ x ∈ l, x < 256) → all.length = 7 * i → 7 * i < bits → (∀ y ∈ all, y < 2) →
    ((rdB bits sg l i all).2.2 ≠ 0 ∧ rdB bits sg l i all = ([], 0, (rdB bits sg l i all).2.2) ∧ rd bits sg l a (7 * i) (val all) = (0, 0, (rdB bits sg l i all).2.2)) ∨
    (∃ res c, rdB bits sg l i all = (res, i + c, 0) ∧ 1 ≤ c ∧ res.length = 7 * (i + c) ∧ i + c ≤ 10 ∧ (∀ y ∈ res, y < 2) ∧ rd bits sg l a (7 * i) (val all) = (ext sg (val res % 18446744073709551616) res.length, a + c, 0)) := by
  induction l with
  | nil => intro i all a _ _ _ _; left; simp [rdB, rd]
  | cons x l ih =>
    intro i all a hx hlen hi hall
    have hx0 := hx x (List.mem_cons_self ..)
    have hbf := bad_fits bits sg all x hx0 (by omega)
    rw [hlen] at hbf
    have hv : val (all ++ bits7 x) = val all + x % 128 * 2 ^ (7 * i) := by rw [val_append, val_bits7 x hx0, hlen]
    have hl7 : (all ++ bits7 x).length = 7 * (i + 1) := by rw [List.length_append, hlen]; rfl
    have hall7 : ∀ y ∈ all ++ bits7 x, y < 2 := fun y hy => by
      rcases List.mem_append.1 hy with h | h
      · exact hall y h
      · exact bits7_lt x y h
    rw [rdB, rd, hbf]
    by_cases hf : fits sg (x % 128) (bits - 7 * i) = true
    · rw [hf]
      simp only [Bool.not_true, Bool.false_eq_true, if_false, if_true]
      by_cases h128 : x < 128
      · rw [if_pos h128, if_pos h128]
        right
        exact ⟨_, 1, rfl, by omega, hl7, by omega, hall7, by rw [hv, hl7]; rfl⟩
      · rw [if_neg h128, if_neg h128]
        by_cases hle : bits ≤ 7 * (i + 1)
        · rw [if_pos hle, if_pos (by omega)]
          left; simp
        · rw [if_neg hle, if_neg (by omega)]
          have hsm : val all + x % 128 * 2 ^ (7 * i) < 18446744073709551616 := by
            have := val_lt _ hall7
            rw [hv, hl7] at this
            have h2 := Nat.pow_le_pow_right (n := 2) (by omega) (show 7 * (i + 1) ≤ 64 by omega)
            omega
          rw [Nat.mod_eq_of_lt hsm, ← hv]
          have := ih (i + 1) (all ++ bits7 x) (a + 1) (fun y hy => hx y (List.mem_cons_of_mem _ hy)) hl7 (by omega) hall7
          rw [show 7 * i + 7 = 7 * (i + 1) by omega]
          rcases this with h | ⟨res, c, h1, h2, h3, h4, h5, h6⟩
          · exact .inl h
          · exact .inr ⟨res, c + 1, by rw [h1]; congr 2; omega, by omega, by rw [h3]; omega, by omega, h5, by rw [h6]; congr 2; omega⟩
    · rw [Bool.not_eq_true] at hf
      rw [hf]
      simp

theorem bits7_take (x k : Nat) (hk : k < 7) : (bits7 x).take (k + 1) = (bits7 x).take k ++ [x / 2 ^ k % 2] := by
  have : k = 0 ∨ k = 1 ∨ k = 2 ∨ k = 3 ∨ k = 4 ∨ k = 5 ∨ k = 6 := by omega
  rcases this with rfl | rfl | rfl | rfl | rfl | rfl | rfl <;> simp [bits7]
theorem bad_true (bits : Nat) (sg : Bool) (all : List Nat) (j : Nat) (h1 : bits ≤ j) (h2 : j < all.length) (h3 : all[j] ≠ must bits sg all) : bad bits sg all = true := by
  unfold bad
  rw [List.any_eq_true]
  refine ⟨all[j], ?_, by simpa using h3⟩
  rw [List.mem_iff_getElem]
  exact ⟨j - bits, by simp; omega, by rw [List.getElem_drop]; congr 1; omega⟩
theorem bad_false (bits : Nat) (sg : Bool) (all : List Nat) (h : ∀ j, bits ≤ j → ∀ h2 : j < all.length, all[j] = must bits sg all) : bad bits sg all = false := by
  unfold bad
  rw [List.any_eq_false]
  intro y hy
  obtain ⟨p, hp, rfl⟩ := List.mem_iff_getElem.1 hy
  rw [List.getElem_drop]
  have := h (bits + p) (by omega) (by rw [List.length_drop] at hp; omega)
  simp [this]
/-- The highest bit is the list's last. -/
theorem val_top (l : List Nat) (h : ∀ x ∈ l, x < 2) (h0 : l ≠ []) : val l / 2 ^ (l.length - 1) = l.getLast h0 := by
  obtain ⟨m, x, rfl⟩ : ∃ m x, l = m ++ [x] := ⟨l.dropLast, l.getLast h0, (List.dropLast_concat_getLast h0).symm⟩
  rw [val_append, List.length_append, List.length_singleton, Nat.add_sub_cancel, Nat.add_mul_div_right _ _ (Nat.two_pow_pos _), Nat.div_eq_of_lt (val_lt m (fun y hy => h y (by simp [hy])))]
  simp [val]
/-- The number that is made of the bits, from the highest one on, wrapped round. -/
def hornU (l : List Nat) : Nat := l.foldr (fun b acc => (acc * 2 % 18446744073709551616 + b) % 18446744073709551616) 0
theorem hornU_eq (l : List Nat) : hornU l = val l % 18446744073709551616 := by
  induction l with
  | nil => rfl
  | cons x l ih =>
    have e1 : hornU (x :: l) = (hornU l * 2 % 18446744073709551616 + x) % 18446744073709551616 := rfl
    have e2 : val (x :: l) = val l * 2 + x := rfl
    rw [e1, e2, ih]; omega
def w64 (n : Int) : Int := (n + 9223372036854775808) % 18446744073709551616 - 9223372036854775808
def hornS (s : Int) (l : List Nat) : Int := l.foldr (fun (b : Nat) (acc : Int) => w64 (w64 (acc * 2) + (b : Int))) s
theorem hornS_eq (s : Int) (l : List Nat) (hs : -9223372036854775808 ≤ s ∧ s < 9223372036854775808) : hornS s l = w64 (s * 2 ^ l.length + val l) := by
  induction l with
  | nil => simp [hornS, val, w64]; omega
  | cons x l ih =>
    have e1 : hornS s (x :: l) = w64 (w64 (hornS s l * 2) + x) := rfl
    have e2 : val (x :: l) = val l * 2 + x := rfl
    rw [e1, ih, e2, List.length_cons, Int.pow_succ, ← Int.mul_assoc]
    generalize s * 2 ^ l.length = q
    generalize val l = v
    unfold w64
    omega
theorem hornS_word (l : List Nat) (h : ∀ x ∈ l, x < 2) (c : Nat) (hl : l.length = 7 * c) (hc : 1 ≤ c) (hc10 : c ≤ 10) (h0 : l ≠ []) :
    hornS (if l.getLast h0 = 1 then -1 else 0) l = sOf (ext true (val l % 18446744073709551616) l.length) := by
  rw [hornS_eq _ _ (by split <;> omega)]
  have hv := val_lt l h
  have ht := val_top l h h0
  have hlast : l.getLast h0 < 2 := h _ (List.getLast_mem h0)
  generalize l.getLast h0 = t at *
  rcases Nat.lt_or_ge c 10 with h9 | h9
  · -- all places are there
    have hp : 2 ^ l.length ≤ 2 ^ 63 := Nat.pow_le_pow_right (by omega) (by omega)
    have e2 : 2 ^ l.length = 2 * 2 ^ (l.length - 1) := by rw [← Nat.pow_succ']; congr 1; omega
    have hp1 : 1 ≤ 2 ^ (l.length - 1) := Nat.one_le_two_pow
    rw [Nat.mod_eq_of_lt (by omega)]
    unfold ext
    rw [show min (l.length - 1) 64 = l.length - 1 by omega, show min l.length 64 = l.length by omega, ht]
    have hc1 : ((2 : Int) ^ l.length) = ((2 ^ l.length : Nat) : Int) := by simp
    have hdiv : t * 2 ^ (l.length - 1) ≤ val l ∧ val l < (t + 1) * 2 ^ (l.length - 1) := by
      rw [← ht]
      exact ⟨Nat.div_mul_le_self _ _, by rw [Nat.mul_comm]; exact Nat.lt_mul_div_succ _ (by omega)⟩
    rw [hc1]
    generalize 2 ^ (l.length - 1) = P at *
    have : t = 0 ∨ t = 1 := by omega
    rcases this with rfl | rfl
    · simp
      unfold w64 sOf
      rw [if_pos (by omega)]
      omega
    · simp
      unfold w64 sOf
      rw [if_neg (by omega)]
      omega
  · obtain rfl : c = 10 := by omega
    rw [hl]
    unfold ext
    have e : (val l % 18446744073709551616) / 2 ^ min (7 * 10 - 1) 64 = 0 := Nat.div_eq_of_lt (by rw [show min (7 * 10 - 1) 64 = 64 by omega]; exact Nat.mod_lt _ (by omega))
    rw [e]
    simp
    have hs : ∃ s : Int, (if t = 1 then (-1 : Int) else 0) = s := ⟨_, rfl⟩
    obtain ⟨s, hs⟩ := hs
    rw [hs]
    unfold w64 sOf
    split <;> omega
end Go.Proofs.YtkdhjejchdcipaaDoor.Leb
/-
  The document's own way to read a number, walked: bit, Bits, U, S.
-/
namespace Go.Proofs.YtkdhjejchdcipaaDoor
open Go.RowKit
set_option linter.unusedVariables false

theorem bit_any (x place : Nat) (w : World) (hx : x < 256) (hp : place ≤ 7) :
    Calls Tryd.prog 146 #[.int .u8 x, .int .i64 place] w fun e w' => e = .returned (.int .i64 (x / 2 ^ place % 2 : Nat)) ∧ w = w' := by
  have hx0 : (x : Int) < 256 := by omega
  go_enter Tryd.func146, Tryd.ntmps146
  go_wp2_with fail
  go_loop [0, 5] (fun u i => ∃ (y j : Nat), u = .int .u8 y ∧ i = .int .i64 j ∧ j ≤ place ∧ y < 256 ∧ Hid (x / 2 ^ j = y)) (fun _ i => place - (intOf i).toNat)
  case atStart => exact ⟨x, 0, rfl, rfl, by omega, hx, by simp [Hid]⟩
  case round =>
    obtain ⟨y, j, rfl, rfl, hj, hy, H⟩ := hrel
    have hyI : (y : Int) < 256 := by omega
    have HY := Lib.hid hy
    clear hy
    by_cases hlt : j < place
    · go_wp2_with fail
      go_round
      case rel => exact ⟨y / 2, j + 1, by congr 1, rfl, by omega, by have := HY.out; omega, by rw [Hid, Nat.pow_succ, ← Nat.div_div_eq_div_mul, H.out]⟩
      case measure => simp [intOf]; omega
    · obtain rfl : j = place := by omega
      go_wp2_with fail
      go_ret
      exact ⟨ret_int (by have := H.out; simp [← this]), rfl⟩

/-- What Bits hands back. -/
def BitsTold (r : List Nat × Nat × Nat) (w : World) (e : Ending) (w' : World) : Prop :=
  ∃ A c, e = .returned (.tuple #[.slice A r.1.length c, .int .i64 r.2.1, .int .i64 r.2.2]) ∧ OwnI w.heap.size w' (.slice A r.1.length c) r.1 ∧ Below w.heap.size w w'

set_option maxRecDepth 100000 in
set_option maxHeartbeats 2000000 in
theorem Bits_any (A : Option Addr) (n c : Nat) (l : List Nat) (bits : Nat) (sg : Bool) (w : World) (hy : Bytes w w.heap.size A n c l) (h1 : 1 ≤ bits) (h2 : bits ≤ 64) :
    Calls Tryd.prog 112 #[.slice A n c, .int .i64 bits, .bool sg] w (BitsTold (Leb.rdB bits sg l 0 []) w) := by
  have hm := hy.2.2.1
  have hnc := hy.2.1
  unfold maxLen at hm
  have Hn := Lib.hid hy.1
  have Hlt := Lib.hid hy.2.2.2.1
  go_enter Tryd.func112, Tryd.ntmps112
  go_wp2_with fail
  go_loopw [9, 10] (fun v t wr => ∃ (i : Nat) (A' : Option Addr) (c' : Nat) (all : List Nat), v = .slice A' (7 * i) c' ∧ t = .int .i64 i ∧ i ≤ n ∧ i ≤ 9 ∧ 7 * i < bits ∧ Hid (all.length = 7 * i) ∧ Hid (∀ y ∈ all, y < 2) ∧ OwnI w.heap.size wr (.slice A' (7 * i) c') all ∧ Below w.heap.size w wr ∧
      Hid (Leb.rdB bits sg l 0 [] = Leb.rdB bits sg (l.drop i) i all))
    (fun _ t _ => n - (intOf t).toNat)
  case atStart => exact ⟨0, none, 0, [], rfl, rfl, by omega, by omega, by omega, rfl, by simp [Hid], OwnI.nil w _, Below.refl _ _, rfl⟩
  case round =>
    obtain ⟨i, A1, c1, all, rfl, rfl, hi, hi9, hib, Hal, Ha2, ho, hb, HR⟩ := hrel
    by_cases hend : i = n
    · subst hend
      have e := HR.out
      rw [List.drop_of_length_le (show l.length ≤ i by rw [Hn.out]; omega)] at e
      have E : Hid (Leb.rdB bits sg l 0 [] = ([], 0, 10)) := e
      clear e
      go_wp2_with fail
      go_ret3
      refine ⟨none, 0, ?_, ?_, hb⟩
      · rw [E.out]; try rfl
      · rw [E.out]; exact OwnI.nil _ _
    · have hin : i < n := by omega
      obtain ⟨b, off, rfl, hbC, hcell⟩ := (hy.below hb).at_ (by omega)
      have hil : i < l.length := by rw [Hn.out]; exact hin
      have hc := hcell i hil
      have hx := Hlt.out l[i] (List.getElem_mem hil)
      have H3 : Hid (l.drop i = l[i] :: l.drop (i + 1)) := List.drop_eq_getElem_cons hil
      generalize l[i] = x at hc hx H3
      clear hcell
      have HX := Lib.hid hx
      have hxI : (x : Int) < 256 := by omega
      have hbs := hb.size
      have hni : decide (n ≤ i) = false := by simp; omega
      clear hx hend
      go_wp2_with fail
      obtain ⟨wo, rfl⟩ : ∃ wo : World, wo = wr := ⟨_, rfl⟩
      go_loopw [9, 11] (fun v t wr => ∃ (k : Nat) (A' : Option Addr) (c' : Nat), v = .slice A' (7 * i + k) c' ∧ t = .int .i64 k ∧ k ≤ 7 ∧ OwnI w.heap.size wr (.slice A' (7 * i + k) c') (all ++ (Leb.bits7 x).take k) ∧ Below w.heap.size w wr ∧ wr.cell? ⟨b, off + i, none⟩ = some (.int .u8 (x : Int)))
        (fun _ t _ => 7 - (intOf t).toNat)
      case atStart => exact ⟨0, A1, c1, rfl, rfl, by omega, by simpa using ho, hb, hc⟩
      case round =>
        obtain ⟨k, A2, c2, rfl, rfl, hk, ho2, hb2, hc2⟩ := hrel
        clear ho hb hc hbs
        have hbs := hb2.size
        by_cases hk7 : k < 7
        · have hlen : Hid ((all ++ (Leb.bits7 x).take k).length = 7 * i + k) := by rw [Hid, List.length_append, Hal.out, List.length_take]; simp [Leb.bits7]; omega
          go_wp2_with (first
            | (go_at_call 146; refine (bit_any x k _ HX.out (by omega)).mono ?_; rintro e w' ⟨rfl, rfl⟩)
            | (at_builtin; refine push_int rfl (.tmp 24) (.tmp 31) rfl wr _ rfl (x / 2 ^ k % 2) _ rfl rfl ho2 hb2.size (by rw [hlen.out]; omega) (7 * i + (k + 1)) (by rw [hlen.out]; omega) ?_ (by simp); intro A3 c3 w3 ho3 hg3))
          have hown3 := ho3
          rw [List.append_assoc, ← Leb.bits7_take x k hk7] at hown3
          have hcx : w3.cell? ⟨b, off + i, none⟩ = some (.int .u8 (x : Int)) := by
            have hg4 := (ho2.grown hg3 (Nat.le_refl _) hb2.size hb2)
            exact ((hg4.cell (p := ⟨b, off + i, none⟩) hbC).trans (hb2.cell (p := ⟨b, off + i, none⟩) hbC).symm).trans hc2
          go_roundw
          case rel => exact ⟨k + 1, A3, c3, rfl, rfl, by omega, hown3, ho2.grown hg3 (Nat.le_refl _) hb2.size hb2, hcx⟩
          case measure => simp [intOf]; omega
        · obtain rfl : k = 7 := by omega
          rw [show (Leb.bits7 x).take 7 = Leb.bits7 x from rfl] at ho2
          have hal : Hid ((all ++ Leb.bits7 x).length = 7 * i + 7) := by rw [Hid, List.length_append, Hal.out]; rfl
          obtain ⟨mv, hmv⟩ : ∃ mv, mv = Leb.must bits sg (all ++ Leb.bits7 x) := ⟨_, rfl⟩
          have HM := Lib.hid hmv
          clear hmv
          obtain ⟨hlen7, g, rfl, hg, hgs, hci⟩ := ho2.open_ (by omega)
          have HL7 := Lib.hid hlen7
          have HCI := Lib.hid hci
          clear hlen7 hci
          cases sg
          · have hm0 : mv = 0 := by rw [HM.out]; rfl
            subst hm0
            go_wp2_with fail
            obtain ⟨wq, rfl⟩ : ∃ wq : World, wq = wr := ⟨_, rfl⟩
            go_loopw [13] (fun t wr => ∃ p : Nat, t = .int .i64 p ∧ bits ≤ p ∧ wr = wq ∧ Hid (∀ q, bits ≤ q → q < p → ∀ h : q < (all ++ Leb.bits7 x).length, (all ++ Leb.bits7 x)[q] = 0)) (fun t _ => 7 * i + 7 + 64 - (intOf t).toNat)
            case atStart => exact ⟨bits, rfl, by omega, rfl, by intro q h1 h2; omega⟩
            case round =>
              obtain ⟨p, rfl, hpb, rfl, HP⟩ := hrel
              by_cases hp : p < 7 * i + 7
              · have hpl : p < (all ++ Leb.bits7 x).length := by rw [hal.out]; exact hp
                have hcp := HCI.out p hpl
                have hbad := Leb.bad_true bits false (all ++ Leb.bits7 x) p hpb hpl
                have hstep : (all ++ Leb.bits7 x)[p] = 0 → ∀ q, bits ≤ q → q < p + 1 → ∀ h : q < (all ++ Leb.bits7 x).length, (all ++ Leb.bits7 x)[q] = 0 := by
                  intro hv q h1 h2 h3
                  rcases Nat.lt_or_ge q p with h4 | h4
                  · exact HP.out q h1 h4 h3
                  · obtain rfl : q = p := by omega
                    exact hv
                generalize (all ++ Leb.bits7 x)[p] = yv at hcp hbad hstep
                have Hbad := Lib.hid hbad
                have Hstep := Lib.hid hstep
                clear hbad hstep
                by_cases hv : yv = 0
                · have hne : ((yv : Int) != (0 : Int)) = false := by simp [hv]
                  have Hv := Lib.hid hv
                  clear hv
                  go_wp2_with fail
                  go_roundw
                  case rel => exact ⟨p + 1, rfl, by omega, by first | rfl | trivial, Hstep.out Hv.out⟩
                  case measure => simp [intOf]; omega
                · have hne : ((yv : Int) != (0 : Int)) = true := by simp; omega
                  have HB : Hid (Leb.bad bits false (all ++ Leb.bits7 x) = true) := Hbad.out (by rw [← HM.out]; exact hv)
                  clear hv
                  go_wp2_with fail
                  go_ret3
                  have e := HR.out
                  rw [H3.out, Leb.rdB, HB.out, if_pos rfl] at e
                  refine ⟨none, 0, ?_, ?_, hb2⟩
                  · rw [e]; try rfl
                  · rw [e]; exact OwnI.nil _ _
              · have HB : Hid (Leb.bad bits false (all ++ Leb.bits7 x) = false) := Leb.bad_false bits false _ fun q h1 h2 => by rw [← HM.out]; exact HP.out q h1 (by rw [hal.out] at h2; omega) h2
                have e := HR.out
                rw [H3.out, Leb.rdB, HB.out] at e
                simp only [Bool.false_eq_true, if_false] at e
                by_cases h128 : x < 128
                · rw [if_pos h128] at e
                  have E := Lib.hid e
                  have hI : (x : Int) < 128 := by omega
                  clear e h128
                  go_wp2_with fail
                  go_ret3
                  refine ⟨some ⟨g, 0, none⟩, c2, ?_, ?_, hb2⟩
                  · rw [E.out, show (all ++ Leb.bits7 x).length = 7 * i + 7 from hal.out]; try rfl
                  · rw [E.out, show (all ++ Leb.bits7 x).length = 7 * i + 7 from hal.out]; exact ho2
                · rw [if_neg h128] at e
                  have hI : (128 : Int) ≤ (x : Int) := by omega
                  clear h128
                  by_cases hle : bits ≤ 7 * (i + 1)
                  · rw [if_pos hle] at e
                    have E := Lib.hid e
                    clear e
                    go_wp2_with fail
                    go_ret3
                    refine ⟨none, 0, ?_, ?_, hb2⟩
                    · rw [E.out]; try rfl
                    · rw [E.out]; exact OwnI.nil _ _
                  · rw [if_neg hle] at e
                    have E := Lib.hid e
                    have hgt : 7 * (i + 1) < bits := by omega
                    have HA2 : Hid (∀ y ∈ all ++ Leb.bits7 x, y < 2) := fun y hy => by
                      rcases List.mem_append.1 hy with h | h
                      · exact Ha2.out y h
                      · exact Leb.bits7_lt x y h
                    clear e hle
                    go_wp2_with fail
                    go_roundw
                    case rel => exact ⟨i + 1, _, c2, all ++ Leb.bits7 x, rfl, rfl, by omega, by omega, hgt, hal.out, HA2, ho2, hb2, E⟩
                    case measure => simp [intOf]; omega
          · by_cases hge : bits ≤ 7 * i + 7
            · have hpl : bits - 1 < (all ++ Leb.bits7 x).length := by rw [hal.out]; omega
              have hcb := HCI.out (bits - 1) hpl
              have hmb : (all ++ Leb.bits7 x)[bits - 1] = mv := by
                rw [HM.out]
                unfold Leb.must
                rw [if_pos (by rw [hal.out]; simpa using hge), List.getD_eq_getElem?_getD, List.getElem?_eq_getElem hpl]; rfl
              rw [hmb] at hcb
              have hge' : decide ((bits : Int) ≤ 7 * (i : Int) + 7) = true := by simp; omega
              clear hmb hpl
              go_wp2_with fail
              obtain ⟨wq, rfl⟩ : ∃ wq : World, wq = wr := ⟨_, rfl⟩
              go_loopw [13] (fun t wr => ∃ p : Nat, t = .int .i64 p ∧ bits ≤ p ∧ wr = wq ∧ Hid (∀ q, bits ≤ q → q < p → ∀ h : q < (all ++ Leb.bits7 x).length, (all ++ Leb.bits7 x)[q] = mv)) (fun t _ => 7 * i + 7 + 64 - (intOf t).toNat)
              case atStart => exact ⟨bits, rfl, by omega, rfl, by intro q h1 h2; omega⟩
              case round =>
                obtain ⟨p, rfl, hpb, rfl, HP⟩ := hrel
                by_cases hp : p < 7 * i + 7
                · have hpl : p < (all ++ Leb.bits7 x).length := by rw [hal.out]; exact hp
                  have hcp := HCI.out p hpl
                  have hbad := Leb.bad_true bits true (all ++ Leb.bits7 x) p hpb hpl
                  have hstep : (all ++ Leb.bits7 x)[p] = mv → ∀ q, bits ≤ q → q < p + 1 → ∀ h : q < (all ++ Leb.bits7 x).length, (all ++ Leb.bits7 x)[q] = mv := by
                    intro hv q h1 h2 h3
                    rcases Nat.lt_or_ge q p with h4 | h4
                    · exact HP.out q h1 h4 h3
                    · obtain rfl : q = p := by omega
                      exact hv
                  generalize (all ++ Leb.bits7 x)[p] = yv at hcp hbad hstep
                  have Hbad := Lib.hid hbad
                  have Hstep := Lib.hid hstep
                  clear hbad hstep
                  by_cases hv : yv = mv
                  · have hne : ((yv : Int) != (mv : Int)) = false := by simp [hv]
                    have Hv := Lib.hid hv
                    clear hv
                    go_wp2_with fail
                    go_roundw
                    case rel => exact ⟨p + 1, rfl, by omega, by first | rfl | trivial, Hstep.out Hv.out⟩
                    case measure => simp [intOf]; omega
                  · have hne : ((yv : Int) != (mv : Int)) = true := by simp; omega
                    have HB : Hid (Leb.bad bits true (all ++ Leb.bits7 x) = true) := Hbad.out (by rw [← HM.out]; exact hv)
                    clear hv
                    go_wp2_with fail
                    go_ret3
                    have e := HR.out
                    rw [H3.out, Leb.rdB, HB.out, if_pos rfl] at e
                    refine ⟨none, 0, ?_, ?_, hb2⟩
                    · rw [e]; try rfl
                    · rw [e]; exact OwnI.nil _ _
                · have HB : Hid (Leb.bad bits true (all ++ Leb.bits7 x) = false) := Leb.bad_false bits true _ fun q h1 h2 => by rw [← HM.out]; exact HP.out q h1 (by rw [hal.out] at h2; omega) h2
                  have e := HR.out
                  rw [H3.out, Leb.rdB, HB.out] at e
                  simp only [Bool.false_eq_true, if_false] at e
                  by_cases h128 : x < 128
                  · rw [if_pos h128] at e
                    have E := Lib.hid e
                    have hI : (x : Int) < 128 := by omega
                    clear e h128
                    go_wp2_with fail
                    go_ret3
                    refine ⟨some ⟨g, 0, none⟩, c2, ?_, ?_, hb2⟩
                    · rw [E.out, show (all ++ Leb.bits7 x).length = 7 * i + 7 from hal.out]; try rfl
                    · rw [E.out, show (all ++ Leb.bits7 x).length = 7 * i + 7 from hal.out]; exact ho2
                  · rw [if_neg h128] at e
                    have hI : (128 : Int) ≤ (x : Int) := by omega
                    clear h128
                    by_cases hle : bits ≤ 7 * (i + 1)
                    · rw [if_pos hle] at e
                      have E := Lib.hid e
                      clear e
                      go_wp2_with fail
                      go_ret3
                      refine ⟨none, 0, ?_, ?_, hb2⟩
                      · rw [E.out]; try rfl
                      · rw [E.out]; exact OwnI.nil _ _
                    · omega
            · have hge' : decide ((bits : Int) ≤ 7 * (i : Int) + 7) = false := by simp; omega
              have hm0 : mv = 0 := by
                rw [HM.out]
                unfold Leb.must
                rw [if_neg (by rw [hal.out]; simpa using hge)]
              subst hm0
              go_wp2_with fail
              obtain ⟨wq, rfl⟩ : ∃ wq : World, wq = wr := ⟨_, rfl⟩
              go_loopw [13] (fun t wr => ∃ p : Nat, t = .int .i64 p ∧ bits ≤ p ∧ wr = wq ∧ Hid (∀ q, bits ≤ q → q < p → ∀ h : q < (all ++ Leb.bits7 x).length, (all ++ Leb.bits7 x)[q] = 0)) (fun t _ => 7 * i + 7 + 64 - (intOf t).toNat)
              case atStart => exact ⟨bits, rfl, by omega, rfl, by intro q h1 h2; omega⟩
              case round =>
                obtain ⟨p, rfl, hpb, rfl, HP⟩ := hrel
                by_cases hp : p < 7 * i + 7
                · omega
                · have HB : Hid (Leb.bad bits true (all ++ Leb.bits7 x) = false) := Leb.bad_false bits true _ fun q h1 h2 => by rw [← HM.out]; exact HP.out q h1 (by rw [hal.out] at h2; omega) h2
                  have e := HR.out
                  rw [H3.out, Leb.rdB, HB.out] at e
                  simp only [Bool.false_eq_true, if_false] at e
                  by_cases h128 : x < 128
                  · rw [if_pos h128] at e
                    have E := Lib.hid e
                    have hI : (x : Int) < 128 := by omega
                    clear e h128
                    go_wp2_with fail
                    go_ret3
                    refine ⟨some ⟨g, 0, none⟩, c2, ?_, ?_, hb2⟩
                    · rw [E.out, show (all ++ Leb.bits7 x).length = 7 * i + 7 from hal.out]; try rfl
                    · rw [E.out, show (all ++ Leb.bits7 x).length = 7 * i + 7 from hal.out]; exact ho2
                  · rw [if_neg h128] at e
                    have hI : (128 : Int) ≤ (x : Int) := by omega
                    clear h128
                    by_cases hle : bits ≤ 7 * (i + 1)
                    · omega
                    · rw [if_neg hle] at e
                      have E := Lib.hid e
                      have hgt : 7 * (i + 1) < bits := by omega
                      have HA2 : Hid (∀ y ∈ all ++ Leb.bits7 x, y < 2) := fun y hy => by
                        rcases List.mem_append.1 hy with h | h
                        · exact Ha2.out y h
                        · exact Leb.bits7_lt x y h
                      clear e hle
                      go_wp2_with fail
                      go_roundw
                      case rel => exact ⟨i + 1, _, c2, all ++ Leb.bits7 x, rfl, rfl, by omega, by omega, hgt, hal.out, HA2, ho2, hb2, E⟩
                      case measure => simp [intOf]; omega
end Go.Proofs.YtkdhjejchdcipaaDoor
/-
  The document's own U and S, walked.
-/
namespace Go.Proofs.YtkdhjejchdcipaaDoor
open Go.RowKit
set_option linter.unusedVariables false

/-- 'b[at:]': what is left of some bytes. -/
theorem Bytes.from_ {w : World} {C n c : Nat} {A : Option Addr} {l : List Nat} {k : Nat} (h : Bytes w C A n c l) (hk : k ≤ n) :
    Bytes w C (if c = k then A else A.map (·.add k)) (n - k) (c - k) (l.drop k) := by
  obtain ⟨h1, h2, h3, h4, h5⟩ := h
  refine ⟨by rw [List.length_drop, h1], by omega, by omega, fun x hx => h4 x (List.mem_of_mem_drop hx), fun h0 => ?_⟩
  obtain ⟨b, off, rfl, hb, hc⟩ := h5 (by omega)
  rw [if_neg (by omega)]
  refine ⟨b, off + k, by simp [Addr.add_lit], hb, fun j hj => ?_⟩
  have hj' : k + j < l.length := by rw [List.length_drop] at hj; omega
  have := hc (k + j) hj'
  rw [List.getElem_drop, Nat.add_assoc]
  exact this

def RefU (r : Nat × Nat × Nat) (w : World) (e : Ending) (w' : World) : Prop := e = .returned (.tuple #[.int .u64 r.1, .int .i64 r.2.1, .int .i64 r.2.2]) ∧ Below w.heap.size w w'
theorem u64_horn (X y : Nat) : IntKind.u64.wrap (IntKind.u64.wrap ((X : Int) * 2) + IntKind.u64.wrap (y : Int)) = (((X * 2 % 18446744073709551616 + y) % 18446744073709551616 : Nat) : Int) := by
  have e : ∀ n : Int, IntKind.u64.wrap n = n % 18446744073709551616 := fun n => by simp [IntKind.wrap, IntKind.bits, IntKind.signed]
  rw [e, e, e]; omega
theorem hornU_lt (l : List Nat) : Leb.hornU l < 18446744073709551616 := by rw [Leb.hornU_eq]; exact Nat.mod_lt _ (by omega)

set_option maxRecDepth 100000 in
set_option maxHeartbeats 1000000 in
theorem refRead_bad (A : Option Addr) (n c : Nat) (at0 bits : Int) (w : World) (hm : n ≤ maxLen) (h : bits < 1 ∨ 64 < bits ∨ at0 < 0 ∨ (n : Int) < at0) :
    Calls Tryd.prog 70 #[.slice A n c, .int .i64 at0, .int .i64 bits] w fun e w' => e = .returned (.tuple #[.int .u64 0, .int .i64 0, .int .i64 2]) ∧ w = w' := by
  unfold maxLen at hm
  have H : Hid (bits < 1 ∨ 64 < bits ∨ at0 < 0 ∨ (n : Int) < at0) := h
  clear h
  by_cases h1 : bits < 1
  · have t1 : decide (bits < 1) = true := by simpa using h1
    go_enter Tryd.func70, Tryd.ntmps70
    go_wp2_with fail
    go_ret3
    exact ⟨rfl, rfl⟩
  have t1 : decide (bits < 1) = false := by simpa using h1
  by_cases h2 : 64 < bits
  · have t2 : decide (64 < bits) = true := by simpa using h2
    go_enter Tryd.func70, Tryd.ntmps70
    go_wp2_with fail
    go_ret3
    exact ⟨rfl, rfl⟩
  have t2 : decide (64 < bits) = false := by simpa using h2
  by_cases h3 : at0 < 0
  · have t3 : decide (at0 < 0) = true := by simpa using h3
    go_enter Tryd.func70, Tryd.ntmps70
    go_wp2_with fail
    go_ret3
    exact ⟨rfl, rfl⟩
  have t3 : decide (at0 < 0) = false := by simpa using h3
  have t4 : decide ((n : Int) < at0) = true := by have := H.out; simp; omega
  go_enter Tryd.func70, Tryd.ntmps70
  go_wp2_with fail
  go_ret3
  exact ⟨rfl, rfl⟩

set_option maxRecDepth 100000 in
set_option maxHeartbeats 2000000 in
theorem refU_ok (A : Option Addr) (n c : Nat) (l : List Nat) (at0 bits : Nat) (w : World) (hy : Bytes w w.heap.size A n c l) (hn5 : n ≤ 100000) (ha : at0 ≤ n) (h1 : 1 ≤ bits) (h2 : bits ≤ 64) :
    Calls Tryd.prog 70 #[.slice A n c, .int .i64 at0, .int .i64 bits] w (RefU (told false l at0 bits) w) := by
  have ha5 : at0 ≤ 100000 := by omega
  have hm := hy.2.2.1
  have hnc := hy.2.1
  unfold maxLen at hm
  have hl0 := hy.1
  have t1 : decide ((bits : Int) < 1) = false := by simp; omega
  have t2 : decide (64 < (bits : Int)) = false := by simp; omega
  have t3 : decide ((at0 : Int) < 0) = false := by simp
  have t4 : decide (n < at0) = false := by simp; omega
  have hc1 : at0 ≤ c := by omega
  have hyd := hy.from_ ha
  have HB := Lib.hid (Bits_any _ _ _ _ bits false w hyd h1 h2)
  have hrel := Leb.rdB_rd bits false h2 (l.drop at0) 0 [] at0 (fun x hx => hy.2.2.2.1 x (List.mem_of_mem_drop hx)) rfl (by omega) (by simp)
  have hT := told_eq false l at0 bits h1 h2 (by omega)
  rw [show Leb.val [] = 0 from rfl, Nat.mul_zero] at hrel
  rw [← hT] at hrel
  have HREL := Lib.hid hrel
  clear hrel hT hl0
  generalize hq : Leb.rdB bits false (l.drop at0) 0 [] = q at HB HREL
  clear hq hyd hy
  generalize told false l at0 bits = r at HREL
  by_cases hcap : c = at0
  · obtain rfl : at0 = n := by omega
    obtain rfl : at0 = c := by omega
    rw [if_pos rfl, Nat.sub_self] at HB
    clear hm
    go_enter Tryd.func70, Tryd.ntmps70
    go_wp2_with fail
    refine HB.out.mono ?_
    rintro e w1 ⟨A5, c5, rfl, ho, hb⟩
    rcases HREL.out with ⟨g1, g2, g3⟩ | ⟨res, cc, g1, g2, g3, g4, g5, g6⟩
    · generalize q.2.2 = e at *
      subst g2 g3
      clear HREL HB
      have hne : ((e : Int) != 0) = true := by simp; exact g1
      clear g1
      go_wp2_with fail
      go_ret3
      exact ⟨rfl, hb⟩
    · subst g1
      clear HREL HB
      have hlen : Hid (res.length = 7 * (0 + cc)) := g3
      have hres : Hid (∀ y ∈ res, y < 2) := g5
      have hr : Hid (r = (Leb.ext false (Leb.val res % 18446744073709551616) res.length, at0 + cc, 0)) := g6
      have hL : res.length ≤ 70 := by omega
      have hL1 : 7 ≤ res.length := by omega
      rw [Nat.zero_add] at ho g4 ⊢
      clear g5 g6 g3
      simp only at ho
      obtain ⟨_, g, rfl, hg, hgs, hci⟩ := ho.open_ (by omega)
      have HCI := Lib.hid hci
      clear hci
      go_wp2_with fail
      go_loop [12, 13] (fun t u => ∃ j : Nat, t = .int .u64 (Leb.hornU (res.drop j)) ∧ u = .int .i64 ((j : Int) - 1) ∧ j ≤ res.length) (fun _ u => (intOf u + 1).toNat)
      case atStart => exact ⟨res.length, by rw [List.drop_of_length_le (by omega)]; rfl, rfl, by omega⟩
      case round =>
        obtain ⟨j, rfl, rfl, hj⟩ := hrel
        have hu := hornU_lt (res.drop j)
        rcases Nat.eq_zero_or_pos j with rfl | hj0
        · generalize hX : Leb.hornU (res.drop 0) = X at hu ⊢
          have HX := Lib.hid hX
          clear hX hu
          go_wp2_with fail
          go_ret3
          have hr2 := hr.out
          rw [Leb.hornU_eq, List.drop_zero] at HX
          rw [HX.out] at hr2
          exact ⟨by rw [hr2]; rfl, hb⟩
        · obtain ⟨j, rfl⟩ : ∃ k, j = k + 1 := ⟨j - 1, by omega⟩
          have hjl : j < res.length := by omega
          have hcj := HCI.out j hjl
          have hb2 := hres.out res[j] (List.getElem_mem hjl)
          have hst : Hid (Leb.hornU (res.drop j) = (Leb.hornU (res.drop (j + 1)) * 2 % 18446744073709551616 + res[j]) % 18446744073709551616) := by
            rw [Hid, List.drop_eq_getElem_cons hjl]; rfl
          generalize Leb.hornU (res.drop (j + 1)) = X at hu hst ⊢
          generalize res[j] = y at hcj hb2 hst
          have HU := Lib.hid hu
          have HB2 := Lib.hid hb2
          clear hu hb2
          go_wp2_with fail
          go_round
          case rel => exact ⟨j, by rw [hst.out, u64_horn], rfl, by omega⟩
          case measure => simp [intOf]
  · rw [if_neg hcap] at HB
    clear hm
    go_enter Tryd.func70, Tryd.ntmps70
    go_wp2_with fail
    refine HB.out.mono ?_
    rintro e w1 ⟨A5, c5, rfl, ho, hb⟩
    rcases HREL.out with ⟨g1, g2, g3⟩ | ⟨res, cc, g1, g2, g3, g4, g5, g6⟩
    · generalize q.2.2 = e at *
      subst g2 g3
      clear HREL HB
      have hne : ((e : Int) != 0) = true := by simp; exact g1
      clear g1
      go_wp2_with fail
      go_ret3
      exact ⟨rfl, hb⟩
    · subst g1
      clear HREL HB
      have hlen : Hid (res.length = 7 * (0 + cc)) := g3
      have hres : Hid (∀ y ∈ res, y < 2) := g5
      have hr : Hid (r = (Leb.ext false (Leb.val res % 18446744073709551616) res.length, at0 + cc, 0)) := g6
      have hL : res.length ≤ 70 := by omega
      have hL1 : 7 ≤ res.length := by omega
      rw [Nat.zero_add] at ho g4 ⊢
      clear g5 g6 g3
      simp only at ho
      obtain ⟨_, g, rfl, hg, hgs, hci⟩ := ho.open_ (by omega)
      have HCI := Lib.hid hci
      clear hci
      go_wp2_with fail
      go_loop [12, 13] (fun t u => ∃ j : Nat, t = .int .u64 (Leb.hornU (res.drop j)) ∧ u = .int .i64 ((j : Int) - 1) ∧ j ≤ res.length) (fun _ u => (intOf u + 1).toNat)
      case atStart => exact ⟨res.length, by rw [List.drop_of_length_le (by omega)]; rfl, rfl, by omega⟩
      case round =>
        obtain ⟨j, rfl, rfl, hj⟩ := hrel
        have hu := hornU_lt (res.drop j)
        rcases Nat.eq_zero_or_pos j with rfl | hj0
        · generalize hX : Leb.hornU (res.drop 0) = X at hu ⊢
          have HX := Lib.hid hX
          clear hX hu
          go_wp2_with fail
          go_ret3
          have hr2 := hr.out
          rw [Leb.hornU_eq, List.drop_zero] at HX
          rw [HX.out] at hr2
          exact ⟨by rw [hr2]; rfl, hb⟩
        · obtain ⟨j, rfl⟩ : ∃ k, j = k + 1 := ⟨j - 1, by omega⟩
          have hjl : j < res.length := by omega
          have hcj := HCI.out j hjl
          have hb2 := hres.out res[j] (List.getElem_mem hjl)
          have hst : Hid (Leb.hornU (res.drop j) = (Leb.hornU (res.drop (j + 1)) * 2 % 18446744073709551616 + res[j]) % 18446744073709551616) := by
            rw [Hid, List.drop_eq_getElem_cons hjl]; rfl
          generalize Leb.hornU (res.drop (j + 1)) = X at hu hst ⊢
          generalize res[j] = y at hcj hb2 hst
          have HU := Lib.hid hu
          have HB2 := Lib.hid hb2
          clear hu hb2
          go_wp2_with fail
          go_round
          case rel => exact ⟨j, by rw [hst.out, u64_horn], rfl, by omega⟩
          case measure => simp [intOf]

/-- The document's U, at all arguments. -/
theorem refUall (A : Option Addr) (n c : Nat) (l : List Nat) (at0 bits : Int) (w : World) (hy : Bytes w w.heap.size A n c l) (hn5 : n ≤ 100000) :
    Calls Tryd.prog 70 #[.slice A n c, .int .i64 at0, .int .i64 bits] w (RefU (told false l at0 bits) w) := by
  by_cases h : bits < 1 ∨ 64 < bits ∨ at0 < 0 ∨ (n : Int) < at0
  · refine (refRead_bad A n c at0 bits w (Nat.le_trans hy.2.1 hy.2.2.1) h).mono ?_
    rintro e w' ⟨rfl, rfl⟩
    have hT : told false l at0 bits = (0, 0, 2) := by
      unfold told
      rw [if_pos (by rw [hy.1]; exact h)]
    rw [hT]
    exact ⟨rfl, Below.refl _ _⟩
  · obtain ⟨p, rfl⟩ := Int.eq_ofNat_of_zero_le (show 0 ≤ at0 by omega)
    obtain ⟨q, rfl⟩ := Int.eq_ofNat_of_zero_le (show 0 ≤ bits by omega)
    exact refU_ok A n c l p q w hy hn5 (by omega) (by omega) (by omega)
end Go.Proofs.YtkdhjejchdcipaaDoor

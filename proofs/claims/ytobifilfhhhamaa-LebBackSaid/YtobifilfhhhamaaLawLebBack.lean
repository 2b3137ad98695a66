/-
  The walk of the statement LebBack: what was put is read again, whatever stands ahead and behind.
-/
import Derived.Test.YtobifilfhhhamaaLebK
namespace Go.Proofs.Ytobifilfhhhamaa
open Go.RowKit
set_option linter.unusedVariables false

set_option maxRecDepth 100000 in
set_option maxHeartbeats 1000000 in
theorem LebBack_out (w : World) (n : Nat) (m bits : Int) (A3 : Option Addr) (n3 c3 : Nat) (l3 : List Nat) (hy3 : Bytes w w.heap.size A3 n3 c3 l3) (A4 : Option Addr) (n4 c4 : Nat) (l4 : List Nat) (hy4 : Bytes w w.heap.size A4 n4 c4 l4)
    (h : 200 < n3 ∨ 200 < n4 ∨ bits < 1 ∨ 64 < bits) :
    Calls Try.prog 5 #[.int .u64 n, .int .i64 m, .int .i64 bits, .slice A3 n3 c3, .slice A4 n4 c4] w fun e w' => e = .returned (.bool true) ∧ Below w.heap.size w w' := by
  have H : Hid (200 < n3 ∨ 200 < n4 ∨ bits < 1 ∨ 64 < bits) := h
  clear h hy3 hy4
  by_cases q1 : 200 < n3
  · have t1 : decide (200 < (n3 : Int)) = true := by simp; omega
    go_enter Try.func5, Try.ntmps5
    go_wp2_with (go_at_call 10; refine (known_any _).mono ?_; rintro e w1 ⟨rfl, hb1⟩)
    go_ret
    exact ⟨rfl, hb1⟩
  · have t1 : decide (200 < (n3 : Int)) = false := by simp; omega
    by_cases q2 : 200 < n4
    · have t2 : decide (200 < (n4 : Int)) = true := by simp; omega
      go_enter Try.func5, Try.ntmps5
      go_wp2_with (go_at_call 10; refine (known_any _).mono ?_; rintro e w1 ⟨rfl, hb1⟩)
      go_ret
      exact ⟨rfl, hb1⟩
    · have t2 : decide (200 < (n4 : Int)) = false := by simp; omega
      by_cases q3 : bits < 1
      · have t3 : decide (bits < 1) = true := by simpa using q3
        go_enter Try.func5, Try.ntmps5
        go_wp2_with (go_at_call 10; refine (known_any _).mono ?_; rintro e w1 ⟨rfl, hb1⟩)
        go_ret
        exact ⟨rfl, hb1⟩
      · have t3 : decide (bits < 1) = false := by simpa using q3
        have q4 : 64 < bits := by have := H.out; omega
        have t4 : decide (64 < bits) = true := by simpa using q4
        go_enter Try.func5, Try.ntmps5
        go_wp2_with (go_at_call 10; refine (known_any _).mono ?_; rintro e w1 ⟨rfl, hb1⟩)
        go_ret
        exact ⟨rfl, hb1⟩

set_option maxRecDepth 100000 in
set_option maxHeartbeats 1000000 in
theorem LebBack_in (w : World) (n : Nat) (m : Int) (bits : Nat) (A3 : Option Addr) (n3 c3 : Nat) (l3 : List Nat) (hy3 : Bytes w w.heap.size A3 n3 c3 l3) (A4 : Option Addr) (n4 c4 : Nat) (l4 : List Nat) (hy4 : Bytes w w.heap.size A4 n4 c4 l4)
    (q1 : n3 ≤ 200) (q2 : n4 ≤ 200) (q3 : 1 ≤ bits) (q4 : bits ≤ 64) (hn : Hid (n < 18446744073709551616)) (hm : Hid (-9223372036854775808 ≤ m ∧ m < 9223372036854775808)) :
    Calls Try.prog 5 #[.int .u64 n, .int .i64 m, .int .i64 bits, .slice A3 n3 c3, .slice A4 n4 c4] w fun e w' => e = .returned (.bool true) ∧ Below w.heap.size w w' := by
  obtain ⟨n', hn', hnb⟩ : ∃ n' : Nat, (n : Int) / 2 ^ (64 - bits) = (n' : Int) ∧ Hid (n' < 2 ^ bits) := by
    refine ⟨n / 2 ^ (64 - bits), by simp, ?_⟩
    rw [Hid, Nat.div_lt_iff_lt_mul (Nat.two_pow_pos _), ← Nat.pow_add, show bits + (64 - bits) = 64 by omega]
    exact hn.out
  obtain ⟨m', hm', hmb⟩ : ∃ m' : Int, m / 2 ^ (64 - bits) = m' ∧ Hid (-(2 ^ (bits - 1) : Nat) ≤ m' ∧ m' < (2 ^ (bits - 1) : Nat)) := by
    refine ⟨m / 2 ^ (64 - bits), rfl, ?_⟩
    have e : (9223372036854775808 : Int) = ((2 ^ (bits - 1) : Nat) : Int) * 2 ^ (64 - bits) := by
      have : (9223372036854775808 : Nat) = 2 ^ (bits - 1) * 2 ^ (64 - bits) := by rw [← Nat.pow_add, show bits - 1 + (64 - bits) = 63 by omega]
      have e2 : ((9223372036854775808 : Nat) : Int) = ((2 ^ (bits - 1) * 2 ^ (64 - bits) : Nat) : Int) := by rw [← this]
      simpa using e2
    have hp : (0 : Int) < 2 ^ (64 - bits) := Int.pow_pos (by omega)
    obtain ⟨h1, h2⟩ := hm.out
    constructor
    · rw [Int.le_ediv_iff_mul_le hp, Int.neg_mul, ← e]; omega
    · rw [Int.ediv_lt_iff_lt_mul hp, ← e]; exact h2
  have hn64 : Hid (n' < 18446744073709551616) := Nat.lt_of_lt_of_le hnb.out (Leb.pow64 q4)
  have hm64 : Hid (-9223372036854775808 ≤ m' ∧ m' < 9223372036854775808) := by
    have h1 : 2 ^ (bits - 1) ≤ 2 ^ 63 := Nat.pow_le_pow_right (by omega) (by omega)
    have h2 := hmb.out
    rw [Hid]; omega
  have hl1 := Leb.putU_len10 n' hn64.out
  have hl2 := Leb.putS_len10 m' hm64.out
  have h3l : l3.length = n3 := hy3.1
  have h4l : l4.length = n4 := hy4.1
  have T1 : Hid (told false (l3 ++ Leb.putU n' ++ l4) (n3 : Nat) (bits : Nat) = (n', n3 + (Leb.putU n').length, 0)) := by
    rw [Hid, told_eq _ _ _ _ (by omega) (by omega) (by simp; omega), ← h3l, List.append_assoc, List.drop_left, Leb.rd_putU bits n' _ _ (by omega) (by omega) hnb.out]
  have T2 : Hid (told false (l3 ++ Leb.putU n' ++ l4) (n3 : Nat) (64 : Nat) = (n', n3 + (Leb.putU n').length, 0)) := by
    rw [Hid, told_eq _ _ _ _ (by omega) (by omega) (by simp; omega), ← h3l, List.append_assoc, List.drop_left, Leb.rd_putU 64 n' _ _ (by omega) (by omega) hn64.out]
  have T3 : Hid (told true (l3 ++ Leb.putS m' ++ l4) (n3 : Nat) (bits : Nat) = (Leb.wordOf m', n3 + (Leb.putS m').length, 0)) := by
    rw [Hid, told_eq _ _ _ _ (by omega) (by omega) (by simp; omega), ← h3l, List.append_assoc, List.drop_left, Leb.rd_putS bits m' _ _ (by omega) (by omega) hmb.out.1 hmb.out.2]
  have T4 : Hid (told true (l3 ++ Leb.putS m' ++ l4) (n3 : Nat) (64 : Nat) = (Leb.wordOf m', n3 + (Leb.putS m').length, 0)) := by
    rw [Hid, told_eq _ _ _ _ (by omega) (by omega) (by simp; omega), ← h3l, List.append_assoc, List.drop_left, Leb.rd_putS 64 m' _ _ (by omega) (by omega) hm64.out.1 hm64.out.2]
  have HS : Hid (Leb.sOf (Leb.wordOf m') = m') := Leb.sOf_word m' hm64.out.1 hm64.out.2
  have hall1 : Hid (∀ x ∈ l3 ++ Leb.putU n' ++ l4, x < 256) := by
    intro x hx
    rcases List.mem_append.1 hx with hx | hx
    · rcases List.mem_append.1 hx with hx | hx
      · exact hy3.2.2.2.1 x hx
      · exact Leb.putU_lt _ x hx
    · exact hy4.2.2.2.1 x hx
  have hall2 : Hid (∀ x ∈ l3 ++ Leb.putS m' ++ l4, x < 256) := by
    intro x hx
    rcases List.mem_append.1 hx with hx | hx
    · rcases List.mem_append.1 hx with hx | hx
      · exact hy3.2.2.2.1 x hx
      · exact Leb.putS_lt _ x hx
    · exact hy4.2.2.2.1 x hx
  have Hb1 := Lib.hid (Leb.putU_lt n')
  have Hb2 := Lib.hid (Leb.putS_lt m')
  generalize hlx : Leb.putU n' = lx at *
  generalize hly : Leb.putS m' = ly at *
  generalize hp : lx.length = p at hl1 T1 T2
  generalize hq : ly.length = q at hl2 T3 T4
  have Hx := Lib.hid hlx
  have Hy := Lib.hid hly
  have Hp := Lib.hid hp
  have Hq := Lib.hid hq
  have H3 := Lib.hid h3l
  have H4 := Lib.hid h4l
  clear hlx hly hp hq h3l h4l
  have t1 : decide (200 < (n3 : Int)) = false := by simp; omega
  have t2 : decide (200 < (n4 : Int)) = false := by simp; omega
  have t3 : decide ((bits : Int) < 1) = false := by simp; omega
  have t4 : decide (64 < (bits : Int)) = false := by simp; omega
  go_enter Try.func5, Try.ntmps5
  go_wp2_with (first
    | (go_at_call 10; refine (known_any _).mono ?_; rintro e w1 ⟨rfl, hb1⟩; have hb1' := hb1.alloc hb1.size (.cells #[] 5))
    | (at_builtin; refine cat_slice rfl (.tmp 55) (.tmp 56) rfl _ l3 n3 rfl rfl (Own.empty w1 hb1.size) (hy3.below hb1') hb1'.size n3 (by omega) (by simp) ?_; intro A5 c5 w2 ho2 hg2; have hb2 := (Own.empty w1 hb1.size).grown hg2 (Nat.le_refl _) hb1'.size hb1'))
  refine (PutU_any n' _ hn64.out).mono ?_
  rintro e w3 ⟨v, rfl, hov, hw3⟩
  rw [Hx.out] at hov
  obtain ⟨Av, cv, e, hyv⟩ := hov.bytes Hb1.out
  rw [Hp.out] at e hyv
  subst e
  have ho3 := ho2.below hw3
  have hb3 := hb2.trans (hw3.mono hb2.size)
  clear hov
  go_wp2_with (first
    | (at_builtin; refine cat_slice rfl (.tmp 57) (.tmp 59) rfl _ lx p rfl rfl ho3 hyv hb3.size (n3 + p) (by omega) (by simp [H3.out]) ?_; intro A6 c6 w4 ho4 hg4; have hb4 := ho3.grown hg4 (Nat.le_refl _) hb3.size hb3)
    | (at_builtin; refine cat_slice rfl (.tmp 60) (.tmp 61) rfl _ l4 n4 rfl rfl ho4 (hy4.below hb4) hb4.size (n3 + p + n4) (by omega) (by simp [H3.out, Hp.out]) ?_; intro A7 c7 w5 ho5 hg5; have hb5 := ho4.grown hg5 (Nat.le_refl _) hb4.size hb4; have hb5' := hb5.alloc hb5.size (.cells #[] 5); have hz5 := (Below.refl w5.heap.size w5).alloc (Nat.le_refl _) (.cells #[] 5))
    | (at_builtin; refine cat_slice rfl (.tmp 63) (.tmp 64) rfl _ l3 n3 rfl rfl (Own.empty w5 (Nat.le_refl _)) (hy3.below hb5') hz5.size n3 (by omega) (by simp) ?_; intro A8 c8 w6 ho6 hg6; have hz6 := (Own.empty w5 (Nat.le_refl _)).grown hg6 (Nat.le_refl _) hz5.size hz5))
  refine (PutS_any m' _ hm64.out.1 hm64.out.2).mono ?_
  rintro e w7 ⟨v, rfl, hov, hw7⟩
  rw [Hy.out] at hov
  obtain ⟨Ax, cx, e, hyx⟩ := hov.bytes Hb2.out
  rw [Hq.out] at e hyx
  subst e
  have ho7 := ho6.below hw7
  have hz7 := hz6.trans (hw7.mono hz6.size)
  have hb7 : Below w.heap.size w w7 := hb5.trans (hz7.mono hb5.size)
  clear hov
  go_wp2_with (first
    | (at_builtin; refine cat_slice rfl (.tmp 65) (.tmp 67) rfl _ ly q rfl rfl ho7 hyx hz7.size (n3 + q) (by omega) (by simp [H3.out]) ?_; intro A9 c9 w8 ho8 hg8; have hz8 := ho7.grown hg8 (Nat.le_refl _) hz7.size hz7; have hb8 := hb5.trans (hz8.mono hb5.size))
    | (at_builtin; refine cat_slice rfl (.tmp 68) (.tmp 69) rfl _ l4 n4 rfl rfl ho8 (hy4.below hb8) hz8.size (n3 + q + n4) (by omega) (by simp [H3.out, Hq.out]) ?_; intro A10 c10 w9 ho9 hg9; have hz9 := ho8.grown hg9 (Nat.le_refl _) hz8.size hz8))
  have hu := (ho5.toBytes (by simpa using hall1.out)).below hz9
  have hs := ho9.toBytes (by simpa using hall2.out)
  rw [List.nil_append] at hu hs
  have hb9 := hb5.trans (hz9.mono hb5.size)
  refine (U_at A7 (n3 + p + n4) c7 _ _ n3 bits _ n' (n3 + p) 0 hu T1.out).mono ?_
  rintro e wx ⟨rfl, k1, rfl⟩
  go_wp2_with fail
  refine (U_at A7 (n3 + p + n4) c7 _ _ n3 64 _ n' (n3 + p) 0 (hu.drewN k1) T2.out).mono ?_
  rintro e wx ⟨rfl, k2, rfl⟩
  go_wp2_with fail
  refine (S_at A10 (n3 + q + n4) c10 _ _ n3 bits _ m' (Leb.wordOf m') (n3 + q) 0 (hs.drewN _) T3.out HS.out).mono ?_
  rintro e wx ⟨rfl, k3, rfl⟩
  go_wp2_with fail
  refine (S_at A10 (n3 + q + n4) c10 _ _ n3 64 _ m' (Leb.wordOf m') (n3 + q) 0 (hs.drewN _) T4.out HS.out).mono ?_
  rintro e wx ⟨rfl, k4, rfl⟩
  go_wp2
  go_ret
  exact ⟨rfl, below_drewN hb9 _⟩

theorem LebBack_walk (w : World) (a0 : Int) (wf0 : (Lit.int .u64 a0).wf = true) (a1 : Int) (wf1 : (Lit.int .i64 a1).wf = true) (a2 : Int) (_ : (Lit.int .i64 a2).wf = true)
    (A3 : Option Addr) (n3 c3 : Nat) (l3 : List Nat) (hy3 : Bytes w w.heap.size A3 n3 c3 l3) (A4 : Option Addr) (n4 c4 : Nat) (l4 : List Nat) (hy4 : Bytes w w.heap.size A4 n4 c4 l4) :
    Calls Try.prog 5 #[.int .u64 a0, .int .i64 a1, .int .i64 a2, .slice A3 n3 c3, .slice A4 n4 c4] w fun e w' => e = .returned (.bool true) ∧ Below w.heap.size w w' := by
  obtain ⟨h0, h0'⟩ := u64_wf wf0
  obtain ⟨n, rfl⟩ := Int.eq_ofNat_of_zero_le h0
  by_cases h : 200 < n3 ∨ 200 < n4 ∨ a2 < 1 ∨ 64 < a2
  · exact LebBack_out w n a1 a2 A3 n3 c3 l3 hy3 A4 n4 c4 l4 hy4 h
  · obtain ⟨bits, rfl⟩ := Int.eq_ofNat_of_zero_le (show 0 ≤ a2 by omega)
    exact LebBack_in w n a1 bits A3 n3 c3 l3 hy3 A4 n4 c4 l4 hy4 (by omega) (by omega) (by omega) (by omega) (show n < _ by omega) (i64_wf wf1)
end Go.Proofs.Ytobifilfhhhamaa

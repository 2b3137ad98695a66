/-
  The walk of the statement LebShortest: whatever is read has no fewer bytes than what is put of it; more bits change nothing.
-/
import Derived.Test.YtobifilfhhhamaaLebK
import Derived.Test.YtobifilfhhhamaaLebN
namespace Go.Proofs.Ytobifilfhhhamaa
open Go.RowKit
set_option linter.unusedVariables false

set_option maxRecDepth 100000 in
set_option maxHeartbeats 1000000 in
theorem LebShortest_out (w : World) (bits more : Int) (A : Option Addr) (n c : Nat) (h : 200 < n ∨ bits < 1 ∨ 64 < bits ∨ more < bits ∨ 64 < more) :
    Calls Try.prog 6 #[.slice A n c, .int .i64 bits, .int .i64 more] w fun e w' => e = .returned (.bool true) ∧ Below w.heap.size w w' := by
  have H : Hid (200 < n ∨ bits < 1 ∨ 64 < bits ∨ more < bits ∨ 64 < more) := h
  clear h
  by_cases q1 : 200 < n
  · have t1 : decide (200 < (n : Int)) = true := by simp; omega
    go_enter Try.func6, Try.ntmps6
    go_wp2_with (go_at_call 10; refine (known_any _).mono ?_; rintro e w1 ⟨rfl, hb1⟩)
    go_ret
    exact ⟨rfl, hb1⟩
  have t1 : decide (200 < (n : Int)) = false := by simp; omega
  by_cases q2 : bits < 1
  · have t2 : decide (bits < 1) = true := by simpa using q2
    go_enter Try.func6, Try.ntmps6
    go_wp2_with (go_at_call 10; refine (known_any _).mono ?_; rintro e w1 ⟨rfl, hb1⟩)
    go_ret
    exact ⟨rfl, hb1⟩
  have t2 : decide (bits < 1) = false := by simpa using q2
  by_cases q3 : 64 < bits
  · have t3 : decide (64 < bits) = true := by simpa using q3
    go_enter Try.func6, Try.ntmps6
    go_wp2_with (go_at_call 10; refine (known_any _).mono ?_; rintro e w1 ⟨rfl, hb1⟩)
    go_ret
    exact ⟨rfl, hb1⟩
  have t3 : decide (64 < bits) = false := by simpa using q3
  by_cases q4 : more < bits
  · have t4 : decide (more < bits) = true := by simpa using q4
    go_enter Try.func6, Try.ntmps6
    go_wp2_with (go_at_call 10; refine (known_any _).mono ?_; rintro e w1 ⟨rfl, hb1⟩)
    go_ret
    exact ⟨rfl, hb1⟩
  have t4 : decide (more < bits) = false := by simpa using q4
  have q5 : 64 < more := by have := H.out; omega
  have t5 : decide (64 < more) = true := by simpa using q5
  go_enter Try.func6, Try.ntmps6
  go_wp2_with (go_at_call 10; refine (known_any _).mono ?_; rintro e w1 ⟨rfl, hb1⟩)
  go_ret
  exact ⟨rfl, hb1⟩

set_option maxRecDepth 100000 in
set_option maxHeartbeats 2000000 in
theorem LebShortest_in (w : World) (bits more : Nat) (A : Option Addr) (n c : Nat) (l : List Nat) (hy : Bytes w w.heap.size A n c l) (q1 : n ≤ 200) (q2 : 1 ≤ bits) (q3 : bits ≤ more) (q4 : more ≤ 64) :
    Calls Try.prog 6 #[.slice A n c, .int .i64 bits, .int .i64 more] w fun e w' => e = .returned (.bool true) ∧ Below w.heap.size w w' := by
  have hl : l.length = n := hy.1
  have t1 : decide (200 < (n : Int)) = false := by simp; omega
  have t2 : decide ((bits : Int) < 1) = false := by simp; omega
  have t3 : decide (64 < (bits : Int)) = false := by simp; omega
  have t4 : decide ((more : Int) < (bits : Int)) = false := by simp; omega
  have t4' : decide (more < bits) = false := by simp; omega
  have t5 : decide (64 < (more : Int)) = false := by simp; omega
  obtain ⟨v, nx, e, hu⟩ : ∃ v nx e, Leb.rd bits false l 0 0 0 = (v, nx, e) := ⟨_, _, _, rfl⟩
  obtain ⟨x, sx, f, hs⟩ : ∃ v nx e, Leb.rd bits true l 0 0 0 = (v, nx, e) := ⟨_, _, _, rfl⟩
  have hv : v < 18446744073709551616 := by have := Leb.rd_lt bits false l 0 0 0 (by simp); rw [hu] at this; exact this
  have hx : x < 18446744073709551616 := by have := Leb.rd_lt bits true l 0 0 0 (by simp); rw [hs] at this; exact this
  have U1 : Hid (told false l (0 : Nat) (bits : Nat) = (v, nx, e)) := by rw [Hid, told_eq _ _ _ _ (by omega) (by omega) (by omega)]; exact hu
  have S1 : Hid (told true l (0 : Nat) (bits : Nat) = (x, sx, f)) := by rw [Hid, told_eq _ _ _ _ (by omega) (by omega) (by omega)]; exact hs
  have U2 : Hid (e = 0 → told false l (0 : Nat) (more : Nat) = (v, nx, 0) ∧ (Leb.putU v).length ≤ nx) := by
    rintro rfl
    rw [told_eq _ _ _ _ (by omega) (by omega) (by omega)]
    exact ⟨Leb.rd_more bits more false q3 l _ _ _ _ _ hu, Leb.rd_short_u bits l v nx hu⟩
  have S2 : Hid (f = 0 → told true l (0 : Nat) (more : Nat) = (x, sx, 0) ∧ (Leb.putS (Leb.sOf x)).length ≤ sx) := by
    rintro rfl
    rw [told_eq _ _ _ _ (by omega) (by omega) (by omega)]
    exact ⟨Leb.rd_more bits more true q3 l _ _ _ _ _ hs, Leb.rd_short_s bits l x sx hs⟩
  have S3 : Hid (f ≠ 0 → x = 0 ∧ sx = 0) := by
    intro hf
    have := Leb.rd_err bits true l 0 0 0 (by rw [hs]; exact hf)
    rw [hs] at this
    simp at this
    exact this
  have HV := Lib.hid hv
  have HR := Lib.hid (Leb.sOf_range x hx)
  clear hu hs hv hx hl
  generalize hq : Leb.sOf x = q at *
  have HQ := Lib.hid hq
  clear hq
  by_cases he : e = 0
  · obtain ⟨U3, hlen⟩ := U2.out he
    have U3 := Lib.hid U3
    subst he
    have hpos : 0 ≤ (nx : Int) := by omega
    clear U2
    by_cases hf : f = 0
    · obtain ⟨S4, hlen2⟩ := S2.out hf
      have S4 := Lib.hid S4
      subst hf
      clear S2 S3
      go_enter Try.func6, Try.ntmps6
      go_wp2_with (go_at_call 10; refine (known_any _).mono ?_; rintro e w1 ⟨rfl, hb1⟩)
      refine (U_at A n c _ _ 0 bits _ v nx 0 (hy.below hb1) U1.out).mono ?_
      rintro e w2 ⟨rfl, k1, rfl⟩
      go_wp2_with fail
      refine (U_at A n c _ _ 0 more _ v nx 0 ((hy.below hb1).drewN _) U3.out).mono ?_
      rintro e w2 ⟨rfl, k2, rfl⟩
      go_wp2_with fail
      refine (PutU_any v _ HV.out).mono ?_
      rintro e w3 ⟨pv, rfl, ho, hb3⟩
      obtain ⟨A1, c1, rfl⟩ := ho.form
      have hb3' : Below w.heap.size w w3 := hb1.trans ((below_drewN (Below.refl _ _) _).trans (hb3.mono (by have := hb1.size; simpa using this)))
      clear ho
      generalize (Leb.putU v).length = p at *
      go_wp2_with fail
      refine (S_at A n c _ _ 0 bits _ q x sx 0 (hy.below hb3') S1.out HQ.out).mono ?_
      rintro e w4 ⟨rfl, k4, rfl⟩
      go_wp2_with fail
      refine (S_at A n c _ _ 0 more _ q x sx 0 ((hy.below hb3').drewN _) S4.out HQ.out).mono ?_
      rintro e w4 ⟨rfl, k5, rfl⟩
      go_wp2_with fail
      refine (PutS_any q _ HR.out.1 HR.out.2).mono ?_
      rintro e w5 ⟨pv, rfl, ho, hb5⟩
      obtain ⟨A2, c2, rfl⟩ := ho.form
      clear ho
      generalize (Leb.putS q).length = p2 at *
      go_wp2
      go_ret
      exact ⟨rfl, hb3'.trans ((below_drewN (Below.refl _ _) _).trans (hb5.mono (by have := hb3'.size; simpa using this)))⟩
    · obtain ⟨rfl, rfl⟩ := S3.out hf
      have hq0 : q = 0 := by rw [← HQ.out]; rfl
      subst hq0
      have hf0 : ((f : Int) == 0) = false := by simp; exact hf
      have hf1 : ((f : Int) != 0) = true := by simp; exact hf
      clear S2 S3
      go_enter Try.func6, Try.ntmps6
      go_wp2_with (go_at_call 10; refine (known_any _).mono ?_; rintro e w1 ⟨rfl, hb1⟩)
      refine (U_at A n c _ _ 0 bits _ v nx 0 (hy.below hb1) U1.out).mono ?_
      rintro e w2 ⟨rfl, k1, rfl⟩
      go_wp2_with fail
      refine (U_at A n c _ _ 0 more _ v nx 0 ((hy.below hb1).drewN _) U3.out).mono ?_
      rintro e w2 ⟨rfl, k2, rfl⟩
      go_wp2_with fail
      refine (PutU_any v _ HV.out).mono ?_
      rintro e w3 ⟨pv, rfl, ho, hb3⟩
      obtain ⟨A1, c1, rfl⟩ := ho.form
      have hb3' : Below w.heap.size w w3 := hb1.trans ((below_drewN (Below.refl _ _) _).trans (hb3.mono (by have := hb1.size; simpa using this)))
      clear ho
      generalize (Leb.putU v).length = p at *
      go_wp2_with fail
      refine (S_at A n c _ _ 0 bits _ 0 0 0 f (hy.below hb3') S1.out HQ.out).mono ?_
      rintro e w4 ⟨rfl, k4, rfl⟩
      go_wp2
      go_ret
      exact ⟨rfl, below_drewN hb3' _⟩
  · have he0 : ((e : Int) == 0) = false := by simp; exact he
    clear U2
    by_cases hf : f = 0
    · obtain ⟨S4, hlen2⟩ := S2.out hf
      have S4 := Lib.hid S4
      subst hf
      clear S2 S3
      go_enter Try.func6, Try.ntmps6
      go_wp2_with (go_at_call 10; refine (known_any _).mono ?_; rintro e w1 ⟨rfl, hb1⟩)
      refine (U_at A n c _ _ 0 bits _ v nx e (hy.below hb1) U1.out).mono ?_
      rintro e' w2 ⟨rfl, k1, rfl⟩
      go_wp2_with fail
      refine (S_at A n c _ _ 0 bits _ q x sx 0 ((hy.below hb1).drewN _) S1.out HQ.out).mono ?_
      rintro e w4 ⟨rfl, k4, rfl⟩
      go_wp2_with fail
      refine (S_at A n c _ _ 0 more _ q x sx 0 ((hy.below hb1).drewN _) S4.out HQ.out).mono ?_
      rintro e w4 ⟨rfl, k5, rfl⟩
      go_wp2_with fail
      refine (PutS_any q _ HR.out.1 HR.out.2).mono ?_
      rintro e w5 ⟨pv, rfl, ho, hb5⟩
      obtain ⟨A2, c2, rfl⟩ := ho.form
      clear ho
      generalize (Leb.putS q).length = p2 at *
      go_wp2
      go_ret
      exact ⟨rfl, hb1.trans ((below_drewN (Below.refl _ _) _).trans (hb5.mono (by have := hb1.size; simpa using this)))⟩
    · obtain ⟨rfl, rfl⟩ := S3.out hf
      have hq0 : q = 0 := by rw [← HQ.out]; rfl
      subst hq0
      have hf0 : ((f : Int) == 0) = false := by simp; exact hf
      have hf1 : ((f : Int) != 0) = true := by simp; exact hf
      clear S2 S3
      go_enter Try.func6, Try.ntmps6
      go_wp2_with (go_at_call 10; refine (known_any _).mono ?_; rintro e w1 ⟨rfl, hb1⟩)
      refine (U_at A n c _ _ 0 bits _ v nx e (hy.below hb1) U1.out).mono ?_
      rintro e' w2 ⟨rfl, k1, rfl⟩
      go_wp2_with fail
      refine (S_at A n c _ _ 0 bits _ 0 0 0 f ((hy.below hb1).drewN _) S1.out HQ.out).mono ?_
      rintro e w4 ⟨rfl, k4, rfl⟩
      go_wp2
      go_ret
      exact ⟨rfl, below_drewN hb1 _⟩

theorem LebShortest_walk (w : World) (A : Option Addr) (n c : Nat) (l : List Nat) (hy : Bytes w w.heap.size A n c l) (a1 : Int) (_ : (Lit.int .i64 a1).wf = true) (a2 : Int) (_ : (Lit.int .i64 a2).wf = true) :
    Calls Try.prog 6 #[.slice A n c, .int .i64 a1, .int .i64 a2] w fun e w' => e = .returned (.bool true) ∧ Below w.heap.size w w' := by
  by_cases h : 200 < n ∨ a1 < 1 ∨ 64 < a1 ∨ a2 < a1 ∨ 64 < a2
  · exact LebShortest_out w a1 a2 A n c h
  · obtain ⟨bits, rfl⟩ := Int.eq_ofNat_of_zero_le (show 0 ≤ a1 by omega)
    obtain ⟨more, rfl⟩ := Int.eq_ofNat_of_zero_le (show 0 ≤ a2 by omega)
    exact LebShortest_in w bits more A n c l hy (by omega) (by omega) (by omega) (by omega)
end Go.Proofs.Ytobifilfhhhamaa

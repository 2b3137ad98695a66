/-
  The walk of the statement NameReads: whether any bytes are well-formed, and any bytes as a name, are the document's.
-/
import Derived.Test.YtkpobcomaocfpaaNmG
namespace Go.Proofs.Ytkpobcomaocfpaa
open Go.RowKit
set_option linter.unusedVariables false

theorem NameReads_out (w : World) (a0 : ByteArray) (A : Option Addr) (n c : Nat) (a2 : Int) (h : 3000 < a0.size ∨ 3000 < n) :
    Calls Try.prog 3 #[.string a0, .slice A n c, .int .i64 a2] w fun e w' => e = .returned (.bool true) ∧ Below w.heap.size w w' := by
  by_cases h1 : 3000 < a0.size
  · have t1 : (3000 : Int) < (a0.size : Int) := by omega
    clear h h1
    go_enter Try.func3, Try.ntmps3
    go_wp2_with (go_at_call 8; refine (known2_any _).mono ?_; rintro e w1 ⟨rfl, hb1⟩)
    go_ret
    exact ⟨rfl, hb1⟩
  · have t1 : (a0.size : Int) ≤ 3000 := by omega
    have t2 : (3000 : Int) < (n : Int) := by omega
    clear h h1
    go_enter Try.func3, Try.ntmps3
    go_wp2_with (go_at_call 8; refine (known2_any _).mono ?_; rintro e w1 ⟨rfl, hb1⟩)
    go_ret
    exact ⟨rfl, hb1⟩

set_option maxRecDepth 100000 in
set_option maxHeartbeats 1000000 in
theorem NameReads_in (w : World) (a0 : ByteArray) (A : Option Addr) (n c : Nat) (l : List Nat) (a2 : Int) (hy : Bytes w w.heap.size A n c l) (q0 : a0.size ≤ 3000) (q1 : n ≤ 3000) :
    Calls Try.prog 3 #[.string a0, .slice A n c, .int .i64 a2] w fun e w' => e = .returned (.bool true) ∧ Below w.heap.size w w' := by
  have hB : Below w.heap.size w w := Below.refl _ _
  have t1 : (a0.size : Int) ≤ 3000 := by omega
  have t2 : (n : Int) ≤ 3000 := by omega
  have S0 := Lib.hid (small a0.size 3000 (by omega) (by omega))
  have QN := Lib.hid q1
  obtain ⟨r, hr⟩ : ∃ r, readName l a2 = r := ⟨_, rfl⟩
  have HR := Lib.hid hr
  obtain ⟨m, hm⟩ : ∃ m, Nm.cnt (bs a0) = m := ⟨_, rfl⟩
  have HM := Lib.hid hm
  have HWm : Hid (Nm.well (bs a0) = decide (0 ≤ m)) := by rw [Hid, ← hm]; rfl
  clear hr hm q0 q1
  have rc : ∀ w' : World, Below w.heap.size w w' → Calls Try.prog 10 #[.slice A n c, .int .i64 a2] w' (NameTold r w') := fun w' hb => by
    rw [← HR.out]
    exact refRead_any A n c l a2 w' ((hy.below hb).more hb.size) (by have := QN.out; omega)
  have RC := Lib.hid rc
  have rd : ∀ w' : World, Below w.heap.size w w' → Calls Try.prog 9 #[.slice A n c, .int .i64 a2] w' (NameTold r w') := fun w' hb => by
    rw [← HR.out]
    exact Read_any A n c l _ a2 w' (hy.below hb)
  have RD := Lib.hid rd
  have cc : ∀ w' : World, Calls Try.prog 12 #[.string a0] w' fun e w'' => e = .returned (.int .i64 m) ∧ Below w'.heap.size w' w'' := fun w' => by
    rw [← HM.out]
    exact refCount_any a0 w' S0.out
  have CC := Lib.hid cc
  clear rc rd cc hy
  go_enter Try.func3, Try.ntmps3
  go_wp2_with (first
    | (go_at_call 8; refine (known2_any _).mono ?_; rintro e w1 ⟨rfl, hb⟩; have hB := below_trans hB hb)
    | (go_at_call 9; refine (RD.out _ hB).mono ?_; rintro e w1 ⟨rfl, hb⟩; have hB := below_trans hB hb)
    | (go_at_call 10; refine (RC.out _ hB).mono ?_; rintro e w1 ⟨rfl, hb⟩; have hB := below_trans hB hb)
    | (go_at_call 11; refine (Well_is a0 _ _ S0.out HWm.out).mono ?_; rintro e w1 ⟨rfl, hb⟩; have hB := below_trans hB hb)
    | (go_at_call 13; refine (Count_is a0 m _ S0.out HM.out).mono ?_; rintro e w1 ⟨rfl, hb⟩; have hB := below_trans hB hb)
    | (go_at_call 12; refine (CC.out _).mono ?_; rintro e w1 ⟨rfl, hb⟩; have hB := below_trans hB hb))
  go_ret
  exact ⟨rfl, hB⟩

theorem NameReads_walk (w : World) (a0 : ByteArray) (_ : a0.size ≤ maxLen) (A : Option Addr) (n c : Nat) (l : List Nat) (hy : Bytes w w.heap.size A n c l) (a2 : Int) (_ : (Lit.int .i64 a2).wf = true) :
    Calls Try.prog 3 #[.string a0, .slice A n c, .int .i64 a2] w fun e w' => e = .returned (.bool true) ∧ Below w.heap.size w w' := by
  by_cases h : 3000 < a0.size ∨ 3000 < n
  · exact NameReads_out w a0 A n c a2 h
  · exact NameReads_in w a0 A n c l a2 hy (by omega) (by omega)
end Go.Proofs.Ytkpobcomaocfpaa

/-
  The walk of the statement LebBehind: numbers one behind the other are read one after the other.
-/
import Derived.Test.YtobifilfhhhamaaLebK
namespace Go.Proofs.Ytobifilfhhhamaa
open Go.RowKit
set_option linter.unusedVariables false

theorem PutU_int (n : Int) (w : World) (h0 : 0 ≤ n) (hn : n < 18446744073709551616) :
    Calls Try.prog 15 #[.int .u64 n] w fun e w' => ∃ v, e = .returned v ∧ Own w.heap.size w' v (Leb.putU n.toNat) ∧ Below w.heap.size w w' := by
  obtain ⟨k, rfl⟩ := Int.eq_ofNat_of_zero_le h0
  exact PutU_any k w (by omega)

set_option maxRecDepth 100000 in
set_option maxHeartbeats 1000000 in
theorem LebBehind_walk (w : World) (a0 : Int) (wf0 : (Lit.int .u64 a0).wf = true) (a1 : Int) (wf1 : (Lit.int .i64 a1).wf = true) (a2 : Int) (wf2 : (Lit.int .u64 a2).wf = true) :
    Calls Try.prog 8 #[.int .u64 a0, .int .i64 a1, .int .u64 a2] w fun e w' => e = .returned (.bool true) ∧ Below w.heap.size w w' := by
  obtain ⟨h0, h0'⟩ := u64_wf wf0
  obtain ⟨h1, h1'⟩ := i64_wf wf1
  obtain ⟨h2, h2'⟩ := u64_wf wf2
  obtain ⟨n, rfl⟩ := Int.eq_ofNat_of_zero_le h0
  obtain ⟨c, rfl⟩ := Int.eq_ofNat_of_zero_le h2
  have hn64 : n < 18446744073709551616 := by omega
  have HN := Lib.hid hn64
  have H1 : Hid (-9223372036854775808 ≤ a1 ∧ a1 < 9223372036854775808) := ⟨h1, h1'⟩
  obtain ⟨c4, hc4, hc4'⟩ : ∃ c4 : Nat, (c : Int) % 4294967296 = (c4 : Int) ∧ c4 < 4294967296 := ⟨c % 4294967296, by simp, by omega⟩
  clear wf0 wf1 wf2 h0 h0' h1 h1' h2 h2' hn64
  have hl1 := Leb.putU_len10 n HN.out
  have hl2 := Leb.putS_len10 a1 H1.out
  have hl3 := Leb.putU_len10 c4 (by omega)
  have Hb1 := Lib.hid (Leb.putU_lt n)
  have Hb2 := Lib.hid (Leb.putS_lt a1)
  have Hb3 := Lib.hid (Leb.putU_lt c4)
  have T1 : Hid (told false (Leb.putU n ++ Leb.putS a1 ++ Leb.putU c4) (0 : Nat) (64 : Nat) = (n, (Leb.putU n).length, 0)) := by
    rw [Hid, told_eq _ _ _ _ (by omega) (by omega) (by omega), List.drop_zero, List.append_assoc, Leb.rd_putU 64 n _ 0 (by omega) (by omega) HN.out, Nat.zero_add]
  have T2 : Hid (told true (Leb.putU n ++ Leb.putS a1 ++ Leb.putU c4) ((Leb.putU n).length : Nat) (64 : Nat) = (Leb.wordOf a1, (Leb.putU n).length + (Leb.putS a1).length, 0)) := by
    rw [Hid, told_eq _ _ _ _ (by omega) (by omega) (by simp), List.append_assoc, List.drop_left, Leb.rd_putS 64 a1 _ _ (by omega) (by omega) H1.out.1 H1.out.2]
  have T3 : Hid (told false (Leb.putU n ++ Leb.putS a1 ++ Leb.putU c4) ((Leb.putU n).length + (Leb.putS a1).length : Nat) (32 : Nat) = (c4, (Leb.putU n).length + (Leb.putS a1).length + (Leb.putU c4).length, 0)) := by
    rw [Hid, told_eq _ _ _ _ (by omega) (by omega) (by simp), ← List.length_append, List.drop_left]
    have := Leb.rd_putU 32 c4 [] (Leb.putU n ++ Leb.putS a1).length (by omega) (by omega) hc4'
    rw [List.append_nil] at this
    exact this
  go_enter Try.func8, Try.ntmps8
  go_wp2_with fail
  refine (PutU_any n _ HN.out).mono ?_
  rintro e w1 ⟨v1, rfl, ho1, hw1⟩
  go_wp2_with fail
  refine (PutS_any a1 _ H1.out.1 H1.out.2).mono ?_
  rintro e w2 ⟨v2, rfl, ho2, hw2⟩
  go_wp2_with fail
  refine (PutU_any c4 _ (by omega)).mono ?_
  rintro e w3 ⟨v3, rfl, ho3, hw3⟩
  have hs1 := hw1.size
  have hs2 := hw2.size
  have hs3 := hw3.size
  have hw : Below w.heap.size w w3 := hw1.trans ((hw2.mono hs1).trans (hw3.mono (by omega)))
  have ho1 := (ho1.below hw2).below hw3
  have ho2 := ho2.below hw3
  obtain ⟨A1, c1, rfl, hy1⟩ := ho1.bytes Hb1.out
  obtain ⟨A2, c2, rfl, hy2⟩ := ho2.bytes Hb2.out
  obtain ⟨A3, c3, rfl, hy3⟩ := ho3.bytes Hb3.out
  clear ho1 ho2 ho3
  have hall : Hid (∀ x ∈ Leb.putU n ++ Leb.putS a1 ++ Leb.putU c4, x < 256) := by
    intro x hx
    rcases List.mem_append.1 hx with hx | hx
    · rcases List.mem_append.1 hx with hx | hx
      · exact Hb1.out x hx
      · exact Hb2.out x hx
    · exact Hb3.out x hx
  generalize Leb.putU n = lx at *
  generalize Leb.putS a1 = ly at *
  generalize Leb.putU c4 = lz at *
  have e1 : Hid (lx.length = lx.length) := rfl
  generalize hp : lx.length = p at hl1 hy1 T1 T2 T3
  generalize hq : ly.length = q at hl2 hy2 T1 T2 T3
  generalize hr : lz.length = r at hl3 hy3 T1 T2 T3
  have Hp := Lib.hid hp
  have Hq := Lib.hid hq
  have Hr := Lib.hid hr
  clear hp hq hr e1
  have Hw1 := Lib.hid hw1
  have Hw2 := Lib.hid hw2
  have Hw3 := Lib.hid hw3
  clear hw1 hw2 hw3
  have hb0 : Below w3.heap.size w3 (w3.alloc (.cells #[] 5)) := (Below.refl _ _).alloc (Nat.le_refl _) _
  go_wp2_with (first
    | (at_builtin; refine cat_slice rfl (.tmp 27) (.tmp 28) rfl _ lx p rfl rfl (Own.empty w3 (Nat.le_refl _)) (hy1.below hb0) hb0.size p (by omega) (by simp) ?_; intro A4 c4' w4 ho4 hg4; have hw4 := (Own.empty w3 (Nat.le_refl _)).grown hg4 (Nat.le_refl _) hb0.size hb0)
    | (at_builtin; refine cat_slice rfl (.tmp 29) (.tmp 30) rfl _ ly q rfl rfl ho4 (hy2.below hw4) hw4.size (p + q) (by omega) (by simp [Hp.out]) ?_; intro A5 c5 w5 ho5 hg5; have hw5 := ho4.grown hg5 (Nat.le_refl _) hw4.size hw4)
    | (at_builtin; refine cat_slice rfl (.tmp 31) (.tmp 32) rfl _ lz r rfl rfl ho5 (hy3.below hw5) hw5.size (p + q + r) (by omega) (by simp [Hp.out, Hq.out]) ?_; intro A6 c6 w6 ho6 hg6; have hw6 := ho5.grown hg6 (Nat.le_refl _) hw5.size hw5))
  have hy := ho6.toBytes (by simpa using hall.out)
  rw [show ([] ++ lx ++ ly ++ lz : List Nat) = lx ++ ly ++ lz by simp] at hy
  have HS : Hid (Leb.sOf (Leb.wordOf a1) = a1) := Leb.sOf_word a1 H1.out.1 H1.out.2
  refine (U_at A6 (p + q + r) c6 _ _ 0 64 _ n p 0 hy T1.out).mono ?_
  rintro e w7 ⟨rfl, k1, rfl⟩
  go_wp2_with fail
  refine (S_at A6 (p + q + r) c6 _ _ p 64 _ a1 (Leb.wordOf a1) (p + q) 0 (hy.drewN k1) T2.out HS.out).mono ?_
  rintro e w7 ⟨rfl, k2, rfl⟩
  go_wp2_with fail
  refine (U_at A6 (p + q + r) c6 _ _ ((p : Int) + (q : Int)) 32 _ c4 (p + q + r) 0 (hy.drewN (k1 + k2)) (by rw [← Int.natCast_add]; exact T3.out)).mono ?_
  rintro e w7 ⟨rfl, k3, rfl⟩
  go_wp2_with (go_at_call 10; refine (known_any _).mono ?_; rintro e w8 ⟨rfl, hk8⟩)
  go_ret
  have h36 := hw6.size
  exact ⟨rfl, (hw.trans (hw6.mono (by omega))).trans ((below_drewN (Below.refl _ _) _).trans (hk8.mono (by simp; omega)))⟩
end Go.Proofs.Ytobifilfhhhamaa

/-
  The walk of the statement NumTwo: what any operation comes to for any two numbers is the document's, or refused.
-/
import Derived.Test.YtnhnbcjffnlicaaDoorNumKr
namespace Go.Proofs.YtnhnbcjffnlicaaDoor
open Go.RowKit Num
set_option linter.unusedVariables false
set_option maxRecDepth 100000 in
set_option maxHeartbeats 2000000 in
theorem NumTwo_walk (w : World) (hT : Tab w) (op : Int) (wf0 : (Lit.int .i64 op).wf = true) (a1 : Int) (wf1 : (Lit.int .u64 a1).wf = true) (a2 : Int) (wf2 : (Lit.int .u64 a2).wf = true) :
    Calls Tryd.prog 4 #[.int .i64 op, .int .u64 a1, .int .u64 a2] w fun e w' => e = .returned (.bool true) ∧ Below w.heap.size w w' := by
  obtain ⟨p0, p1⟩ := i64_wf wf0
  obtain ⟨q0, q1⟩ := u64_wf wf1
  obtain ⟨s0, s1⟩ := u64_wf wf2
  obtain ⟨a, rfl⟩ := Int.eq_ofNat_of_zero_le q0
  obtain ⟨b, rfl⟩ := Int.eq_ofNat_of_zero_le s0
  have hC := code_any op p0 p1
  have hR := ref_any op p0 p1
  have ha : a < 18446744073709551616 := by omega
  have hb : b < 18446744073709551616 := by omega
  have HT := Lib.hid (fun W' (hb : Below w.heap.size w W') => hT.below hb)
  have H1 := Lib.hid (fun W => hC.2.1 W a b ha hb)
  have H2 := Lib.hid (fun W => hR.2.1 W a b ha hb)
  have HKn := Lib.hid known3_any
  have hB : Below w.heap.size w w := Below.refl _ _
  generalize two op a b = r at H1 H2
  obtain ⟨r1, r2⟩ := r
  clear hC hR ha hb wf0 wf1 wf2 p0 p1 q0 q1 s0 s1 hT
  go_enter Tryd.func4, Tryd.ntmps4
  go_wp2_with (first
    | (go_at_call 15; ((with_reducible refine (H1.out _).mono ?_); rintro e w1 ⟨rfl, hb⟩; have hB := below_trans hB hb))
    | (go_at_call 16; ((with_reducible refine (H2.out _).mono ?_); rintro e w2 ⟨rfl, hb⟩; have hB := below_trans hB hb))
    | (go_at_call 14; ((with_reducible refine (HKn.out _ (HT.out _ hB)).mono ?_); rintro e w5 ⟨rfl, hb⟩; have hB := below_trans hB hb)))
  go_ret
  exact ⟨rfl, hB⟩
end Go.Proofs.YtnhnbcjffnlicaaDoor

/-
  The walk of the statement NumOne: what any operation comes to for any number, and of how many bits it is, is the document's.
-/
import Derived.Test.YtnhnbcjffnlicaaDoorNumKr
namespace Go.Proofs.YtnhnbcjffnlicaaDoor
open Go.RowKit Num
set_option linter.unusedVariables false
set_option maxRecDepth 100000 in
set_option maxHeartbeats 2000000 in
theorem NumOne_walk (w : World) (hT : Tab w) (op : Int) (wf0 : (Lit.int .i64 op).wf = true) (a1 : Int) (wf1 : (Lit.int .u64 a1).wf = true) :
    Calls Tryd.prog 3 #[.int .i64 op, .int .u64 a1] w fun e w' => e = .returned (.bool true) ∧ Below w.heap.size w w' := by
  obtain ⟨p0, p1⟩ := i64_wf wf0
  obtain ⟨q0, q1⟩ := u64_wf wf1
  obtain ⟨a, rfl⟩ := Int.eq_ofNat_of_zero_le q0
  have hC := code_any op p0 p1
  have hR := ref_any op p0 p1
  have ha : a < 18446744073709551616 := by omega
  have HT := Lib.hid (fun W' (hb : Below w.heap.size w W') => hT.below hb)
  have H1 := Lib.hid (fun W h => hC.1 W a h ha)
  have H2 := Lib.hid (fun W => hR.1 W a ha)
  have H3 := Lib.hid hC.2.2
  have H4 := Lib.hid hR.2.2
  have HKn := Lib.hid known3_any
  have hB : Below w.heap.size w w := Below.refl _ _
  generalize one op a = r at H1 H2
  generalize kind op = k at H3 H4
  obtain ⟨r1, r2⟩ := r
  obtain ⟨k1, k2, k3, k4⟩ := k
  clear hC hR ha wf0 wf1 p0 p1 q0 q1 hT
  go_enter Tryd.func3, Tryd.ntmps3
  go_wp2_with (first
    | (go_at_call 10; ((with_reducible refine (H1.out _ (HT.out _ hB)).mono ?_); rintro e w1 ⟨rfl, hb⟩; have hB := below_trans hB hb))
    | (go_at_call 11; ((with_reducible refine (H2.out _).mono ?_); rintro e w2 ⟨rfl, hb⟩; have hB := below_trans hB hb))
    | (go_at_call 12; ((with_reducible refine (H3.out _).mono ?_); rintro e w3 ⟨rfl, hb⟩; have hB := below_trans hB hb))
    | (go_at_call 13; ((with_reducible refine (H4.out _).mono ?_); rintro e w4 ⟨rfl, hb⟩; have hB := below_trans hB hb))
    | (go_at_call 14; ((with_reducible refine (HKn.out _ (HT.out _ (hB.alloc hB.size _))).mono ?_); rintro e w5 ⟨rfl, hb⟩; have hB := below_trans (hB.alloc hB.size _) hb)))
  go_ret
  exact ⟨rfl, hB⟩
end Go.Proofs.YtnhnbcjffnlicaaDoor

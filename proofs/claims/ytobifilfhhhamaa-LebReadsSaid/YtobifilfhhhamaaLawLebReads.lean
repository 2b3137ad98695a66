/-
  The walk of the statement LebReads: any bytes, as a number of any bits, are the document's.
-/
import Derived.Test.YtobifilfhhhamaaLebI
namespace Go.Proofs.Ytobifilfhhhamaa
open Go.RowKit
set_option linter.unusedVariables false

set_option maxRecDepth 100000 in
set_option maxHeartbeats 1000000 in
theorem LebReads_out (w : World) (at0 bits : Int) (A : Option Addr) (n c : Nat) (h : 500 < n) :
    Calls Try.prog 3 #[.slice A n c, .int .i64 at0, .int .i64 bits] w fun e w' => e = .returned (.bool true) ∧ Below w.heap.size w w' := by
  have t1 : decide (500 < (n : Int)) = true := by simp; omega
  clear h
  go_enter Try.func3, Try.ntmps3
  go_wp2_with (go_at_call 10; refine (known_any _).mono ?_; rintro e w1 ⟨rfl, hb1⟩)
  go_ret
  exact ⟨rfl, hb1⟩

set_option maxRecDepth 100000 in
set_option maxHeartbeats 1000000 in
theorem LebReads_in (w : World) (at0 bits : Int) (A : Option Addr) (n c : Nat) (l : List Nat) (hy : Bytes w w.heap.size A n c l) (q1 : n ≤ 500) :
    Calls Try.prog 3 #[.slice A n c, .int .i64 at0, .int .i64 bits] w fun e w' => e = .returned (.bool true) ∧ Below w.heap.size w w' := by
  have t1 : decide (500 < (n : Int)) = false := by simp; omega
  have hlt := Lib.hid hy.2.2.2.1
  have HR := Lib.hid (Leb.rd_lt bits.toNat)
  obtain ⟨u, hu⟩ : ∃ u, told false l at0 bits = u := ⟨_, rfl⟩
  obtain ⟨s, hs⟩ : ∃ s, told true l at0 bits = s := ⟨_, rfl⟩
  have HU := Lib.hid hu
  have HS := Lib.hid hs
  clear hu hs HR
  go_enter Try.func3, Try.ntmps3
  go_wp2_with (first
    | (go_at_call 10; refine (known_any _).mono ?_; rintro e w1 ⟨rfl, hb1⟩; have hb1' := hb1.alloc hb1.size (.cells #[] 5))
    | (at_builtin; refine cat_slice rfl (.tmp 25) (.tmp 26) rfl _ l n rfl rfl (Own.empty w1 hb1.size) (hy.below hb1') hb1'.size n (by omega) (by simp) ?_; intro A2 c2 w2 ho2 hg2; have hb2 := (Own.empty w1 hb1.size).grown hg2 (Nat.le_refl _) hb1'.size hb1'))
  rw [List.nil_append] at ho2
  have hy2 := ho2.toBytes hlt.out
  refine (U_any A2 n c2 l _ at0 bits _ hy2).mono ?_
  rw [HU.out]
  rintro e w3 ⟨rfl, k3, rfl⟩
  go_wp2_with fail
  have hb3 : Below w.heap.size w (w2.drewN k3) := below_drewN hb2 k3
  have hr3 := refUall A n c l at0 bits (w2.drewN k3) ((hy.below hb3).more hb3.size) q1
  rw [HU.out] at hr3
  refine hr3.mono ?_
  rintro e w4 ⟨rfl, hb4⟩
  clear hr3
  have hb4' := hb3.trans (hb4.mono hb3.size)
  have hy4 : Bytes w4 w2.heap.size A2 n c2 l := hy2.below ⟨hb4.os, hb4.tape, hb4.output, hb4.size, hb4.block⟩
  go_wp2_with fail
  refine (S_any A2 n c2 l _ at0 bits _ hy4).mono ?_
  rw [HS.out]
  rintro e w5 ⟨rfl, k5, rfl⟩
  go_wp2_with fail
  have hb5 : Below w.heap.size w (w4.drewN k5) := below_drewN hb4' k5
  have hr5 := refSall A n c l at0 bits (w4.drewN k5) ((hy.below hb5).more hb5.size) q1
  rw [HS.out] at hr5
  refine hr5.mono ?_
  rintro e w6 ⟨rfl, hb6⟩
  clear hr5
  have hb6' := hb5.trans (hb6.mono hb5.size)
  have hy6 : Bytes w6 w2.heap.size A2 n c2 l := (hy4.drewN k5).below ((hb6.mono hb4.size : Below w2.heap.size (w4.drewN k5) w6))
  have c1 := run_str w6 hy6
  have c3 := run_str w6 (hy.below hb6')
  obtain ⟨x, x2, x3⟩ := u
  obtain ⟨y, y2, y3⟩ := s
  go_wp2
  go_ret
  exact ⟨rfl, hb6'⟩

theorem LebReads_walk (w : World) (A : Option Addr) (n c : Nat) (l : List Nat) (hy : Bytes w w.heap.size A n c l) (a1 : Int) (_ : (Lit.int .i64 a1).wf = true) (a2 : Int) (_ : (Lit.int .i64 a2).wf = true) :
    Calls Try.prog 3 #[.slice A n c, .int .i64 a1, .int .i64 a2] w fun e w' => e = .returned (.bool true) ∧ Below w.heap.size w w' := by
  by_cases h : 500 < n
  · exact LebReads_out w a1 a2 A n c h
  · exact LebReads_in w a1 a2 A n c l hy (by omega)
end Go.Proofs.Ytobifilfhhhamaa

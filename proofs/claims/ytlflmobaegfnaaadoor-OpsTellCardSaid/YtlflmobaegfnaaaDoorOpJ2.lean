/-
  Layer 5, the document's side: is an opcode an instruction's (a part).
-/
import Derived.Test.YtlflmobaegfnaaaDoorOpS
import Derived.Test.YtlflmobaegfnaaaDoorKitE
namespace Go.Proofs.YtlflmobaegfnaaaDoor
open Go.RowKit
set_option linter.unusedVariables false
set_option linter.unusedSimpArgs false
set_option maxRecDepth 100000

set_option maxHeartbeats 8000000 in
theorem is_p2 (op : Int) (w : World) (h1 : 6 ≤ op) (h2 : op ≤ 7) : Calls Tryd.prog 54 #[.int .i64 op] w fun e w' => e = .returned (.bool false) ∧ w' = w := by
  have a0 : decide (op < 40) = true := by simp; omega
  have a1 : decide (0 ≤ op) = true := by simp; omega
  have a2 : decide (op ≤ 5) = false := by simp; omega
  have a3 : (op == 8) = false := by simp; omega
  have a4 : decide (10 ≤ op) = false := by simp; omega
  have a5 : decide (op ≤ 21) = true := by simp; omega
  have a6 : decide (26 ≤ op) = false := by simp; omega
  have a7 : decide (op ≤ 28) = true := by simp; omega
  have a8 : decide (31 ≤ op) = false := by simp; omega
  have a9 : decide (op ≤ 38) = true := by simp; omega
  clear h1
  clear h2
  go_enter Tryd.func54, Tryd.ntmps54
  go_wp2
  all_goals go_ret
  all_goals exact ⟨rfl, rfl⟩
set_option maxHeartbeats 8000000 in
theorem is_p5 (op : Int) (w : World) (h1 : 10 ≤ op) (h2 : op ≤ 21) : Calls Tryd.prog 54 #[.int .i64 op] w fun e w' => e = .returned (.bool true) ∧ w' = w := by
  have a0 : decide (op < 40) = true := by simp; omega
  have a1 : decide (0 ≤ op) = true := by simp; omega
  have a2 : decide (op ≤ 5) = false := by simp; omega
  have a3 : (op == 8) = false := by simp; omega
  have a4 : decide (10 ≤ op) = true := by simp; omega
  have a5 : decide (op ≤ 21) = true := by simp; omega
  have a6 : decide (26 ≤ op) = false := by simp; omega
  have a7 : decide (op ≤ 28) = true := by simp; omega
  have a8 : decide (31 ≤ op) = false := by simp; omega
  have a9 : decide (op ≤ 38) = true := by simp; omega
  clear h1
  clear h2
  go_enter Tryd.func54, Tryd.ntmps54
  go_wp2
  all_goals go_ret
  all_goals exact ⟨rfl, rfl⟩
set_option maxHeartbeats 8000000 in
theorem is_p8 (op : Int) (w : World) (h1 : 29 ≤ op) (h2 : op ≤ 30) : Calls Tryd.prog 54 #[.int .i64 op] w fun e w' => e = .returned (.bool false) ∧ w' = w := by
  have a0 : decide (op < 40) = true := by simp; omega
  have a1 : decide (0 ≤ op) = true := by simp; omega
  have a2 : decide (op ≤ 5) = false := by simp; omega
  have a3 : (op == 8) = false := by simp; omega
  have a4 : decide (10 ≤ op) = true := by simp; omega
  have a5 : decide (op ≤ 21) = false := by simp; omega
  have a6 : decide (26 ≤ op) = true := by simp; omega
  have a7 : decide (op ≤ 28) = false := by simp; omega
  have a8 : decide (31 ≤ op) = false := by simp; omega
  have a9 : decide (op ≤ 38) = true := by simp; omega
  clear h1
  clear h2
  go_enter Tryd.func54, Tryd.ntmps54
  go_wp2
  all_goals go_ret
  all_goals exact ⟨rfl, rfl⟩
set_option maxHeartbeats 8000000 in
theorem is_p11 (op : Int) (w : World) (h1 : 40 ≤ op) (h2 : op ≤ 40) : Calls Tryd.prog 54 #[.int .i64 op] w fun e w' => e = .returned (.bool true) ∧ w' = w := by
  obtain rfl : op = 40 := by omega
  exact calls_run (told_none _) 60 Tryd.func54 rfl rfl (by as_aux_lemma => kernel_rfl)
set_option maxHeartbeats 8000000 in
theorem is_p14 (op : Int) (w : World) (h1 : 44 ≤ op) (h2 : op ≤ 55) : Calls Tryd.prog 54 #[.int .i64 op] w fun e w' => e = .returned (.bool true) ∧ w' = w := by
  have a0 : decide (op < 40) = false := by simp; omega
  have a1 : decide (op ≤ 255) = true := by simp; omega
  have a2 : (op == 40) = false := by simp; omega
  have a3 : (op == 41) = false := by simp; omega
  have a4 : decide (44 ≤ op) = true := by simp; omega
  have a5 : decide (op ≤ 55) = true := by simp; omega
  have a6 : decide (58 ≤ op) = false := by simp; omega
  have a7 : decide (op ≤ 66) = true := by simp; omega
  have a8 : decide (69 ≤ op) = false := by simp; omega
  have a9 : decide (op ≤ 90) = true := by simp; omega
  have a10 : decide (103 ≤ op) = false := by simp; omega
  have a11 : decide (op ≤ 138) = true := by simp; omega
  have a12 : (op == 167) = false := by simp; omega
  have a13 : (op == 172) = false := by simp; omega
  have a14 : (op == 173) = false := by simp; omega
  have a15 : decide (192 ≤ op) = false := by simp; omega
  have a16 : decide (op ≤ 196) = true := by simp; omega
  have a17 : decide (208 ≤ op) = false := by simp; omega
  have a18 : decide (op ≤ 214) = true := by simp; omega
  clear h1
  clear h2
  go_enter Tryd.func54, Tryd.ntmps54
  go_wp2
  all_goals go_ret
  all_goals exact ⟨rfl, rfl⟩
set_option maxHeartbeats 8000000 in
theorem is_p17 (op : Int) (w : World) (h1 : 67 ≤ op) (h2 : op ≤ 68) : Calls Tryd.prog 54 #[.int .i64 op] w fun e w' => e = .returned (.bool false) ∧ w' = w := by
  have a0 : decide (op < 40) = false := by simp; omega
  have a1 : decide (op ≤ 255) = true := by simp; omega
  have a2 : (op == 40) = false := by simp; omega
  have a3 : (op == 41) = false := by simp; omega
  have a4 : decide (44 ≤ op) = true := by simp; omega
  have a5 : decide (op ≤ 55) = false := by simp; omega
  have a6 : decide (58 ≤ op) = true := by simp; omega
  have a7 : decide (op ≤ 66) = false := by simp; omega
  have a8 : decide (69 ≤ op) = false := by simp; omega
  have a9 : decide (op ≤ 90) = true := by simp; omega
  have a10 : decide (103 ≤ op) = false := by simp; omega
  have a11 : decide (op ≤ 138) = true := by simp; omega
  have a12 : (op == 167) = false := by simp; omega
  have a13 : (op == 172) = false := by simp; omega
  have a14 : (op == 173) = false := by simp; omega
  have a15 : decide (192 ≤ op) = false := by simp; omega
  have a16 : decide (op ≤ 196) = true := by simp; omega
  have a17 : decide (208 ≤ op) = false := by simp; omega
  have a18 : decide (op ≤ 214) = true := by simp; omega
  clear h1
  clear h2
  go_enter Tryd.func54, Tryd.ntmps54
  go_wp2
  all_goals go_ret
  all_goals exact ⟨rfl, rfl⟩
set_option maxHeartbeats 8000000 in
theorem is_p20 (op : Int) (w : World) (h1 : 103 ≤ op) (h2 : op ≤ 138) : Calls Tryd.prog 54 #[.int .i64 op] w fun e w' => e = .returned (.bool true) ∧ w' = w := by
  have a0 : decide (op < 40) = false := by simp; omega
  have a1 : decide (op ≤ 255) = true := by simp; omega
  have a2 : (op == 40) = false := by simp; omega
  have a3 : (op == 41) = false := by simp; omega
  have a4 : decide (44 ≤ op) = true := by simp; omega
  have a5 : decide (op ≤ 55) = false := by simp; omega
  have a6 : decide (58 ≤ op) = true := by simp; omega
  have a7 : decide (op ≤ 66) = false := by simp; omega
  have a8 : decide (69 ≤ op) = true := by simp; omega
  have a9 : decide (op ≤ 90) = false := by simp; omega
  have a10 : decide (103 ≤ op) = true := by simp; omega
  have a11 : decide (op ≤ 138) = true := by simp; omega
  have a12 : (op == 167) = false := by simp; omega
  have a13 : (op == 172) = false := by simp; omega
  have a14 : (op == 173) = false := by simp; omega
  have a15 : decide (192 ≤ op) = false := by simp; omega
  have a16 : decide (op ≤ 196) = true := by simp; omega
  have a17 : decide (208 ≤ op) = false := by simp; omega
  have a18 : decide (op ≤ 214) = true := by simp; omega
  clear h1
  clear h2
  go_enter Tryd.func54, Tryd.ntmps54
  go_wp2
  all_goals go_ret
  all_goals exact ⟨rfl, rfl⟩
set_option maxHeartbeats 8000000 in
theorem is_p23 (op : Int) (w : World) (h1 : 168 ≤ op) (h2 : op ≤ 171) : Calls Tryd.prog 54 #[.int .i64 op] w fun e w' => e = .returned (.bool false) ∧ w' = w := by
  have a0 : decide (op < 40) = false := by simp; omega
  have a1 : decide (op ≤ 255) = true := by simp; omega
  have a2 : (op == 40) = false := by simp; omega
  have a3 : (op == 41) = false := by simp; omega
  have a4 : decide (44 ≤ op) = true := by simp; omega
  have a5 : decide (op ≤ 55) = false := by simp; omega
  have a6 : decide (58 ≤ op) = true := by simp; omega
  have a7 : decide (op ≤ 66) = false := by simp; omega
  have a8 : decide (69 ≤ op) = true := by simp; omega
  have a9 : decide (op ≤ 90) = false := by simp; omega
  have a10 : decide (103 ≤ op) = true := by simp; omega
  have a11 : decide (op ≤ 138) = false := by simp; omega
  have a12 : (op == 167) = false := by simp; omega
  have a13 : (op == 172) = false := by simp; omega
  have a14 : (op == 173) = false := by simp; omega
  have a15 : decide (192 ≤ op) = false := by simp; omega
  have a16 : decide (op ≤ 196) = true := by simp; omega
  have a17 : decide (208 ≤ op) = false := by simp; omega
  have a18 : decide (op ≤ 214) = true := by simp; omega
  clear h1
  clear h2
  go_enter Tryd.func54, Tryd.ntmps54
  go_wp2
  all_goals go_ret
  all_goals exact ⟨rfl, rfl⟩
set_option maxHeartbeats 8000000 in
theorem is_p26 (op : Int) (w : World) (h1 : 174 ≤ op) (h2 : op ≤ 191) : Calls Tryd.prog 54 #[.int .i64 op] w fun e w' => e = .returned (.bool false) ∧ w' = w := by
  have a0 : decide (op < 40) = false := by simp; omega
  have a1 : decide (op ≤ 255) = true := by simp; omega
  have a2 : (op == 40) = false := by simp; omega
  have a3 : (op == 41) = false := by simp; omega
  have a4 : decide (44 ≤ op) = true := by simp; omega
  have a5 : decide (op ≤ 55) = false := by simp; omega
  have a6 : decide (58 ≤ op) = true := by simp; omega
  have a7 : decide (op ≤ 66) = false := by simp; omega
  have a8 : decide (69 ≤ op) = true := by simp; omega
  have a9 : decide (op ≤ 90) = false := by simp; omega
  have a10 : decide (103 ≤ op) = true := by simp; omega
  have a11 : decide (op ≤ 138) = false := by simp; omega
  have a12 : (op == 167) = false := by simp; omega
  have a13 : (op == 172) = false := by simp; omega
  have a14 : (op == 173) = false := by simp; omega
  have a15 : decide (192 ≤ op) = false := by simp; omega
  have a16 : decide (op ≤ 196) = true := by simp; omega
  have a17 : decide (208 ≤ op) = false := by simp; omega
  have a18 : decide (op ≤ 214) = true := by simp; omega
  clear h1
  clear h2
  go_enter Tryd.func54, Tryd.ntmps54
  go_wp2
  all_goals go_ret
  all_goals exact ⟨rfl, rfl⟩
set_option maxHeartbeats 8000000 in
theorem is_p29 (op : Int) (w : World) (h1 : 208 ≤ op) (h2 : op ≤ 214) : Calls Tryd.prog 54 #[.int .i64 op] w fun e w' => e = .returned (.bool true) ∧ w' = w := by
  have a0 : decide (op < 40) = false := by simp; omega
  have a1 : decide (op ≤ 255) = true := by simp; omega
  have a2 : (op == 40) = false := by simp; omega
  have a3 : (op == 41) = false := by simp; omega
  have a4 : decide (44 ≤ op) = true := by simp; omega
  have a5 : decide (op ≤ 55) = false := by simp; omega
  have a6 : decide (58 ≤ op) = true := by simp; omega
  have a7 : decide (op ≤ 66) = false := by simp; omega
  have a8 : decide (69 ≤ op) = true := by simp; omega
  have a9 : decide (op ≤ 90) = false := by simp; omega
  have a10 : decide (103 ≤ op) = true := by simp; omega
  have a11 : decide (op ≤ 138) = false := by simp; omega
  have a12 : (op == 167) = false := by simp; omega
  have a13 : (op == 172) = false := by simp; omega
  have a14 : (op == 173) = false := by simp; omega
  have a15 : decide (192 ≤ op) = true := by simp; omega
  have a16 : decide (op ≤ 196) = false := by simp; omega
  have a17 : decide (208 ≤ op) = true := by simp; omega
  have a18 : decide (op ≤ 214) = true := by simp; omega
  clear h1
  clear h2
  go_enter Tryd.func54, Tryd.ntmps54
  go_wp2
  all_goals go_ret
  all_goals exact ⟨rfl, rfl⟩
set_option maxHeartbeats 8000000 in
theorem is_p32 (op : Int) (w : World) (h1 : 64256 ≤ op) (h2 : op ≤ 64286) : Calls Tryd.prog 54 #[.int .i64 op] w fun e w' => e = .returned (.bool true) ∧ w' = w := by
  have a0 : decide (op < 40) = false := by simp; omega
  have a1 : decide (op ≤ 255) = false := by simp; omega
  have a2 : decide (64256 ≤ op) = true := by simp; omega
  have a3 : decide (op ≤ 64286) = true := by simp; omega
  have a4 : decide (64520 ≤ op) = false := by simp; omega
  have a5 : decide (op ≤ 64529) = true := by simp; omega
  clear h1
  clear h2
  go_enter Tryd.func54, Tryd.ntmps54
  go_wp2
  all_goals go_ret
  all_goals exact ⟨rfl, rfl⟩
set_option maxHeartbeats 8000000 in
theorem is_p35 (op : Int) (w : World) (h1 : 64530 ≤ op) : Calls Tryd.prog 54 #[.int .i64 op] w fun e w' => e = .returned (.bool false) ∧ w' = w := by
  have a0 : decide (op < 40) = false := by simp; omega
  have a1 : decide (op ≤ 255) = false := by simp; omega
  have a2 : decide (64256 ≤ op) = true := by simp; omega
  have a3 : decide (op ≤ 64286) = false := by simp; omega
  have a4 : decide (64520 ≤ op) = true := by simp; omega
  have a5 : decide (op ≤ 64529) = false := by simp; omega
  clear h1
  go_enter Tryd.func54, Tryd.ntmps54
  go_wp2
  all_goals go_ret
  all_goals exact ⟨rfl, rfl⟩
end Go.Proofs.YtlflmobaegfnaaaDoor

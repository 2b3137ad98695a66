/-
  Layer 5, the document's side: Known (the pieces).
-/
import Derived.Test.YtlflmobaegfnaaaDoorOpS
import Derived.Test.YtlflmobaegfnaaaDoorKitE
namespace Go.Proofs.YtlflmobaegfnaaaDoor
open Go.RowKit
set_option linter.unusedVariables false
set_option linter.unusedSimpArgs false
set_option maxRecDepth 100000

set_option maxHeartbeats 8000000 in
theorem kn_p0 (op : Int) (w : World) (h2 : op ≤ 41) : Calls Tryd.prog 31 #[.int .i64 op] w fun e w' => e = .returned (.bool false) ∧ w' = w := by
  have a0 : (op == 42) = false := by simp; omega
  have a1 : (op == 43) = false := by simp; omega
  have a2 : (op == 56) = false := by simp; omega
  have a3 : (op == 57) = false := by simp; omega
  have a4 : (op == 67) = false := by simp; omega
  have a5 : (op == 68) = false := by simp; omega
  have a6 : decide (91 ≤ op) = false := by simp; omega
  have a7 : decide (op ≤ 102) = true := by simp; omega
  have a8 : decide (139 ≤ op) = false := by simp; omega
  have a9 : decide (op ≤ 166) = true := by simp; omega
  have a10 : decide (168 ≤ op) = false := by simp; omega
  have a11 : decide (op ≤ 171) = true := by simp; omega
  have a12 : decide (174 ≤ op) = false := by simp; omega
  have a13 : decide (op ≤ 191) = true := by simp; omega
  have a14 : decide (64512 ≤ op) = false := by simp; omega
  have a15 : decide (op ≤ 64519) = true := by simp; omega
  have a16 : (op == 253) = false := by simp; omega
  clear h2
  go_enter Tryd.func31, Tryd.ntmps31
  go_wp2
  all_goals go_ret
  all_goals exact ⟨rfl, rfl⟩
set_option maxHeartbeats 8000000 in
theorem kn_p1 (op : Int) (w : World) (h1 : 42 ≤ op) (h2 : op ≤ 42) : Calls Tryd.prog 31 #[.int .i64 op] w fun e w' => e = .returned (.bool true) ∧ w' = w := by
  obtain rfl : op = 42 := by omega
  exact calls_run (told_none _) 60 Tryd.func31 rfl rfl (by as_aux_lemma => kernel_rfl)
set_option maxHeartbeats 8000000 in
theorem kn_p2 (op : Int) (w : World) (h1 : 43 ≤ op) (h2 : op ≤ 43) : Calls Tryd.prog 31 #[.int .i64 op] w fun e w' => e = .returned (.bool true) ∧ w' = w := by
  obtain rfl : op = 43 := by omega
  exact calls_run (told_none _) 60 Tryd.func31 rfl rfl (by as_aux_lemma => kernel_rfl)
set_option maxHeartbeats 8000000 in
theorem kn_p3 (op : Int) (w : World) (h1 : 44 ≤ op) (h2 : op ≤ 55) : Calls Tryd.prog 31 #[.int .i64 op] w fun e w' => e = .returned (.bool false) ∧ w' = w := by
  have a0 : (op == 42) = false := by simp; omega
  have a1 : (op == 43) = false := by simp; omega
  have a2 : (op == 56) = false := by simp; omega
  have a3 : (op == 57) = false := by simp; omega
  have a4 : (op == 67) = false := by simp; omega
  have a5 : (op == 68) = false := by simp; omega
  have a6 : decide (91 ≤ op) = false := by simp; omega
  have a7 : decide (op ≤ 102) = true := by simp; omega
  have a8 : decide (139 ≤ op) = false := by simp; omega
  have a9 : decide (op ≤ 166) = true := by simp; omega
  have a10 : decide (168 ≤ op) = false := by simp; omega
  have a11 : decide (op ≤ 171) = true := by simp; omega
  have a12 : decide (174 ≤ op) = false := by simp; omega
  have a13 : decide (op ≤ 191) = true := by simp; omega
  have a14 : decide (64512 ≤ op) = false := by simp; omega
  have a15 : decide (op ≤ 64519) = true := by simp; omega
  have a16 : (op == 253) = false := by simp; omega
  clear h1
  clear h2
  go_enter Tryd.func31, Tryd.ntmps31
  go_wp2
  all_goals go_ret
  all_goals exact ⟨rfl, rfl⟩
set_option maxHeartbeats 8000000 in
theorem kn_p4 (op : Int) (w : World) (h1 : 56 ≤ op) (h2 : op ≤ 56) : Calls Tryd.prog 31 #[.int .i64 op] w fun e w' => e = .returned (.bool true) ∧ w' = w := by
  obtain rfl : op = 56 := by omega
  exact calls_run (told_none _) 60 Tryd.func31 rfl rfl (by as_aux_lemma => kernel_rfl)
set_option maxHeartbeats 8000000 in
theorem kn_p5 (op : Int) (w : World) (h1 : 57 ≤ op) (h2 : op ≤ 57) : Calls Tryd.prog 31 #[.int .i64 op] w fun e w' => e = .returned (.bool true) ∧ w' = w := by
  obtain rfl : op = 57 := by omega
  exact calls_run (told_none _) 60 Tryd.func31 rfl rfl (by as_aux_lemma => kernel_rfl)
set_option maxHeartbeats 8000000 in
theorem kn_p6 (op : Int) (w : World) (h1 : 58 ≤ op) (h2 : op ≤ 66) : Calls Tryd.prog 31 #[.int .i64 op] w fun e w' => e = .returned (.bool false) ∧ w' = w := by
  have a0 : (op == 42) = false := by simp; omega
  have a1 : (op == 43) = false := by simp; omega
  have a2 : (op == 56) = false := by simp; omega
  have a3 : (op == 57) = false := by simp; omega
  have a4 : (op == 67) = false := by simp; omega
  have a5 : (op == 68) = false := by simp; omega
  have a6 : decide (91 ≤ op) = false := by simp; omega
  have a7 : decide (op ≤ 102) = true := by simp; omega
  have a8 : decide (139 ≤ op) = false := by simp; omega
  have a9 : decide (op ≤ 166) = true := by simp; omega
  have a10 : decide (168 ≤ op) = false := by simp; omega
  have a11 : decide (op ≤ 171) = true := by simp; omega
  have a12 : decide (174 ≤ op) = false := by simp; omega
  have a13 : decide (op ≤ 191) = true := by simp; omega
  have a14 : decide (64512 ≤ op) = false := by simp; omega
  have a15 : decide (op ≤ 64519) = true := by simp; omega
  have a16 : (op == 253) = false := by simp; omega
  clear h1
  clear h2
  go_enter Tryd.func31, Tryd.ntmps31
  go_wp2
  all_goals go_ret
  all_goals exact ⟨rfl, rfl⟩
set_option maxHeartbeats 8000000 in
theorem kn_p7 (op : Int) (w : World) (h1 : 67 ≤ op) (h2 : op ≤ 67) : Calls Tryd.prog 31 #[.int .i64 op] w fun e w' => e = .returned (.bool true) ∧ w' = w := by
  obtain rfl : op = 67 := by omega
  exact calls_run (told_none _) 60 Tryd.func31 rfl rfl (by as_aux_lemma => kernel_rfl)
set_option maxHeartbeats 8000000 in
theorem kn_p8 (op : Int) (w : World) (h1 : 68 ≤ op) (h2 : op ≤ 68) : Calls Tryd.prog 31 #[.int .i64 op] w fun e w' => e = .returned (.bool true) ∧ w' = w := by
  obtain rfl : op = 68 := by omega
  exact calls_run (told_none _) 60 Tryd.func31 rfl rfl (by as_aux_lemma => kernel_rfl)
set_option maxHeartbeats 8000000 in
theorem kn_p9 (op : Int) (w : World) (h1 : 69 ≤ op) (h2 : op ≤ 90) : Calls Tryd.prog 31 #[.int .i64 op] w fun e w' => e = .returned (.bool false) ∧ w' = w := by
  have a0 : (op == 42) = false := by simp; omega
  have a1 : (op == 43) = false := by simp; omega
  have a2 : (op == 56) = false := by simp; omega
  have a3 : (op == 57) = false := by simp; omega
  have a4 : (op == 67) = false := by simp; omega
  have a5 : (op == 68) = false := by simp; omega
  have a6 : decide (91 ≤ op) = false := by simp; omega
  have a7 : decide (op ≤ 102) = true := by simp; omega
  have a8 : decide (139 ≤ op) = false := by simp; omega
  have a9 : decide (op ≤ 166) = true := by simp; omega
  have a10 : decide (168 ≤ op) = false := by simp; omega
  have a11 : decide (op ≤ 171) = true := by simp; omega
  have a12 : decide (174 ≤ op) = false := by simp; omega
  have a13 : decide (op ≤ 191) = true := by simp; omega
  have a14 : decide (64512 ≤ op) = false := by simp; omega
  have a15 : decide (op ≤ 64519) = true := by simp; omega
  have a16 : (op == 253) = false := by simp; omega
  clear h1
  clear h2
  go_enter Tryd.func31, Tryd.ntmps31
  go_wp2
  all_goals go_ret
  all_goals exact ⟨rfl, rfl⟩
set_option maxHeartbeats 8000000 in
theorem kn_p10 (op : Int) (w : World) (h1 : 91 ≤ op) (h2 : op ≤ 102) : Calls Tryd.prog 31 #[.int .i64 op] w fun e w' => e = .returned (.bool true) ∧ w' = w := by
  have a0 : (op == 42) = false := by simp; omega
  have a1 : (op == 43) = false := by simp; omega
  have a2 : (op == 56) = false := by simp; omega
  have a3 : (op == 57) = false := by simp; omega
  have a4 : (op == 67) = false := by simp; omega
  have a5 : (op == 68) = false := by simp; omega
  have a6 : decide (91 ≤ op) = true := by simp; omega
  have a7 : decide (op ≤ 102) = true := by simp; omega
  have a8 : decide (139 ≤ op) = false := by simp; omega
  have a9 : decide (op ≤ 166) = true := by simp; omega
  have a10 : decide (168 ≤ op) = false := by simp; omega
  have a11 : decide (op ≤ 171) = true := by simp; omega
  have a12 : decide (174 ≤ op) = false := by simp; omega
  have a13 : decide (op ≤ 191) = true := by simp; omega
  have a14 : decide (64512 ≤ op) = false := by simp; omega
  have a15 : decide (op ≤ 64519) = true := by simp; omega
  have a16 : (op == 253) = false := by simp; omega
  clear h1
  clear h2
  go_enter Tryd.func31, Tryd.ntmps31
  go_wp2
  all_goals go_ret
  all_goals exact ⟨rfl, rfl⟩
set_option maxHeartbeats 8000000 in
theorem kn_p11 (op : Int) (w : World) (h1 : 103 ≤ op) (h2 : op ≤ 138) : Calls Tryd.prog 31 #[.int .i64 op] w fun e w' => e = .returned (.bool false) ∧ w' = w := by
  have a0 : (op == 42) = false := by simp; omega
  have a1 : (op == 43) = false := by simp; omega
  have a2 : (op == 56) = false := by simp; omega
  have a3 : (op == 57) = false := by simp; omega
  have a4 : (op == 67) = false := by simp; omega
  have a5 : (op == 68) = false := by simp; omega
  have a6 : decide (91 ≤ op) = true := by simp; omega
  have a7 : decide (op ≤ 102) = false := by simp; omega
  have a8 : decide (139 ≤ op) = false := by simp; omega
  have a9 : decide (op ≤ 166) = true := by simp; omega
  have a10 : decide (168 ≤ op) = false := by simp; omega
  have a11 : decide (op ≤ 171) = true := by simp; omega
  have a12 : decide (174 ≤ op) = false := by simp; omega
  have a13 : decide (op ≤ 191) = true := by simp; omega
  have a14 : decide (64512 ≤ op) = false := by simp; omega
  have a15 : decide (op ≤ 64519) = true := by simp; omega
  have a16 : (op == 253) = false := by simp; omega
  clear h1
  clear h2
  go_enter Tryd.func31, Tryd.ntmps31
  go_wp2
  all_goals go_ret
  all_goals exact ⟨rfl, rfl⟩
set_option maxHeartbeats 8000000 in
theorem kn_p12 (op : Int) (w : World) (h1 : 139 ≤ op) (h2 : op ≤ 166) : Calls Tryd.prog 31 #[.int .i64 op] w fun e w' => e = .returned (.bool true) ∧ w' = w := by
  have a0 : (op == 42) = false := by simp; omega
  have a1 : (op == 43) = false := by simp; omega
  have a2 : (op == 56) = false := by simp; omega
  have a3 : (op == 57) = false := by simp; omega
  have a4 : (op == 67) = false := by simp; omega
  have a5 : (op == 68) = false := by simp; omega
  have a6 : decide (91 ≤ op) = true := by simp; omega
  have a7 : decide (op ≤ 102) = false := by simp; omega
  have a8 : decide (139 ≤ op) = true := by simp; omega
  have a9 : decide (op ≤ 166) = true := by simp; omega
  have a10 : decide (168 ≤ op) = false := by simp; omega
  have a11 : decide (op ≤ 171) = true := by simp; omega
  have a12 : decide (174 ≤ op) = false := by simp; omega
  have a13 : decide (op ≤ 191) = true := by simp; omega
  have a14 : decide (64512 ≤ op) = false := by simp; omega
  have a15 : decide (op ≤ 64519) = true := by simp; omega
  have a16 : (op == 253) = false := by simp; omega
  clear h1
  clear h2
  go_enter Tryd.func31, Tryd.ntmps31
  go_wp2
  all_goals go_ret
  all_goals exact ⟨rfl, rfl⟩
set_option maxHeartbeats 8000000 in
theorem kn_p13 (op : Int) (w : World) (h1 : 167 ≤ op) (h2 : op ≤ 167) : Calls Tryd.prog 31 #[.int .i64 op] w fun e w' => e = .returned (.bool false) ∧ w' = w := by
  obtain rfl : op = 167 := by omega
  exact calls_run (told_none _) 60 Tryd.func31 rfl rfl (by as_aux_lemma => kernel_rfl)
set_option maxHeartbeats 8000000 in
theorem kn_p14 (op : Int) (w : World) (h1 : 168 ≤ op) (h2 : op ≤ 171) : Calls Tryd.prog 31 #[.int .i64 op] w fun e w' => e = .returned (.bool true) ∧ w' = w := by
  have a0 : (op == 42) = false := by simp; omega
  have a1 : (op == 43) = false := by simp; omega
  have a2 : (op == 56) = false := by simp; omega
  have a3 : (op == 57) = false := by simp; omega
  have a4 : (op == 67) = false := by simp; omega
  have a5 : (op == 68) = false := by simp; omega
  have a6 : decide (91 ≤ op) = true := by simp; omega
  have a7 : decide (op ≤ 102) = false := by simp; omega
  have a8 : decide (139 ≤ op) = true := by simp; omega
  have a9 : decide (op ≤ 166) = false := by simp; omega
  have a10 : decide (168 ≤ op) = true := by simp; omega
  have a11 : decide (op ≤ 171) = true := by simp; omega
  have a12 : decide (174 ≤ op) = false := by simp; omega
  have a13 : decide (op ≤ 191) = true := by simp; omega
  have a14 : decide (64512 ≤ op) = false := by simp; omega
  have a15 : decide (op ≤ 64519) = true := by simp; omega
  have a16 : (op == 253) = false := by simp; omega
  clear h1
  clear h2
  go_enter Tryd.func31, Tryd.ntmps31
  go_wp2
  all_goals go_ret
  all_goals exact ⟨rfl, rfl⟩
set_option maxHeartbeats 8000000 in
theorem kn_p15 (op : Int) (w : World) (h1 : 172 ≤ op) (h2 : op ≤ 173) : Calls Tryd.prog 31 #[.int .i64 op] w fun e w' => e = .returned (.bool false) ∧ w' = w := by
  have a0 : (op == 42) = false := by simp; omega
  have a1 : (op == 43) = false := by simp; omega
  have a2 : (op == 56) = false := by simp; omega
  have a3 : (op == 57) = false := by simp; omega
  have a4 : (op == 67) = false := by simp; omega
  have a5 : (op == 68) = false := by simp; omega
  have a6 : decide (91 ≤ op) = true := by simp; omega
  have a7 : decide (op ≤ 102) = false := by simp; omega
  have a8 : decide (139 ≤ op) = true := by simp; omega
  have a9 : decide (op ≤ 166) = false := by simp; omega
  have a10 : decide (168 ≤ op) = true := by simp; omega
  have a11 : decide (op ≤ 171) = false := by simp; omega
  have a12 : decide (174 ≤ op) = false := by simp; omega
  have a13 : decide (op ≤ 191) = true := by simp; omega
  have a14 : decide (64512 ≤ op) = false := by simp; omega
  have a15 : decide (op ≤ 64519) = true := by simp; omega
  have a16 : (op == 253) = false := by simp; omega
  clear h1
  clear h2
  go_enter Tryd.func31, Tryd.ntmps31
  go_wp2
  all_goals go_ret
  all_goals exact ⟨rfl, rfl⟩
set_option maxHeartbeats 8000000 in
theorem kn_p16 (op : Int) (w : World) (h1 : 174 ≤ op) (h2 : op ≤ 191) : Calls Tryd.prog 31 #[.int .i64 op] w fun e w' => e = .returned (.bool true) ∧ w' = w := by
  have a0 : (op == 42) = false := by simp; omega
  have a1 : (op == 43) = false := by simp; omega
  have a2 : (op == 56) = false := by simp; omega
  have a3 : (op == 57) = false := by simp; omega
  have a4 : (op == 67) = false := by simp; omega
  have a5 : (op == 68) = false := by simp; omega
  have a6 : decide (91 ≤ op) = true := by simp; omega
  have a7 : decide (op ≤ 102) = false := by simp; omega
  have a8 : decide (139 ≤ op) = true := by simp; omega
  have a9 : decide (op ≤ 166) = false := by simp; omega
  have a10 : decide (168 ≤ op) = true := by simp; omega
  have a11 : decide (op ≤ 171) = false := by simp; omega
  have a12 : decide (174 ≤ op) = true := by simp; omega
  have a13 : decide (op ≤ 191) = true := by simp; omega
  have a14 : decide (64512 ≤ op) = false := by simp; omega
  have a15 : decide (op ≤ 64519) = true := by simp; omega
  have a16 : (op == 253) = false := by simp; omega
  clear h1
  clear h2
  go_enter Tryd.func31, Tryd.ntmps31
  go_wp2
  all_goals go_ret
  all_goals exact ⟨rfl, rfl⟩
set_option maxHeartbeats 8000000 in
theorem kn_p17 (op : Int) (w : World) (h1 : 192 ≤ op) (h2 : op ≤ 252) : Calls Tryd.prog 31 #[.int .i64 op] w fun e w' => e = .returned (.bool false) ∧ w' = w := by
  have a0 : (op == 42) = false := by simp; omega
  have a1 : (op == 43) = false := by simp; omega
  have a2 : (op == 56) = false := by simp; omega
  have a3 : (op == 57) = false := by simp; omega
  have a4 : (op == 67) = false := by simp; omega
  have a5 : (op == 68) = false := by simp; omega
  have a6 : decide (91 ≤ op) = true := by simp; omega
  have a7 : decide (op ≤ 102) = false := by simp; omega
  have a8 : decide (139 ≤ op) = true := by simp; omega
  have a9 : decide (op ≤ 166) = false := by simp; omega
  have a10 : decide (168 ≤ op) = true := by simp; omega
  have a11 : decide (op ≤ 171) = false := by simp; omega
  have a12 : decide (174 ≤ op) = true := by simp; omega
  have a13 : decide (op ≤ 191) = false := by simp; omega
  have a14 : decide (64512 ≤ op) = false := by simp; omega
  have a15 : decide (op ≤ 64519) = true := by simp; omega
  have a16 : (op == 253) = false := by simp; omega
  clear h1
  clear h2
  go_enter Tryd.func31, Tryd.ntmps31
  go_wp2
  all_goals go_ret
  all_goals exact ⟨rfl, rfl⟩
set_option maxHeartbeats 8000000 in
theorem kn_p18 (op : Int) (w : World) (h1 : 253 ≤ op) (h2 : op ≤ 253) : Calls Tryd.prog 31 #[.int .i64 op] w fun e w' => e = .returned (.bool true) ∧ w' = w := by
  obtain rfl : op = 253 := by omega
  exact calls_run (told_none _) 60 Tryd.func31 rfl rfl (by as_aux_lemma => kernel_rfl)
set_option maxHeartbeats 8000000 in
theorem kn_p19 (op : Int) (w : World) (h1 : 254 ≤ op) (h2 : op ≤ 64511) : Calls Tryd.prog 31 #[.int .i64 op] w fun e w' => e = .returned (.bool false) ∧ w' = w := by
  have a0 : (op == 42) = false := by simp; omega
  have a1 : (op == 43) = false := by simp; omega
  have a2 : (op == 56) = false := by simp; omega
  have a3 : (op == 57) = false := by simp; omega
  have a4 : (op == 67) = false := by simp; omega
  have a5 : (op == 68) = false := by simp; omega
  have a6 : decide (91 ≤ op) = true := by simp; omega
  have a7 : decide (op ≤ 102) = false := by simp; omega
  have a8 : decide (139 ≤ op) = true := by simp; omega
  have a9 : decide (op ≤ 166) = false := by simp; omega
  have a10 : decide (168 ≤ op) = true := by simp; omega
  have a11 : decide (op ≤ 171) = false := by simp; omega
  have a12 : decide (174 ≤ op) = true := by simp; omega
  have a13 : decide (op ≤ 191) = false := by simp; omega
  have a14 : decide (64512 ≤ op) = false := by simp; omega
  have a15 : decide (op ≤ 64519) = true := by simp; omega
  have a16 : (op == 253) = false := by simp; omega
  clear h1
  clear h2
  go_enter Tryd.func31, Tryd.ntmps31
  go_wp2
  all_goals go_ret
  all_goals exact ⟨rfl, rfl⟩
set_option maxHeartbeats 8000000 in
theorem kn_p20 (op : Int) (w : World) (h1 : 64512 ≤ op) (h2 : op ≤ 64519) : Calls Tryd.prog 31 #[.int .i64 op] w fun e w' => e = .returned (.bool true) ∧ w' = w := by
  have a0 : (op == 42) = false := by simp; omega
  have a1 : (op == 43) = false := by simp; omega
  have a2 : (op == 56) = false := by simp; omega
  have a3 : (op == 57) = false := by simp; omega
  have a4 : (op == 67) = false := by simp; omega
  have a5 : (op == 68) = false := by simp; omega
  have a6 : decide (91 ≤ op) = true := by simp; omega
  have a7 : decide (op ≤ 102) = false := by simp; omega
  have a8 : decide (139 ≤ op) = true := by simp; omega
  have a9 : decide (op ≤ 166) = false := by simp; omega
  have a10 : decide (168 ≤ op) = true := by simp; omega
  have a11 : decide (op ≤ 171) = false := by simp; omega
  have a12 : decide (174 ≤ op) = true := by simp; omega
  have a13 : decide (op ≤ 191) = false := by simp; omega
  have a14 : decide (64512 ≤ op) = true := by simp; omega
  have a15 : decide (op ≤ 64519) = true := by simp; omega
  have a16 : (op == 253) = false := by simp; omega
  clear h1
  clear h2
  go_enter Tryd.func31, Tryd.ntmps31
  go_wp2
  all_goals go_ret
  all_goals exact ⟨rfl, rfl⟩
set_option maxHeartbeats 8000000 in
theorem kn_p21 (op : Int) (w : World) (h1 : 64520 ≤ op) : Calls Tryd.prog 31 #[.int .i64 op] w fun e w' => e = .returned (.bool false) ∧ w' = w := by
  have a0 : (op == 42) = false := by simp; omega
  have a1 : (op == 43) = false := by simp; omega
  have a2 : (op == 56) = false := by simp; omega
  have a3 : (op == 57) = false := by simp; omega
  have a4 : (op == 67) = false := by simp; omega
  have a5 : (op == 68) = false := by simp; omega
  have a6 : decide (91 ≤ op) = true := by simp; omega
  have a7 : decide (op ≤ 102) = false := by simp; omega
  have a8 : decide (139 ≤ op) = true := by simp; omega
  have a9 : decide (op ≤ 166) = false := by simp; omega
  have a10 : decide (168 ≤ op) = true := by simp; omega
  have a11 : decide (op ≤ 171) = false := by simp; omega
  have a12 : decide (174 ≤ op) = true := by simp; omega
  have a13 : decide (op ≤ 191) = false := by simp; omega
  have a14 : decide (64512 ≤ op) = true := by simp; omega
  have a15 : decide (op ≤ 64519) = false := by simp; omega
  have a16 : (op == 253) = false := by simp; omega
  clear h1
  go_enter Tryd.func31, Tryd.ntmps31
  go_wp2
  all_goals go_ret
  all_goals exact ⟨rfl, rfl⟩
end Go.Proofs.YtlflmobaegfnaaaDoor

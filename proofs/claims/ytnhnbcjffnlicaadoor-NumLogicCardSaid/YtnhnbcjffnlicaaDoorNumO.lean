/-
  What an operation is, by the document: walked.
-/
import Derived.Test.YtnhnbcjffnlicaaDoorNumA
namespace Go.Proofs.YtnhnbcjffnlicaaDoor
open Go.RowKit Num
set_option linter.unusedVariables false

def K4 (p f t m : Int) (W : World) (e : Ending) (W' : World) : Prop := e = .returned (.agg #[.int .i64 p, .int .i64 f, .int .i64 t, .int .i64 m]) ∧ Below W.heap.size W W'
theorem agg4 {p q f t m : Int} (h : p = q) : Ending.returned (.agg #[.int .i64 p, .int .i64 f, .int .i64 t, .int .i64 m]) = .returned (.agg #[.int .i64 q, .int .i64 f, .int .i64 t, .int .i64 m]) := by rw [h]
set_option maxRecDepth 100000 in
set_option maxHeartbeats 1000000 in
theorem of_69 (op : Int) (h0 : op = 69) (W : World) : Calls Tryd.prog 13 #[.int .i64 op] W (K4 (0) 32 32 1 W) := by
  subst h0
  go_enter Tryd.func13, Tryd.ntmps13
  go_wp2
  exact bodyPost_ret (v := .agg #[.int .i64 0, .int .i64 32, .int .i64 32, .int .i64 1]) (by simp [results, Tryd.results13, go_sem]) rfl ⟨agg4 (by omega), (by repeat (first | exact Below.refl _ _ | refine Below.setCell ?_ (by simp) _ | refine Below.alloc ?_ (by simp; try omega) _))⟩
set_option maxRecDepth 100000 in
set_option maxHeartbeats 1000000 in
theorem of_70 (op : Int) (h0 : 70 ≤ op) (h1 : op ≤ 79) (W : World) : Calls Tryd.prog 13 #[.int .i64 op] W (K4 (op - 60) 32 32 2 W) := by
  have e172 : (op == 172) = false := by rw [beq_eq_false_iff_ne]; omega
  have e173 : (op == 173) = false := by rw [beq_eq_false_iff_ne]; omega
  have e192 : (op == 192) = false := by rw [beq_eq_false_iff_ne]; omega
  have e193 : (op == 193) = false := by rw [beq_eq_false_iff_ne]; omega
  go_enter Tryd.func13, Tryd.ntmps13
  go_wp2
  exact bodyPost_ret (v := .agg #[.int .i64 (10 + op - 70), .int .i64 32, .int .i64 32, .int .i64 2]) (by simp [results, Tryd.results13, go_sem]) rfl ⟨agg4 (by omega), (by repeat (first | exact Below.refl _ _ | refine Below.setCell ?_ (by simp) _ | refine Below.alloc ?_ (by simp; try omega) _))⟩
set_option maxRecDepth 100000 in
set_option maxHeartbeats 1000000 in
theorem of_80 (op : Int) (h0 : op = 80) (W : World) : Calls Tryd.prog 13 #[.int .i64 op] W (K4 (0) 64 32 1 W) := by
  subst h0
  go_enter Tryd.func13, Tryd.ntmps13
  go_wp2
  exact bodyPost_ret (v := .agg #[.int .i64 0, .int .i64 64, .int .i64 32, .int .i64 1]) (by simp [results, Tryd.results13, go_sem]) rfl ⟨agg4 (by omega), (by repeat (first | exact Below.refl _ _ | refine Below.setCell ?_ (by simp) _ | refine Below.alloc ?_ (by simp; try omega) _))⟩
set_option maxRecDepth 100000 in
set_option maxHeartbeats 1000000 in
theorem of_81 (op : Int) (h0 : 81 ≤ op) (h1 : op ≤ 90) (W : World) : Calls Tryd.prog 13 #[.int .i64 op] W (K4 (op - 71) 64 32 2 W) := by
  have e172 : (op == 172) = false := by rw [beq_eq_false_iff_ne]; omega
  have e173 : (op == 173) = false := by rw [beq_eq_false_iff_ne]; omega
  have e192 : (op == 192) = false := by rw [beq_eq_false_iff_ne]; omega
  have e193 : (op == 193) = false := by rw [beq_eq_false_iff_ne]; omega
  go_enter Tryd.func13, Tryd.ntmps13
  go_wp2
  exact bodyPost_ret (v := .agg #[.int .i64 (10 + op - 81), .int .i64 64, .int .i64 32, .int .i64 2]) (by simp [results, Tryd.results13, go_sem]) rfl ⟨agg4 (by omega), (by repeat (first | exact Below.refl _ _ | refine Below.setCell ?_ (by simp) _ | refine Below.alloc ?_ (by simp; try omega) _))⟩
set_option maxRecDepth 100000 in
set_option maxHeartbeats 1000000 in
theorem of_103 (op : Int) (h0 : 103 ≤ op) (h1 : op ≤ 105) (W : World) : Calls Tryd.prog 13 #[.int .i64 op] W (K4 (op - 102) 32 32 1 W) := by
  have e172 : (op == 172) = false := by rw [beq_eq_false_iff_ne]; omega
  have e173 : (op == 173) = false := by rw [beq_eq_false_iff_ne]; omega
  have e192 : (op == 192) = false := by rw [beq_eq_false_iff_ne]; omega
  have e193 : (op == 193) = false := by rw [beq_eq_false_iff_ne]; omega
  go_enter Tryd.func13, Tryd.ntmps13
  go_wp2
  exact bodyPost_ret (v := .agg #[.int .i64 (1 + op - 103), .int .i64 32, .int .i64 32, .int .i64 1]) (by simp [results, Tryd.results13, go_sem]) rfl ⟨agg4 (by omega), (by repeat (first | exact Below.refl _ _ | refine Below.setCell ?_ (by simp) _ | refine Below.alloc ?_ (by simp; try omega) _))⟩
set_option maxRecDepth 100000 in
set_option maxHeartbeats 1000000 in
theorem of_106 (op : Int) (h0 : 106 ≤ op) (h1 : op ≤ 120) (W : World) : Calls Tryd.prog 13 #[.int .i64 op] W (K4 (op - 86) 32 32 2 W) := by
  have e172 : (op == 172) = false := by rw [beq_eq_false_iff_ne]; omega
  have e173 : (op == 173) = false := by rw [beq_eq_false_iff_ne]; omega
  have e192 : (op == 192) = false := by rw [beq_eq_false_iff_ne]; omega
  have e193 : (op == 193) = false := by rw [beq_eq_false_iff_ne]; omega
  go_enter Tryd.func13, Tryd.ntmps13
  go_wp2
  exact bodyPost_ret (v := .agg #[.int .i64 (20 + op - 106), .int .i64 32, .int .i64 32, .int .i64 2]) (by simp [results, Tryd.results13, go_sem]) rfl ⟨agg4 (by omega), (by repeat (first | exact Below.refl _ _ | refine Below.setCell ?_ (by simp) _ | refine Below.alloc ?_ (by simp; try omega) _))⟩
set_option maxRecDepth 100000 in
set_option maxHeartbeats 1000000 in
theorem of_121 (op : Int) (h0 : 121 ≤ op) (h1 : op ≤ 123) (W : World) : Calls Tryd.prog 13 #[.int .i64 op] W (K4 (op - 120) 64 64 1 W) := by
  have e172 : (op == 172) = false := by rw [beq_eq_false_iff_ne]; omega
  have e173 : (op == 173) = false := by rw [beq_eq_false_iff_ne]; omega
  have e192 : (op == 192) = false := by rw [beq_eq_false_iff_ne]; omega
  have e193 : (op == 193) = false := by rw [beq_eq_false_iff_ne]; omega
  go_enter Tryd.func13, Tryd.ntmps13
  go_wp2
  exact bodyPost_ret (v := .agg #[.int .i64 (1 + op - 121), .int .i64 64, .int .i64 64, .int .i64 1]) (by simp [results, Tryd.results13, go_sem]) rfl ⟨agg4 (by omega), (by repeat (first | exact Below.refl _ _ | refine Below.setCell ?_ (by simp) _ | refine Below.alloc ?_ (by simp; try omega) _))⟩
set_option maxRecDepth 100000 in
set_option maxHeartbeats 1000000 in
theorem of_124 (op : Int) (h0 : 124 ≤ op) (h1 : op ≤ 138) (W : World) : Calls Tryd.prog 13 #[.int .i64 op] W (K4 (op - 104) 64 64 2 W) := by
  have e172 : (op == 172) = false := by rw [beq_eq_false_iff_ne]; omega
  have e173 : (op == 173) = false := by rw [beq_eq_false_iff_ne]; omega
  have e192 : (op == 192) = false := by rw [beq_eq_false_iff_ne]; omega
  have e193 : (op == 193) = false := by rw [beq_eq_false_iff_ne]; omega
  go_enter Tryd.func13, Tryd.ntmps13
  go_wp2
  exact bodyPost_ret (v := .agg #[.int .i64 (20 + op - 124), .int .i64 64, .int .i64 64, .int .i64 2]) (by simp [results, Tryd.results13, go_sem]) rfl ⟨agg4 (by omega), (by repeat (first | exact Below.refl _ _ | refine Below.setCell ?_ (by simp) _ | refine Below.alloc ?_ (by simp; try omega) _))⟩
set_option maxRecDepth 100000 in
set_option maxHeartbeats 1000000 in
theorem of_167 (op : Int) (h0 : op = 167) (W : World) : Calls Tryd.prog 13 #[.int .i64 op] W (K4 (7) 64 32 1 W) := by
  subst h0
  go_enter Tryd.func13, Tryd.ntmps13
  go_wp2
  exact bodyPost_ret (v := .agg #[.int .i64 7, .int .i64 64, .int .i64 32, .int .i64 1]) (by simp [results, Tryd.results13, go_sem]) rfl ⟨agg4 (by omega), (by repeat (first | exact Below.refl _ _ | refine Below.setCell ?_ (by simp) _ | refine Below.alloc ?_ (by simp; try omega) _))⟩
set_option maxRecDepth 100000 in
set_option maxHeartbeats 1000000 in
theorem of_172 (op : Int) (h0 : op = 172) (W : World) : Calls Tryd.prog 13 #[.int .i64 op] W (K4 (8) 32 64 1 W) := by
  subst h0
  go_enter Tryd.func13, Tryd.ntmps13
  go_wp2
  exact bodyPost_ret (v := .agg #[.int .i64 8, .int .i64 32, .int .i64 64, .int .i64 1]) (by simp [results, Tryd.results13, go_sem]) rfl ⟨agg4 (by omega), (by repeat (first | exact Below.refl _ _ | refine Below.setCell ?_ (by simp) _ | refine Below.alloc ?_ (by simp; try omega) _))⟩
set_option maxRecDepth 100000 in
set_option maxHeartbeats 1000000 in
theorem of_173 (op : Int) (h0 : op = 173) (W : World) : Calls Tryd.prog 13 #[.int .i64 op] W (K4 (9) 32 64 1 W) := by
  subst h0
  go_enter Tryd.func13, Tryd.ntmps13
  go_wp2
  exact bodyPost_ret (v := .agg #[.int .i64 9, .int .i64 32, .int .i64 64, .int .i64 1]) (by simp [results, Tryd.results13, go_sem]) rfl ⟨agg4 (by omega), (by repeat (first | exact Below.refl _ _ | refine Below.setCell ?_ (by simp) _ | refine Below.alloc ?_ (by simp; try omega) _))⟩
set_option maxRecDepth 100000 in
set_option maxHeartbeats 1000000 in
theorem of_192 (op : Int) (h0 : op = 192) (W : World) : Calls Tryd.prog 13 #[.int .i64 op] W (K4 (4) 32 32 1 W) := by
  subst h0
  go_enter Tryd.func13, Tryd.ntmps13
  go_wp2
  exact bodyPost_ret (v := .agg #[.int .i64 4, .int .i64 32, .int .i64 32, .int .i64 1]) (by simp [results, Tryd.results13, go_sem]) rfl ⟨agg4 (by omega), (by repeat (first | exact Below.refl _ _ | refine Below.setCell ?_ (by simp) _ | refine Below.alloc ?_ (by simp; try omega) _))⟩
set_option maxRecDepth 100000 in
set_option maxHeartbeats 1000000 in
theorem of_193 (op : Int) (h0 : op = 193) (W : World) : Calls Tryd.prog 13 #[.int .i64 op] W (K4 (5) 32 32 1 W) := by
  subst h0
  go_enter Tryd.func13, Tryd.ntmps13
  go_wp2
  exact bodyPost_ret (v := .agg #[.int .i64 5, .int .i64 32, .int .i64 32, .int .i64 1]) (by simp [results, Tryd.results13, go_sem]) rfl ⟨agg4 (by omega), (by repeat (first | exact Below.refl _ _ | refine Below.setCell ?_ (by simp) _ | refine Below.alloc ?_ (by simp; try omega) _))⟩
set_option maxRecDepth 100000 in
set_option maxHeartbeats 1000000 in
theorem of_194 (op : Int) (h0 : 194 ≤ op) (h1 : op ≤ 196) (W : World) : Calls Tryd.prog 13 #[.int .i64 op] W (K4 (op - 190) 64 64 1 W) := by
  have e172 : (op == 172) = false := by rw [beq_eq_false_iff_ne]; omega
  have e173 : (op == 173) = false := by rw [beq_eq_false_iff_ne]; omega
  have e192 : (op == 192) = false := by rw [beq_eq_false_iff_ne]; omega
  have e193 : (op == 193) = false := by rw [beq_eq_false_iff_ne]; omega
  go_enter Tryd.func13, Tryd.ntmps13
  go_wp2
  exact bodyPost_ret (v := .agg #[.int .i64 (4 + op - 194), .int .i64 64, .int .i64 64, .int .i64 1]) (by simp [results, Tryd.results13, go_sem]) rfl ⟨agg4 (by omega), (by repeat (first | exact Below.refl _ _ | refine Below.setCell ?_ (by simp) _ | refine Below.alloc ?_ (by simp; try omega) _))⟩
set_option maxRecDepth 100000 in
set_option maxHeartbeats 1000000 in
theorem of_gap0 (op : Int) (h0 : -9223372036854775808 ≤ op) (h1 : op ≤ 68)  (W : World) : Calls Tryd.prog 13 #[.int .i64 op] W (K4 (0) 0 0 0 W) := by
  have e172 : (op == 172) = false := by rw [beq_eq_false_iff_ne]; omega
  have e173 : (op == 173) = false := by rw [beq_eq_false_iff_ne]; omega
  have e192 : (op == 192) = false := by rw [beq_eq_false_iff_ne]; omega
  have e193 : (op == 193) = false := by rw [beq_eq_false_iff_ne]; omega
  go_enter Tryd.func13, Tryd.ntmps13
  go_wp2
  exact bodyPost_ret (v := .agg #[.int .i64 0, .int .i64 0, .int .i64 0, .int .i64 0]) (by simp [results, Tryd.results13, go_sem]) rfl ⟨agg4 (by omega), (by repeat (first | exact Below.refl _ _ | refine Below.setCell ?_ (by simp) _ | refine Below.alloc ?_ (by simp; try omega) _))⟩
set_option maxRecDepth 100000 in
set_option maxHeartbeats 1000000 in
theorem of_gap1 (op : Int) (h0 : 91 ≤ op) (h1 : op ≤ 102)  (W : World) : Calls Tryd.prog 13 #[.int .i64 op] W (K4 (0) 0 0 0 W) := by
  have e172 : (op == 172) = false := by rw [beq_eq_false_iff_ne]; omega
  have e173 : (op == 173) = false := by rw [beq_eq_false_iff_ne]; omega
  have e192 : (op == 192) = false := by rw [beq_eq_false_iff_ne]; omega
  have e193 : (op == 193) = false := by rw [beq_eq_false_iff_ne]; omega
  go_enter Tryd.func13, Tryd.ntmps13
  go_wp2
  exact bodyPost_ret (v := .agg #[.int .i64 0, .int .i64 0, .int .i64 0, .int .i64 0]) (by simp [results, Tryd.results13, go_sem]) rfl ⟨agg4 (by omega), (by repeat (first | exact Below.refl _ _ | refine Below.setCell ?_ (by simp) _ | refine Below.alloc ?_ (by simp; try omega) _))⟩
set_option maxRecDepth 100000 in
set_option maxHeartbeats 1000000 in
theorem of_gap2 (op : Int) (h0 : 139 ≤ op) (h1 : op ≤ 166)  (W : World) : Calls Tryd.prog 13 #[.int .i64 op] W (K4 (0) 0 0 0 W) := by
  have e172 : (op == 172) = false := by rw [beq_eq_false_iff_ne]; omega
  have e173 : (op == 173) = false := by rw [beq_eq_false_iff_ne]; omega
  have e192 : (op == 192) = false := by rw [beq_eq_false_iff_ne]; omega
  have e193 : (op == 193) = false := by rw [beq_eq_false_iff_ne]; omega
  go_enter Tryd.func13, Tryd.ntmps13
  go_wp2
  exact bodyPost_ret (v := .agg #[.int .i64 0, .int .i64 0, .int .i64 0, .int .i64 0]) (by simp [results, Tryd.results13, go_sem]) rfl ⟨agg4 (by omega), (by repeat (first | exact Below.refl _ _ | refine Below.setCell ?_ (by simp) _ | refine Below.alloc ?_ (by simp; try omega) _))⟩
set_option maxRecDepth 100000 in
set_option maxHeartbeats 1000000 in
theorem of_gap3 (op : Int) (h0 : 168 ≤ op) (h1 : op ≤ 171)  (W : World) : Calls Tryd.prog 13 #[.int .i64 op] W (K4 (0) 0 0 0 W) := by
  have e172 : (op == 172) = false := by rw [beq_eq_false_iff_ne]; omega
  have e173 : (op == 173) = false := by rw [beq_eq_false_iff_ne]; omega
  have e192 : (op == 192) = false := by rw [beq_eq_false_iff_ne]; omega
  have e193 : (op == 193) = false := by rw [beq_eq_false_iff_ne]; omega
  go_enter Tryd.func13, Tryd.ntmps13
  go_wp2
  exact bodyPost_ret (v := .agg #[.int .i64 0, .int .i64 0, .int .i64 0, .int .i64 0]) (by simp [results, Tryd.results13, go_sem]) rfl ⟨agg4 (by omega), (by repeat (first | exact Below.refl _ _ | refine Below.setCell ?_ (by simp) _ | refine Below.alloc ?_ (by simp; try omega) _))⟩
set_option maxRecDepth 100000 in
set_option maxHeartbeats 1000000 in
theorem of_gap4 (op : Int) (h0 : 174 ≤ op) (h1 : op ≤ 191)  (W : World) : Calls Tryd.prog 13 #[.int .i64 op] W (K4 (0) 0 0 0 W) := by
  have e172 : (op == 172) = false := by rw [beq_eq_false_iff_ne]; omega
  have e173 : (op == 173) = false := by rw [beq_eq_false_iff_ne]; omega
  have e192 : (op == 192) = false := by rw [beq_eq_false_iff_ne]; omega
  have e193 : (op == 193) = false := by rw [beq_eq_false_iff_ne]; omega
  go_enter Tryd.func13, Tryd.ntmps13
  go_wp2
  exact bodyPost_ret (v := .agg #[.int .i64 0, .int .i64 0, .int .i64 0, .int .i64 0]) (by simp [results, Tryd.results13, go_sem]) rfl ⟨agg4 (by omega), (by repeat (first | exact Below.refl _ _ | refine Below.setCell ?_ (by simp) _ | refine Below.alloc ?_ (by simp; try omega) _))⟩
set_option maxRecDepth 100000 in
set_option maxHeartbeats 1000000 in
theorem of_gap5 (op : Int) (h0 : 197 ≤ op) (h1 : op < 9223372036854775808) (W : World) : Calls Tryd.prog 13 #[.int .i64 op] W (K4 (0) 0 0 0 W) := by
  have e172 : (op == 172) = false := by rw [beq_eq_false_iff_ne]; omega
  have e173 : (op == 173) = false := by rw [beq_eq_false_iff_ne]; omega
  have e192 : (op == 192) = false := by rw [beq_eq_false_iff_ne]; omega
  have e193 : (op == 193) = false := by rw [beq_eq_false_iff_ne]; omega
  go_enter Tryd.func13, Tryd.ntmps13
  go_wp2
  exact bodyPost_ret (v := .agg #[.int .i64 0, .int .i64 0, .int .i64 0, .int .i64 0]) (by simp [results, Tryd.results13, go_sem]) rfl ⟨agg4 (by omega), (by repeat (first | exact Below.refl _ _ | refine Below.setCell ?_ (by simp) _ | refine Below.alloc ?_ (by simp; try omega) _))⟩
end Go.Proofs.YtnhnbcjffnlicaaDoor

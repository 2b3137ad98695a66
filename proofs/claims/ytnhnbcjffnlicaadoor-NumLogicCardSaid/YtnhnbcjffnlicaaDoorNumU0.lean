/-
  num.find, walked: run 0.
-/
import Derived.Test.YtnhnbcjffnlicaaDoorNumU
import Derived.Deep.RegionWith
import Derived.LoopN
import Derived.IntWalk
namespace Go.Proofs.YtnhnbcjffnlicaaDoor
open Go.RowKit Num
set_option linter.unusedVariables false
set_option maxHeartbeats 20000000 in
set_option maxRecDepth 100000 in
theorem find_0 (op : Int) (h0 : 69 ≤ op) (h1 : op ≤ 79) (W : World) (x y z : Value) (sx : Stores x) (sy : Stores y) (sz : Stores z) (hp : ∀ W, Calls Tryd.prog 31 #[.int .i64 (op - 69)] W (Told x y z W)) :
    Calls Tryd.prog 20 #[.int .i64 op] W (Found x y z 32 32 W) := by
  have HP := Lib.hid hp
  clear hp
  have hx := sx.out
  have hy := sy.out
  have hz := sz.out
  clear sx sy sz
  have hsub : IntKind.i64.wrap (op - 69) = op - 69 := IntWalk.i64_in _ (by omega)
  have i0 : ∀ w : World, (Instr.index 64 (.agg #[.int .i64 69, .int .i64 79, .int .i64 32, .int .i64 32, .func (.func 31) #[] #[], .int .i64 80, .int .i64 90, .int .i64 64, .int .i64 32, .func (.func 31) #[] #[], .int .i64 103, .int .i64 120, .int .i64 32, .int .i64 32, .func (.func 32) #[] #[], .int .i64 121, .int .i64 138, .int .i64 64, .int .i64 64, .func (.func 32) #[] #[], .int .i64 167, .int .i64 167, .int .i64 64, .int .i64 32, .func (.func 33) #[] #[], .int .i64 172, .int .i64 173, .int .i64 32, .int .i64 64, .func (.func 34) #[] #[], .int .i64 192, .int .i64 193, .int .i64 32, .int .i64 32, .func (.func 35) #[] #[], .int .i64 194, .int .i64 196, .int .i64 64, .int .i64 64, .func (.func 35) #[] #[]]) (.int .i64 0)).run Tryd.prog w = .ok (.agg #[.int .i64 69, .int .i64 79, .int .i64 32, .int .i64 32, .func (.func 31) #[] #[]]) w := fun _ => by kernel_rfl
  go_enter Tryd.func20, Tryd.ntmps20
  go_wp2
  refine wp_loop_rounds 1 ?_
  rw [rounds_succ]
  go_wp2
  clear i0 h0 h1
  generalize (Value.agg #[.int .i64 69, .int .i64 79, .int .i64 32, .int .i64 32, .func (.func 31) #[] #[]]) = g0
  generalize (Value.agg #[.int .i64 80, .int .i64 90, .int .i64 64, .int .i64 32, .func (.func 31) #[] #[]]) = g1
  generalize (Value.agg #[.int .i64 103, .int .i64 120, .int .i64 32, .int .i64 32, .func (.func 32) #[] #[]]) = g2
  generalize (Value.agg #[.int .i64 121, .int .i64 138, .int .i64 64, .int .i64 64, .func (.func 32) #[] #[]]) = g3
  generalize (Value.agg #[.int .i64 167, .int .i64 167, .int .i64 64, .int .i64 32, .func (.func 33) #[] #[]]) = g4
  generalize (Value.agg #[.int .i64 172, .int .i64 173, .int .i64 32, .int .i64 64, .func (.func 34) #[] #[]]) = g5
  generalize (Value.agg #[.int .i64 192, .int .i64 193, .int .i64 32, .int .i64 32, .func (.func 35) #[] #[]]) = g6
  generalize (Value.agg #[.int .i64 194, .int .i64 196, .int .i64 64, .int .i64 64, .func (.func 35) #[] #[]]) = g7
  generalize (Value.agg #[.int .i64 69, .int .i64 79, .int .i64 32, .int .i64 32, .func (.func 31) #[] #[], .int .i64 80, .int .i64 90, .int .i64 64, .int .i64 32, .func (.func 31) #[] #[], .int .i64 103, .int .i64 120, .int .i64 32, .int .i64 32, .func (.func 32) #[] #[], .int .i64 121, .int .i64 138, .int .i64 64, .int .i64 64, .func (.func 32) #[] #[], .int .i64 167, .int .i64 167, .int .i64 64, .int .i64 32, .func (.func 33) #[] #[], .int .i64 172, .int .i64 173, .int .i64 32, .int .i64 64, .func (.func 34) #[] #[], .int .i64 192, .int .i64 193, .int .i64 32, .int .i64 32, .func (.func 35) #[] #[], .int .i64 194, .int .i64 196, .int .i64 64, .int .i64 64, .func (.func 35) #[] #[]]) = g9
  go_region_with (go_at_call 31; ((with_reducible refine (HP.out _).mono ?_); rintro e W1 ⟨rfl, rfl⟩))
  all_goals
    go_wp2
    exact bodyPost_ret (v := .tuple #[.agg #[x, y, z], .int .i64 32, .int .i64 32]) (by simp [results, Tryd.results20, go_sem]) rfl ⟨rfl, (by repeat (first | exact Below.refl _ _ | refine Below.setCell ?_ (by simp) _ | refine Below.alloc ?_ (by simp; try omega) _ | refine Below.drew ?_ | refine below_drewN ?_ _))⟩
end Go.Proofs.YtnhnbcjffnlicaaDoor

/-
  num.find, walked: words.
-/
import Derived.Test.YtnhnbcjffnlicaaDoorNumT
import Derived.Deep.RegionWith
import Derived.LoopN
import Derived.IntWalk
namespace Go.Proofs.YtnhnbcjffnlicaaDoor
open Go.RowKit Num
set_option linter.unusedVariables false
def Found (x y z : Value) (f t : Int) (W : World) (e : Ending) (W' : World) : Prop := e = .returned (.tuple #[.agg #[x, y, z], .int .i64 f, .int .i64 t]) ∧ Below W.heap.size W W'
/-- A value that takes one cell is stored as any. -/
def Stores (x : Value) : Prop := Hid (∀ (w : World) (a : Addr) (m : Mode), (store a x m).run Tryd.prog w = stored Tryd.prog w a x m)
theorem stores_nil : Stores .nilFunc := fun w a m => run_store _ w a _ m rfl
theorem stores_fn (j : Nat) : Stores (.func (.func j) #[] #[]) := fun w a m => run_store _ w a _ m rfl
end Go.Proofs.YtnhnbcjffnlicaaDoor

/-
  Layer 5, the document's side: Shape.
-/
import Derived.Test.YtlflmobaegfnaaaDoorOpJ
namespace Go.Proofs.YtlflmobaegfnaaaDoor
open Go.RowKit
set_option linter.unusedVariables false
set_option linter.unusedSimpArgs false
set_option maxRecDepth 100000

def clIs (f : Nat) (args : Array Value) : Option Value := if f = 54 then (match args.toList with
  | [.int .i64 n] => some (.bool (Op5.inst n))
  | _ => none) else none
theorem told_is : Told Tryd.prog clIs := fun f args v w h => by
  unfold clIs at h
  split at h
  · rename_i hf
    subst hf
    split at h
    · rename_i n hn
      injection h with h
      subst h
      have e : args = #[.int .i64 n] := by rw [← Array.toArray_toList (xs := args), hn]
      rw [e]
      exact ris_any n w
    · cases h
  · cases h
end Go.Proofs.YtlflmobaegfnaaaDoor

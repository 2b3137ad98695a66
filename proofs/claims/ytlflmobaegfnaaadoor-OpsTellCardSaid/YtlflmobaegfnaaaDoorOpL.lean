/-
  Layer 5, the document's side: Shape.
-/
import Derived.Test.YtlflmobaegfnaaaDoorOpL0
import Derived.Test.YtlflmobaegfnaaaDoorOpL1
import Derived.Test.YtlflmobaegfnaaaDoorOpL2
import Derived.Test.YtlflmobaegfnaaaDoorOpL3
import Derived.Test.YtlflmobaegfnaaaDoorOpL4
import Derived.Test.YtlflmobaegfnaaaDoorOpL5
namespace Go.Proofs.YtlflmobaegfnaaaDoor
open Go.RowKit
set_option linter.unusedVariables false
set_option linter.unusedSimpArgs false
set_option maxRecDepth 100000

set_option maxHeartbeats 4000000 in
theorem rshape_any (op : Int) (w : World) : Calls Tryd.prog 27 #[.int .i64 op] w fun e w' => e = .returned (.int .i64 (Op5.shapeOf op)) ∧ w' = w := by
  cases hi : Op5.inst op with
  | true =>
    rcases (Op5.inst_iff op).1 hi with h | h | h | h | h | h | h | h | h | h | h | h | h | h | h | h
    · exact rshape_0 op w h.1 h.2
    · exact rshape_1 op w h.1 h.2
    · exact rshape_2 op w h.1 h.2
    · exact rshape_3 op w h.1 h.2
    · exact rshape_4 op w h.1 h.2
    · exact rshape_5 op w h.1 h.2
    · exact rshape_6 op w h.1 h.2
    · exact rshape_7 op w h.1 h.2
    · exact rshape_8 op w h.1 h.2
    · exact rshape_9 op w h.1 h.2
    · exact rshape_10 op w h.1 h.2
    · exact rshape_11 op w h.1 h.2
    · exact rshape_12 op w h.1 h.2
    · exact rshape_13 op w h.1 h.2
    · exact rshape_14 op w h.1 h.2
    · exact rshape_15 op w h.1 h.2
  | false =>
    have h0 : Op5.shapeOf op = 0 := by unfold Op5.shapeOf; rw [hi]; rfl
    have HI := Lib.hid (fun W => ris_any op W)
    rw [hi] at HI
    rw [h0]
    clear hi h0
    go_enter Tryd.func27, Tryd.ntmps27
    go_wp2_with (go_at_call 54; ((with_reducible refine (HI.out _).mono ?_); rintro e w1 ⟨rfl, rfl⟩))
    go_ret
    exact ⟨rfl, rfl⟩
end Go.Proofs.YtlflmobaegfnaaaDoor

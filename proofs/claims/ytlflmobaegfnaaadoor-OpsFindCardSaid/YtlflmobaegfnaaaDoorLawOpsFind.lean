/-
  geodelaw05.OpsFind: the walk.
-/
import Derived.Test.YtlflmobaegfnaaaDoorOpK
import Derived.Test.YtlflmobaegfnaaaDoorOpU
namespace Go.Proofs.YtlflmobaegfnaaaDoor
open Go.RowKit
set_option linter.unusedVariables false
set_option linter.unusedSimpArgs false
set_option maxRecDepth 100000

set_option maxHeartbeats 2000000 in
theorem OpsFind_walk (w : World) (hT : Tab5 w) (s : ByteArray) (ws : s.size ≤ maxLen) :
    Calls Tryd.prog 7 #[.string s] w fun e w' => e = .returned (.bool true) ∧ Below w.heap.size w w' := by
  unfold maxLen at ws
  have hT0 := Lib.hid hT
  have hlt := hT.lt
  have HB : Hid (Below w.heap.size w w) := Lib.hid (Below.refl _ _)
  have KN := Lib.hid (fun W hT => known5_any W hT)
  obtain ⟨v, hv⟩ : ∃ v, Op5.findOf s.data.toList = v := ⟨_, rfl⟩
  have F1 : Hid (∀ W, Tab5 W → Calls Tryd.prog 35 #[.string s] W fun e w' => e = .returned (.int .i64 v) ∧ Below W.heap.size W w') := Lib.hid fun W hT => by
    rw [← hv]
    exact find_any s W hT
  have F2 : Hid (∀ W, Calls Tryd.prog 36 #[.string s] W fun e w' => e = .returned (.int .i64 v) ∧ Below W.heap.size W w') := Lib.hid fun W => by
    rw [← hv]
    exact rfind_any s W
  clear hT hv
  by_cases h100 : 100 < s.size
  all_goals
    go_enter Tryd.func7, Tryd.ntmps7
    go_wp2_with (first
      | (go_at_call 34; ((with_reducible refine (KN.out _ (hT0.out.below HB.out hlt)).mono ?_); rintro e w2 ⟨rfl, hb⟩; have HB' := Lib.hid (HB.out.trans (hb.mono HB.out.size)); clear HB hb; have HB := HB'; clear HB'))
      | (go_at_call 35; ((with_reducible refine (F1.out _ (hT0.out.below HB.out hlt)).mono ?_); rintro e w2 ⟨rfl, hb⟩; have HB' := Lib.hid (HB.out.trans (hb.mono HB.out.size)); clear HB hb; have HB := HB'; clear HB'))
      | (go_at_call 36; ((with_reducible refine (F2.out _).mono ?_); rintro e w2 ⟨rfl, hb⟩; have HB' := Lib.hid (HB.out.trans (hb.mono HB.out.size)); clear HB hb; have HB := HB'; clear HB')))
    go_ret
    exact ⟨rfl, HB.out⟩
end Go.Proofs.YtlflmobaegfnaaaDoor

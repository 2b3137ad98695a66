/-
  Layer 5: the chapter's rows hold.
-/
import Derived.Test.YtlflmobaegfnaabDoorOpN
import Derived.Test.YtlflmobaegfnaabDoorOpI
namespace Go.Proofs.YtlflmobaegfnaabDoor
open Go.RowKit
set_option linter.unusedVariables false
set_option linter.unusedSimpArgs false
set_option maxRecDepth 100000

theorem Op5.n106 : Op5.nameOf 106 = [105, 51, 50, 46, 97, 100, 100] := by decide +kernel
theorem Op5.n6 : Op5.nameOf 6 = [] := by decide +kernel
theorem Op5.fb : Op5.findOf [98, 114, 95, 111, 110, 95, 99, 97, 115, 116] = 64280 := by decide +kernel
theorem Op5.s17 : Op5.shapeOf 17 = 7 := by decide +kernel
theorem Op5.s6 : Op5.shapeOf 6 = 0 := by decide +kernel
theorem Op5.k139 : Op5.knownOf 139 = true := by decide +kernel
theorem Op5.k253 : Op5.knownOf 253 = true := by decide +kernel
theorem Op5.b53 : Op5.bytesOf 53 = 4 := by decide +kernel
theorem Op5.b40 : Op5.bytesOf 40 = 4 := by decide +kernel
theorem Op5.b63 : Op5.bytesOf 63 = 0 := by decide +kernel
set_option maxHeartbeats 2000000 in
theorem known5_any (w : World) (hT : Tab5 w) :
    Calls Tryd.prog 11 #[] w fun e w' => e = .returned (.bool true) ∧ Below w.heap.size w w' := by
  have hT0 := Lib.hid hT
  have hlt := hT.lt
  have HB : Hid (Below w.heap.size w w) := Lib.hid (Below.refl _ _)
  have C1 : Hid (∀ W, Tab5 W → Calls Tryd.prog 5 #[.int .i64 106] W fun e w' => e = .returned (Sv [105, 51, 50, 46, 97, 100, 100]) ∧ Below W.heap.size W w') := Lib.hid fun W hT => by
    have h := name_any 106 W hT
    rw [Op5.n106] at h
    exact h
  have C2 : Hid (∀ W, Tab5 W → Calls Tryd.prog 7 #[Sv [98, 114, 95, 111, 110, 95, 99, 97, 115, 116]] W fun e w' => e = .returned (.int .i64 64280) ∧ Below W.heap.size W w') := Lib.hid fun W hT => by
    have h := find_any ⟨#[98, 114, 95, 111, 110, 95, 99, 97, 115, 116]⟩ W hT
    rw [show (ByteArray.data ⟨#[98, 114, 95, 111, 110, 95, 99, 97, 115, 116]⟩).toList = [98, 114, 95, 111, 110, 95, 99, 97, 115, 116] from rfl, Op5.fb] at h
    exact h
  have C3 : Hid (∀ W, Calls Tryd.prog 6 #[.int .i64 17] W fun e w' => e = .returned (.int .i64 7) ∧ Below W.heap.size W w') := Lib.hid fun W => by
    have h := shape_any 17 W
    rw [Op5.s17] at h
    exact h
  have C4 : Hid (∀ W, Tab5 W → Calls Tryd.prog 5 #[.int .i64 6] W fun e w' => e = .returned (Sv []) ∧ Below W.heap.size W w') := Lib.hid fun W hT => by
    have h := name_any 6 W hT
    rw [Op5.n6] at h
    exact h
  have C5 : Hid (∀ W, Calls Tryd.prog 6 #[.int .i64 6] W fun e w' => e = .returned (.int .i64 0) ∧ Below W.heap.size W w') := Lib.hid fun W => by
    have h := shape_any 6 W
    rw [Op5.s6] at h
    exact h
  have C6 : Hid (∀ W, Calls Tryd.prog 8 #[.int .i64 139] W fun e w' => e = .returned (.bool true) ∧ Below W.heap.size W w') := Lib.hid fun W => by
    have h := known_any 139 W
    rw [Op5.k139] at h
    exact h
  have C7 : Hid (∀ W, Calls Tryd.prog 8 #[.int .i64 253] W fun e w' => e = .returned (.bool true) ∧ Below W.heap.size W w') := Lib.hid fun W => by
    have h := known_any 253 W
    rw [Op5.k253] at h
    exact h
  have C8 : Hid (∀ W, Calls Tryd.prog 9 #[.int .i64 53] W fun e w' => e = .returned (.int .i64 4) ∧ Below W.heap.size W w') := Lib.hid fun W => by
    have h := bytes_any 53 W
    rw [Op5.b53] at h
    exact h
  have C9 : Hid (∀ W, Calls Tryd.prog 9 #[.int .i64 40] W fun e w' => e = .returned (.int .i64 4) ∧ Below W.heap.size W w') := Lib.hid fun W => by
    have h := bytes_any 40 W
    rw [Op5.b40] at h
    exact h
  have C10 : Hid (∀ W, Calls Tryd.prog 9 #[.int .i64 63] W fun e w' => e = .returned (.int .i64 0) ∧ Below W.heap.size W w') := Lib.hid fun W => by
    have h := bytes_any 63 W
    rw [Op5.b63] at h
    exact h
  clear hT
  go_enter Tryd.func11, Tryd.ntmps11
  go_wp2_with (first
    | (go_at_call 5; ((with_reducible refine (C1.out _ (hT0.out.below HB.out hlt)).mono ?_); rintro e w2 ⟨rfl, hb⟩; have HB' := Lib.hid (HB.out.trans (hb.mono HB.out.size)); clear HB hb; have HB := HB'; clear HB'))
    | (go_at_call 7; ((with_reducible refine (C2.out _ (hT0.out.below HB.out hlt)).mono ?_); rintro e w2 ⟨rfl, hb⟩; have HB' := Lib.hid (HB.out.trans (hb.mono HB.out.size)); clear HB hb; have HB := HB'; clear HB'))
    | (go_at_call 6; ((with_reducible refine (C3.out _).mono ?_); rintro e w2 ⟨rfl, hb⟩; have HB' := Lib.hid (HB.out.trans (hb.mono HB.out.size)); clear HB hb; have HB := HB'; clear HB'))
    | (go_at_call 5; ((with_reducible refine (C4.out _ (hT0.out.below HB.out hlt)).mono ?_); rintro e w2 ⟨rfl, hb⟩; have HB' := Lib.hid (HB.out.trans (hb.mono HB.out.size)); clear HB hb; have HB := HB'; clear HB'))
    | (go_at_call 6; ((with_reducible refine (C5.out _).mono ?_); rintro e w2 ⟨rfl, hb⟩; have HB' := Lib.hid (HB.out.trans (hb.mono HB.out.size)); clear HB hb; have HB := HB'; clear HB'))
    | (go_at_call 8; ((with_reducible refine (C6.out _).mono ?_); rintro e w2 ⟨rfl, hb⟩; have HB' := Lib.hid (HB.out.trans (hb.mono HB.out.size)); clear HB hb; have HB := HB'; clear HB'))
    | (go_at_call 8; ((with_reducible refine (C7.out _).mono ?_); rintro e w2 ⟨rfl, hb⟩; have HB' := Lib.hid (HB.out.trans (hb.mono HB.out.size)); clear HB hb; have HB := HB'; clear HB'))
    | (go_at_call 9; ((with_reducible refine (C8.out _).mono ?_); rintro e w2 ⟨rfl, hb⟩; have HB' := Lib.hid (HB.out.trans (hb.mono HB.out.size)); clear HB hb; have HB := HB'; clear HB'))
    | (go_at_call 9; ((with_reducible refine (C9.out _).mono ?_); rintro e w2 ⟨rfl, hb⟩; have HB' := Lib.hid (HB.out.trans (hb.mono HB.out.size)); clear HB hb; have HB := HB'; clear HB'))
    | (go_at_call 9; ((with_reducible refine (C10.out _).mono ?_); rintro e w2 ⟨rfl, hb⟩; have HB' := Lib.hid (HB.out.trans (hb.mono HB.out.size)); clear HB hb; have HB := HB'; clear HB')))
  go_ret
  exact ⟨rfl, HB.out⟩
end Go.Proofs.YtlflmobaegfnaabDoor

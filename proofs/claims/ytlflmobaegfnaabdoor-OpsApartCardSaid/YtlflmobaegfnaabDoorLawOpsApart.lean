/-
  geodelaw05.OpsApart: the walk.
-/
import Derived.Test.YtlflmobaegfnaabDoorOpK
import Derived.Test.YtlflmobaegfnaabDoorOpX
namespace Go.Proofs.YtlflmobaegfnaabDoor
open Go.RowKit
set_option linter.unusedVariables false
set_option linter.unusedSimpArgs false
set_option maxRecDepth 100000

set_option maxHeartbeats 8000000 in
theorem OpsApart_walk (w : World) (hT : Tab5 w) (a b : Int) :
    Calls Tryd.prog 3 #[.int .i64 a, .int .i64 b] w fun e w' => e = .returned (.bool true) ∧ Below w.heap.size w w' := by
  have hT0 := Lib.hid hT
  have hlt := hT.lt
  have HB : Hid (Below w.heap.size w w) := Lib.hid (Below.refl _ _)
  have KN := Lib.hid (fun W hT => known5_any W hT)
  obtain ⟨vs, hvs⟩ : ∃ v, Op5.shapeOf a = v := ⟨_, rfl⟩
  obtain ⟨vk, hvk⟩ : ∃ v, Op5.knownOf a = v := ⟨_, rfl⟩
  obtain ⟨vb, hvb⟩ : ∃ v, Op5.bytesOf a = v := ⟨_, rfl⟩
  obtain ⟨x, hx⟩ : ∃ s : ByteArray, (ByteArray.mk (Op5.nameOf a).toArray) = s := ⟨_, rfl⟩
  obtain ⟨y, hy⟩ : ∃ s : ByteArray, (ByteArray.mk (Op5.nameOf b).toArray) = s := ⟨_, rfl⟩
  have xl : x.data.toList = Op5.nameOf a := by rw [← hx]
  have yl : y.data.toList = Op5.nameOf b := by rw [← hy]
  obtain ⟨vf, hvf⟩ : ∃ v, Op5.findOf (Op5.nameOf a) = v := ⟨_, rfl⟩
  have S1 : Hid (∀ W, Calls Tryd.prog 6 #[.int .i64 a] W fun e w' => e = .returned (.int .i64 vs) ∧ Below W.heap.size W w') := Lib.hid fun W => by
    rw [← hvs]
    exact shape_any a W
  have K1 : Hid (∀ W, Calls Tryd.prog 8 #[.int .i64 a] W fun e w' => e = .returned (.bool vk) ∧ Below W.heap.size W w') := Lib.hid fun W => by
    rw [← hvk]
    exact known_any a W
  have B1 : Hid (∀ W, Calls Tryd.prog 9 #[.int .i64 a] W fun e w' => e = .returned (.int .i64 vb) ∧ Below W.heap.size W w') := Lib.hid fun W => by
    rw [← hvb]
    exact bytes_any a W
  have N1 : Hid (∀ W, Tab5 W → Calls Tryd.prog 5 #[.int .i64 a] W fun e w' => e = .returned (.string x) ∧ Below W.heap.size W w') := Lib.hid fun W hT => by
    rw [← hx]
    exact name_any a W hT
  have N2 : Hid (∀ W, Tab5 W → Calls Tryd.prog 5 #[.int .i64 b] W fun e w' => e = .returned (.string y) ∧ Below W.heap.size W w') := Lib.hid fun W hT => by
    rw [← hy]
    exact name_any b W hT
  have F1 : Hid (∀ W, Tab5 W → Calls Tryd.prog 7 #[.string x] W fun e w' => e = .returned (.int .i64 vf) ∧ Below W.heap.size W w') := Lib.hid fun W hT => by
    have h := find_any x W hT
    rw [xl, hvf] at h
    exact h
  have A1 := Lib.hid (fun W => all_any W)
  have hap := Op5.apart a
  have hbp := Op5.bytes_pos a
  have hna := Op5.names_apart a b
  rw [hvs, hvb] at hbp
  rw [← xl, ← yl] at hna
  rw [hvf, hvs, hvk, ← xl] at hap
  clear hT hvs hvk hvb hvf hx hy xl yl
  have e167 : ((167 : Int) == 167) = true := by rfl
  rcases hap with ⟨hx0, hs0⟩ | ⟨hx0, hs0, rfl, rfl⟩
  · have f1 : (x.toList == ([] : List UInt8)) = true := by rw [ByteArray.toList_eq, hx0]; rfl
    have f2 : (vs == 0) = true := by rw [hs0]; rfl
    have f3 : (vs == 8) = false := by rw [hs0]; rfl
    have f4 : decide (0 < vb) = false := by rw [hbp, hs0]; rfl
    have g1 := Lib.hid f1
    clear hx0 hs0 hbp hna
    go_enter Tryd.func3, Tryd.ntmps3
    go_wp2_with (first
      | (go_at_call 11; ((with_reducible refine (KN.out _ (hT0.out.below HB.out hlt)).mono ?_); rintro e w2 ⟨rfl, hb⟩; have HB' := Lib.hid (HB.out.trans (hb.mono HB.out.size)); clear HB hb; have HB := HB'; clear HB'))
      | (go_at_call 6; ((with_reducible refine (S1.out _).mono ?_); rintro e w2 ⟨rfl, hb⟩; have HB' := Lib.hid (HB.out.trans (hb.mono HB.out.size)); clear HB hb; have HB := HB'; clear HB'))
      | (go_at_call 8; ((with_reducible refine (K1.out _).mono ?_); rintro e w2 ⟨rfl, hb⟩; have HB' := Lib.hid (HB.out.trans (hb.mono HB.out.size)); clear HB hb; have HB := HB'; clear HB'))
      | (go_at_call 9; ((with_reducible refine (B1.out _).mono ?_); rintro e w2 ⟨rfl, hb⟩; have HB' := Lib.hid (HB.out.trans (hb.mono HB.out.size)); clear HB hb; have HB := HB'; clear HB'))
      | (go_at_call 7; ((with_reducible refine (F1.out _ (hT0.out.below HB.out hlt)).mono ?_); rintro e w2 ⟨rfl, hb⟩; have HB' := Lib.hid (HB.out.trans (hb.mono HB.out.size)); clear HB hb; have HB := HB'; clear HB'))
      | (go_at_call 5; ((with_reducible refine (N1.out _ (hT0.out.below HB.out hlt)).mono ?_); rintro e w2 ⟨rfl, hb⟩; have HB' := Lib.hid (HB.out.trans (hb.mono HB.out.size)); clear HB hb; have HB := HB'; clear HB'))
      | (go_at_call 5; ((with_reducible refine (N2.out _ (hT0.out.below HB.out hlt)).mono ?_); rintro e w2 ⟨rfl, hb⟩; have HB' := Lib.hid (HB.out.trans (hb.mono HB.out.size)); clear HB hb; have HB := HB'; clear HB'))
      | (go_at_call 10; ((with_reducible refine (A1.out _).mono ?_); rintro e w2 ⟨⟨A7, c7, rfl, -⟩, hb⟩; have HB' := Lib.hid (HB.out.trans (hb.mono HB.out.size)); clear HB hb; have HB := HB'; clear HB')))
    go_ret
    exact ⟨rfl, HB.out⟩
  · have f1 : (x.toList == ([] : List UInt8)) = false := by rw [ByteArray.toList_eq]; exact beq_eq_false_iff_ne.2 hx0
    have f2 : (vs == 0) = false := beq_eq_false_iff_ne.2 hs0
    have f5 : (vf == vf) = true := by simp
    have h2 := hna hx0
    obtain ⟨c8, hc8⟩ : ∃ c, decide (vs = 8) = c := ⟨_, rfl⟩
    have f3 : (vs == 8) = c8 := by rw [← hc8]; rfl
    have f4 : decide (0 < vb) = c8 := by rw [hbp, hc8]
    obtain ⟨cb, hcb⟩ : ∃ c, (vf == b) = c := ⟨_, rfl⟩
    have f7 : (x.toList == y.toList) = cb := by
      rw [ByteArray.toList_eq, ByteArray.toList_eq, ← hcb, Bool.eq_iff_iff, beq_iff_eq, beq_iff_eq]
      exact h2
    clear hx0 hs0 hbp hna h2 hc8
    cases c8 <;> cases cb
    all_goals
      go_enter Tryd.func3, Tryd.ntmps3
      go_wp2_with (first
        | (go_at_call 11; ((with_reducible refine (KN.out _ (hT0.out.below HB.out hlt)).mono ?_); rintro e w2 ⟨rfl, hb⟩; have HB' := Lib.hid (HB.out.trans (hb.mono HB.out.size)); clear HB hb; have HB := HB'; clear HB'))
        | (go_at_call 6; ((with_reducible refine (S1.out _).mono ?_); rintro e w2 ⟨rfl, hb⟩; have HB' := Lib.hid (HB.out.trans (hb.mono HB.out.size)); clear HB hb; have HB := HB'; clear HB'))
        | (go_at_call 8; ((with_reducible refine (K1.out _).mono ?_); rintro e w2 ⟨rfl, hb⟩; have HB' := Lib.hid (HB.out.trans (hb.mono HB.out.size)); clear HB hb; have HB := HB'; clear HB'))
        | (go_at_call 9; ((with_reducible refine (B1.out _).mono ?_); rintro e w2 ⟨rfl, hb⟩; have HB' := Lib.hid (HB.out.trans (hb.mono HB.out.size)); clear HB hb; have HB := HB'; clear HB'))
        | (go_at_call 7; ((with_reducible refine (F1.out _ (hT0.out.below HB.out hlt)).mono ?_); rintro e w2 ⟨rfl, hb⟩; have HB' := Lib.hid (HB.out.trans (hb.mono HB.out.size)); clear HB hb; have HB := HB'; clear HB'))
        | (go_at_call 5; ((with_reducible refine (N1.out _ (hT0.out.below HB.out hlt)).mono ?_); rintro e w2 ⟨rfl, hb⟩; have HB' := Lib.hid (HB.out.trans (hb.mono HB.out.size)); clear HB hb; have HB := HB'; clear HB'))
        | (go_at_call 5; ((with_reducible refine (N2.out _ (hT0.out.below HB.out hlt)).mono ?_); rintro e w2 ⟨rfl, hb⟩; have HB' := Lib.hid (HB.out.trans (hb.mono HB.out.size)); clear HB hb; have HB := HB'; clear HB'))
        | (go_at_call 10; ((with_reducible refine (A1.out _).mono ?_); rintro e w2 ⟨⟨A7, c7, rfl, -⟩, hb⟩; have HB' := Lib.hid (HB.out.trans (hb.mono HB.out.size)); clear HB hb; have HB := HB'; clear HB')))
      go_ret
      exact ⟨rfl, HB.out⟩
end Go.Proofs.YtlflmobaegfnaabDoor

/-
  geodelaw05.OpsTell: the walk.
-/
import Derived.Test.YtlflmobaegfnaaaDoorOpK
import Derived.Test.YtlflmobaegfnaaaDoorOpV
import Derived.Test.YtlflmobaegfnaaaDoorOpI
import Derived.Test.YtlflmobaegfnaaaDoorOpL
import Derived.Test.YtlflmobaegfnaaaDoorOpM
namespace Go.Proofs.YtlflmobaegfnaaaDoor
open Go.RowKit
set_option linter.unusedVariables false
set_option linter.unusedSimpArgs false
set_option maxRecDepth 100000

theorem rbytes_any (op : Int) (w : World) : Calls Tryd.prog 33 #[.int .i64 op] w fun e w' => e = .returned (.int .i64 (Op5.bytesOf op)) ∧ Below w.heap.size w w' := by
  by_cases h : Op5.shapeOf op = 8
  · have hm := List.all_eq_true.1 Op5.mem_bytes op (Op5.shape_mem op h)
    simp only [Bool.and_eq_true] at hm
    have h1 := of_decide_eq_true hm.1.1
    have h2 := of_decide_eq_true hm.1.2
    have h3 := of_decide_eq_true hm.2
    have e0 : (ByteArray.mk (Op5.nameOf op).toArray).data.toList = Op5.nameOf op := by simp
    have e1 : (ByteArray.mk (Op5.nameOf op).toArray).size = (Op5.nameOf op).length := by rw [show (ByteArray.mk (Op5.nameOf op).toArray).size = (Op5.nameOf op).toArray.size from rfl]; simp
    have := rbytes_walk op w ⟨(Op5.nameOf op).toArray⟩ (Lib.hid fun W => rname_any op W) (Lib.hid fun W => by have := rshape_any op W; rw [h] at this; exact this) (by rw [e1]; exact h2) (by rw [e1]; exact h3)
    rw [e0, h1] at this
    exact this
  · rw [Op5.bytes_none op h]
    exact rbytes_none op w ⟨(Op5.nameOf op).toArray⟩ (Op5.shapeOf op) (by simp; exact h) (Lib.hid fun W => rname_any op W) (Lib.hid fun W => rshape_any op W)
set_option maxHeartbeats 4000000 in
theorem OpsTell_walk (w : World) (hT : Tab5 w) (op : Int) :
    Calls Tryd.prog 6 #[.int .i64 op] w fun e w' => e = .returned (.bool true) ∧ Below w.heap.size w w' := by
  have hT0 := Lib.hid hT
  have hlt := hT.lt
  have HB : Hid (Below w.heap.size w w) := Lib.hid (Below.refl _ _)
  have KN := Lib.hid (fun W hT => known5_any W hT)
  obtain ⟨vs, hvs⟩ : ∃ v, Op5.shapeOf op = v := ⟨_, rfl⟩
  obtain ⟨vk, hvk⟩ : ∃ v, Op5.knownOf op = v := ⟨_, rfl⟩
  obtain ⟨vb, hvb⟩ : ∃ v, Op5.bytesOf op = v := ⟨_, rfl⟩
  obtain ⟨s, hvn⟩ : ∃ s : ByteArray, Sv (Op5.nameOf op) = .string s := ⟨_, rfl⟩
  have S1 : Hid (∀ W, Calls Tryd.prog 26 #[.int .i64 op] W fun e w' => e = .returned (.int .i64 vs) ∧ Below W.heap.size W w') := Lib.hid fun W => by
    rw [← hvs]
    exact shape_any op W
  have S2 : Hid (∀ W, Calls Tryd.prog 27 #[.int .i64 op] W fun e w' => e = .returned (.int .i64 vs) ∧ w' = W) := Lib.hid fun W => by
    rw [← hvs]
    exact rshape_any op W
  have K1 : Hid (∀ W, Calls Tryd.prog 30 #[.int .i64 op] W fun e w' => e = .returned (.bool vk) ∧ Below W.heap.size W w') := Lib.hid fun W => by
    rw [← hvk]
    exact known_any op W
  have K2 : Hid (∀ W, Calls Tryd.prog 31 #[.int .i64 op] W fun e w' => e = .returned (.bool vk) ∧ w' = W) := Lib.hid fun W => by
    rw [← hvk]
    exact rknown_any op W
  have B1 : Hid (∀ W, Calls Tryd.prog 32 #[.int .i64 op] W fun e w' => e = .returned (.int .i64 vb) ∧ Below W.heap.size W w') := Lib.hid fun W => by
    rw [← hvb]
    exact bytes_any op W
  have B2 : Hid (∀ W, Calls Tryd.prog 33 #[.int .i64 op] W fun e w' => e = .returned (.int .i64 vb) ∧ Below W.heap.size W w') := Lib.hid fun W => by
    rw [← hvb]
    exact rbytes_any op W
  have N1 : Hid (∀ W, Tab5 W → Calls Tryd.prog 28 #[.int .i64 op] W fun e w' => e = .returned (.string s) ∧ Below W.heap.size W w') := Lib.hid fun W hT => by
    rw [← hvn]
    exact name_any op W hT
  have N2 : Hid (∀ W, Calls Tryd.prog 29 #[.int .i64 op] W fun e w' => e = .returned (.string s) ∧ Below W.heap.size W w') := Lib.hid fun W => by
    rw [← hvn]
    exact rname_any op W
  clear hT hvs hvk hvb hvn
  have e1 : (vs == vs) = true := by simp
  have e2 : (vb == vb) = true := by simp
  have e3 : (vk == vk) = true := by simp
  have e4 : (s.toList == s.toList) = true := by simp
  go_enter Tryd.func6, Tryd.ntmps6
  go_wp2_with (first
    | (go_at_call 34; ((with_reducible refine (KN.out _ (hT0.out.below HB.out hlt)).mono ?_); rintro e w2 ⟨rfl, hb⟩; have HB' := Lib.hid (HB.out.trans (hb.mono HB.out.size)); clear HB hb; have HB := HB'; clear HB'))
    | (go_at_call 26; ((with_reducible refine (S1.out _).mono ?_); rintro e w2 ⟨rfl, hb⟩; have HB' := Lib.hid (HB.out.trans (hb.mono HB.out.size)); clear HB hb; have HB := HB'; clear HB'))
    | (go_at_call 27; ((with_reducible refine (S2.out _).mono ?_); rintro e w2 ⟨rfl, rfl⟩))
    | (go_at_call 30; ((with_reducible refine (K1.out _).mono ?_); rintro e w2 ⟨rfl, hb⟩; have HB' := Lib.hid (HB.out.trans (hb.mono HB.out.size)); clear HB hb; have HB := HB'; clear HB'))
    | (go_at_call 31; ((with_reducible refine (K2.out _).mono ?_); rintro e w2 ⟨rfl, rfl⟩))
    | (go_at_call 32; ((with_reducible refine (B1.out _).mono ?_); rintro e w2 ⟨rfl, hb⟩; have HB' := Lib.hid (HB.out.trans (hb.mono HB.out.size)); clear HB hb; have HB := HB'; clear HB'))
    | (go_at_call 33; ((with_reducible refine (B2.out _).mono ?_); rintro e w2 ⟨rfl, hb⟩; have HB' := Lib.hid (HB.out.trans (hb.mono HB.out.size)); clear HB hb; have HB := HB'; clear HB'))
    | (go_at_call 28; ((with_reducible refine (N1.out _ (hT0.out.below HB.out hlt)).mono ?_); rintro e w2 ⟨rfl, hb⟩; have HB' := Lib.hid (HB.out.trans (hb.mono HB.out.size)); clear HB hb; have HB := HB'; clear HB'))
    | (go_at_call 29; ((with_reducible refine (N2.out _).mono ?_); rintro e w2 ⟨rfl, hb⟩; have HB' := Lib.hid (HB.out.trans (hb.mono HB.out.size)); clear HB hb; have HB := HB'; clear HB')))
  go_ret
  exact ⟨rfl, HB.out⟩
end Go.Proofs.YtlflmobaegfnaaaDoor

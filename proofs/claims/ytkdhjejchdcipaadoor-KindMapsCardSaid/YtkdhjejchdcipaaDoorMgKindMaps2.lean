/-
  Texts of this claim, one behind the other: part 2.
-/
import Derived.Test.YtkdhjejchdcipaaDoorMgKindMaps1
/-
  Layer 4: the statements' own 'known': the chapter's rows.
-/
namespace Go.Proofs.YtkdhjejchdcipaaDoor
open Go.RowKit
attribute [local go_sem ↓] Go.wp_at_zero Go.wp_at_succ
set_option linter.unusedVariables false
set_option maxRecDepth 100000

namespace Kd
def sK : Sb := ⟨false, [⟨13, 2⟩], ⟨3, [], [], [⟨8, ⟨1, false, ⟨0, 0⟩⟩, true⟩]⟩⟩
def tK : Sb := ⟨true, [], ⟨1, [⟨1, false, ⟨0, 0⟩⟩], [], []⟩⟩
def vK : Vl := ⟨3, true, ⟨1, 0⟩⟩
theorem itoa2 : Lib.itoa 2 = [50] := by
  unfold Lib.itoa
  rw [if_neg (by decide), show (2 : Int).toNat = 2 from rfl, Lib.decDigits, dif_pos (by decide)]; rfl
theorem tT_s : Str (tT sK) = .string ⟨#[40, 115, 117, 98, 32, 50, 32, 40, 97, 114, 114, 97, 121, 32, 40, 109, 117, 116, 32, 105, 56, 41, 41, 41]⟩ := by
  have e : tT sK = (#[40, 115, 117, 98, 32, 50, 32, 40, 97, 114, 114, 97, 121, 32, 40, 109, 117, 116, 32, 105, 56, 41, 41, 41] : Array UInt8).toList := by
    unfold tT sK
    simp only [List.map_cons, List.map_nil]
    rw [show hT ⟨13, 2⟩ = [50] by unfold hT; simp only [if_true]; exact itoa2]
    rfl
  rw [e]
theorem tT_t : Str (tT tK) = .string ⟨#[40, 115, 117, 98, 32, 102, 105, 110, 97, 108, 32, 40, 102, 117, 110, 99, 32, 40, 112, 97, 114, 97, 109, 32, 105, 51, 50, 41, 41, 41]⟩ := by
  have e : tT tK = (#[40, 115, 117, 98, 32, 102, 105, 110, 97, 108, 32, 40, 102, 117, 110, 99, 32, 40, 112, 97, 114, 97, 109, 32, 105, 51, 50, 41, 41, 41] : Array UInt8).toList := by rfl
  rw [e]
theorem vT_v : Str (vT vK) = .string ⟨#[40, 114, 101, 102, 32, 110, 117, 108, 108, 32, 97, 110, 121, 41]⟩ := by
  have e : vT vK = (#[40, 114, 101, 102, 32, 110, 117, 108, 108, 32, 97, 110, 121, 41] : Array UInt8).toList := by rfl
  rw [e]
theorem small_s : Small sK := ⟨by decide, by decide, by decide, by decide⟩
theorem small_t : Small tK := ⟨by decide, by decide, by decide, by decide⟩
end Kd

set_option maxHeartbeats 4000000 in
theorem known4_any (w : World) (hT : Tabs w) :
    Calls Tryd.prog 8 #[] w fun e w' => e = .returned (.bool true) ∧ Below w.heap.size w w' := by
  have HT := Lib.hid hT
  clear hT
  go_enter Tryd.func8, Tryd.ntmps8
  go_wp2
  obtain ⟨w0, hw0⟩ : ∃ w0, w0 = (((((w.alloc (.cells #[.int .i64 13, .int .i64 2] 39)).alloc (.cells #[.int .i64 8, .int .i64 1, .bool false, .int .i64 0, .int .i64 0, .bool true] 50)).alloc
    (.cells #[.bool false, .slice (some ⟨w.heap.size, 0, none⟩) 1 1, .int .i64 3, .slice none 0 0, .slice none 0 0, .slice (some ⟨w.heap.size + 1, 0, none⟩) 1 1] 29)).alloc (.cells #[.int .i64 1, .bool false, .int .i64 0, .int .i64 0] 46)).alloc
    (.cells #[.bool true, .slice none 0 0, .int .i64 1, .slice (some ⟨w.heap.size + 1 + 1 + 1, 0, none⟩) 1 1, .slice none 0 0, .slice none 0 0] 29)).alloc (.cells #[.int .i64 3, .bool true, .int .i64 1, .int .i64 0] 46) := ⟨_, rfl⟩
  have hsz : w0.heap.size = w.heap.size + 6 := by rw [hw0]; simp
  have XB : Hid (Below w.heap.size w w0) := Lib.hid (by rw [hw0]; exact ((((((Below.refl _ _).alloc (Nat.le_refl _) _).alloc (by simp) _).alloc (by simp; omega) _).alloc (by simp; omega) _).alloc (by simp; omega) _).alloc (by simp; omega) _)
  have hf0 : w0.cell? ⟨w.heap.size + 1, 0, none⟩ = some (.int .i64 8) := by rw [hw0]; go_simp
  have hf1 : w0.cell? ⟨w.heap.size + 1, 1, none⟩ = some (.int .i64 1) := by rw [hw0]; go_simp
  have hf2 : w0.cell? ⟨w.heap.size + 1, 2, none⟩ = some (.bool false) := by rw [hw0]; go_simp
  have hf3 : w0.cell? ⟨w.heap.size + 1, 3, none⟩ = some (.int .i64 0) := by rw [hw0]; go_simp
  have hf4 : w0.cell? ⟨w.heap.size + 1, 4, none⟩ = some (.int .i64 0) := by rw [hw0]; go_simp
  have hf5 : w0.cell? ⟨w.heap.size + 1, 5, none⟩ = some (.bool true) := by rw [hw0]; go_simp
  have hg0 : w0.cell? ⟨w.heap.size, 0, none⟩ = some (.int .i64 13) := by rw [hw0]; go_simp
  have hg1 : w0.cell? ⟨w.heap.size, 1, none⟩ = some (.int .i64 2) := by rw [hw0]; go_simp
  have hv0 : w0.cell? ⟨w.heap.size + 1 + 1 + 1, 0, none⟩ = some (.int .i64 1) := by rw [hw0]; go_simp
  have hv1 : w0.cell? ⟨w.heap.size + 1 + 1 + 1, 1, none⟩ = some (.bool false) := by rw [hw0]; go_simp
  have hv2 : w0.cell? ⟨w.heap.size + 1 + 1 + 1, 2, none⟩ = some (.int .i64 0) := by rw [hw0]; go_simp
  have hv3 : w0.cell? ⟨w.heap.size + 1 + 1 + 1, 3, none⟩ = some (.int .i64 0) := by rw [hw0]; go_simp
  have hx0 : w0.cell? ⟨w.heap.size + 1 + 1, 0, none⟩ = some (.bool false) := by rw [hw0]; go_simp
  have hx1 : w0.cell? ⟨w.heap.size + 1 + 1, 1, none⟩ = some (.slice (some ⟨w.heap.size, 0, none⟩) 1 1) := by rw [hw0]; go_simp
  have hx2 : w0.cell? ⟨w.heap.size + 1 + 1, 2, none⟩ = some (.int .i64 3) := by rw [hw0]; go_simp
  have hx3 : w0.cell? ⟨w.heap.size + 1 + 1, 3, none⟩ = some (.slice none 0 0) := by rw [hw0]; go_simp
  have hx4 : w0.cell? ⟨w.heap.size + 1 + 1, 4, none⟩ = some (.slice none 0 0) := by rw [hw0]; go_simp
  have hx5 : w0.cell? ⟨w.heap.size + 1 + 1, 5, none⟩ = some (.slice (some ⟨w.heap.size + 1, 0, none⟩) 1 1) := by rw [hw0]; go_simp
  have hy0 : w0.cell? ⟨w.heap.size + 1 + 1 + 1 + 1, 0, none⟩ = some (.bool true) := by rw [hw0]; go_simp
  have hy1 : w0.cell? ⟨w.heap.size + 1 + 1 + 1 + 1, 1, none⟩ = some (.slice none 0 0) := by rw [hw0]; go_simp
  have hy2 : w0.cell? ⟨w.heap.size + 1 + 1 + 1 + 1, 2, none⟩ = some (.int .i64 1) := by rw [hw0]; go_simp
  have hy3 : w0.cell? ⟨w.heap.size + 1 + 1 + 1 + 1, 3, none⟩ = some (.slice (some ⟨w.heap.size + 1 + 1 + 1, 0, none⟩) 1 1) := by rw [hw0]; go_simp
  have hy4 : w0.cell? ⟨w.heap.size + 1 + 1 + 1 + 1, 4, none⟩ = some (.slice none 0 0) := by rw [hw0]; go_simp
  have hy5 : w0.cell? ⟨w.heap.size + 1 + 1 + 1 + 1, 5, none⟩ = some (.slice none 0 0) := by rw [hw0]; go_simp
  have hz0 : w0.cell? ⟨w.heap.size + 1 + 1 + 1 + 1 + 1, 0, none⟩ = some (.int .i64 3) := by rw [hw0]; go_simp
  have hz1 : w0.cell? ⟨w.heap.size + 1 + 1 + 1 + 1 + 1, 1, none⟩ = some (.bool true) := by rw [hw0]; go_simp
  have hz2 : w0.cell? ⟨w.heap.size + 1 + 1 + 1 + 1 + 1, 2, none⟩ = some (.int .i64 1) := by rw [hw0]; go_simp
  have hz3 : w0.cell? ⟨w.heap.size + 1 + 1 + 1 + 1 + 1, 3, none⟩ = some (.int .i64 0) := by rw [hw0]; go_simp
  have IS : Hid (IsSub w0 w0.heap.size (.agg #[.bool false, .slice (some ⟨w.heap.size, 0, none⟩) 1 1, .int .i64 3, .slice none 0 0, .slice none 0 0, .slice (some ⟨w.heap.size + 1, 0, none⟩) 1 1]) Kd.sK) := Lib.hid
    ⟨_, _, _, _, _, _, _, _, rfl, ⟨by decide, by simp [maxLen], fun _ => ⟨w.heap.size, 0, rfl, by omega, fun j hj i v hv => by
      have hj0 : j = 0 := by simp [Kd.sK] at hj; omega
      subst hj0
      rcases i with _ | _ | i
      · simp [Kd.sK, Hp.cs] at hv; subst hv; exact hg0
      · simp [Kd.sK, Hp.cs] at hv; subst hv; exact hg1
      · simp [Kd.sK, Hp.cs] at hv⟩⟩, Seg.nil _ _ _ _ (by simp [maxLen]), Seg.nil _ _ _ _ (by simp [maxLen]), ⟨by decide, by simp [maxLen], fun _ => ⟨w.heap.size + 1, 0, rfl, by omega, fun j hj i v hv => by
      have hj0 : j = 0 := by simp [Kd.sK] at hj; omega
      subst hj0
      rcases i with _ | _ | _ | _ | _ | _ | i
      · simp [Kd.sK, Fd.cs] at hv; subst hv; exact hf0
      · simp [Kd.sK, Fd.cs] at hv; subst hv; exact hf1
      · simp [Kd.sK, Fd.cs] at hv; subst hv; exact hf2
      · simp [Kd.sK, Fd.cs] at hv; subst hv; exact hf3
      · simp [Kd.sK, Fd.cs] at hv; subst hv; exact hf4
      · simp [Kd.sK, Fd.cs] at hv; subst hv; exact hf5
      · simp [Kd.sK, Fd.cs] at hv⟩⟩⟩
  have IT : Hid (IsSub w0 w0.heap.size (.agg #[.bool true, .slice none 0 0, .int .i64 1, .slice (some ⟨w.heap.size + 1 + 1 + 1, 0, none⟩) 1 1, .slice none 0 0, .slice none 0 0]) Kd.tK) := Lib.hid
    ⟨_, _, _, _, _, _, _, _, rfl, Seg.nil _ _ _ _ (by simp [maxLen]), ⟨by decide, by simp [maxLen], fun _ => ⟨w.heap.size + 1 + 1 + 1, 0, rfl, by omega, fun j hj i v hv => by
      have hj0 : j = 0 := by simp [Kd.tK] at hj; omega
      subst hj0
      rcases i with _ | _ | _ | _ | i
      · simp [Kd.tK, Vl.cs] at hv; subst hv; exact hv0
      · simp [Kd.tK, Vl.cs] at hv; subst hv; exact hv1
      · simp [Kd.tK, Vl.cs] at hv; subst hv; exact hv2
      · simp [Kd.tK, Vl.cs] at hv; subst hv; exact hv3
      · simp [Kd.tK, Vl.cs] at hv⟩⟩, Seg.nil _ _ _ _ (by simp [maxLen]), Seg.nil _ _ _ _ (by simp [maxLen])⟩
  rw [← hw0]
  clear hw0
  have hl1 : w.heap.size + 1 + 1 < w0.heap.size := by omega
  have hl2 : w.heap.size + 1 + 1 + 1 + 1 < w0.heap.size := by omega
  have hl3 : w.heap.size + 1 + 1 + 1 + 1 + 1 < w0.heap.size := by omega
  clear hf0 hf1 hf2 hf3 hf4 hf5 hv0 hv1 hv2 hv3 hg0 hg1 hsz
  have C1 : Hid (∀ W, Below w0.heap.size w0 W → Calls Tryd.prog 55 #[.agg #[.bool false, .slice (some ⟨w.heap.size, 0, none⟩) 1 1, .int .i64 3, .slice none 0 0, .slice none 0 0, .slice (some ⟨w.heap.size + 1, 0, none⟩) 1 1]] W fun e w' => e = .returned (.bool true) ∧ Below W.heap.size W w') := Lib.hid fun W hW => by
    have h := pSub_any Kd.sK _ W ((IS.out.below hW).more hW.size) Kd.small_s
    rw [show Kd.pSub Kd.sK = true by decide] at h; exact h
  have C2 : Hid (∀ W, Below w0.heap.size w0 W → Calls Tryd.prog 55 #[.agg #[.bool true, .slice none 0 0, .int .i64 1, .slice (some ⟨w.heap.size + 1 + 1 + 1, 0, none⟩) 1 1, .slice none 0 0, .slice none 0 0]] W fun e w' => e = .returned (.bool true) ∧ Below W.heap.size W w') := Lib.hid fun W hW => by
    have h := pSub_any Kd.tK _ W ((IT.out.below hW).more hW.size) Kd.small_t
    rw [show Kd.pSub Kd.tK = true by decide] at h; exact h
  have C3 : Hid (∀ W, Below w0.heap.size w0 W → Calls Tryd.prog 56 #[.agg #[.bool false, .slice (some ⟨w.heap.size, 0, none⟩) 1 1, .int .i64 3, .slice none 0 0, .slice none 0 0, .slice (some ⟨w.heap.size + 1, 0, none⟩) 1 1]] W fun e w' => e = .returned (.string ⟨#[40, 115, 117, 98, 32, 50, 32, 40, 97, 114, 114, 97, 121, 32, 40, 109, 117, 116, 32, 105, 56, 41, 41, 41]⟩) ∧ Below W.heap.size W w') := Lib.hid fun W hW => by
    have h := tT_any Kd.sK _ W ((HT.out.below XB.out).below hW) ((IS.out.below hW).more hW.size) Kd.small_s (by decide)
    rw [Kd.tT_s] at h; exact h
  have C4 : Hid (∀ W, Below w0.heap.size w0 W → Calls Tryd.prog 56 #[.agg #[.bool true, .slice none 0 0, .int .i64 1, .slice (some ⟨w.heap.size + 1 + 1 + 1, 0, none⟩) 1 1, .slice none 0 0, .slice none 0 0]] W fun e w' => e = .returned (.string ⟨#[40, 115, 117, 98, 32, 102, 105, 110, 97, 108, 32, 40, 102, 117, 110, 99, 32, 40, 112, 97, 114, 97, 109, 32, 105, 51, 50, 41, 41, 41]⟩) ∧ Below W.heap.size W w') := Lib.hid fun W hW => by
    have h := tT_any Kd.tK _ W ((HT.out.below XB.out).below hW) ((IT.out.below hW).more hW.size) Kd.small_t (by decide)
    rw [Kd.tT_t] at h; exact h
  have C5 : Hid (∀ W, Below w0.heap.size w0 W → Calls Tryd.prog 57 #[.agg #[.int .i64 3, .bool true, .int .i64 1, .int .i64 0]] W fun e w' => e = .returned (.string ⟨#[40, 114, 101, 102, 32, 110, 117, 108, 108, 32, 97, 110, 121, 41]⟩) ∧ Below W.heap.size W w') := Lib.hid fun W hW => by
    have h := vT_any Kd.vK (by decide) W ((HT.out.below XB.out).below hW)
    rw [Kd.vT_v] at h; exact h
  have C6 : Hid (∀ W, Below w0.heap.size w0 W → Calls Tryd.prog 58 #[.agg #[.int .i64 3, .bool true, .int .i64 1, .int .i64 0]] W fun e w' => e = .returned (.bool true) ∧ Below W.heap.size W w') := Lib.hid fun W hW => first_any Kd.vK W
  have C7 : Hid (∀ W, Below w0.heap.size w0 W → Calls Tryd.prog 22 #[.agg #[.bool false, .slice (some ⟨w.heap.size, 0, none⟩) 1 1, .int .i64 3, .slice none 0 0, .slice none 0 0, .slice (some ⟨w.heap.size + 1, 0, none⟩) 1 1], .agg #[.bool true, .slice none 0 0, .int .i64 1, .slice (some ⟨w.heap.size + 1 + 1 + 1, 0, none⟩) 1 1, .slice none 0 0, .slice none 0 0]] W fun e w' => e = .returned (.bool false) ∧ Below W.heap.size W w') := Lib.hid fun W hW => by
    have h := same_any Kd.sK Kd.tK _ _ W ((IS.out.below hW).more hW.size) ((IT.out.below hW).more hW.size) Kd.small_s Kd.small_t
    rw [show decide (Kd.sK = Kd.tK) = false by decide] at h; exact h
  have C8 : Hid (∀ W, Below w0.heap.size w0 W → Calls Tryd.prog 10 #[.agg #[.bool false, .slice (some ⟨w.heap.size, 0, none⟩) 1 1, .int .i64 3, .slice none 0 0, .slice none 0 0, .slice (some ⟨w.heap.size + 1, 0, none⟩) 1 1]] W fun e w' => (∃ v, e = .returned v ∧ IsSub w' w'.heap.size v Kd.sK ∧ NewSub W.heap.size v) ∧ Below W.heap.size W w') := Lib.hid fun W hW => copy_any Kd.sK _ W ((IS.out.below hW).more hW.size) Kd.small_s
  have C9 : Hid (∀ W v, Below w0.heap.size w0 W → IsSub W W.heap.size v Kd.sK → Calls Tryd.prog 22 #[.agg #[.bool false, .slice (some ⟨w.heap.size, 0, none⟩) 1 1, .int .i64 3, .slice none 0 0, .slice none 0 0, .slice (some ⟨w.heap.size + 1, 0, none⟩) 1 1], v] W fun e w' => e = .returned (.bool true) ∧ Below W.heap.size W w') := Lib.hid fun W v hW hv => by
    have h := same_any Kd.sK Kd.sK _ v W ((IS.out.below hW).more hW.size) hv Kd.small_s Kd.small_s
    rw [show decide (Kd.sK = Kd.sK) = true by decide] at h; exact h
  have HB : Hid (Below w0.heap.size w0 w0.drew) := Lib.hid (Below.refl _ _).drew
  go_region_with (first
    | (go_at_call 55; ((with_reducible refine (C1.out _ HB.out).mono ?_); rintro e w1 ⟨rfl, hb⟩; have HB' := Lib.hid (HB.out.trans (hb.mono HB.out.size)); clear HB hb; obtain ⟨hc, hf⟩ := bcell HB'.out; have HB := HB'; clear HB' hf))
    | (go_at_call 55; ((with_reducible refine (C2.out _ HB.out).mono ?_); rintro e w1 ⟨rfl, hb⟩; have HB' := Lib.hid (HB.out.trans (hb.mono HB.out.size)); clear HB hb; obtain ⟨hc, hf⟩ := bcell HB'.out; have HB := HB'; clear HB' hf))
    | (go_at_call 56; ((with_reducible refine (C3.out _ HB.out).mono ?_); rintro e w1 ⟨rfl, hb⟩; have HB' := Lib.hid (HB.out.trans (hb.mono HB.out.size)); clear HB hb; obtain ⟨hc, hf⟩ := bcell HB'.out; have HB := HB'; clear HB' hf))
    | (go_at_call 56; ((with_reducible refine (C4.out _ HB.out).mono ?_); rintro e w1 ⟨rfl, hb⟩; have HB' := Lib.hid (HB.out.trans (hb.mono HB.out.size)); clear HB hb; obtain ⟨hc, hf⟩ := bcell HB'.out; have HB := HB'; clear HB' hf))
    | (go_at_call 57; ((with_reducible refine (C5.out _ HB.out).mono ?_); rintro e w1 ⟨rfl, hb⟩; have HB' := Lib.hid (HB.out.trans (hb.mono HB.out.size)); clear HB hb; obtain ⟨hc, hf⟩ := bcell HB'.out; have HB := HB'; clear HB' hf))
    | (go_at_call 58; ((with_reducible refine (C6.out _ HB.out).mono ?_); rintro e w1 ⟨rfl, hb⟩; have HB' := Lib.hid (HB.out.trans (hb.mono HB.out.size)); clear HB hb; obtain ⟨hc, hf⟩ := bcell HB'.out; have HB := HB'; clear HB' hf))
    | (go_at_call 22; ((with_reducible refine (C7.out _ HB.out).mono ?_); rintro e w1 ⟨rfl, hb⟩; have HB' := Lib.hid (HB.out.trans (hb.mono HB.out.size)); clear HB hb; obtain ⟨hc, hf⟩ := bcell HB'.out; have HB := HB'; clear HB' hf))
    | (go_at_call 10; ((with_reducible refine (C8.out _ HB.out).mono ?_); rintro e w1 ⟨⟨cv, rfl, hcv, -⟩, hb⟩; have HCV := Lib.hid hcv; have HB' := Lib.hid (HB.out.trans (hb.mono HB.out.size)); clear HB hb hcv; obtain ⟨hc, hf⟩ := bcell HB'.out; have HB := HB'; clear HB' hf))
    | (go_at_call 22; ((with_reducible refine (C9.out _ cv HB.out HCV.out).mono ?_); rintro e w1 ⟨rfl, hb⟩; have HB' := Lib.hid (HB.out.trans (hb.mono HB.out.size)); clear HB hb; have HB := HB'; clear HB')))
  all_goals
    go_wp2
    go_ret
    exact ⟨by first | rfl | simp, XB.out.trans (HB.out.mono XB.out.size)⟩
end Go.Proofs.YtkdhjejchdcipaaDoor
/-
  Layer 4: words for functions that hold a range over a function (the marks), and for a type's six cells.
-/
namespace Go.Proofs.YtkdhjejchdcipaaDoor
open Go.RowKit
set_option linter.unusedVariables false
set_option linter.unusedSimpArgs false
set_option maxRecDepth 100000

/-- What the body of a function with marks must achieve: it does not panic. -/
def postM (P : Program) (fn : Func) (R : Ending → World → Prop) : Exit → Act → World → Prop
  | .normal, a, w | .ret, a, w => LeavesInM Fence.wide 20 P fn a.tmps R a.defers .returning w
  | _, _, _ => False
theorem postM_imp {P : Program} {fn : Func} {R : Ending → World → Prop} : ∀ e a w, postM P fn R e a w → bodyPostM Fence.wide 20 P fn R e a w := fun e a w h => by
  cases e <;> first | exact h | exact (h : False).elim
theorem calls_marks {P : Program} {f : FuncId} {fn : Func} {c : Code} {args : Array Value} {w : World} {R : Ending → World → Prop}
    (hf : P.funcs[f]? = some fn) (hb : fn.body = some c) (h : c.wp P (postM P fn R) { tmps := args ++ Array.replicate (fn.ntmps - args.size) undef, defers := [] } w) : Calls P f args w R :=
  callsIn_wide.1 (callsIn_of_wp_marks (n := 20) hf hb trivial (wpIn_wide.2 (Code.wp_mono postM_imp h)) rfl)
theorem ret_m {P : Program} {fn : Func} {R : Ending → World → Prop} {t : Tmp} {tmps : Array Value} {w : World} (h : fn.results = #[.tmp t]) (hR : R (.returned (tmps.getD t undef)) w) : postM P fn R .ret { tmps := tmps, defers := [] } w :=
  ⟨_, results_tmp h _ _ _, hR⟩
/-- A return behind one range over a function. -/
theorem ret_m1 {P : Program} {fn : Func} {R : Ending → World → Prop} {t : Tmp} {tmps : Array Value} {w : World} {K : Nat} (h : fn.results = #[.tmp t]) (hd : w.heap[K]? = some (.deferred (some [])))
    (hR : R (.returned (tmps.getD t undef)) (w.putObj K (.deferred none))) : postM P fn R .ret { tmps := tmps, defers := [{ target := .collected K, args := #[] }] } w :=
  ⟨by simp, .inl ⟨_, _, rfl, run_takeDeferred hd, ⟨_, results_tmp h _ _ _, hR⟩⟩⟩
theorem below_put {B K : Nat} {w W : World} (h : Below B w W) (hK : B ≤ K) (o : Obj) : Below B w (W.putObj K o) :=
  ⟨h.os, h.tape, h.output, Nat.le_trans h.size (by simp), fun k hk => (World.putObj_heap_other (by omega)).trans (h.block k hk)⟩
/-- A type's cells. -/
structure Six (W : World) (b : Nat) (v0 v1 v2 v3 v4 v5 : Value) : Prop where
  c0 : W.cell? ⟨b, 0, none⟩ = some v0
  c1 : W.cell? ⟨b, 1, none⟩ = some v1
  c2 : W.cell? ⟨b, 2, none⟩ = some v2
  c3 : W.cell? ⟨b, 3, none⟩ = some v3
  c4 : W.cell? ⟨b, 4, none⟩ = some v4
  c5 : W.cell? ⟨b, 5, none⟩ = some v5
theorem Six.below {W W' : World} {C b : Nat} {v0 v1 v2 v3 v4 v5 : Value} (h : Six W b v0 v1 v2 v3 v4 v5) (hb : Below C W W') (hlt : b < C) : Six W' b v0 v1 v2 v3 v4 v5 :=
  ⟨(hb.cell (p := ⟨b, 0, none⟩) hlt).trans h.c0, (hb.cell (p := ⟨b, 1, none⟩) hlt).trans h.c1, (hb.cell (p := ⟨b, 2, none⟩) hlt).trans h.c2, (hb.cell (p := ⟨b, 3, none⟩) hlt).trans h.c3, (hb.cell (p := ⟨b, 4, none⟩) hlt).trans h.c4, (hb.cell (p := ⟨b, 5, none⟩) hlt).trans h.c5⟩
theorem Six.drew {W : World} {b : Nat} {v0 v1 v2 v3 v4 v5 : Value} (h : Six W b v0 v1 v2 v3 v4 v5) : Six W.drew b v0 v1 v2 v3 v4 v5 := ⟨h.c0, h.c1, h.c2, h.c3, h.c4, h.c5⟩
/-- What a plain type's value types are. -/
theorem Kd.plain_all {s : Sb} (h : Kd.pSub s = true) : ∀ v ∈ Kd.allV s.c, Kd.pVal v = true := by
  obtain ⟨fin, sups, k, ps, rs, fs⟩ := s
  unfold Kd.pSub Kd.pComp Kd.takes at h
  unfold Kd.allV
  have pf : ∀ f : Fd, Kd.pField f = true → Kd.pVal f.v = true := fun f hf => by
    unfold Kd.pField at hf
    split at hf
    · exact hf
    · split at hf
      · rw [of_decide_eq_true hf]; decide
      · cases hf
  intro v hv
  simp only [Bool.and_eq_true] at h
  obtain ⟨-, h⟩ := h
  dsimp only at h hv
  split at h
  · simp only [Bool.and_eq_true, decide_eq_true_eq, List.all_eq_true] at h
    obtain ⟨h1, h2, h3⟩ := h
    rw [List.length_eq_zero_iff.1 h3] at hv
    simp only [List.map_nil, List.append_nil, List.mem_append] at hv
    rcases hv with hv | hv
    · exact h1 v hv
    · exact h2 v hv
  · split at h
    · simp only [Bool.and_eq_true, Bool.not_eq_true', decide_eq_false_iff_not, List.all_eq_true, Nat.not_lt] at h
      obtain ⟨h1, h2⟩ := h
      have e1 : ps = [] := List.length_eq_zero_iff.1 (by omega)
      have e2 : rs = [] := List.length_eq_zero_iff.1 (by omega)
      subst e1 e2
      simp only [List.append_nil, List.nil_append, List.mem_map] at hv
      obtain ⟨f, hf, rfl⟩ := hv
      exact pf f (h2 f hf)
    · split at h
      · simp only [Bool.and_eq_true, Bool.not_eq_true', decide_eq_false_iff_not, decide_eq_true_eq, List.all_eq_true, Nat.not_lt] at h
        obtain ⟨h1, -, h2⟩ := h
        have e1 : ps = [] := List.length_eq_zero_iff.1 (by omega)
        have e2 : rs = [] := List.length_eq_zero_iff.1 (by omega)
        subst e1 e2
        simp only [List.append_nil, List.nil_append, List.mem_map] at hv
        obtain ⟨f, hf, rfl⟩ := hv
        exact pf f (h2 f hf)
      · cases h
theorem Kd.plain_more {s : Sb} (hk : s.c.k = 1) (v : Vl) : Kd.pSub ⟨s.fin, s.sups, s.c.k, s.c.ps, s.c.rs ++ [v], s.c.fs⟩ = (Kd.pSub s && Kd.pVal v) := by
  obtain ⟨fin, sups, k, ps, rs, fs⟩ := s
  dsimp only at hk ⊢
  subst hk
  unfold Kd.pSub Kd.pComp
  simp only [if_true, List.all_append, List.all_cons, List.all_nil, Bool.and_true]
  cases sups.all Kd.pIdx <;> cases ps.all Kd.pVal <;> cases rs.all Kd.pVal <;> cases Kd.pVal v <;> simp
end Go.Proofs.YtkdhjejchdcipaaDoor
/-
  Layer 4, plain: what a heap type that is set at one of the places changes.
-/
namespace Go.Proofs.YtkdhjejchdcipaaDoor
open Go.RowKit
set_option linter.unusedVariables false
set_option linter.unusedSimpArgs false
set_option maxRecDepth 100000

theorem ats_cons (b off sz o n : Nat) : ats (some ⟨b, off, none⟩) sz o (n + 1) = ⟨b, off + o, none⟩ :: ats (some ⟨b, off, none⟩) sz (o + sz) n := by
  unfold ats
  rw [List.range_succ_eq_map, List.map_cons, List.map_map]
  congr 1
  · simp
  · apply List.map_congr_left
    intro i _
    simp only [Function.comp_apply, Addr.mk.injEq, and_true, true_and]
    rw [Nat.succ_mul]
    omega
namespace Kd
theorem placeV (b off sz : Nat) (kd : Addr → Int) (h : Hp) (x : Addr) : ∀ (l : List Vl) (o : Nat) (c : List Hp) (i : Nat), (∀ j (hj : j < l.length), kd ⟨b, off + j * sz + o, none⟩ = l[j].k) →
    ((ats (some ⟨b, off, none⟩) sz o l.length).filter fun x => decide (kd x = 3))[i]? = some x → i < c.length →
    ∃ j, ∃ hj : j < l.length, x = ⟨b, off + j * sz + o, none⟩ ∧ l[j].k = 3 ∧ withV l (c.set i h) = (withV l c).set j ⟨3, l[j].nu, h⟩
  | [], o, c, i, _, hx, _ => by simp [ats] at hx
  | v :: r, o, c, i, hk, hx, hi => by
    have h0 : kd ⟨b, off + o, none⟩ = v.k := by have := hk 0 (by simp); rwa [Nat.zero_mul, Nat.add_zero] at this
    have hk' : ∀ j (hj : j < r.length), kd ⟨b, off + j * sz + (o + sz), none⟩ = r[j].k := fun j hj => by
      have := hk (j + 1) (by simpa using hj)
      rw [List.getElem_cons_succ, Nat.succ_mul] at this
      rw [← this]
      congr 2
      omega
    obtain ⟨c0, ct, rfl⟩ : ∃ c0 ct, c = c0 :: ct := by
      cases c with
      | nil => simp at hi
      | cons a t => exact ⟨a, t, rfl⟩
    rw [List.length_cons, ats_cons, List.filter_cons] at hx
    by_cases hv : v.k = 3
    · rw [if_pos (by rw [h0, hv]; rfl)] at hx
      cases i with
      | zero =>
        simp only [List.getElem?_cons_zero, Option.some.injEq] at hx
        refine ⟨0, by simp, ?_, hv, ?_⟩
        · rw [← hx]; simp
        · simp only [List.set_cons_zero, withV, setV, restV, hv, if_true, List.headD_cons, List.tail_cons, List.getElem_cons_zero]
      | succ i =>
        rw [List.getElem?_cons_succ] at hx
        obtain ⟨j, hj, e1, e2, e3⟩ := placeV b off sz kd h x r (o + sz) ct i hk' hx (by simpa using hi)
        refine ⟨j + 1, by simpa using hj, ?_, e2, ?_⟩
        · rw [e1, Nat.succ_mul]; congr 1; omega
        · simp only [List.set_cons_succ, withV, setV, restV, hv, if_true, List.headD_cons, List.tail_cons, List.getElem_cons_succ, e3]
    · rw [if_neg (by rw [h0]; simpa using hv)] at hx
      obtain ⟨j, hj, e1, e2, e3⟩ := placeV b off sz kd h x r (o + sz) (c0 :: ct) i hk' hx hi
      refine ⟨j + 1, by simpa using hj, ?_, e2, ?_⟩
      · rw [e1, Nat.succ_mul]; congr 1; omega
      · simp only [List.set_cons_succ, withV, setV, restV, hv, if_false, List.getElem_cons_succ, e3]
theorem placeF (b off sz : Nat) (kd : Addr → Int) (h : Hp) (x : Addr) : ∀ (l : List Fd) (o : Nat) (c : List Hp) (i : Nat), (∀ j (hj : j < l.length), kd ⟨b, off + j * sz + o, none⟩ = l[j].v.k) →
    ((ats (some ⟨b, off, none⟩) sz o l.length).filter fun x => decide (kd x = 3))[i]? = some x → i < c.length →
    ∃ j, ∃ hj : j < l.length, x = ⟨b, off + j * sz + o, none⟩ ∧ l[j].v.k = 3 ∧ withF l (c.set i h) = (withF l c).set j ⟨l[j].pk, ⟨3, l[j].v.nu, h⟩, l[j].mu⟩
  | [], o, c, i, _, hx, _ => by simp [ats] at hx
  | v :: r, o, c, i, hk, hx, hi => by
    have h0 : kd ⟨b, off + o, none⟩ = v.v.k := by have := hk 0 (by simp); rwa [Nat.zero_mul, Nat.add_zero] at this
    have hk' : ∀ j (hj : j < r.length), kd ⟨b, off + j * sz + (o + sz), none⟩ = r[j].v.k := fun j hj => by
      have := hk (j + 1) (by simpa using hj)
      rw [List.getElem_cons_succ, Nat.succ_mul] at this
      rw [← this]
      congr 2
      omega
    obtain ⟨c0, ct, rfl⟩ : ∃ c0 ct, c = c0 :: ct := by
      cases c with
      | nil => simp at hi
      | cons a t => exact ⟨a, t, rfl⟩
    rw [List.length_cons, ats_cons, List.filter_cons] at hx
    by_cases hv : v.v.k = 3
    · rw [if_pos (by rw [h0, hv]; rfl)] at hx
      cases i with
      | zero =>
        simp only [List.getElem?_cons_zero, Option.some.injEq] at hx
        refine ⟨0, by simp, ?_, hv, ?_⟩
        · rw [← hx]; simp
        · simp only [List.set_cons_zero, withF, setF, setV, restV, hv, if_true, List.headD_cons, List.tail_cons, List.getElem_cons_zero]
      | succ i =>
        rw [List.getElem?_cons_succ] at hx
        obtain ⟨j, hj, e1, e2, e3⟩ := placeF b off sz kd h x r (o + sz) ct i hk' hx (by simpa using hi)
        refine ⟨j + 1, by simpa using hj, ?_, e2, ?_⟩
        · rw [e1, Nat.succ_mul]; congr 1; omega
        · simp only [List.set_cons_succ, withF, setF, setV, restV, hv, if_true, List.headD_cons, List.tail_cons, List.getElem_cons_succ, e3]
    · rw [if_neg (by rw [h0]; simpa using hv)] at hx
      obtain ⟨j, hj, e1, e2, e3⟩ := placeF b off sz kd h x r (o + sz) (c0 :: ct) i hk' hx hi
      refine ⟨j + 1, by simpa using hj, ?_, e2, ?_⟩
      · rw [e1, Nat.succ_mul]; congr 1; omega
      · simp only [List.set_cons_succ, withF, setF, setV, restV, hv, if_false, List.getElem_cons_succ, e3]
end Kd
end Go.Proofs.YtkdhjejchdcipaaDoor
/-
  Layer 4: a heap type that is set at one of the places: the rows.
-/
namespace Go.Proofs.YtkdhjejchdcipaaDoor
open Go.RowKit
set_option linter.unusedVariables false
set_option linter.unusedSimpArgs false
set_option maxRecDepth 100000

/-- A heap type is stored. -/
def st2 (w : World) (b o : Nat) (h : Hp) : World := (w.setCell ⟨b, o, none⟩ (.int .i64 h.k)).setCell ⟨b, o + 1, none⟩ (.int .i64 h.n)
theorem flat_set2 {α : Type} {cs : α → List Value} {sz : Nat} (hs : ∀ x, (cs x).length = sz) (y : α) (i : Nat) (a b : Value) (hi : i + 1 < sz) : ∀ (l : List α) (j : Nat) (hj : j < l.length), cs y = ((cs l[j]).set i a).set (i + 1) b →
    ((l.flatMap cs).set (j * sz + i) a).set (j * sz + i + 1) b = (l.set j y).flatMap cs
  | [], j, hj, _ => by simp at hj
  | x :: l, 0, hj, he => by
    simp only [List.getElem_cons_zero] at he
    simp only [List.flatMap_cons, Nat.zero_mul, Nat.zero_add, List.set_cons_zero]
    rw [List.set_append_left _ _ (by rw [hs]; omega), List.set_append_left _ _ (by rw [List.length_set, hs]; omega), he]
  | x :: l, j + 1, hj, he => by
    have := flat_set2 hs y i a b hi l j (by simpa using hj) (by simpa using he)
    simp only [List.flatMap_cons, List.set_cons_succ]
    rw [List.set_append_right _ _ (by rw [hs, Nat.succ_mul]; omega), List.set_append_right _ _ (by rw [hs, Nat.succ_mul]; omega), ← this, hs, show (j + 1) * sz + i - sz = j * sz + i by rw [Nat.succ_mul]; omega, show (j + 1) * sz + i + 1 - sz = j * sz + i + 1 by rw [Nat.succ_mul]; omega]
section
variable {α : Type} {e ts sz B g n c b : Nat} {cs : α → List Value} {w : World} {l : List α}
theorem OwnG.st2 (hE : Elem e ts sz cs) (h : OwnG e sz cs B w (.slice (some ⟨g, 0, none⟩) n c) l) (j : Nat) (hj : j < l.length) (i : Nat) (hi : i + 1 < sz) (y : α) (x : Hp) (he : cs y = ((cs l[j]).set i (.int .i64 x.k)).set (i + 1) (.int .i64 x.n)) :
    OwnG e sz cs B (st2 w g (j * sz + i) x) (.slice (some ⟨g, 0, none⟩) n c) (l.set j y) := by
  obtain ⟨A', c', e'⟩ := h.form
  injection e' with e1 e2 e3
  subst e2
  have h1 := (World.ownsRow.stored (show w.ownsRow B e sz (.slice (some ⟨g, 0, none⟩) l.length c) l.length (l.flatMap cs) from h) (j * sz + i) (.int .i64 x.k)).1
  have h2 := (World.ownsRow.stored h1 (j * sz + i + 1) (.int .i64 x.n)).1
  show World.ownsRow _ _ _ _ _ _ _
  rw [List.length_set, ← flat_set2 hE.len y i _ _ hi l j hj he]
  exact h2
theorem OwnG.st2_far {v : Value} (h : OwnG e sz cs B w v l) (hb : ∀ g, v.ownBlock = some g → g ≠ b) (o : Nat) (x : Hp) : OwnG e sz cs B (Proofs.YtkdhjejchdcipaaDoor.st2 w b o x) v l := (h.far2 hb).far2 hb
theorem OwnG.none_or {v : Value} (h : OwnG e sz cs B w v l) : (v = .slice none 0 0 ∧ l = []) ∨ ∃ g c, v = .slice (some ⟨g, 0, none⟩) l.length c ∧ v.ownBlock = some g := by
  obtain ⟨h1, h2⟩ := h
  rcases h2 with ⟨rfl, h0⟩ | ⟨g, cap, cur, rfl, _⟩
  · exact .inl ⟨rfl, List.length_eq_zero_iff.1 h0⟩
  · exact .inr ⟨g, cap, rfl, rfl⟩
end
theorem cell_st2 {w : World} {b o k i : Nat} {x : Hp} (h : k ≠ b) : (st2 w b o x).cell? ⟨k, i, none⟩ = w.cell? ⟨k, i, none⟩ := by
  unfold st2
  rw [World.cell?_setCell_other _ _ _ _ (by intro e; injection e with e1 _; exact h (by first | exact e1 | exact e1.symm)), World.cell?_setCell_other _ _ _ _ (by intro e; injection e with e1 _; exact h (by first | exact e1 | exact e1.symm))]
theorem BoxS.st {B Bo g o : Nat} {w : World} {s s' : Sb} {v1 v2 v3 v4 : Value} {x : Hp} (h : BoxS B w Bo s v1 v2 v3 v4) (hg : Bo ≠ g) (hf : s'.fin = s.fin) (hk : s'.c.k = s.c.k)
    (o1 : OwnG 39 2 Hp.cs B (st2 w g o x) v1 s'.sups) (o2 : OwnG 46 4 Vl.cs B (st2 w g o x) v2 s'.c.ps) (o3 : OwnG 46 4 Vl.cs B (st2 w g o x) v3 s'.c.rs) (o4 : OwnG 50 6 Fd.cs B (st2 w g o x) v4 s'.c.fs) :
    BoxS B (st2 w g o x) Bo s' v1 v2 v3 v4 :=
  ⟨by rw [cell_st2 hg, hf]; exact h.c0, by rw [cell_st2 hg]; exact h.c1, by rw [cell_st2 hg, hk]; exact h.c2, by rw [cell_st2 hg]; exact h.c3, by rw [cell_st2 hg]; exact h.c4, by rw [cell_st2 hg]; exact h.c5, o1, o2, o3, o4, h.a12, h.a13, h.a14, h.a23, h.a24, h.a34, h.lo⟩
namespace Kd
theorem withV_far (h : Hp) : ∀ (l : List Vl) (c : List Hp) (i : Nat), (refs l).length ≤ i → withV l (c.set i h) = withV l c
  | [], c, i, _ => rfl
  | v :: r, c, i, hi => by
    rw [refs_cons] at hi
    by_cases hv : v.k = 3
    · rw [if_pos hv, List.length_append, List.length_singleton] at hi
      obtain ⟨i, rfl⟩ : ∃ k, i = k + 1 := ⟨i - 1, by omega⟩
      cases c with
      | nil => rfl
      | cons c0 ct =>
        simp only [List.set_cons_succ, withV, setV, restV, hv, if_true, List.headD_cons, List.tail_cons]
        rw [withV_far h r ct i (by omega)]
    · rw [if_neg hv, List.nil_append] at hi
      simp only [withV, setV, restV, hv, if_false]
      rw [withV_far h r c i hi]
theorem withF_far (h : Hp) : ∀ (l : List Fd) (c : List Hp) (i : Nat), (refs (l.map Fd.v)).length ≤ i → withF l (c.set i h) = withF l c
  | [], c, i, _ => rfl
  | v :: r, c, i, hi => by
    rw [List.map_cons, refs_cons] at hi
    by_cases hv : v.v.k = 3
    · rw [if_pos hv, List.length_append, List.length_singleton] at hi
      obtain ⟨i, rfl⟩ : ∃ k, i = k + 1 := ⟨i - 1, by omega⟩
      cases c with
      | nil => rfl
      | cons c0 ct =>
        simp only [List.set_cons_succ, withF, setF, setV, restV, hv, if_true, List.headD_cons, List.tail_cons]
        rw [withF_far h r ct i (by omega)]
    · rw [if_neg hv, List.nil_append] at hi
      simp only [withF, setF, setV, restV, hv, if_false]
      rw [withF_far h r c i hi]
theorem refs_withV : ∀ (l : List Vl) (c : List Hp), (refs l).length ≤ c.length → refs (withV l c) = c.take (refs l).length
  | [], c, _ => by simp [refs, withV]
  | v :: r, c, hc => by
    rw [refs_cons] at hc ⊢
    rw [withV, refs_cons]
    by_cases hv : v.k = 3
    · rw [if_pos hv, List.length_append, List.length_singleton] at hc
      cases c with
      | nil => simp at hc
      | cons c0 ct =>
        simp only [setV, restV, hv, if_true, List.headD_cons, List.tail_cons, List.length_append, List.length_singleton]
        rw [refs_withV r ct (by simp at hc; omega), Nat.add_comm 1, List.take_succ_cons]
        rfl
    · rw [if_neg hv, List.nil_append] at hc
      simp only [setV, restV, hv, if_false, List.nil_append]
      exact refs_withV r c hc
theorem map_withF : ∀ (l : List Fd) (c : List Hp), (withF l c).map Fd.v = withV (l.map Fd.v) c
  | [], _ => rfl
  | f :: r, c => by rw [withF, List.map_cons, List.map_cons, withV, map_withF r]; rfl
theorem heaps_len (s : Sb) : (heaps s).length = s.sups.length + ((refs s.c.ps).length + (refs s.c.rs).length + (refs (s.c.fs.map Fd.v)).length) := by
  unfold heaps allV
  rw [refs_append, refs_append, List.length_append, List.length_append, List.length_append]
theorem heaps_withS (s : Sb) (cur : List Hp) (h : cur.length = (heaps s).length) : heaps (withS s cur) = cur := by
  rw [heaps_len] at h
  unfold heaps allV withS
  dsimp only
  rw [refs_append, refs_append, map_withF, refs_withV _ _ (by rw [List.length_drop]; omega), refs_withV _ _ (by rw [List.length_drop]; omega), refs_withV _ _ (by rw [List.length_drop]; omega)]
  have e3 : List.take (refs (s.c.fs.map Fd.v)).length (List.drop (s.sups.length + (refs s.c.ps).length + (refs s.c.rs).length) cur) = List.drop (s.sups.length + (refs s.c.ps).length + (refs s.c.rs).length) cur := List.take_of_length_le (by rw [List.length_drop]; omega)
  rw [e3, List.append_assoc, ← List.drop_drop (i := (refs s.c.rs).length), List.take_append_drop, ← List.drop_drop (i := (refs s.c.ps).length), List.take_append_drop, List.take_append_drop]
end Kd
end Go.Proofs.YtkdhjejchdcipaaDoor
/-
  Layer 4: a heap type that is set at one of the places: the type.
-/
namespace Go.Proofs.YtkdhjejchdcipaaDoor
open Go.RowKit
set_option linter.unusedVariables false
set_option linter.unusedSimpArgs false
set_option maxRecDepth 100000

/-- The kinds of the value types of l, as kd tells them where they stand. -/
def KdOk (kd : Addr → Int) (A : Option Addr) (sz o : Nat) (l : List Vl) : Prop := ∀ b off, A = some ⟨b, off, none⟩ → ∀ j (hj : j < l.length), kd ⟨b, off + j * sz + o, none⟩ = l[j].k
namespace Kd
theorem filter_len (b off sz : Nat) (kd : Addr → Int) : ∀ (l : List Vl) (o : Nat), (∀ j (hj : j < l.length), kd ⟨b, off + j * sz + o, none⟩ = l[j].k) → ((ats (some ⟨b, off, none⟩) sz o l.length).filter fun x => decide (kd x = 3)).length = (refs l).length
  | [], o, _ => by simp [ats, refs]
  | v :: r, o, hk => by
    have h0 : kd ⟨b, off + o, none⟩ = v.k := by have := hk 0 (by simp); rwa [Nat.zero_mul, Nat.add_zero] at this
    have ih := filter_len b off sz kd r (o + sz) (fun j hj => by
      have := hk (j + 1) (by simpa using hj)
      rw [List.getElem_cons_succ, Nat.succ_mul] at this
      rw [← this]
      congr 2
      omega)
    rw [List.length_cons, ats_cons, List.filter_cons, refs_cons]
    by_cases hv : v.k = 3
    · rw [if_pos (by rw [h0, hv]; rfl), if_pos hv, List.length_cons, ih]
      simp [Nat.add_comm]
    · rw [if_neg (by rw [h0]; simpa using hv), if_neg hv, ih]
      simp
theorem withV_get : ∀ (l : List Vl) (c : List Hp) (j : Nat) (hj : j < l.length) (hj' : j < (withV l c).length), (withV l c)[j].k = l[j].k ∧ (withV l c)[j].nu = l[j].nu
  | [], c, j, hj, _ => by simp at hj
  | v :: r, c, 0, _, _ => by
    simp only [withV, List.getElem_cons_zero, setV]
    split <;> exact ⟨rfl, rfl⟩
  | v :: r, c, j + 1, hj, _ => by
    simp only [withV, List.getElem_cons_succ]
    exact withV_get r _ j (by simpa using hj) _
theorem withF_get : ∀ (l : List Fd) (c : List Hp) (j : Nat) (hj : j < l.length) (hj' : j < (withF l c).length), (withF l c)[j].pk = l[j].pk ∧ (withF l c)[j].v.k = l[j].v.k ∧ (withF l c)[j].v.nu = l[j].v.nu ∧ (withF l c)[j].mu = l[j].mu
  | [], c, j, hj, _ => by simp at hj
  | v :: r, c, 0, _, _ => by
    simp only [withF, List.getElem_cons_zero, setF, setV]
    split <;> simp
  | v :: r, c, j + 1, hj, _ => by
    simp only [withF, List.getElem_cons_succ]
    exact withF_get r _ j (by simpa using hj) _
end Kd
theorem filter_len' {kd : Addr → Int} {A : Option Addr} {sz o n : Nat} {l : List Vl} (hn : n = l.length) (h : KdOk kd A sz o l) (hA : (A = none ∧ l = []) ∨ ∃ g, A = some ⟨g, 0, none⟩) : ((ats A sz o n).filter fun x => decide (kd x = 3)).length = (Kd.refs l).length := by
  subst hn
  rcases hA with ⟨rfl, rfl⟩ | ⟨g, rfl⟩
  · simp [ats, Kd.refs]
  · exact Kd.filter_len g 0 sz kd l o (h g 0 rfl)
theorem own_none {α : Type} {e ts sz B n c : Nat} {cs : α → List Value} {w : World} {A : Option Addr} {l : List α} (h : OwnG e sz cs B w (.slice A n c) l) : (A = none ∧ l = []) ∨ ∃ g, A = some ⟨g, 0, none⟩ := by
  rcases h.none_or with ⟨e, h0⟩ | ⟨g, c', e, _⟩
  · injection e with e1 _ _
    exact .inl ⟨e1, h0⟩
  · injection e with e1 _ _
    exact .inr ⟨g, e1⟩

theorem ap_ne {v v' : Value} {g : Nat} (h : Ap v v') (hv : v.ownBlock = some g) : ∀ g', v'.ownBlock = some g' → g' ≠ g := fun g' h' e => h g hv (by rw [h', e])

set_option maxHeartbeats 2000000 in
/-- The heap type at the i-th place is set: the type is the one with that heap type as its i-th. -/
theorem BoxS.place {B Bo c1 c2 c3 c4 : Nat} {w : World} {s : Sb} {cur : List Hp} {A1 A2 A3 A4 : Option Addr}
    (hb : BoxS B w Bo (Kd.withS s cur) (.slice A1 s.sups.length c1) (.slice A2 s.c.ps.length c2) (.slice A3 s.c.rs.length c3) (.slice A4 s.c.fs.length c4)) (hlen : cur.length = (Kd.heaps s).length)
    (hBo : ∀ g, (A1 = some ⟨g, 0, none⟩ ∨ A2 = some ⟨g, 0, none⟩ ∨ A3 = some ⟨g, 0, none⟩ ∨ A4 = some ⟨g, 0, none⟩) → Bo ≠ g)
    {kd : Addr → Int} (k2 : KdOk kd A2 4 0 s.c.ps) (k3 : KdOk kd A3 4 0 s.c.rs) (k4 : KdOk kd A4 6 1 (s.c.fs.map Fd.v))
    (i : Nat) (x : Addr) (hx : (heapsAt kd A1 s.sups.length (valsAt A2 s.c.ps.length A3 s.c.rs.length A4 s.c.fs.length))[i]? = some x) (y : Hp) :
    BoxS B (st2 w x.block x.off y) Bo (Kd.withS s (cur.set i y)) (.slice A1 s.sups.length c1) (.slice A2 s.c.ps.length c2) (.slice A3 s.c.rs.length c3) (.slice A4 s.c.fs.length c4) := by
  rw [Kd.heaps_len] at hlen
  have q1 := own_none (ts := 22) hb.o1
  have q2 := own_none (ts := 24) hb.o2
  have q3 := own_none (ts := 24) hb.o3
  have q4 := own_none (ts := 25) hb.o4
  have f2 := filter_len' (n := s.c.ps.length) rfl k2 (by
    rcases q2 with ⟨h1, h2⟩ | h
    · exact .inl ⟨h1, List.length_eq_zero_iff.1 (by have := Kd.withV_len s.c.ps (cur.drop s.sups.length); rw [show Kd.withV s.c.ps (cur.drop s.sups.length) = [] from h2] at this; exact this.symm)⟩
    · exact .inr h)
  have f3 := filter_len' (n := s.c.rs.length) rfl k3 (by
    rcases q3 with ⟨h1, h2⟩ | h
    · exact .inl ⟨h1, List.length_eq_zero_iff.1 (by have := Kd.withV_len s.c.rs (cur.drop (s.sups.length + (Kd.refs s.c.ps).length)); rw [show Kd.withV s.c.rs (cur.drop (s.sups.length + (Kd.refs s.c.ps).length)) = [] from h2] at this; exact this.symm)⟩
    · exact .inr h)
  unfold heapsAt at hx
  rcases Nat.lt_or_ge i s.sups.length with h | h
  · rw [List.getElem?_append_left (by rw [ats_len]; exact h)] at hx
    rcases q1 with ⟨h1, h2⟩ | ⟨g, rfl⟩
    · exfalso
      have h3 : (cur.take s.sups.length).length = 0 := by rw [show cur.take s.sups.length = [] from h2]; rfl
      rw [List.length_take] at h3
      omega
    · obtain ⟨hl, hx⟩ := List.getElem?_eq_some_iff.1 hx
      rw [ats_get] at hx
      subst hx
      have e1 : (Kd.withS s (cur.set i y)).sups = (Kd.withS s cur).sups.set i y := by simp only [Kd.withS]; rw [List.take_set]
      have e2 : (Kd.withS s (cur.set i y)).c = (Kd.withS s cur).c := by
        simp only [Kd.withS]
        rw [List.drop_set_of_lt (by omega), List.drop_set_of_lt (by omega), List.drop_set_of_lt (by omega)]
      have hlt : i < (Kd.withS s cur).sups.length := by simp only [Kd.withS]; rw [List.length_take]; omega
      have o1 := hb.o1.st2 elemH i hlt 0 (by decide) y y (by rfl)
      rw [show i * 2 + 0 = 0 + i * 2 + 0 by omega] at o1
      refine hb.st (hBo g (.inl rfl)) rfl (by rw [e2]) (by rw [e1]; exact o1) ?_ ?_ ?_
      · rw [e2]; exact hb.o2.st2_far (ap_ne hb.a12 rfl) _ _
      · rw [e2]; exact hb.o3.st2_far (ap_ne hb.a13 rfl) _ _
      · rw [e2]; exact hb.o4.st2_far (ap_ne hb.a14 rfl) _ _
  · rw [List.getElem?_append_right (by rw [ats_len]; exact h), ats_len, List.getElem?_map] at hx
    obtain ⟨x', hx', rfl⟩ := Option.map_eq_some_iff.1 hx
    unfold valsAt at hx'
    rw [List.filter_append, List.filter_append] at hx'
    have e1 : (Kd.withS s (cur.set i y)).sups = (Kd.withS s cur).sups := by simp only [Kd.withS]; rw [List.take_set_of_le (by omega)]
    rcases Nat.lt_or_ge (i - s.sups.length) ((Kd.refs s.c.ps).length + (Kd.refs s.c.rs).length) with h' | h'
    · rw [List.getElem?_append_left (by rw [List.length_append, f2, f3]; exact h')] at hx'
      have e4 : (Kd.withS s (cur.set i y)).c.fs = (Kd.withS s cur).c.fs := by
        simp only [Kd.withS]
        rw [List.drop_set_of_lt (by omega)]
      rcases Nat.lt_or_ge (i - s.sups.length) (Kd.refs s.c.ps).length with h'' | h''
      · rw [List.getElem?_append_left (by rw [f2]; exact h'')] at hx'
        rcases q2 with ⟨rfl, _⟩ | ⟨g, rfl⟩
        · exfalso
          have hz : s.c.ps.length = 0 := by
            have := Kd.withV_len s.c.ps (cur.drop s.sups.length)
            have hn := hb.o2.none_or
            rcases hn with ⟨_, h2⟩ | ⟨g, c, h2, _⟩
            · rw [show Kd.withV s.c.ps (cur.drop s.sups.length) = [] from h2] at this; exact this.symm
            · injection h2 with h2; cases h2
          rw [List.length_eq_zero_iff.1 hz] at h''
          simp [Kd.refs] at h''
        · obtain ⟨j, hj, rfl, hk3, hw⟩ := Kd.placeV g 0 4 kd y x' s.c.ps 0 (cur.drop s.sups.length) (i - s.sups.length) (k2 g 0 rfl) hx' (by rw [List.length_drop]; omega)
          have e2 : (Kd.withS s (cur.set i y)).c.ps = (Kd.withS s cur).c.ps.set j ⟨3, s.c.ps[j].nu, y⟩ := by
            simp only [Kd.withS]
            rw [List.drop_set, if_neg (by omega)]
            exact hw
          have e3 : (Kd.withS s (cur.set i y)).c.rs = (Kd.withS s cur).c.rs := by
            simp only [Kd.withS]
            rw [List.drop_set_of_lt (by omega)]
          have hlt : j < (Kd.withS s cur).c.ps.length := by simp only [Kd.withS]; rw [Kd.withV_len]; exact hj
          have hg := Kd.withV_get s.c.ps (cur.drop s.sups.length) j hj hlt
          have o2 := hb.o2.st2 elemV j hlt 2 (by decide) ⟨3, s.c.ps[j].nu, y⟩ y (by
            show Vl.cs _ = ((Vl.cs (Kd.withV s.c.ps (cur.drop s.sups.length))[j]).set 2 _).set 3 _
            simp only [Vl.cs, hg.1, hg.2, hk3, List.set_cons_succ, List.set_cons_zero])
          rw [show j * 4 + 2 = 0 + j * 4 + 0 + 2 by omega] at o2
          refine hb.st (hBo g (.inr (.inl rfl))) rfl rfl ?_ (by rw [e2]; exact o2) ?_ ?_
          · rw [e1]; exact hb.o1.st2_far (ap_ne hb.a12.symm rfl) _ _
          · rw [e3]; exact hb.o3.st2_far (ap_ne hb.a23 rfl) _ _
          · rw [e4]; exact hb.o4.st2_far (ap_ne hb.a24 rfl) _ _
      · have e2 : (Kd.withS s (cur.set i y)).c.ps = (Kd.withS s cur).c.ps := by
          simp only [Kd.withS]
          rw [List.drop_set, if_neg (by omega), Kd.withV_far _ _ _ _ h'']
        rw [List.getElem?_append_right (by rw [f2]; exact h''), f2, Nat.sub_sub] at hx'
        rcases q3 with ⟨rfl, _⟩ | ⟨g, rfl⟩
        · exfalso
          have hz : s.c.rs.length = 0 := by
            have := Kd.withV_len s.c.rs (cur.drop (s.sups.length + (Kd.refs s.c.ps).length))
            have hn := hb.o3.none_or
            rcases hn with ⟨_, h2⟩ | ⟨g, c, h2, _⟩
            · rw [show Kd.withV s.c.rs (cur.drop (s.sups.length + (Kd.refs s.c.ps).length)) = [] from h2] at this; exact this.symm
            · injection h2 with h2; cases h2
          rw [hz] at hx'
          simp [ats] at hx'
        · obtain ⟨j, hj, rfl, hk3, hw⟩ := Kd.placeV g 0 4 kd y x' s.c.rs 0 (cur.drop (s.sups.length + (Kd.refs s.c.ps).length)) (i - (s.sups.length + (Kd.refs s.c.ps).length)) (k3 g 0 rfl) hx' (by rw [List.length_drop]; omega)
          have e3 : (Kd.withS s (cur.set i y)).c.rs = (Kd.withS s cur).c.rs.set j ⟨3, s.c.rs[j].nu, y⟩ := by
            simp only [Kd.withS]
            rw [List.drop_set, if_neg (by omega)]
            exact hw
          have hlt : j < (Kd.withS s cur).c.rs.length := by simp only [Kd.withS]; rw [Kd.withV_len]; exact hj
          have hg := Kd.withV_get s.c.rs (cur.drop (s.sups.length + (Kd.refs s.c.ps).length)) j hj hlt
          have o3 := hb.o3.st2 elemV j hlt 2 (by decide) ⟨3, s.c.rs[j].nu, y⟩ y (by
            show Vl.cs _ = ((Vl.cs (Kd.withV s.c.rs (cur.drop (s.sups.length + (Kd.refs s.c.ps).length)))[j]).set 2 _).set 3 _
            simp only [Vl.cs, hg.1, hg.2, hk3, List.set_cons_succ, List.set_cons_zero])
          rw [show j * 4 + 2 = 0 + j * 4 + 0 + 2 by omega] at o3
          refine hb.st (hBo g (.inr (.inr (.inl rfl)))) rfl rfl ?_ ?_ (by rw [e3]; exact o3) ?_
          · rw [e1]; exact hb.o1.st2_far (ap_ne hb.a13.symm rfl) _ _
          · rw [e2]; exact hb.o2.st2_far (ap_ne hb.a23.symm rfl) _ _
          · rw [e4]; exact hb.o4.st2_far (ap_ne hb.a34 rfl) _ _
    · have e2 : (Kd.withS s (cur.set i y)).c.ps = (Kd.withS s cur).c.ps := by
        simp only [Kd.withS]
        rw [List.drop_set, if_neg (by omega), Kd.withV_far _ _ _ _ (by omega)]
      have e3 : (Kd.withS s (cur.set i y)).c.rs = (Kd.withS s cur).c.rs := by
        simp only [Kd.withS]
        rw [List.drop_set, if_neg (by omega), Kd.withV_far _ _ _ _ (by omega)]
      rw [List.getElem?_append_right (by rw [List.length_append, f2, f3]; exact h'), List.length_append, f2, f3, Nat.sub_sub] at hx'
      rcases q4 with ⟨rfl, _⟩ | ⟨g, rfl⟩
      · exfalso
        have hz : s.c.fs.length = 0 := by
          have := Kd.withF_len s.c.fs (cur.drop (s.sups.length + (Kd.refs s.c.ps).length + (Kd.refs s.c.rs).length))
          have hn := hb.o4.none_or
          rcases hn with ⟨_, h2⟩ | ⟨g, c, h2, _⟩
          · rw [show Kd.withF s.c.fs (cur.drop (s.sups.length + (Kd.refs s.c.ps).length + (Kd.refs s.c.rs).length)) = [] from h2] at this; exact this.symm
          · injection h2 with h2; cases h2
        rw [hz] at hx'
        simp [ats] at hx'
      · have f4 := filter_len' (n := s.c.fs.length) (l := s.c.fs.map Fd.v) (by simp) k4 (.inr ⟨g, rfl⟩)
        have hi4 := (List.getElem?_eq_some_iff.1 hx').1
        rw [f4] at hi4
        obtain ⟨j, hj, rfl, hk3, hw⟩ := Kd.placeF g 0 6 kd y x' s.c.fs 1 (cur.drop (s.sups.length + (Kd.refs s.c.ps).length + (Kd.refs s.c.rs).length)) (i - (s.sups.length + ((Kd.refs s.c.ps).length + (Kd.refs s.c.rs).length))) (fun j hj => by have := k4 g 0 rfl j (by simpa using hj); rw [List.getElem_map] at this; exact this) hx' (by rw [List.length_drop]; omega)
        have e4 : (Kd.withS s (cur.set i y)).c.fs = (Kd.withS s cur).c.fs.set j ⟨s.c.fs[j].pk, ⟨3, s.c.fs[j].v.nu, y⟩, s.c.fs[j].mu⟩ := by
          simp only [Kd.withS]
          rw [List.drop_set, if_neg (by omega), Nat.add_assoc] at *
          exact hw
        have hlt : j < (Kd.withS s cur).c.fs.length := by simp only [Kd.withS]; rw [Kd.withF_len]; exact hj
        have hg := Kd.withF_get s.c.fs (cur.drop (s.sups.length + (Kd.refs s.c.ps).length + (Kd.refs s.c.rs).length)) j hj hlt
        have o4 := hb.o4.st2 elemF j hlt 3 (by decide) ⟨s.c.fs[j].pk, ⟨3, s.c.fs[j].v.nu, y⟩, s.c.fs[j].mu⟩ y (by
          show Fd.cs _ = ((Fd.cs (Kd.withF s.c.fs (cur.drop (s.sups.length + (Kd.refs s.c.ps).length + (Kd.refs s.c.rs).length)))[j]).set 3 _).set 4 _
          simp only [Fd.cs, hg.1, hg.2.1, hg.2.2.1, hg.2.2.2, hk3, List.set_cons_succ, List.set_cons_zero])
        rw [show j * 6 + 3 = 0 + j * 6 + 1 + 2 by omega] at o4
        refine hb.st (hBo g (.inr (.inr (.inr rfl)))) rfl rfl ?_ ?_ ?_ (by rw [e4]; exact o4)
        · rw [e1]; exact hb.o1.st2_far (ap_ne hb.a14.symm rfl) _ _
        · rw [e2]; exact hb.o2.st2_far (ap_ne hb.a24.symm rfl) _ _
        · rw [e3]; exact hb.o3.st2_far (ap_ne hb.a34.symm rfl) _ _
end Go.Proofs.YtkdhjejchdcipaaDoor
/-
  Layer 4: the places of a type: what is known of each.
-/
namespace Go.Proofs.YtkdhjejchdcipaaDoor
open Go.RowKit
set_option linter.unusedVariables false
set_option linter.unusedSimpArgs false
set_option maxRecDepth 100000

theorem Al.get {α β : Type} {R : α → β → Prop} : ∀ {l : List α} {m : List β}, Al R l m → ∀ (i : Nat) (x : α), l[i]? = some x → ∃ y, m[i]? = some y ∧ R x y
  | [], m, _, i, x, hx => by simp at hx
  | a :: l, [], h, _, _, _ => h.elim
  | a :: l, b :: m, h, 0, x, hx => by
    simp only [List.getElem?_cons_zero, Option.some.injEq] at hx
    subst hx
    exact ⟨b, rfl, h.1⟩
  | a :: l, b :: m, h, i + 1, x, hx => by
    rw [List.getElem?_cons_succ] at hx
    exact Al.get h.2 i x hx
/-- Going over a list with a state. -/
def mapS {σ : Type} (step : σ → Hp → σ × Hp) (a : σ) (l : List Hp) : σ × List Hp := l.foldl (fun p h => ((step p.1 h).1, p.2 ++ [(step p.1 h).2])) (a, [])
theorem mapS_snoc {σ : Type} (step : σ → Hp → σ × Hp) (a : σ) (l : List Hp) (h : Hp) : mapS step a (l ++ [h]) = ((step (mapS step a l).1 h).1, (mapS step a l).2 ++ [(step (mapS step a l).1 h).2]) := by
  unfold mapS
  rw [List.foldl_append]
  rfl
theorem at_form {A : Option Addr} {sz o n : Nat} {x : Addr} (hx : x ∈ ats A sz o n) (hA : (A = none ∧ n = 0) ∨ ∃ g, A = some ⟨g, 0, none⟩) : ∃ g j, A = some ⟨g, 0, none⟩ ∧ x = ⟨g, j * sz + o, none⟩ := by
  rcases hA with ⟨rfl, rfl⟩ | ⟨g, rfl⟩
  · simp [ats] at hx
  · unfold ats at hx
    obtain ⟨j, _, rfl⟩ := List.mem_map.1 hx
    exact ⟨g, j, rfl, by simp⟩
theorem own_none' {α : Type} {e sz B n c : Nat} {cs : α → List Value} {w : World} {A : Option Addr} {l : List α} (h : OwnG e sz cs B w (.slice A n c) l) : (A = none ∧ n = 0) ∨ ∃ g, A = some ⟨g, 0, none⟩ := by
  rcases h.none_or with ⟨e, h0⟩ | ⟨g, c', e, _⟩
  · injection e with e1 e2 _
    exact .inl ⟨e1, e2⟩
  · injection e with e1 _ _
    exact .inr ⟨g, e1⟩
theorem OwnG.same {α : Type} {e sz B : Nat} {cs : α → List Value} {w w' : World} {v : Value} {l : List α} (h : OwnG e sz cs B w v l) (hz : w.heap.size ≤ w'.heap.size) (hb : ∀ g, v.ownBlock = some g → w'.heap[g]? = w.heap[g]?) : OwnG e sz cs B w' v l := by
  obtain ⟨h1, h2⟩ := h
  refine ⟨by omega, ?_⟩
  rcases h2 with h2 | ⟨g, cap, cur, rfl, h3, h4, h5⟩
  · exact .inl h2
  · exact .inr ⟨g, cap, cur, rfl, h3, (hb g rfl).trans h4, h5⟩
theorem BoxS.same {B Bo : Nat} {w w' : World} {s : Sb} {v1 v2 v3 v4 : Value} (h : BoxS B w Bo s v1 v2 v3 v4) (hz : w.heap.size ≤ w'.heap.size) (hb : ∀ k, B ≤ k → k < w.heap.size → w'.heap[k]? = w.heap[k]?) : BoxS B w' Bo s v1 v2 v3 v4 := by
  have hB := hb Bo h.lo h.lt
  have hc : ∀ i, w'.cell? ⟨Bo, i, none⟩ = w.cell? ⟨Bo, i, none⟩ := fun i => World.cell?_of_block (w := w) (a := ⟨Bo, i, none⟩) hB
  refine ⟨(hc _).trans h.c0, (hc _).trans h.c1, (hc _).trans h.c2, (hc _).trans h.c3, (hc _).trans h.c4, (hc _).trans h.c5, h.o1.same hz ?_, h.o2.same hz ?_, h.o3.same hz ?_, h.o4.same hz ?_, h.a12, h.a13, h.a14, h.a23, h.a24, h.a34, h.lo⟩
  · exact fun g e => hb g (h.o1.lt g e).1 (h.o1.lt g e).2
  · exact fun g e => hb g (h.o2.lt g e).1 (h.o2.lt g e).2
  · exact fun g e => hb g (h.o3.lt g e).1 (h.o3.lt g e).2
  · exact fun g e => hb g (h.o4.lt g e).1 (h.o4.lt g e).2
theorem own_fz {α : Type} {e sz B n c g : Nat} {cs : α → List Value} {w : World} {l : List α} (h : OwnG e sz cs B w (.slice (some ⟨g, 0, none⟩) n c) l) (o : Nat) : w.frozen? ⟨g, o, none⟩ = false := by
  obtain ⟨A', c', e'⟩ := h.form
  injection e' with e1 e2 e3
  subst e2
  exact World.ownsRow.frozenAt h o

section
variable {B Bo c1 c2 c3 c4 n1 n2 n3 n4 : Nat} {w : World} {t : Sb} {A1 A2 A3 A4 : Option Addr}
/-- In which row a value type stands. -/
theorem BoxS.vals (hb : BoxS B w Bo t (.slice A1 n1 c1) (.slice A2 n2 c2) (.slice A3 n3 c3) (.slice A4 n4 c4)) {x : Addr} (hx : x ∈ valsAt A2 n2 A3 n3 A4 n4) :
    ∃ g j, (A2 = some ⟨g, 0, none⟩ ∧ x = ⟨g, j * 4 + 0, none⟩) ∨ (A3 = some ⟨g, 0, none⟩ ∧ x = ⟨g, j * 4 + 0, none⟩) ∨ (A4 = some ⟨g, 0, none⟩ ∧ x = ⟨g, j * 6 + 1, none⟩) := by
  unfold valsAt at hx
  rcases List.mem_append.1 hx with hx | hx
  · rcases List.mem_append.1 hx with hx | hx
    · obtain ⟨g, j, h1, h2⟩ := at_form hx (own_none' hb.o2)
      exact ⟨g, j, .inl ⟨h1, h2⟩⟩
    · obtain ⟨g, j, h1, h2⟩ := at_form hx (own_none' hb.o3)
      exact ⟨g, j, .inr (.inl ⟨h1, h2⟩)⟩
  · obtain ⟨g, j, h1, h2⟩ := at_form hx (own_none' hb.o4)
    exact ⟨g, j, .inr (.inr ⟨h1, h2⟩)⟩
theorem BoxS.places (hb : BoxS B w Bo t (.slice A1 n1 c1) (.slice A2 n2 c2) (.slice A3 n3 c3) (.slice A4 n4 c4)) {kd : Addr → Int} {y : Addr} (hy : y ∈ heapsAt kd A1 n1 (valsAt A2 n2 A3 n3 A4 n4)) :
    ∃ g j, (A1 = some ⟨g, 0, none⟩ ∧ y = ⟨g, j * 2 + 0, none⟩) ∨ (A2 = some ⟨g, 0, none⟩ ∧ y = ⟨g, j * 4 + 0 + 2, none⟩) ∨ (A3 = some ⟨g, 0, none⟩ ∧ y = ⟨g, j * 4 + 0 + 2, none⟩) ∨ (A4 = some ⟨g, 0, none⟩ ∧ y = ⟨g, j * 6 + 1 + 2, none⟩) := by
  rcases List.mem_append.1 hy with hy | hy
  · obtain ⟨g, j, h1, h2⟩ := at_form hy (own_none' hb.o1)
    exact ⟨g, j, .inl ⟨h1, h2⟩⟩
  · obtain ⟨x, hx, rfl⟩ := List.mem_map.1 hy
    obtain ⟨g, j, h | h | h⟩ := hb.vals (List.mem_filter.1 hx).1
    · exact ⟨g, j, .inr (.inl ⟨h.1, by rw [h.2]; rfl⟩)⟩
    · exact ⟨g, j, .inr (.inr (.inl ⟨h.1, by rw [h.2]; rfl⟩))⟩
    · exact ⟨g, j, .inr (.inr (.inr ⟨h.1, by rw [h.2]; rfl⟩))⟩
/-- What is set at a place may be set, and lies in a row. -/
theorem BoxS.room (hb : BoxS B w Bo t (.slice A1 n1 c1) (.slice A2 n2 c2) (.slice A3 n3 c3) (.slice A4 n4 c4)) {kd : Addr → Int} {y : Addr} (hy : y ∈ heapsAt kd A1 n1 (valsAt A2 n2 A3 n3 A4 n4)) :
    y.spot = none ∧ B ≤ y.block ∧ y.block < w.heap.size ∧ (A1 = some ⟨y.block, 0, none⟩ ∨ A2 = some ⟨y.block, 0, none⟩ ∨ A3 = some ⟨y.block, 0, none⟩ ∨ A4 = some ⟨y.block, 0, none⟩) ∧ ∀ o, w.frozen? ⟨y.block, o, none⟩ = false := by
  obtain ⟨g, j, ⟨rfl, rfl⟩ | ⟨rfl, rfl⟩ | ⟨rfl, rfl⟩ | ⟨rfl, rfl⟩⟩ := hb.places hy
  · exact ⟨rfl, (hb.o1.lt g rfl).1, (hb.o1.lt g rfl).2, .inl rfl, own_fz hb.o1⟩
  · exact ⟨rfl, (hb.o2.lt g rfl).1, (hb.o2.lt g rfl).2, .inr (.inl rfl), own_fz hb.o2⟩
  · exact ⟨rfl, (hb.o3.lt g rfl).1, (hb.o3.lt g rfl).2, .inr (.inr (.inl rfl)), own_fz hb.o3⟩
  · exact ⟨rfl, (hb.o4.lt g rfl).1, (hb.o4.lt g rfl).2, .inr (.inr (.inr rfl)), own_fz hb.o4⟩
/-- A value type's kind stands at none of the places. -/
theorem BoxS.kinds (hb : BoxS B w Bo t (.slice A1 n1 c1) (.slice A2 n2 c2) (.slice A3 n3 c3) (.slice A4 n4 c4)) {kd : Addr → Int} {x y : Addr} (hx : x ∈ valsAt A2 n2 A3 n3 A4 n4) (hy : y ∈ heapsAt kd A1 n1 (valsAt A2 n2 A3 n3 A4 n4)) :
    ¬ (x.block = y.block ∧ (x.off = y.off ∨ x.off = y.off + 1)) := by
  rintro ⟨e1, e2⟩
  obtain ⟨g, j, h⟩ := hb.vals hx
  obtain ⟨g', j', h'⟩ := hb.places hy
  rcases h with ⟨rfl, rfl⟩ | ⟨rfl, rfl⟩ | ⟨rfl, rfl⟩ <;> rcases h' with ⟨q, rfl⟩ | ⟨q, rfl⟩ | ⟨q, rfl⟩ | ⟨q, rfl⟩ <;> dsimp only at e1 e2 <;> subst e1
  · subst q; exact hb.a12 g rfl rfl
  · omega
  · subst q; exact hb.a23 g rfl rfl
  · subst q; exact hb.a24 g rfl rfl
  · subst q; exact hb.a13 g rfl rfl
  · subst q; exact hb.a23 g rfl rfl
  · omega
  · subst q; exact hb.a34 g rfl rfl
  · subst q; exact hb.a14 g rfl rfl
  · subst q; exact hb.a24 g rfl rfl
  · subst q; exact hb.a34 g rfl rfl
  · omega
end
end Go.Proofs.YtkdhjejchdcipaaDoor
/-
  Layer 4, plain: a type whose heap types are changed, and changed again.
-/
namespace Go.Proofs.YtkdhjejchdcipaaDoor
open Go.RowKit
set_option linter.unusedVariables false
set_option linter.unusedSimpArgs false
set_option maxRecDepth 100000

theorem mapS_map (f : Hp → Hp) (l : List Hp) : (mapS (fun (a : Unit) h => (a, f h)) () l).2 = l.map f := by
  have : ∀ (l : List Hp) (acc : List Hp), (l.foldl (fun (p : Unit × List Hp) h => (p.1, p.2 ++ [f h])) ((), acc)).2 = acc ++ l.map f := by
    intro l
    induction l with
    | nil => intro acc; simp
    | cons h r ih => intro acc; rw [List.foldl_cons, ih]; simp
  have := this l []
  rw [List.nil_append] at this
  exact this
namespace Kd
theorem withV_withV : ∀ (l : List Vl) (c d : List Hp), withV (withV l c) d = withV l d
  | [], _, _ => rfl
  | v :: r, c, d => by
    simp only [withV]
    by_cases hv : v.k = 3
    · simp only [setV, restV, hv, if_true]
      rw [withV_withV r]
    · simp only [setV, restV, hv, if_false]
      rw [withV_withV r]
theorem withF_withF : ∀ (l : List Fd) (c d : List Hp), withF (withF l c) d = withF l d
  | [], _, _ => rfl
  | v :: r, c, d => by
    simp only [withF]
    by_cases hv : v.v.k = 3
    · simp only [setF, setV, restV, hv, if_true]
      rw [withF_withF r]
    · simp only [setF, setV, restV, hv, if_false]
      rw [withF_withF r]
theorem withS_withS (s : Sb) (c d : List Hp) (h : c.length = (heaps s).length) : withS (withS s c) d = withS s d := by
  have hl := h
  rw [heaps_len] at hl
  have e1 : (withS s c).sups.length = s.sups.length := by
    show (c.take s.sups.length).length = _
    rw [List.length_take]; omega
  have e2 : (refs (withS s c).c.ps).length = (refs s.c.ps).length := by
    show (refs (withV s.c.ps (c.drop s.sups.length))).length = _
    rw [refs_withV _ _ (by rw [List.length_drop]; omega), List.length_take, List.length_drop]; omega
  have e3 : (refs (withS s c).c.rs).length = (refs s.c.rs).length := by
    show (refs (withV s.c.rs (c.drop (s.sups.length + (refs s.c.ps).length)))).length = _
    rw [refs_withV _ _ (by rw [List.length_drop]; omega), List.length_take, List.length_drop]; omega
  have e : withS (withS s c) d = ⟨(withS s c).fin, d.take (withS s c).sups.length, (withS s c).c.k, withV (withS s c).c.ps (d.drop (withS s c).sups.length), withV (withS s c).c.rs (d.drop ((withS s c).sups.length + (refs (withS s c).c.ps).length)), withF (withS s c).c.fs (d.drop ((withS s c).sups.length + (refs (withS s c).c.ps).length + (refs (withS s c).c.rs).length))⟩ := rfl
  rw [e, e1, e2, e3]
  unfold withS
  dsimp only
  rw [withV_withV, withV_withV, withF_withF]
theorem withS_small {s : Sb} (c : List Hp) (h : Small s) : Small (withS s c) := by
  refine ⟨?_, ?_, ?_, ?_⟩
  · show (c.take s.sups.length).length ≤ 10000
    rw [List.length_take]; have := h.a; omega
  · show (withV s.c.ps _).length ≤ 10000
    rw [withV_len]; exact h.p
  · show (withV s.c.rs _).length ≤ 10000
    rw [withV_len]; exact h.r
  · show (withF s.c.fs _).length ≤ 10000
    rw [withF_len]; exact h.f
/-- Changed by f, then by g, is changed by both at once. -/
theorem maps_twice (s : Sb) (f g : Hp → Hp) : withS (withS s ((heaps s).map f)) ((heaps (withS s ((heaps s).map f))).map g) = withS s ((heaps s).map (g ∘ f)) := by
  have hl : ((heaps s).map f).length = (heaps s).length := by simp
  rw [heaps_withS s _ hl, withS_withS s _ _ hl, List.map_map]
theorem maps_stay (s : Sb) : withS s ((heaps s).map id) = s := by rw [List.map_id, withS_heaps]
end Kd
end Go.Proofs.YtkdhjejchdcipaaDoor
/-
  Layer 4, code: Map.
-/
namespace Go.Proofs.YtkdhjejchdcipaaDoor
open Go.RowKit Go.Shelf
attribute [local go_sem] Oper.semAt_some
set_option linter.unusedVariables false
set_option linter.unusedSimpArgs false
set_option maxRecDepth 100000

theorem places_any (p : Addr) (W : World) : Calls Tryd.prog 61 #[.pointer (some p)] W fun e w' => e = .returned (.func (.func 107) #[] #[.pointer (some ⟨W.heap.size, 0, none⟩)]) ∧ ∃ t, w' = W.alloc (.cells #[.pointer (some p)] t) :=
  callsIn_wide.1 (placesF_in Fence.wide 20 trivial rfl p W)
theorem kd_ok {α : Type} {e ts sz B n c o : Nat} {cs : α → List Value} {W : World} {A : Option Addr} {l : List α} (vl : α → Vl) (hE : Elem e ts sz cs) (h : OwnG e sz cs B W (.slice A n c) l) (ho : ∀ x, (cs x)[o]? = some (.int .i64 (vl x).k)) : KdOk (kdW W) A sz o (l.map vl) := by
  rintro b off rfl j hj
  obtain ⟨e1, g, p⟩ := own_at hE h
  rw [List.length_map] at hj
  obtain ⟨b', off', e2, hb, hc⟩ := g.2.2 (by omega)
  injection e2 with e2
  injection e2 with e2 e3
  subst e2 e3
  have := hc j hj o _ (ho l[j])
  unfold kdW
  rw [this, List.getElem_map]
theorem Al.congr {α β : Type} {R : α → β → Prop} {l l' : List α} {m : List β} (h : Al R l m) (e : l = l') : Al R l' m := e ▸ h

theorem pre_get {α : Type} {L l : List α} {x : α} (h : l ++ [x] <+: L) : L[l.length]? = some x := by
  obtain ⟨t, rfl⟩ := h
  rw [List.append_assoc, List.getElem?_append_right (Nat.le_refl _), Nat.sub_self]
  rfl
theorem BoxS.same' {B Bo n1 n2 n3 n4 c1 c2 c3 c4 : Nat} {A1 A2 A3 A4 : Option Addr} {w w' : World} {s : Sb} (h : BoxS B w Bo s (.slice A1 n1 c1) (.slice A2 n2 c2) (.slice A3 n3 c3) (.slice A4 n4 c4)) (hz : w.heap.size ≤ w'.heap.size)
    (hBo : ∀ g, (A1 = some ⟨g, 0, none⟩ ∨ A2 = some ⟨g, 0, none⟩ ∨ A3 = some ⟨g, 0, none⟩ ∨ A4 = some ⟨g, 0, none⟩) → g < Bo) (hb : ∀ k, B ≤ k → k ≤ Bo → w'.heap[k]? = w.heap[k]?) : BoxS B w' Bo s (.slice A1 n1 c1) (.slice A2 n2 c2) (.slice A3 n3 c3) (.slice A4 n4 c4) := by
  have hB := hb Bo h.lo (Nat.le_refl _)
  have hc : ∀ i, w'.cell? ⟨Bo, i, none⟩ = w.cell? ⟨Bo, i, none⟩ := fun i => World.cell?_of_block (w := w) (a := ⟨Bo, i, none⟩) hB
  have ho : ∀ {A : Option Addr} {n c g : Nat}, ((A = none ∧ n = 0) ∨ ∃ g, A = some ⟨g, 0, none⟩) → (Value.slice A n c).ownBlock = some g → A = some ⟨g, 0, none⟩ := fun h e => by
    rcases h with ⟨rfl, _⟩ | ⟨g', rfl⟩
    · cases e
    · injection e with e; rw [← e]
  refine ⟨(hc _).trans h.c0, (hc _).trans h.c1, (hc _).trans h.c2, (hc _).trans h.c3, (hc _).trans h.c4, (hc _).trans h.c5, h.o1.same hz ?_, h.o2.same hz ?_, h.o3.same hz ?_, h.o4.same hz ?_, h.a12, h.a13, h.a14, h.a23, h.a24, h.a34, h.lo⟩
  · exact fun g e => hb g (h.o1.lt g e).1 (Nat.le_of_lt (hBo g (.inl (ho (own_none' h.o1) e))))
  · exact fun g e => hb g (h.o2.lt g e).1 (Nat.le_of_lt (hBo g (.inr (.inl (ho (own_none' h.o2) e)))))
  · exact fun g e => hb g (h.o3.lt g e).1 (Nat.le_of_lt (hBo g (.inr (.inr (.inl (ho (own_none' h.o3) e))))))
  · exact fun g e => hb g (h.o4.lt g e).1 (Nat.le_of_lt (hBo g (.inr (.inr (.inr (ho (own_none' h.o4) e))))))

set_option maxHeartbeats 20000000 in
theorem map_any {σ : Type} (step : σ → Hp → σ × Hp) (St : σ → World → Prop) (s : Sb) (x : Value) (w : World) (h : IsSub w w.heap.size x s) (hS : Kd.Small s)
    (fid : Nat) (lb : Array Value) (he : ∀ args w, (callFunc fid args).run Tryd.prog w = .ok (.enter fid args) w) (Df : Nat → Nat → Prop) (hDf : ∀ k o, Df k o → k < w.heap.size) (hSt : Lies w.heap.size St) (a0 : σ) (h0 : St a0 w)
    (hf : ∀ a (h : Hp) W, St a W → Calls Tryd.prog fid (#[h.val] ++ lb) W fun e W' => e = .returned (step a h).2.val ∧ St (step a h).1 W' ∧ Keep Df W W') :
    Calls Tryd.prog 13 #[x, .func (.func fid) #[] lb] w fun e w' => (∃ v, e = .returned v ∧ OwnSub w.heap.size w' v (Kd.withS s (mapS step a0 (Kd.heaps s)).2)) ∧ St (mapS step a0 (Kd.heaps s)).1 w' ∧ Keep Df w w' := by
  obtain ⟨Q, hQ⟩ : ∃ Q : Ending → World → Prop, Q = (fun e w' => (∃ v, e = .returned v ∧ OwnSub w.heap.size w' v (Kd.withS s (mapS step a0 (Kd.heaps s)).2)) ∧ St (mapS step a0 (Kd.heaps s)).1 w' ∧ Keep Df w w') := ⟨_, rfl⟩
  rw [← hQ]
  have HQ := Lib.hid hQ
  have HSt := Lib.hid hSt
  have HF := Lib.hid hf
  have HDf := Lib.hid hDf
  have H0 := Lib.hid h0
  have H := Lib.hid h
  have HS := Lib.hid hS
  clear hQ hSt hf hDf h0 hS
  obtain ⟨A1, c1, A2, c2, A3, c3, A4, c4, rfl, -⟩ := h
  refine calls_marks Tryd.func13 rfl ?_
  simp only [Tryd.ntmps13, List.size_toArray, List.length_cons, List.length_nil, Nat.reduceAdd, Nat.reduceSub, Array.replicate_succ, Array.replicate_zero, List.push_toArray, List.append_toArray, List.nil_append, List.cons_append]
  go_wp2_with (first
    | (go_at_call 59; refine (fresh_any s _ _ ((H.out.below ((((Below.refl w.heap.size w).alloc (Nat.le_refl _) _).alloc (by simp only [World.size_alloc]; omega) _).alloc (by simp only [World.size_alloc]; omega) _)).more (by simp only [World.size_alloc]; omega)) HS.out).mono ?_; rintro e w2 ⟨⟨v, rfl, ⟨B1, d1, B2, d2, B3, d3, B4, d4, rfl, o1, o2, o3, o4, a12, a13, a14, a23, a24, a34⟩⟩, hb2⟩; have O1 := Lib.hid o1; have O2 := Lib.hid o2; have O3 := Lib.hid o3; have O4 := Lib.hid o4; have HB2 := Lib.hid hb2; clear o1 o2 o3 o4 hb2)
    | (go_at_call 61; (with_reducible refine (places_any _ _).mono ?_); rintro e w3 ⟨rfl, t, rfl⟩))
  obtain ⟨W2, hW2⟩ : ∃ W2, W2 = (w2.alloc (.cells #[.bool s.fin, .slice B1 s.sups.length d1, .int .i64 s.c.k, .slice B2 s.c.ps.length d2, .slice B3 s.c.rs.length d3, .slice B4 s.c.fs.length d4] 29)).alloc (.cells #[.pointer (some ⟨w2.heap.size, 0, none⟩)] t) := ⟨_, rfl⟩
  rw [← hW2]
  have hz3 : w.heap.size + 3 ≤ w2.heap.size := by have := HB2.out.size; simp only [World.size_alloc] at this; omega
  have hbA := ((((Below.refl w.heap.size w).alloc (Nat.le_refl _) (.cells #[.bool s.fin, .slice A1 s.sups.length c1, .int .i64 s.c.k, .slice A2 s.c.ps.length c2, .slice A3 s.c.rs.length c3, .slice A4 s.c.fs.length c4] 29)).alloc (by simp only [World.size_alloc]; omega) (.cells #[.func (.func fid) #[] lb] 41)).alloc (by simp only [World.size_alloc]; omega) (.cells #[.bool false, .slice none 0 0, .int .i64 0, .slice none 0 0, .slice none 0 0, .slice none 0 0] 29))
  have hw2 : Below w.heap.size w w2 := hbA.trans (HB2.out.mono (by simp only [World.size_alloc]; omega))
  have hWW : Below w2.heap.size w2 W2 := by rw [hW2]; exact ((Below.refl _ _).alloc (Nat.le_refl _) _).alloc (by simp only [World.size_alloc]; omega) _
  have hbw : Below w.heap.size w W2 := hw2.trans (hWW.mono (by omega))
  have hz2 : W2.heap.size = w2.heap.size + 2 := by rw [hW2]; simp only [World.size_alloc]
  have fF : W2.cell? ⟨w.heap.size + 1, 0, none⟩ = some (.func (.func fid) #[] lb) :=
    (hWW.cell (p := ⟨w.heap.size + 1, 0, none⟩) (by dsimp only; omega)).trans ((HB2.out.cell (p := ⟨w.heap.size + 1, 0, none⟩) (by simp only [World.size_alloc]; omega)).trans (by go_simp))
  have fR : W2.heap[w.heap.size + 2]? = some (.cells #[.bool false, .slice none 0 0, .int .i64 0, .slice none 0 0, .slice none 0 0, .slice none 0 0] 29 (0, 0)) :=
    (hWW.block _ (by omega)).trans ((HB2.out.block _ (by simp only [World.size_alloc]; omega)).trans (by
      have e : ∀ a b c, (((w.alloc a).alloc b).alloc c).heap[w.heap.size + 2]? = some c := fun a b c => by
        have := heap_alloc_new ((w.alloc a).alloc b) c
        simpa only [World.size_alloc] using this
      exact e _ _ _))
  have fB : W2.cell? ⟨w2.heap.size + 1, 0, none⟩ = some (.pointer (some ⟨w2.heap.size, 0, none⟩)) := by rw [hW2]; go_simp
  have hBX : BoxS (w.heap.size + 3) W2 w2.heap.size s (.slice B1 s.sups.length d1) (.slice B2 s.c.ps.length d2) (.slice B3 s.c.rs.length d3) (.slice B4 s.c.fs.length d4) := by
    have hlo : w.heap.size + 3 ≤ (((w.alloc (.cells #[.bool s.fin, .slice A1 s.sups.length c1, .int .i64 s.c.k, .slice A2 s.c.ps.length c2, .slice A3 s.c.rs.length c3, .slice A4 s.c.fs.length c4] 29)).alloc (.cells #[.func (.func fid) #[] lb] 41)).alloc (.cells #[.bool false, .slice none 0 0, .int .i64 0, .slice none 0 0, .slice none 0 0, .slice none 0 0] 29)).heap.size := by simp only [World.size_alloc]; omega
    rw [hW2]
    exact ⟨by go_simp, by go_simp, by go_simp, by go_simp, by go_simp, by go_simp, ((O1.out.alloc _).alloc _).base hlo, ((O2.out.alloc _).alloc _).base hlo, ((O3.out.alloc _).alloc _).base hlo, ((O4.out.alloc _).alloc _).base hlo, a12, a13, a14, a23, a24, a34, by omega⟩
  have hBo : ∀ g, (B1 = some ⟨g, 0, none⟩ ∨ B2 = some ⟨g, 0, none⟩ ∨ B3 = some ⟨g, 0, none⟩ ∨ B4 = some ⟨g, 0, none⟩) → g < w2.heap.size := fun g h => by
    rcases h with rfl | rfl | rfl | rfl
    · exact (O1.out.lt g rfl).2
    · exact (O2.out.lt g rfl).2
    · exact (O3.out.lt g rfl).2
    · exact (O4.out.lt g rfl).2
  obtain ⟨kd, hkd⟩ : ∃ kd, kd = kdW W2 := ⟨_, rfl⟩
  have k2 : KdOk kd B2 4 0 s.c.ps := by have := kd_ok (o := 0) id elemV hBX.o2 (fun _ => rfl); rw [List.map_id] at this; rw [hkd]; exact this
  have k3 : KdOk kd B3 4 0 s.c.rs := by have := kd_ok (o := 0) id elemV hBX.o3 (fun _ => rfl); rw [List.map_id] at this; rw [hkd]; exact this
  have k4 : KdOk kd B4 6 1 (s.c.fs.map Fd.v) := by have := kd_ok (o := 1) Fd.v elemF hBX.o4 (fun _ => rfl); rw [hkd]; exact this
  obtain ⟨VS, hVS⟩ : ∃ VS, VS = valsAt B2 s.c.ps.length B3 s.c.rs.length B4 s.c.fs.length := ⟨_, rfl⟩
  obtain ⟨PS, hPS⟩ : ∃ PS, PS = heapsAt kd B1 s.sups.length VS := ⟨_, rfl⟩
  obtain ⟨D, hD⟩ : ∃ D : Nat → Nat → Prop, D = fun k o => (∃ y ∈ PS, k = y.block ∧ (o = y.off ∨ o = y.off + 1)) ∨ Df k o := ⟨_, rfl⟩
  have hroom : ∀ y ∈ PS, y.spot = none ∧ w.heap.size + 3 ≤ y.block ∧ y.block < w2.heap.size := fun y hy => by
    rw [hPS, hVS] at hy
    obtain ⟨r1, r2, _, r4, _⟩ := hBX.room hy
    exact ⟨r1, r2, hBo _ r4⟩
  have hDlt : ∀ k o, D k o → k < w2.heap.size ∧ k ≠ w.heap.size + 1 ∧ k ≠ w.heap.size + 2 := fun k o h => by
    rw [hD] at h
    rcases h with ⟨y, hy, rfl, _⟩ | h
    · have := hroom y hy
      exact ⟨this.2.2, by omega, by omega⟩
    · have := HDf.out _ _ h
      exact ⟨by omega, by omega, by omega⟩
  have hV : Al (VlAt W2) VS (Kd.allV s.c) := by
    rw [hVS]
    exact vals_al (own_at elemV hBX.o2).2.1 (own_at elemV hBX.o3).2.1 (own_at elemF hBX.o4).2.1
  have hkV : ∀ x ∈ VS, x.spot = none ∧ W2.cell? ⟨x.block, x.off, none⟩ = some (.int .i64 (kd x)) ∧ ¬ D x.block x.off := fun x hx => by
    obtain ⟨v, hv⟩ := hV.mem x hx
    refine ⟨hv.1, by rw [hkd, hv.kd]; exact hv.2.1, fun e => ?_⟩
    rw [hD] at e
    rcases e with ⟨y, hy, e1, e2⟩ | e
    · rw [hVS] at hx
      rw [hPS, hVS] at hy
      exact hBX.kinds hx hy ⟨e1, e2⟩
    · have h1 := HDf.out _ _ e
      rw [hVS] at hx
      obtain ⟨g, j, h | h | h⟩ := hBX.vals hx
      · have := (hBX.o2.lt g (by rw [h.1]; rfl)).1; rw [h.2] at h1; dsimp only at h1; omega
      · have := (hBX.o3.lt g (by rw [h.1]; rfl)).1; rw [h.2] at h1; dsimp only at h1; omega
      · have := (hBX.o4.lt g (by rw [h.1]; rfl)).1; rw [h.2] at h1; dsimp only at h1; omega
  have L1 : s.sups.length ≤ 10000 := HS.out.a
  have L2 : s.c.ps.length ≤ 10000 := HS.out.p
  have L3 : s.c.rs.length ≤ 10000 := HS.out.r
  have L4 : s.c.fs.length ≤ 10000 := HS.out.f
  have pB : ∀ {A : Option Addr} {n : Nat}, ((A = none ∧ n = 0) ∨ ∃ g, A = some ⟨g, 0, none⟩) → 0 < n → ∃ b off, A = some ⟨b, off, none⟩ := fun h hn => by
    rcases h with ⟨_, rfl⟩ | ⟨g, rfl⟩
    · omega
    · exact ⟨g, 0, rfl⟩
  have seq := places1_seq Fence.wide 19 trivial trivial trivial rfl (by omega) rfl D W2 (w2.heap.size + 1) w2.heap.size s.sups.length d1 s.c.ps.length d2 s.c.rs.length d3 s.c.fs.length d4 B1 B2 B3 B4 kd
    (fun o h => by have := hDlt _ _ h; omega) (fun o h => by have := hDlt _ _ h; omega) (fun k o h => by have := hDlt _ _ h; omega)
    fB hBX.c1 hBX.c3 hBX.c4 hBX.c5 (pB (own_none' hBX.o1)) (pB (own_none' hBX.o2)) (pB (own_none' hBX.o3)) (pB (own_none' hBX.o4)) L1 L2 L3 L4 (by rw [← hVS]; exact hkV)
  rw [← hVS, ← hPS] at seq
  have hSW : St a0 W2 := HSt.out _ _ _ H0.out hbw
  have hKf : Keep Df w W2 := Keep.of_below hbw
  have hHA : ∀ (U : World) (cur : List Hp), BoxS (w.heap.size + 3) U w2.heap.size (Kd.withS s cur) (.slice B1 s.sups.length d1) (.slice B2 s.c.ps.length d2) (.slice B3 s.c.rs.length d3) (.slice B4 s.c.fs.length d4) → cur.length = (Kd.heaps s).length → Keep D W2 U → Al (HpAt U) PS cur := fun U cur hb hl hk => by
    have e1 := (own_at elemH hb.o1)
    have e2 := (own_at elemV hb.o2)
    have e3 := (own_at elemV hb.o3)
    have e4 := (own_at elemF hb.o4)
    have := heaps_al (s := Kd.withS s cur) e1.2.1 e2.2.1 e3.2.1 e4.2.1
    rw [Kd.heaps_withS s cur hl, ← e1.1, ← e2.1, ← e3.1, ← e4.1, ← hVS] at this
    refine this.congr ?_
    rw [hPS]
    unfold heapsAt
    congr 2
    apply List.filter_congr
    intro x hx
    have := hk.cells _ _ _ (hkV x hx).2.2 (hkV x hx).2.1
    unfold kdW
    rw [this]
  have hPl : PS.length = (Kd.heaps s).length := by
    have := (hHA W2 (Kd.heaps s) (by rw [Kd.withS_heaps]; exact hBX) rfl (Keep.refl _)).len
    exact this
  have HHA := Lib.hid hHA
  have HPl := Lib.hid hPl
  have HDlt := Lib.hid hDlt
  have HBo := Lib.hid hBo
  have HRm := Lib.hid hroom
  have HBX := Lib.hid hBX
  have HfR := Lib.hid fR
  have HfF := Lib.hid fF
  have Hk2 := Lib.hid k2
  have Hk3 := Lib.hid k3
  have Hk4 := Lib.hid k4
  have HW2 := Lib.hid hbw
  have Hz2 := Lib.hid hz2
  have Hz3 := Lib.hid hz3
  have HPS := Lib.hid hPS
  have HVS := Lib.hid hVS
  have HD := Lib.hid hD
  clear hHA hPl hBo hroom hBX fR fF k2 k3 k4 hbw hz2 hz3 hPS hVS hD hkV hV L1 L2 L3 L4 pB hW2 hkd hbA hw2 hWW fB a12 a13 a14 a23 a24 a34
  refine (wpIn_wide (n := 20)).1 ?_
  refine wpIn_range_x rfl (by omega) (gf := 107) (lb := #[.pointer (some ⟨w2.heap.size + 1, 0, none⟩)]) rfl trivial (enters_of Tryd.func107 (by kernel_rfl) rfl) seq
    (fun k o h => by have h1 := HDlt.out _ _ h; have h2 := Hz2.out; omega) (Below.refl _ _) (fun _ => rfl)
    (fun pre U => ∃ (cur : List Hp) (a : σ), BoxS (w.heap.size + 3) U w2.heap.size (Kd.withS s cur) (.slice B1 s.sups.length d1) (.slice B2 s.c.ps.length d2) (.slice B3 s.c.rs.length d3) (.slice B4 s.c.fs.length d4) ∧ cur.length = (Kd.heaps s).length ∧ St a U ∧
      (pre.map (·.1) <+: PS → a = (mapS step a0 ((Kd.heaps s).take pre.length)).1 ∧ cur.take pre.length = (mapS step a0 ((Kd.heaps s).take pre.length)).2 ∧ cur.drop pre.length = (Kd.heaps s).drop pre.length) ∧ Keep Df w U ∧ Keep D W2 U)
    (fun c pre U => False)
    ?hI ?hIx ?h0 ?a₁ ?assign ?body ?done ?stop
  case assign =>
    intro l' x U K hK'
    gi_wp2
    exact hK'
  case hI =>
    rintro pre A C ⟨cur, a, i1, i2, i3, i4, i5, i6⟩ hb
    have h2 := Hz2.out
    have h3 := Hz3.out
    exact ⟨cur, a, i1.same' hb.size HBo.out (fun k h1 h4 => hb.block k (by omega)), i2, HSt.out _ _ _ i3 (hb.mono (by omega)), i4, i5.lies (by omega) hb, i6.lies (Nat.le_refl _) hb⟩
  case hIx => rintro c pre A C h; exact h.elim
  case h0 =>
    refine ⟨Kd.heaps s, a0, by rw [Kd.withS_heaps]; exact HBX.out, rfl, hSW, fun _ => ⟨rfl, rfl, rfl⟩, hKf, Keep.refl _⟩
  case stop => rintro K c pre U hKz hpr h hd; exact h.elim
  case body =>
    rintro l' pre ⟨⟨xb, xo, xsp⟩, hx⟩ U ⟨cur, a, i1, i2, i3, i4, i5, i6⟩ hlen hz
    have hlt := Hz2.out
    have hl3 := Hz3.out
    obtain ⟨i, hi, hip⟩ : ∃ i, PS[i]? = some (⟨xb, xo, xsp⟩ : Addr) ∧ ((pre ++ [(⟨⟨xb, xo, xsp⟩, hx⟩ : At PS)]).map (·.1) <+: PS → i = pre.length) := by
      by_cases hp : (pre ++ [(⟨⟨xb, xo, xsp⟩, hx⟩ : At PS)]).map (·.1) <+: PS
      · refine ⟨pre.length, ?_, fun _ => rfl⟩
        rw [List.map_append] at hp
        have := pre_get hp
        rw [List.length_map] at this
        exact this
      · obtain ⟨i, hi⟩ := List.mem_iff_getElem?.1 hx
        exact ⟨i, hi, fun h => absurd h hp⟩
    obtain ⟨r1, r2, r3⟩ := HRm.out _ hx
    obtain rfl : xsp = none := r1
    dsimp only at r2 r3
    obtain ⟨h, hci, hh⟩ := (HHA.out U cur i1 i2 i6).get i _ hi
    have fzU : ∀ o, U.frozen? ⟨xb, o, none⟩ = false := by
      have hx2 := hx
      rw [HPS.out, HVS.out] at hx2
      exact (i1.room hx2).2.2.2.2
    have zk := hh.2.1
    have zn := hh.2.2
    dsimp only at zk zn
    have zf : U.cell? ⟨w.heap.size + 1, 0, none⟩ = some (.func (.func fid) #[] lb) := i6.cells _ _ _ (fun e => (HDlt.out _ _ e).2.1 rfl) HfF.out
    have HFc := Lib.hid (HF.out a h U.drew (HSt.out _ _ _ i3 (Below.refl _ _).drew))
    obtain ⟨y, hy⟩ : ∃ y, (step a h).2 = y := ⟨_, rfl⟩
    rw [hy] at HFc
    have HY := Lib.hid hy
    have I1 := Lib.hid i1
    have I2 := Lib.hid i2
    have I4 := Lib.hid i4
    have I5 := Lib.hid i5
    have I6 := Lib.hid i6
    have Hi := Lib.hid hi
    have Hip := Lib.hid hip
    have Hci := Lib.hid hci
    have Hfz := Lib.hid fzU
    have Hzk := Lib.hid zk
    have Hzn := Lib.hid zn
    clear i1 i2 i3 i4 i5 i6 hi hip hci hh fzU hy seq
    have hblt : Hid (∀ W' : World, Keep Df U.drew W' → W'.heap[xb]? = U.heap[xb]?) := Lib.hid (fun W' hk => hk.block xb (World.block_lt_of_cell? U ⟨xb, xo, none⟩ Hzk.out) (fun o e => by have := HDf.out _ _ e; omega))
    have hxD : D xb xo ∧ D xb (xo + 1) := by
      rw [HD.out]
      exact ⟨.inl ⟨_, hx, rfl, .inl rfl⟩, .inl ⟨_, hx, rfl, .inr rfl⟩⟩
    have FIN : Hid (∀ W' : World, Keep Df U.drew W' → St (step a h).1 W' → Keep D U (st2 W' xb xo y) ∧ ∃ (cur : List Hp) (a : σ), BoxS (w.heap.size + 3) (st2 W' xb xo y) w2.heap.size (Kd.withS s cur) (.slice B1 s.sups.length d1) (.slice B2 s.c.ps.length d2) (.slice B3 s.c.rs.length d3) (.slice B4 s.c.fs.length d4) ∧ cur.length = (Kd.heaps s).length ∧ St a (st2 W' xb xo y) ∧
      ((pre ++ [(⟨⟨xb, xo, none⟩, hx⟩ : At PS)]).map (·.1) <+: PS → a = (mapS step a0 ((Kd.heaps s).take (pre ++ [(⟨⟨xb, xo, none⟩, hx⟩ : At PS)]).length)).1 ∧ cur.take (pre ++ [(⟨⟨xb, xo, none⟩, hx⟩ : At PS)]).length = (mapS step a0 ((Kd.heaps s).take (pre ++ [(⟨⟨xb, xo, none⟩, hx⟩ : At PS)]).length)).2 ∧ cur.drop (pre ++ [(⟨⟨xb, xo, none⟩, hx⟩ : At PS)]).length = (Kd.heaps s).drop (pre ++ [(⟨⟨xb, xo, none⟩, hx⟩ : At PS)]).length) ∧ Keep Df w (st2 W' xb xo y) ∧ Keep D W2 (st2 W' xb xo y)) := Lib.hid (fun W' hk hs' => by
      have hkU : Keep Df U W' := (Keep.of_below (Below.refl _ _).drew).trans hk
      have hUz := I6.out.size
      have hBW := I1.out.same' (w' := W') hkU.size HBo.out (fun k h1 h4 => hkU.block k (by omega) (fun o e => by have := HDf.out _ _ e; omega))
      have hP := hBW.place I2.out (fun g hg => by have := HBo.out g hg; omega) Hk2.out Hk3.out Hk4.out i ⟨xb, xo, none⟩ (by rw [← HVS.out, ← HPS.out]; exact Hi.out) y
      have hkD : Keep D U (st2 W' xb xo y) := ((hkU.wide (fun k o e => by rw [HD.out]; exact .inr e)).trans (Keep.setCell _ hxD.1)).trans (Keep.setCell _ hxD.2)
      have hbs : Below w.heap.size W' (st2 W' xb xo y) := ((Below.refl _ _).setCell (p := ⟨xb, xo, none⟩) (by dsimp only; omega) _).setCell (p := ⟨xb, xo + 1, none⟩) (by dsimp only; omega) _
      refine ⟨hkD, cur.set i y, (step a h).1, hP, by rw [List.length_set]; exact I2.out, HSt.out _ _ _ hs' hbs, fun hp => ?_, (I5.out.trans hkU).lies (Nat.le_refl _) hbs, I6.out.trans hkD⟩
      have hp0 : pre.map (·.1) <+: PS := by rw [List.map_append] at hp; exact (List.prefix_append _ _).trans hp
      obtain ⟨g1, g2, g3⟩ := I4.out hp0
      have hi' := Hip.out hp
      have hci := Hci.out
      rw [hi'] at hci
      have hh := congrArg (·[0]?) g3
      simp only [List.getElem?_drop, Nat.add_zero] at hh
      rw [hci] at hh
      obtain ⟨hl1, hh1⟩ := List.getElem?_eq_some_iff.1 hh.symm
      obtain ⟨hl2, hh2⟩ := List.getElem?_eq_some_iff.1 hci
      rw [hi', List.length_append, List.length_singleton, List.take_succ_eq_append_getElem hl1, hh1, mapS_snoc, ← g1, ← g2]
      refine ⟨rfl, ?_, ?_⟩
      · rw [List.take_succ_eq_append_getElem (by rw [List.length_set]; exact hl2), List.take_set_of_le (Nat.le_refl _), List.getElem_set_self, HY.out]
      · rw [List.drop_set_of_lt (Nat.lt_succ_self _)]
        have := congrArg (List.drop 1) g3
        rw [List.drop_drop, List.drop_drop] at this
        exact this)
    clear hlt hl3 r2 r3 hlen hz
    gi_wp2
    gi_region_with (refine ⟨trivial, ?_⟩; (with_reducible refine (CallsIn.inRound l' (callsIn_wide.2 HFc.out)).mono ?_); rintro e' W' ⟨rfl, hS', hk'⟩; have HS' := Lib.hid hS'; have HK' := Lib.hid hk'; have hblk := hblt.out _ hk'; have y0 := (World.cell?_of_block (w := U) (a := ⟨xb, xo, none⟩) hblk).trans Hzk.out; have y1 := (World.cell?_of_block (w := U) (a := ⟨xb, xo + 1, none⟩) hblk).trans Hzn.out; have y2 := (World.frozen?_of_block (w := U) (a := ⟨xb, xo, none⟩) hblk).trans (Hfz.out _); have y3 := (World.frozen?_of_block (w := U) (a := ⟨xb, xo + 1, none⟩) hblk).trans (Hfz.out _); clear hS' hk' hblk)
    all_goals
      gi_wp2
      exact FIN.out _ HK'.out HS'.out
  case done =>
    rintro K xs U hKz hxs ⟨cur, a, i1, i2, i3, i4, i5, i6⟩ hd
    have hl : xs.length = (Kd.heaps s).length := by
      have := congrArg List.length hxs
      rw [List.length_map] at this
      rw [this]
      exact HPl.out
    obtain ⟨e1, e2, -⟩ := i4 (by rw [hxs]; exact List.prefix_refl _)
    rw [hl, List.take_of_length_le (Nat.le_refl _)] at e1 e2
    rw [List.take_of_length_le (by rw [i2]; exact Nat.le_refl _)] at e2
    have hres : U.heap[w.heap.size + 1 + 1]? = some (.cells #[.bool false, .slice none 0 0, .int .i64 0, .slice none 0 0, .slice none 0 0, .slice none 0 0] 29 (0, 0)) :=
      (i6.block _ (by have h2 := Hz2.out; have h3 := Hz3.out; omega) (fun o h => (HDlt.out _ _ h).2.2 rfl)).trans HfR.out
    obtain ⟨q0, q1, q2, q3, q4, q5⟩ : (U.cell? ⟨w2.heap.size, 0, none⟩ = some (.bool s.fin) ∧ U.cell? ⟨w2.heap.size, 1, none⟩ = some (.slice B1 s.sups.length d1) ∧ U.cell? ⟨w2.heap.size, 2, none⟩ = some (.int .i64 s.c.k) ∧ U.cell? ⟨w2.heap.size, 3, none⟩ = some (.slice B2 s.c.ps.length d2) ∧ U.cell? ⟨w2.heap.size, 4, none⟩ = some (.slice B3 s.c.rs.length d3) ∧ U.cell? ⟨w2.heap.size, 5, none⟩ = some (.slice B4 s.c.fs.length d4)) := ⟨i1.c0, i1.c1, i1.c2, i1.c3, i1.c4, i1.c5⟩
    have I1 := Lib.hid i1
    have I3 := Lib.hid i3
    have I5 := Lib.hid i5
    have HK := Lib.hid hKz
    have HDd := Lib.hid hd
    clear i1 i3 i4 i5 i6 hKz hd hl
    obtain ⟨z0, z1, z2, z3, z4, z5⟩ : (U.cell? ⟨w.heap.size + 1 + 1, 0, none⟩ = some (.bool false) ∧ U.cell? ⟨w.heap.size + 1 + 1, 1, none⟩ = some (.slice none 0 0) ∧ U.cell? ⟨w.heap.size + 1 + 1, 2, none⟩ = some (.int .i64 0) ∧ U.cell? ⟨w.heap.size + 1 + 1, 3, none⟩ = some (.slice none 0 0) ∧ U.cell? ⟨w.heap.size + 1 + 1, 4, none⟩ = some (.slice none 0 0) ∧ U.cell? ⟨w.heap.size + 1 + 1, 5, none⟩ = some (.slice none 0 0)) :=
      ⟨cell_of_row U _ 0 _ _ (0, 0) hres, cell_of_row U _ 1 _ _ (0, 0) hres, cell_of_row U _ 2 _ _ (0, 0) hres, cell_of_row U _ 3 _ _ (0, 0) hres, cell_of_row U _ 4 _ _ (0, 0) hres, cell_of_row U _ 5 _ _ (0, 0) hres⟩
    have fz : ∀ i, U.frozen? ⟨w.heap.size + 1 + 1, i, none⟩ = false := fun i => by simp [World.frozen?, hres]
    have f0 := fz 0
    have f1 := fz 1
    have f2 := fz 2
    have f3 := fz 3
    have f4 := fz 4
    have f5 := fz 5
    clear fz
    have HR := Lib.hid hres
    clear hres
    go_wp2
    obtain ⟨V, hV⟩ : ∃ V, V = ((((((U.setCell ⟨w.heap.size + 1 + 1, 0, none⟩ (.bool s.fin)).setCell ⟨w.heap.size + 1 + 1, 1, none⟩ (.slice B1 s.sups.length d1)).setCell ⟨w.heap.size + 1 + 1, 2, none⟩ (.int .i64 s.c.k)).setCell ⟨w.heap.size + 1 + 1, 3, none⟩ (.slice B2 s.c.ps.length d2)).setCell ⟨w.heap.size + 1 + 1, 4, none⟩ (.slice B3 s.c.rs.length d3)).setCell ⟨w.heap.size + 1 + 1, 5, none⟩ (.slice B4 s.c.fs.length d4)) := ⟨_, rfl⟩
    have hVR : V.heap[w.heap.size + 1 + 1]? = some (.cells #[.bool s.fin, .slice B1 s.sups.length d1, .int .i64 s.c.k, .slice B2 s.c.ps.length d2, .slice B3 s.c.rs.length d3, .slice B4 s.c.fs.length d4] 29 (0, 0)) := by
      have h1 := heap_setCell_same U _ 0 _ _ (.bool s.fin) HR.out
      have h2 := heap_setCell_same _ _ 1 _ _ (.slice B1 s.sups.length d1) h1
      have h3 := heap_setCell_same _ _ 2 _ _ (.int .i64 s.c.k) h2
      have h4 := heap_setCell_same _ _ 3 _ _ (.slice B2 s.c.ps.length d2) h3
      have h5 := heap_setCell_same _ _ 4 _ _ (.slice B3 s.c.rs.length d3) h4
      have h6 := heap_setCell_same _ _ 5 _ _ (.slice B4 s.c.fs.length d4) h5
      rw [hV]
      simpa using h6
    have hVo : ∀ k, k ≠ w.heap.size + 1 + 1 → V.heap[k]? = U.heap[k]? := fun k hk => by
      rw [hV]
      rw [heap_setCell_other _ _ _ _ hk, heap_setCell_other _ _ _ _ hk, heap_setCell_other _ _ _ _ hk, heap_setCell_other _ _ _ _ hk, heap_setCell_other _ _ _ _ hk, heap_setCell_other _ _ _ _ hk]
    have hVz : V.heap.size = U.heap.size := by rw [hV]; simp
    have hVb : Below w.heap.size U V := by
      rw [hV]
      exact ((((((Below.refl _ _).setCell (p := ⟨w.heap.size + 1 + 1, 0, none⟩) (by dsimp only; omega) _).setCell (p := ⟨w.heap.size + 1 + 1, 1, none⟩) (by dsimp only; omega) _).setCell (p := ⟨w.heap.size + 1 + 1, 2, none⟩) (by dsimp only; omega) _).setCell (p := ⟨w.heap.size + 1 + 1, 3, none⟩) (by dsimp only; omega) _).setCell (p := ⟨w.heap.size + 1 + 1, 4, none⟩) (by dsimp only; omega) _).setCell (p := ⟨w.heap.size + 1 + 1, 5, none⟩) (by dsimp only; omega) _
    rw [← hV]
    have h2 := Hz2.out
    have h3 := Hz3.out
    have hK := HK.out
    have hdV : V.heap[K]? = some (.deferred (some [])) := (hVo K (by omega)).trans HDd.out
    have hVK : Below w.heap.size U (V.putObj K (.deferred none)) := below_put hVb (by omega) _
    have hB' := I1.out.same' (w' := V.putObj K (.deferred none)) (by simp; omega) HBo.out (fun k h1 h4 => (World.putObj_heap_other (by omega)).trans (hVo k (by omega)))
    refine ⟨by simp, .inl ⟨_, _, rfl, run_takeDeferred hdV, ⟨_, results_cell_row rfl _ _ (w.heap.size + 1 + 1) 29 #[.bool s.fin, .slice B1 s.sups.length d1, .int .i64 s.c.k, .slice B2 s.c.ps.length d2, .slice B3 s.c.rs.length d3, .slice B4 s.c.fs.length d4] (0, 0) _ rfl ((World.putObj_heap_other (by omega)).trans hVR) Tryd.underlying29 rfl (by as_aux_lemma => kernel_rfl), ?_⟩⟩⟩
    rw [HQ.out]
    have g1 := (own_at elemH hB'.o1).1
    have g2 := (own_at elemV hB'.o2).1
    have g3 := (own_at elemV hB'.o3).1
    have g4 := (own_at elemF hB'.o4).1
    rw [← e1, ← e2]
    refine ⟨⟨_, rfl, ⟨B1, d1, B2, d2, B3, d3, B4, d4, ?_, ?_, ?_, ?_, ?_, ?_, ?_, ?_, ?_, ?_, ?_⟩⟩, HSt.out _ _ _ I3.out hVK, I5.out.lies (Nat.le_refl _) hVK⟩
    · rw [← g1, ← g2, ← g3, ← g4]; rfl
    · rw [← g1]; exact hB'.o1.base (by omega)
    · rw [← g2]; exact hB'.o2.base (by omega)
    · rw [← g3]; exact hB'.o3.base (by omega)
    · rw [← g4]; exact hB'.o4.base (by omega)
    · rw [← g1, ← g2]; exact hB'.a12
    · rw [← g1, ← g3]; exact hB'.a13
    · rw [← g1, ← g4]; exact hB'.a14
    · rw [← g2, ← g3]; exact hB'.a23
    · rw [← g2, ← g4]; exact hB'.a24
    · rw [← g3, ← g4]; exact hB'.a34
end Go.Proofs.YtkdhjejchdcipaaDoor
/-
  Layer 4, code: MapVal.
-/
namespace Go.Proofs.YtkdhjejchdcipaaDoor
open Go.RowKit
set_option linter.unusedVariables false
set_option linter.unusedSimpArgs false
set_option maxRecDepth 100000

theorem heap_alloc_two (W : World) (a b : Obj) : ((W.alloc a).alloc b).heap[W.heap.size + 1]? = some b := heap_alloc2_new _ _ _
set_option maxHeartbeats 4000000 in
theorem mapVal_any (v : Vl) (y : Hp) (fid : Nat) (lb : Array Value) (he : ∀ args w, (callFunc fid args).run Tryd.prog w = .ok (.enter fid args) w) (W : World)
    (hf : ∀ X, Below W.heap.size W X → Calls Tryd.prog fid (#[v.h.val] ++ lb) X fun e X' => e = .returned y.val ∧ Below X.heap.size X X') :
    Calls Tryd.prog 21 #[v.val, .func (.func fid) #[] lb] W fun e W' => e = .returned (Vl.val (if v.k = 3 then ⟨v.k, v.nu, y⟩ else v)) ∧ Below W.heap.size W W' := by
  have HF := Lib.hid hf
  clear hf
  have hb : ∀ o1 o2, Below W.heap.size W ((W.alloc o1).alloc o2) := fun o1 o2 => ((Below.refl _ _).alloc (Nat.le_refl _) _).alloc (by simp) _
  have hbB := Lib.hid hb
  clear hb
  by_cases h3 : v.k = 3
  · rw [if_pos h3]
    have hk : (v.k == 3) = true := by rw [h3]; rfl
    obtain ⟨W2, hW2⟩ : ∃ W2, W2 = ((W.alloc (.cells #[.int .i64 v.k, .bool v.nu, .int .i64 v.h.k, .int .i64 v.h.n] 46)).alloc (.cells #[.int .i64 0, .bool false, .int .i64 0, .int .i64 0] 46)) := ⟨_, rfl⟩
    have hbW : Below W.heap.size W W2 := by rw [hW2]; exact hbB.out _ _
    have hz : W2.heap.size = W.heap.size + 2 := by rw [hW2]; simp
    have r0 : W2.heap[W.heap.size + 1]? = some (.cells #[.int .i64 0, .bool false, .int .i64 0, .int .i64 0] 46 (0, 0)) := by rw [hW2]; exact heap_alloc_two _ _ _
    have r1 : W2.heap[W.heap.size]? = some (.cells #[.int .i64 v.k, .bool v.nu, .int .i64 v.h.k, .int .i64 v.h.n] 46 (0, 0)) := by rw [hW2]; exact heap_alloc2_old _ _ _
    have HbW := Lib.hid hbW
    have HW2 := Lib.hid hW2
    have HR0 := Lib.hid r0
    have HR1 := Lib.hid r1
    clear hbW hW2 r0 r1 h3
    have hrow : Hid (∀ (X : World) (g : Nat) (c : Array Value) (t : TypeId), X.heap[g]? = some (.cells c t (0, 0)) → (∀ i, X.cell? ⟨g, i, none⟩ = c[i]?) ∧ ∀ i, X.frozen? ⟨g, i, none⟩ = false) := Lib.hid fun X g c t h => ⟨fun i => cell_of_row X g i c t (0, 0) h, fun i => frozen_of_row X g i c t h⟩
    have x0 := (hrow.out _ _ _ _ HR1.out).1 0
    have x1 := (hrow.out _ _ _ _ HR1.out).1 1
    have x2 := (hrow.out _ _ _ _ HR1.out).1 2
    have x3 := (hrow.out _ _ _ _ HR1.out).1 3
    simp only [List.getElem?_toArray, List.getElem?_cons_zero, List.getElem?_cons_succ] at x0 x1 x2 x3
    go_enter Tryd.func21, Tryd.ntmps21
    go_wp2_with fail
    rw [← HW2.out]
    go_wp2_with (refine (HF.out _ HbW.out).mono ?_; rintro e w3 ⟨rfl, hb3⟩; have HB3 := Lib.hid hb3; have q1 := (hb3.block W.heap.size (by omega)).trans HR1.out; have q0 := (hb3.block (W.heap.size + 1) (by omega)).trans HR0.out; have Q1 := hrow.out _ _ _ _ q1; have Q0 := hrow.out _ _ _ _ q0; have a0 := Q1.1 0; have a1 := Q1.1 1; have a2 := Q1.1 2; have a3 := Q1.1 3; have b0 := Q0.1 0; have b1 := Q0.1 1; have b2 := Q0.1 2; have b3 := Q0.1 3; have fa := Q1.2; have fb := Q0.2; simp only [List.getElem?_toArray, List.getElem?_cons_zero, List.getElem?_cons_succ] at a0 a1 a2 a3 b0 b1 b2 b3; have fa2 := fa 2; have fa3 := fa 3; have fb0 := fb 0; have fb1 := fb 1; have fb2 := fb 2; have fb3 := fb 3; have HQ1 := Lib.hid q1; have HQ0 := Lib.hid q0; clear hb3 q1 q0 Q1 Q0 fa fb x0 x1 x2 x3)
    have t0 : ((w3.setCell ⟨W.heap.size, 2, none⟩ (.int .i64 y.k)).setCell ⟨W.heap.size, 3, none⟩ (.int .i64 y.n)).heap[W.heap.size + 1]? = some (.cells #[.int .i64 0, .bool false, .int .i64 0, .int .i64 0] 46 (0, 0)) := by
      rw [heap_setCell_other _ _ _ _ (by dsimp only; omega), heap_setCell_other _ _ _ _ (by dsimp only; omega)]
      exact HQ0.out
    have hB : Below W.heap.size W ((((((w3.setCell ⟨W.heap.size, 2, none⟩ (.int .i64 y.k)).setCell ⟨W.heap.size, 3, none⟩ (.int .i64 y.n)).setCell ⟨W.heap.size + 1, 0, none⟩ (.int .i64 v.k)).setCell ⟨W.heap.size + 1, 1, none⟩ (.bool v.nu)).setCell ⟨W.heap.size + 1, 2, none⟩ (.int .i64 y.k)).setCell ⟨W.heap.size + 1, 3, none⟩ (.int .i64 y.n)) :=
      ((((((HbW.out.trans (HB3.out.mono HbW.out.size)).setCell (p := ⟨W.heap.size, 2, none⟩) (Nat.le_refl _) _).setCell (p := ⟨W.heap.size, 3, none⟩) (Nat.le_refl _) _).setCell (p := ⟨W.heap.size + 1, 0, none⟩) (by dsimp only; omega) _).setCell (p := ⟨W.heap.size + 1, 1, none⟩) (by dsimp only; omega) _).setCell (p := ⟨W.heap.size + 1, 2, none⟩) (by dsimp only; omega) _).setCell (p := ⟨W.heap.size + 1, 3, none⟩) (by dsimp only; omega) _
    exact bodyPost_ret (results_cell_row rfl _ _ (W.heap.size + 1) 46 #[.int .i64 v.k, .bool v.nu, .int .i64 y.k, .int .i64 y.n] (0, 0) _ rfl (heap_setCell_same _ _ 3 _ _ _ (heap_setCell_same _ _ 2 _ _ _ (heap_setCell_same _ _ 1 _ _ _ (heap_setCell_same _ _ 0 _ _ _ t0)))) Tryd.underlying46 rfl (by as_aux_lemma => kernel_rfl)) rfl ⟨rfl, hB⟩
  · rw [if_neg h3]
    have hk : (v.k == 3) = false := beq_eq_false_iff_ne.2 h3
    clear h3
    go_enter Tryd.func21, Tryd.ntmps21
    go_wp2
    exact bodyPost_ret (results_cell_row rfl _ _ (W.heap.size + 1) 46 #[.int .i64 v.k, .bool v.nu, .int .i64 v.h.k, .int .i64 v.h.n] (0, 0) _ rfl (heap_alloc_two _ _ _) Tryd.underlying46 rfl (by as_aux_lemma => kernel_rfl)) rfl ⟨rfl, hbB.out _ _⟩
end Go.Proofs.YtkdhjejchdcipaaDoor

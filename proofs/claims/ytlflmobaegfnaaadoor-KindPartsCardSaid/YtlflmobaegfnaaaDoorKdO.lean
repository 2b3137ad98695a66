/-
  Layer 4: the statements' own 'known': the chapter's rows.
-/
import Derived.Test.YtlflmobaegfnaaaDoorKdJ
import Derived.Test.YtlflmobaegfnaaaDoorKdN
namespace Go.Proofs.YtlflmobaegfnaaaDoor
open Go.RowKit
attribute [local go_sem ↓] Go.wp_at_zero Go.wp_at_succ
set_option linter.unusedVariables false
set_option maxRecDepth 100000

namespace Kd
def sK : Sb := ⟨false, [⟨13, 2⟩], ⟨3, [], [], [⟨8, ⟨1, false, ⟨0, 0⟩⟩, true⟩]⟩⟩
def tK : Sb := ⟨true, [], ⟨1, [⟨1, false, ⟨0, 0⟩⟩], [], []⟩⟩
def vK : Vl := ⟨3, true, ⟨1, 0⟩⟩
theorem itoa2 : Lib.itoa 2 = [50] := by
  unfold Lib.itoa
  rw [if_neg (by decide), show (2 : Int).toNat = 2 from rfl, Lib.decDigits, dif_pos (by decide)]; rfl
theorem tT_s : Str (tT sK) = .string ⟨#[40, 115, 117, 98, 32, 50, 32, 40, 97, 114, 114, 97, 121, 32, 40, 109, 117, 116, 32, 105, 56, 41, 41, 41]⟩ := by
  have e : tT sK = (#[40, 115, 117, 98, 32, 50, 32, 40, 97, 114, 114, 97, 121, 32, 40, 109, 117, 116, 32, 105, 56, 41, 41, 41] : Array UInt8).toList := by
    unfold tT sK
    simp only [List.map_cons, List.map_nil]
    rw [show hT ⟨13, 2⟩ = [50] by unfold hT; simp only [if_true]; exact itoa2]
    rfl
  rw [e]
theorem tT_t : Str (tT tK) = .string ⟨#[40, 115, 117, 98, 32, 102, 105, 110, 97, 108, 32, 40, 102, 117, 110, 99, 32, 40, 112, 97, 114, 97, 109, 32, 105, 51, 50, 41, 41, 41]⟩ := by
  have e : tT tK = (#[40, 115, 117, 98, 32, 102, 105, 110, 97, 108, 32, 40, 102, 117, 110, 99, 32, 40, 112, 97, 114, 97, 109, 32, 105, 51, 50, 41, 41, 41] : Array UInt8).toList := by rfl
  rw [e]
theorem vT_v : Str (vT vK) = .string ⟨#[40, 114, 101, 102, 32, 110, 117, 108, 108, 32, 97, 110, 121, 41]⟩ := by
  have e : vT vK = (#[40, 114, 101, 102, 32, 110, 117, 108, 108, 32, 97, 110, 121, 41] : Array UInt8).toList := by rfl
  rw [e]
theorem small_s : Small sK := ⟨by decide, by decide, by decide, by decide⟩
theorem small_t : Small tK := ⟨by decide, by decide, by decide, by decide⟩
end Kd

set_option maxHeartbeats 4000000 in
theorem known4_any (w : World) (hT : Tabs w) :
    Calls Tryd.prog 9 #[] w fun e w' => e = .returned (.bool true) ∧ Below w.heap.size w w' := by
  have HT := Lib.hid hT
  clear hT
  go_enter Tryd.func9, Tryd.ntmps9
  go_wp2
  obtain ⟨w0, hw0⟩ : ∃ w0, w0 = (((((w.alloc (.cells #[.int .i64 13, .int .i64 2] 39)).alloc (.cells #[.int .i64 8, .int .i64 1, .bool false, .int .i64 0, .int .i64 0, .bool true] 50)).alloc
    (.cells #[.bool false, .slice (some ⟨w.heap.size, 0, none⟩) 1 1, .int .i64 3, .slice none 0 0, .slice none 0 0, .slice (some ⟨w.heap.size + 1, 0, none⟩) 1 1] 29)).alloc (.cells #[.int .i64 1, .bool false, .int .i64 0, .int .i64 0] 46)).alloc
    (.cells #[.bool true, .slice none 0 0, .int .i64 1, .slice (some ⟨w.heap.size + 1 + 1 + 1, 0, none⟩) 1 1, .slice none 0 0, .slice none 0 0] 29)).alloc (.cells #[.int .i64 3, .bool true, .int .i64 1, .int .i64 0] 46) := ⟨_, rfl⟩
  have hsz : w0.heap.size = w.heap.size + 6 := by rw [hw0]; simp
  have XB : Hid (Below w.heap.size w w0) := Lib.hid (by rw [hw0]; exact ((((((Below.refl _ _).alloc (Nat.le_refl _) _).alloc (by simp) _).alloc (by simp; omega) _).alloc (by simp; omega) _).alloc (by simp; omega) _).alloc (by simp; omega) _)
  have hf0 : w0.cell? ⟨w.heap.size + 1, 0, none⟩ = some (.int .i64 8) := by rw [hw0]; go_simp
  have hf1 : w0.cell? ⟨w.heap.size + 1, 1, none⟩ = some (.int .i64 1) := by rw [hw0]; go_simp
  have hf2 : w0.cell? ⟨w.heap.size + 1, 2, none⟩ = some (.bool false) := by rw [hw0]; go_simp
  have hf3 : w0.cell? ⟨w.heap.size + 1, 3, none⟩ = some (.int .i64 0) := by rw [hw0]; go_simp
  have hf4 : w0.cell? ⟨w.heap.size + 1, 4, none⟩ = some (.int .i64 0) := by rw [hw0]; go_simp
  have hf5 : w0.cell? ⟨w.heap.size + 1, 5, none⟩ = some (.bool true) := by rw [hw0]; go_simp
  have hg0 : w0.cell? ⟨w.heap.size, 0, none⟩ = some (.int .i64 13) := by rw [hw0]; go_simp
  have hg1 : w0.cell? ⟨w.heap.size, 1, none⟩ = some (.int .i64 2) := by rw [hw0]; go_simp
  have hv0 : w0.cell? ⟨w.heap.size + 1 + 1 + 1, 0, none⟩ = some (.int .i64 1) := by rw [hw0]; go_simp
  have hv1 : w0.cell? ⟨w.heap.size + 1 + 1 + 1, 1, none⟩ = some (.bool false) := by rw [hw0]; go_simp
  have hv2 : w0.cell? ⟨w.heap.size + 1 + 1 + 1, 2, none⟩ = some (.int .i64 0) := by rw [hw0]; go_simp
  have hv3 : w0.cell? ⟨w.heap.size + 1 + 1 + 1, 3, none⟩ = some (.int .i64 0) := by rw [hw0]; go_simp
  have hx0 : w0.cell? ⟨w.heap.size + 1 + 1, 0, none⟩ = some (.bool false) := by rw [hw0]; go_simp
  have hx1 : w0.cell? ⟨w.heap.size + 1 + 1, 1, none⟩ = some (.slice (some ⟨w.heap.size, 0, none⟩) 1 1) := by rw [hw0]; go_simp
  have hx2 : w0.cell? ⟨w.heap.size + 1 + 1, 2, none⟩ = some (.int .i64 3) := by rw [hw0]; go_simp
  have hx3 : w0.cell? ⟨w.heap.size + 1 + 1, 3, none⟩ = some (.slice none 0 0) := by rw [hw0]; go_simp
  have hx4 : w0.cell? ⟨w.heap.size + 1 + 1, 4, none⟩ = some (.slice none 0 0) := by rw [hw0]; go_simp
  have hx5 : w0.cell? ⟨w.heap.size + 1 + 1, 5, none⟩ = some (.slice (some ⟨w.heap.size + 1, 0, none⟩) 1 1) := by rw [hw0]; go_simp
  have hy0 : w0.cell? ⟨w.heap.size + 1 + 1 + 1 + 1, 0, none⟩ = some (.bool true) := by rw [hw0]; go_simp
  have hy1 : w0.cell? ⟨w.heap.size + 1 + 1 + 1 + 1, 1, none⟩ = some (.slice none 0 0) := by rw [hw0]; go_simp
  have hy2 : w0.cell? ⟨w.heap.size + 1 + 1 + 1 + 1, 2, none⟩ = some (.int .i64 1) := by rw [hw0]; go_simp
  have hy3 : w0.cell? ⟨w.heap.size + 1 + 1 + 1 + 1, 3, none⟩ = some (.slice (some ⟨w.heap.size + 1 + 1 + 1, 0, none⟩) 1 1) := by rw [hw0]; go_simp
  have hy4 : w0.cell? ⟨w.heap.size + 1 + 1 + 1 + 1, 4, none⟩ = some (.slice none 0 0) := by rw [hw0]; go_simp
  have hy5 : w0.cell? ⟨w.heap.size + 1 + 1 + 1 + 1, 5, none⟩ = some (.slice none 0 0) := by rw [hw0]; go_simp
  have hz0 : w0.cell? ⟨w.heap.size + 1 + 1 + 1 + 1 + 1, 0, none⟩ = some (.int .i64 3) := by rw [hw0]; go_simp
  have hz1 : w0.cell? ⟨w.heap.size + 1 + 1 + 1 + 1 + 1, 1, none⟩ = some (.bool true) := by rw [hw0]; go_simp
  have hz2 : w0.cell? ⟨w.heap.size + 1 + 1 + 1 + 1 + 1, 2, none⟩ = some (.int .i64 1) := by rw [hw0]; go_simp
  have hz3 : w0.cell? ⟨w.heap.size + 1 + 1 + 1 + 1 + 1, 3, none⟩ = some (.int .i64 0) := by rw [hw0]; go_simp
  have IS : Hid (IsSub w0 w0.heap.size (.agg #[.bool false, .slice (some ⟨w.heap.size, 0, none⟩) 1 1, .int .i64 3, .slice none 0 0, .slice none 0 0, .slice (some ⟨w.heap.size + 1, 0, none⟩) 1 1]) Kd.sK) := Lib.hid
    ⟨_, _, _, _, _, _, _, _, rfl, ⟨by decide, by simp [maxLen], fun _ => ⟨w.heap.size, 0, rfl, by omega, fun j hj i v hv => by
      have hj0 : j = 0 := by simp [Kd.sK] at hj; omega
      subst hj0
      rcases i with _ | _ | i
      · simp [Kd.sK, Hp.cs] at hv; subst hv; exact hg0
      · simp [Kd.sK, Hp.cs] at hv; subst hv; exact hg1
      · simp [Kd.sK, Hp.cs] at hv⟩⟩, Seg.nil _ _ _ _ (by simp [maxLen]), Seg.nil _ _ _ _ (by simp [maxLen]), ⟨by decide, by simp [maxLen], fun _ => ⟨w.heap.size + 1, 0, rfl, by omega, fun j hj i v hv => by
      have hj0 : j = 0 := by simp [Kd.sK] at hj; omega
      subst hj0
      rcases i with _ | _ | _ | _ | _ | _ | i
      · simp [Kd.sK, Fd.cs] at hv; subst hv; exact hf0
      · simp [Kd.sK, Fd.cs] at hv; subst hv; exact hf1
      · simp [Kd.sK, Fd.cs] at hv; subst hv; exact hf2
      · simp [Kd.sK, Fd.cs] at hv; subst hv; exact hf3
      · simp [Kd.sK, Fd.cs] at hv; subst hv; exact hf4
      · simp [Kd.sK, Fd.cs] at hv; subst hv; exact hf5
      · simp [Kd.sK, Fd.cs] at hv⟩⟩⟩
  have IT : Hid (IsSub w0 w0.heap.size (.agg #[.bool true, .slice none 0 0, .int .i64 1, .slice (some ⟨w.heap.size + 1 + 1 + 1, 0, none⟩) 1 1, .slice none 0 0, .slice none 0 0]) Kd.tK) := Lib.hid
    ⟨_, _, _, _, _, _, _, _, rfl, Seg.nil _ _ _ _ (by simp [maxLen]), ⟨by decide, by simp [maxLen], fun _ => ⟨w.heap.size + 1 + 1 + 1, 0, rfl, by omega, fun j hj i v hv => by
      have hj0 : j = 0 := by simp [Kd.tK] at hj; omega
      subst hj0
      rcases i with _ | _ | _ | _ | i
      · simp [Kd.tK, Vl.cs] at hv; subst hv; exact hv0
      · simp [Kd.tK, Vl.cs] at hv; subst hv; exact hv1
      · simp [Kd.tK, Vl.cs] at hv; subst hv; exact hv2
      · simp [Kd.tK, Vl.cs] at hv; subst hv; exact hv3
      · simp [Kd.tK, Vl.cs] at hv⟩⟩, Seg.nil _ _ _ _ (by simp [maxLen]), Seg.nil _ _ _ _ (by simp [maxLen])⟩
  rw [← hw0]
  clear hw0
  have hl1 : w.heap.size + 1 + 1 < w0.heap.size := by omega
  have hl2 : w.heap.size + 1 + 1 + 1 + 1 < w0.heap.size := by omega
  have hl3 : w.heap.size + 1 + 1 + 1 + 1 + 1 < w0.heap.size := by omega
  clear hf0 hf1 hf2 hf3 hf4 hf5 hv0 hv1 hv2 hv3 hg0 hg1 hsz
  have C1 : Hid (∀ W, Below w0.heap.size w0 W → Calls Tryd.prog 24 #[.agg #[.bool false, .slice (some ⟨w.heap.size, 0, none⟩) 1 1, .int .i64 3, .slice none 0 0, .slice none 0 0, .slice (some ⟨w.heap.size + 1, 0, none⟩) 1 1]] W fun e w' => e = .returned (.bool true) ∧ Below W.heap.size W w') := Lib.hid fun W hW => by
    have h := pSub_any Kd.sK _ W ((IS.out.below hW).more hW.size) Kd.small_s
    rw [show Kd.pSub Kd.sK = true by decide] at h; exact h
  have C2 : Hid (∀ W, Below w0.heap.size w0 W → Calls Tryd.prog 24 #[.agg #[.bool true, .slice none 0 0, .int .i64 1, .slice (some ⟨w.heap.size + 1 + 1 + 1, 0, none⟩) 1 1, .slice none 0 0, .slice none 0 0]] W fun e w' => e = .returned (.bool true) ∧ Below W.heap.size W w') := Lib.hid fun W hW => by
    have h := pSub_any Kd.tK _ W ((IT.out.below hW).more hW.size) Kd.small_t
    rw [show Kd.pSub Kd.tK = true by decide] at h; exact h
  have C3 : Hid (∀ W, Below w0.heap.size w0 W → Calls Tryd.prog 39 #[.agg #[.bool false, .slice (some ⟨w.heap.size, 0, none⟩) 1 1, .int .i64 3, .slice none 0 0, .slice none 0 0, .slice (some ⟨w.heap.size + 1, 0, none⟩) 1 1]] W fun e w' => e = .returned (.string ⟨#[40, 115, 117, 98, 32, 50, 32, 40, 97, 114, 114, 97, 121, 32, 40, 109, 117, 116, 32, 105, 56, 41, 41, 41]⟩) ∧ Below W.heap.size W w') := Lib.hid fun W hW => by
    have h := tT_any Kd.sK _ W ((HT.out.below XB.out).below hW) ((IS.out.below hW).more hW.size) Kd.small_s (by decide)
    rw [Kd.tT_s] at h; exact h
  have C4 : Hid (∀ W, Below w0.heap.size w0 W → Calls Tryd.prog 39 #[.agg #[.bool true, .slice none 0 0, .int .i64 1, .slice (some ⟨w.heap.size + 1 + 1 + 1, 0, none⟩) 1 1, .slice none 0 0, .slice none 0 0]] W fun e w' => e = .returned (.string ⟨#[40, 115, 117, 98, 32, 102, 105, 110, 97, 108, 32, 40, 102, 117, 110, 99, 32, 40, 112, 97, 114, 97, 109, 32, 105, 51, 50, 41, 41, 41]⟩) ∧ Below W.heap.size W w') := Lib.hid fun W hW => by
    have h := tT_any Kd.tK _ W ((HT.out.below XB.out).below hW) ((IT.out.below hW).more hW.size) Kd.small_t (by decide)
    rw [Kd.tT_t] at h; exact h
  have C5 : Hid (∀ W, Below w0.heap.size w0 W → Calls Tryd.prog 40 #[.agg #[.int .i64 3, .bool true, .int .i64 1, .int .i64 0]] W fun e w' => e = .returned (.string ⟨#[40, 114, 101, 102, 32, 110, 117, 108, 108, 32, 97, 110, 121, 41]⟩) ∧ Below W.heap.size W w') := Lib.hid fun W hW => by
    have h := vT_any Kd.vK (by decide) W ((HT.out.below XB.out).below hW)
    rw [Kd.vT_v] at h; exact h
  have C6 : Hid (∀ W, Below w0.heap.size w0 W → Calls Tryd.prog 41 #[.agg #[.int .i64 3, .bool true, .int .i64 1, .int .i64 0]] W fun e w' => e = .returned (.bool true) ∧ Below W.heap.size W w') := Lib.hid fun W hW => first_any Kd.vK W
  have C7 : Hid (∀ W, Below w0.heap.size w0 W → Calls Tryd.prog 23 #[.agg #[.bool false, .slice (some ⟨w.heap.size, 0, none⟩) 1 1, .int .i64 3, .slice none 0 0, .slice none 0 0, .slice (some ⟨w.heap.size + 1, 0, none⟩) 1 1], .agg #[.bool true, .slice none 0 0, .int .i64 1, .slice (some ⟨w.heap.size + 1 + 1 + 1, 0, none⟩) 1 1, .slice none 0 0, .slice none 0 0]] W fun e w' => e = .returned (.bool false) ∧ Below W.heap.size W w') := Lib.hid fun W hW => by
    have h := same_any Kd.sK Kd.tK _ _ W ((IS.out.below hW).more hW.size) ((IT.out.below hW).more hW.size) Kd.small_s Kd.small_t
    rw [show decide (Kd.sK = Kd.tK) = false by decide] at h; exact h
  have C8 : Hid (∀ W, Below w0.heap.size w0 W → Calls Tryd.prog 11 #[.agg #[.bool false, .slice (some ⟨w.heap.size, 0, none⟩) 1 1, .int .i64 3, .slice none 0 0, .slice none 0 0, .slice (some ⟨w.heap.size + 1, 0, none⟩) 1 1]] W fun e w' => (∃ v, e = .returned v ∧ IsSub w' w'.heap.size v Kd.sK ∧ NewSub W.heap.size v) ∧ Below W.heap.size W w') := Lib.hid fun W hW => copy_any Kd.sK _ W ((IS.out.below hW).more hW.size) Kd.small_s
  have C9 : Hid (∀ W v, Below w0.heap.size w0 W → IsSub W W.heap.size v Kd.sK → Calls Tryd.prog 23 #[.agg #[.bool false, .slice (some ⟨w.heap.size, 0, none⟩) 1 1, .int .i64 3, .slice none 0 0, .slice none 0 0, .slice (some ⟨w.heap.size + 1, 0, none⟩) 1 1], v] W fun e w' => e = .returned (.bool true) ∧ Below W.heap.size W w') := Lib.hid fun W v hW hv => by
    have h := same_any Kd.sK Kd.sK _ v W ((IS.out.below hW).more hW.size) hv Kd.small_s Kd.small_s
    rw [show decide (Kd.sK = Kd.sK) = true by decide] at h; exact h
  have HB : Hid (Below w0.heap.size w0 w0.drew) := Lib.hid (Below.refl _ _).drew
  go_region_with (first
    | (go_at_call 24; ((with_reducible refine (C1.out _ HB.out).mono ?_); rintro e w1 ⟨rfl, hb⟩; have HB' := Lib.hid (HB.out.trans (hb.mono HB.out.size)); clear HB hb; obtain ⟨hc, hf⟩ := bcell HB'.out; have HB := HB'; clear HB' hf))
    | (go_at_call 24; ((with_reducible refine (C2.out _ HB.out).mono ?_); rintro e w1 ⟨rfl, hb⟩; have HB' := Lib.hid (HB.out.trans (hb.mono HB.out.size)); clear HB hb; obtain ⟨hc, hf⟩ := bcell HB'.out; have HB := HB'; clear HB' hf))
    | (go_at_call 39; ((with_reducible refine (C3.out _ HB.out).mono ?_); rintro e w1 ⟨rfl, hb⟩; have HB' := Lib.hid (HB.out.trans (hb.mono HB.out.size)); clear HB hb; obtain ⟨hc, hf⟩ := bcell HB'.out; have HB := HB'; clear HB' hf))
    | (go_at_call 39; ((with_reducible refine (C4.out _ HB.out).mono ?_); rintro e w1 ⟨rfl, hb⟩; have HB' := Lib.hid (HB.out.trans (hb.mono HB.out.size)); clear HB hb; obtain ⟨hc, hf⟩ := bcell HB'.out; have HB := HB'; clear HB' hf))
    | (go_at_call 40; ((with_reducible refine (C5.out _ HB.out).mono ?_); rintro e w1 ⟨rfl, hb⟩; have HB' := Lib.hid (HB.out.trans (hb.mono HB.out.size)); clear HB hb; obtain ⟨hc, hf⟩ := bcell HB'.out; have HB := HB'; clear HB' hf))
    | (go_at_call 41; ((with_reducible refine (C6.out _ HB.out).mono ?_); rintro e w1 ⟨rfl, hb⟩; have HB' := Lib.hid (HB.out.trans (hb.mono HB.out.size)); clear HB hb; obtain ⟨hc, hf⟩ := bcell HB'.out; have HB := HB'; clear HB' hf))
    | (go_at_call 23; ((with_reducible refine (C7.out _ HB.out).mono ?_); rintro e w1 ⟨rfl, hb⟩; have HB' := Lib.hid (HB.out.trans (hb.mono HB.out.size)); clear HB hb; obtain ⟨hc, hf⟩ := bcell HB'.out; have HB := HB'; clear HB' hf))
    | (go_at_call 11; ((with_reducible refine (C8.out _ HB.out).mono ?_); rintro e w1 ⟨⟨cv, rfl, hcv, -⟩, hb⟩; have HCV := Lib.hid hcv; have HB' := Lib.hid (HB.out.trans (hb.mono HB.out.size)); clear HB hb hcv; obtain ⟨hc, hf⟩ := bcell HB'.out; have HB := HB'; clear HB' hf))
    | (go_at_call 23; ((with_reducible refine (C9.out _ cv HB.out HCV.out).mono ?_); rintro e w1 ⟨rfl, hb⟩; have HB' := Lib.hid (HB.out.trans (hb.mono HB.out.size)); clear HB hb; have HB := HB'; clear HB')))
  all_goals
    go_wp2
    go_ret
    exact ⟨by first | rfl | simp, XB.out.trans (HB.out.mono XB.out.size)⟩
end Go.Proofs.YtlflmobaegfnaaaDoor

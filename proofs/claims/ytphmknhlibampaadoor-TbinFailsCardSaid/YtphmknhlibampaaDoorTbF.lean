/-
  Layer 6, code: the items of bytes: byteAt, U$1, S$1, countAt, Take$1, noneAt, mutAt, given, heapAt, shortAt.
-/
import Derived.Test.YtphmknhlibampaaDoorTbE
namespace Go.Proofs.YtphmknhlibampaaDoor
open Go.RowKit
set_option linter.unusedVariables false
set_option linter.unusedSimpArgs false
set_option maxRecDepth 100000

/-- The table of the heap types' kinds. -/
def Tab6 (W : World) : Prop := ∀ j : Nat, j < 12 → W.cell? ⟨0, j, none⟩ = some (.int .i64 (Tb.kinds.getD j 0))
theorem Tab6.below {W W' : World} (h : Tab6 W) (hb : Below W.heap.size W W') : Tab6 W' := fun j hj => by
  have hc := h j hj
  rw [hb.cell (p := ⟨0, j, none⟩) (World.block_lt_of_cell? W ⟨0, j, none⟩ hc)]
  exact hc
theorem Tab6.keep {D : Nat → Nat → Prop} {W W' : World} (h : Tab6 W) (hk : Keep D W W') (hD : ∀ o, ¬ D 0 o) : Tab6 W' := fun j hj => hk.cells _ _ _ (hD _) (h j hj)

section
variable {w : World} {A : Option Addr} {n c C : Nat} {l : List Nat}
theorem Bytes.byte (h : Bytes w C A n c l) {p : Nat} (hp : p < n) : ∃ bb off, A = some ⟨bb, off, none⟩ ∧ w.cell? ⟨bb, off + p, none⟩ = some (.int .u8 (l.getD p 0 : Int)) ∧ l.getD p 0 < 256 := by
  obtain ⟨bb, off, e, hbb, hc⟩ := h.2.2.2.2 (by omega)
  have h1 := h.1
  have e2 : l.getD p 0 = l[p]'(by omega) := by rw [List.getD_eq_getElem?_getD, List.getElem?_eq_getElem (by omega)]; rfl
  refine ⟨bb, off, e, by rw [hc p (by omega), e2], ?_⟩
  rw [e2]
  exact h.2.2.2.1 _ (List.getElem_mem _)
theorem Bytes.max (h : Bytes w C A n c l) : n ≤ 9223372036854775807 := by have h1 := h.2.1; have h2 := h.2.2.1; unfold maxLen at h2; omega
theorem wrap1 {p n : Nat} (hp : p < n) (hn : n ≤ 9223372036854775807) : IntKind.i64.wrap ((p : Int) + 1) = ((p + 1 : Nat) : Int) := by rw [IntWalk.i64_in _ (by omega)]; omega
/-- What a function of bytes tells: a value, a place, an error. -/
def Item (v : Value) (nx er : Nat) (w : World) (e : Ending) (w' : World) : Prop := e = .returned (.tuple #[v, .int .i64 (nx : Int), .int .i64 (er : Int)]) ∧ Below w.heap.size w w'
theorem item_end {v v' : Value} {a b : Int} {nx er : Nat} {w' : World} (h1 : v = v') (h2 : a = (nx : Int)) (h3 : b = (er : Int)) (hb : Below w.heap.size w w') : Item v' nx er w (.returned (.tuple #[v, .int .i64 a, .int .i64 b])) w' := by
  subst h1 h2 h3
  exact ⟨rfl, hb⟩
set_option maxHeartbeats 1000000 in
theorem byteAt_any (h : Bytes w C A n c l) {p : Nat} (hp : p ≤ n) : Calls Tryd.prog 42 #[.slice A n c, .int .i64 (p : Int)] w (Item (.int .u8 ((Tb.byteAt l p).1 : Int)) (Tb.byteAt l p).2.1 (Tb.byteAt l p).2.2 w) := by
  have hl := h.1
  have hm := h.max
  by_cases hlt : p < n
  · obtain ⟨bb, off, rfl, hc, hx⟩ := h.byte hlt
    have e : Tb.byteAt l p = (l.getD p 0, p + 1, 0) := by unfold Tb.byteAt; rw [if_pos (by omega)]
    rw [e]
    obtain ⟨y, hy⟩ : ∃ y, l.getD p 0 = y := ⟨_, rfl⟩
    rw [hy] at hc hx ⊢
    have hne : ((p : Int) == (n : Int)) = false := by rw [beq_eq_false_iff_ne]; omega
    have hi1 : (0 : Int) ≤ (p : Int) := by omega
    have hi2 : (p : Int) < (n : Int) := by omega
    have hw := wrap1 hlt hm
    have HW := Lib.hid hw
    clear h hl e hy hp hlt
    go_enter Tryd.func42, Tryd.ntmps42
    go_wp2
    go_ret3
    exact item_end rfl (by first | rfl | omega) rfl (Below.refl _ _)
  · obtain rfl : p = n := by omega
    have e : Tb.byteAt l p = (0, 0, 10) := by unfold Tb.byteAt; rw [if_neg (by omega)]
    rw [e]
    clear h hl hp hlt e
    go_enter Tryd.func42, Tryd.ntmps42
    go_wp2
    go_ret3
    exact item_end rfl rfl rfl (Below.refl _ _)
set_option maxHeartbeats 1000000 in
theorem u1_any (h : Bytes w C A n c l) (p : Nat) {B : Nat} {bits : Int} (hb : w.cell? ⟨B, 0, none⟩ = some (.int .i64 bits)) : Calls Tryd.prog 44 #[.slice A n c, .int .i64 (p : Int), .pointer (some ⟨B, 0, none⟩)] w (Item (.int .u64 ((Tb.uAt bits l p).1 : Int)) (Tb.uAt bits l p).2.1 (Tb.uAt bits l p).2.2 w) := by
  obtain ⟨⟨x, y, z⟩, hq⟩ : ∃ q, told false l p bits = q := ⟨_, rfl⟩
  have hU := Lib.hid (U_at A n c l C p bits w x y z h hq)
  unfold Tb.uAt
  rw [hq]
  clear h hq
  go_enter Tryd.func44, Tryd.ntmps44
  go_wp2_with (refine hU.out.mono ?_; rintro e w' ⟨rfl, k, rfl⟩)
  go_ret3
  exact item_end rfl rfl rfl (below_drewN (Below.refl _ _) _)
set_option maxHeartbeats 1000000 in
theorem s1_any (h : Bytes w C A n c l) (p : Nat) {B : Nat} {bits : Int} (hb : w.cell? ⟨B, 0, none⟩ = some (.int .i64 bits)) : Calls Tryd.prog 48 #[.slice A n c, .int .i64 (p : Int), .pointer (some ⟨B, 0, none⟩)] w (Item (.int .i64 (Tb.sAt bits l p).1) (Tb.sAt bits l p).2.1 (Tb.sAt bits l p).2.2 w) := by
  obtain ⟨⟨x, y, z⟩, hq⟩ : ∃ q, told true l p bits = q := ⟨_, rfl⟩
  have hU := Lib.hid (S_at A n c l C p bits w _ x y z h hq rfl)
  unfold Tb.sAt
  rw [hq]
  clear h hq
  go_enter Tryd.func48, Tryd.ntmps48
  go_wp2_with (refine hU.out.mono ?_; rintro e w' ⟨rfl, k, rfl⟩)
  go_ret3
  exact item_end rfl rfl rfl (below_drewN (Below.refl _ _) _)
set_option maxHeartbeats 2000000 in
theorem countAt_any (h : Bytes w C A n c l) (p : Nat) : Calls Tryd.prog 55 #[.slice A n c, .int .i64 (p : Int)] w (Item (.int .i64 ((Tb.countAt l p).1 : Int)) (Tb.countAt l p).2.1 (Tb.countAt l p).2.2 w) := by
  have hnx := told_next l p
  have hlt := told_lt false l p 32
  have hl := h.1
  have hm := h.max
  obtain ⟨⟨x, y, z⟩, hq⟩ : ∃ q, told false l p 32 = q := ⟨_, rfl⟩
  have hU := Lib.hid (U_at A n c l C p 32 w x y z h hq)
  unfold Tb.countAt
  rw [hq] at hnx hlt ⊢
  dsimp only at hnx hlt ⊢
  rw [hl] at hnx ⊢
  clear h hq hl
  by_cases h0 : z = 0
  · subst h0
    have hy := hnx rfl
    rw [if_pos rfl]
    have hy2 : (y : Int) ≤ (n : Int) := by omega
    by_cases hg : n - y < x
    · rw [if_pos hg]
      have hv2 : (n : Int) - (y : Int) < (x : Int) := by omega
      clear hnx hg
      go_enter Tryd.func55, Tryd.ntmps55
      go_wp2_with (refine hU.out.mono ?_; rintro e w' ⟨rfl, k, rfl⟩)
      go_ret3
      exact item_end rfl rfl rfl (below_drewN (Below.refl _ _) _)
    · rw [if_neg hg]
      have hv2 : (x : Int) ≤ (n : Int) - (y : Int) := by omega
      clear hnx hg
      go_enter Tryd.func55, Tryd.ntmps55
      go_wp2_with (refine hU.out.mono ?_; rintro e w' ⟨rfl, k, rfl⟩)
      go_ret3
      exact item_end rfl rfl rfl (below_drewN (Below.refl _ _) _)
  · rw [if_neg h0]
    have hz1 : ((z : Int) == 0) = false := by rw [beq_eq_false_iff_ne]; omega
    have hz2 : ((z : Int) != 0) = true := by simp; omega
    clear hnx h0
    go_enter Tryd.func55, Tryd.ntmps55
    go_wp2_with (refine hU.out.mono ?_; rintro e w' ⟨rfl, k, rfl⟩)
    go_ret3
    exact item_end rfl rfl rfl (below_drewN (Below.refl _ _) _)
set_option maxHeartbeats 1000000 in
theorem noneB_any (h : Bytes w C A n c l) (p : Nat) : Calls Tryd.prog 141 #[.slice A n c, .int .i64 (p : Int)] w (Item (.bool (Tb.noneAt false l p).1) (Tb.noneAt false l p).2.1 (Tb.noneAt false l p).2.2 w) := by
  have hl := h.1
  unfold Tb.noneAt
  rw [hl]
  clear h hl
  by_cases hp : p = n
  · rw [if_pos hp]
    have hd : ((p : Int) == (n : Int)) = true := by simp; omega
    clear hp
    go_enter Tryd.func141, Tryd.ntmps141
    go_wp2
    go_ret3
    exact item_end rfl rfl rfl (Below.refl _ _)
  · rw [if_neg hp]
    have hd : ((p : Int) == (n : Int)) = false := by rw [beq_eq_false_iff_ne]; omega
    clear hp
    go_enter Tryd.func141, Tryd.ntmps141
    go_wp2
    go_ret3
    exact item_end rfl rfl rfl (Below.refl _ _)
set_option maxHeartbeats 2000000 in
theorem mutAt_any (h : Bytes w C A n c l) {p : Nat} (hp : p ≤ n) : Calls Tryd.prog 130 #[.slice A n c, .int .i64 (p : Int)] w (Item (.bool (Tb.mutAt l p).1) (Tb.mutAt l p).2.1 (Tb.mutAt l p).2.2 w) := by
  have hl := h.1
  have hm := h.max
  have HN := Lib.hid (noneB_any h p)
  by_cases hlt : p < n
  · obtain ⟨bb, off, rfl, hc, hx⟩ := h.byte hlt
    obtain ⟨y, hy⟩ : ∃ y, l.getD p 0 = y := ⟨_, rfl⟩
    have hi1 : (0 : Int) ≤ (p : Int) := by omega
    have hi2 : (p : Int) < (n : Int) := by omega
    have hw := wrap1 hlt hm
    unfold Tb.mutAt
    rw [hl, hy]
    rw [hy] at hc hx
    by_cases h1 : y ≤ 1
    · rw [if_pos ⟨hlt, h1⟩]
      clear h hl hy hp hlt HN hm
      have h01 : y = 0 ∨ y = 1 := by omega
      rcases h01 with rfl | rfl
      all_goals
        clear h1 hx
        go_enter Tryd.func130, Tryd.ntmps130
        go_wp2
        go_ret3
        exact item_end rfl (by first | rfl | omega) rfl (Below.refl _ _)
    · rw [if_neg (fun e => h1 e.2)]
      have hd0 : ((y : Int) == 0) = false := by rw [beq_eq_false_iff_ne]; omega
      have hd1 : ((y : Int) == 1) = false := by rw [beq_eq_false_iff_ne]; omega
      obtain ⟨q, hq⟩ : ∃ q, Tb.noneAt false l p = q := ⟨_, rfl⟩
      rw [hq] at HN ⊢
      clear h hl hy hp hlt hm h1 hw hq
      go_enter Tryd.func130, Tryd.ntmps130
      go_wp2_with (go_at_call 141; refine HN.out.mono ?_; rintro e w' ⟨rfl, hb⟩)
      go_ret3
      exact item_end rfl rfl rfl hb
  · have hpn : p = n := by omega
    subst hpn
    unfold Tb.mutAt
    rw [hl, if_neg (fun e => hlt e.1)]
    obtain ⟨q, hq⟩ : ∃ q, Tb.noneAt false l p = q := ⟨_, rfl⟩
    rw [hq] at HN ⊢
    clear h hl hp hlt hm hq
    go_enter Tryd.func130, Tryd.ntmps130
    go_wp2_with (go_at_call 141; refine HN.out.mono ?_; rintro e w' ⟨rfl, hb⟩)
    go_ret3
    exact item_end rfl rfl rfl hb
end
end Go.Proofs.YtphmknhlibampaaDoor

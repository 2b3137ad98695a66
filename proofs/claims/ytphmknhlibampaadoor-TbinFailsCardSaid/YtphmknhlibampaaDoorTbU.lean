/-
  Layer 6, code: Take.
-/
import Derived.Test.YtphmknhlibampaaDoorTbM
import Derived.Deep.RegionHeld3
namespace Go.Proofs.YtphmknhlibampaaDoor
open Go.RowKit
set_option linter.unusedVariables false
set_option linter.unusedSimpArgs false
set_option maxRecDepth 100000

theorem Tb.takeAt_le (k : Int) (l : List Nat) (p : Nat) (hp : p ≤ l.length) (h : (Tb.takeAt k l p).2.2 = 0) : (Tb.takeAt k l p).2.1 ≤ l.length := by
  unfold Tb.takeAt at h ⊢
  split <;> rename_i h1
  · exact Nat.zero_le _
  · dsimp only; omega
section
variable {w y z : World} {b n c : Nat} {A : Option Addr} {r r' r'' : Rd}
/-- What Take$1 tells. -/
def TakeItem (w : World) (q : List Nat × Nat × Nat) (e : Ending) (w' : World) : Prop := ∃ (x : Sl), e = .returned (.tuple #[.slice x.a x.n x.c, .int .i64 (q.2.1 : Int), .int .i64 (q.2.2 : Int)]) ∧ Own w.heap.size w' (.slice x.a x.n x.c) q.1 ∧ Below w.heap.size w w'
theorem T_step {B : Nat} {v0 : Value} {W0 w1 w2 : World} (hb : B < W0.heap.size) (h : w1.cell? ⟨B, 0, none⟩ = some v0 ∧ Below W0.heap.size W0 w1) (h2 : Below W0.heap.size w1 w2) : w2.cell? ⟨B, 0, none⟩ = some v0 ∧ Below W0.heap.size W0 w2 :=
  ⟨(h2.cell (p := ⟨B, 0, none⟩) hb).trans h.1, h.2.trans h2⟩
set_option maxHeartbeats 2000000 in
theorem take1_any {C : Nat} {l : List Nat} (h : Bytes w C A n c l) (hC : C ≤ w.heap.size) (hn : n < 1000000) {p : Nat} (hp : p ≤ n) {B : Nat} {k : Int} (hb : w.cell? ⟨B, 0, none⟩ = some (.int .i64 k)) :
    Calls Tryd.prog 57 #[.slice A n c, .int .i64 (p : Int), .pointer (some ⟨B, 0, none⟩)] w (TakeItem w (Tb.takeAt k l p)) := by
  have hl := h.1
  have hm := h.max
  have hlt := h.2.2.2.1
  by_cases hk : k < 0 ∨ ((n - p : Nat) : Int) < k
  · have e : Tb.takeAt k l p = ([], 0, 10) := by unfold Tb.takeAt; rw [if_pos (by rw [hl]; exact hk)]
    rw [e]
    by_cases hk0 : k < 0
    · clear h hl hm hk e
      go_enter Tryd.func57, Tryd.ntmps57
      go_wp2
      go_ret3
      exact ⟨Sl.no, rfl, Own.nil _ _, Below.refl _ _⟩
    · have hk1 : 0 ≤ k := by omega
      have hk2 : (n : Int) - (p : Int) < k := by omega
      clear h hl hk e hk0
      go_enter Tryd.func57, Tryd.ntmps57
      go_wp2
      go_ret3
      exact ⟨Sl.no, rfl, Own.nil _ _, Below.refl _ _⟩
  · have hk1 : 0 ≤ k := by omega
    have hk2 : k ≤ (n : Int) - (p : Int) := by omega
    obtain ⟨m, rfl⟩ := Int.eq_ofNat_of_zero_le hk1
    have e : Tb.takeAt (m : Int) l p = ((l.drop p).take m, p + m, 0) := by unfold Tb.takeAt; rw [if_neg (by rw [hl]; exact hk)]; simp
    rw [e]
    have hpm : p + m ≤ n := by omega
    have hcap := h.2.1
    have hyt := (h.from_ (show p ≤ n by omega)).take (show m ≤ n - p by omega)
    have hmax : ((l.drop p).take m).length = m := hyt.1
    have HY : Hid (∀ W, Below w.heap.size w W → Bytes W W.heap.size (if c = p then A else A.map (·.add p)) m (c - p) ((l.drop p).take m)) := Lib.hid fun W hW => (hyt.below (hW.mono hC)).more (Nat.le_trans hC hW.size)
    have HC : Hid (∀ W, Below w.heap.size w W → Calls Tryd.prog 40 #[.slice (if c = p then A else A.map (·.add p)) m (c - p)] W fun e w' => ∃ A' c', e = .returned (.slice A' m c') ∧ Own W.heap.size w' (.slice A' m c') ((l.drop p).take m) ∧ Below W.heap.size W w') := Lib.hid fun W hW => Clone_any (HY.out W hW) (by omega)
    have hBl := World.block_lt_of_cell? w ⟨B, 0, none⟩ hb
    dsimp only at hBl
    have hs1 : IntKind.i64.wrap ((p : Int) + (m : Int)) = ((p + m : Nat) : Int) := by rw [IntWalk.i64_in _ (by omega)]; omega
    have hto : p + m ≤ c := by omega
    have BW : Below w.heap.size w w := Below.refl _ _
    clear h hl e hyt hk hlt HY hk1
    by_cases hcp : c = p
    · rw [if_pos hcp] at HC
      obtain rfl : m = 0 := by omega
      obtain rfl : p = n := by omega
      subst hcp
      rw [Nat.sub_self] at HC
      replace hb : w.cell? ⟨B, 0, none⟩ = some (.int .i64 0) := hb
      clear hs1 hto hpm hk2 hmax
      have q1 : (0 : Int) ≤ (c : Int) := by omega
      have q2 : IntKind.i64.wrap (c : Int) = (c : Int) := IntWalk.i64_in _ (by omega)
      go_enter Tryd.func57, Tryd.ntmps57
      go_wp2_with fail
      go_region_held3 (fun w' => w'.cell? ⟨B, 0, none⟩ = some (.int .i64 0) ∧ Below w.heap.size w w')
        (first
          | exact T_step hBl ⟨hb, BW⟩ (Below.refl _ _).drew
          | exact HS8.out)
        (((try go_split_ands); (with_reducible refine (HC.out _ (by assumption)).mono ?_); rintro e w8 ⟨A8, c8, rfl, ho, hb8⟩; have HO8 := Lib.hid ho; have HB8 := Lib.hid hb8; have HS8 : Hid (w8.cell? ⟨B, 0, none⟩ = some (.int .i64 0) ∧ Below w.heap.size w w8) := Lib.hid (by first | exact T_step hBl (by assumption) (hb8.mono (Below.size (And.right (by assumption)))) | exact T_step hBl ⟨by assumption, by assumption⟩ (hb8.mono (Below.size (by assumption)))); clear ho hb8))
      go_wp2
      go_ret3
      exact ⟨⟨A8, 0, c8⟩, by first | rfl | simp, HO8.out.base (Below.refl w.heap.size w).drew.size, HS8.out.2⟩
    · rw [if_neg hcp] at HC
      have hlt : p < c := by omega
      have q1 : (0 : Int) ≤ (p : Int) := by omega
      have q2 : (p : Int) ≤ (p : Int) + (m : Int) := by omega
      have q3 : (p : Int) + (m : Int) ≤ (c : Int) := by omega
      have q4 : IntKind.i64.wrap ((p : Int) + (m : Int)) = (p : Int) + (m : Int) := IntWalk.i64_in _ (by omega)
      have q5 : ((p : Int) + (m : Int)).toNat = p + m := by omega
      clear hs1 hto
      go_enter Tryd.func57, Tryd.ntmps57
      go_wp2_with fail
      go_region_held3 (fun w' => w'.cell? ⟨B, 0, none⟩ = some (.int .i64 (m : Int)) ∧ Below w.heap.size w w')
        (first
          | exact T_step hBl ⟨hb, BW⟩ (Below.refl _ _).drew
          | exact HS8.out)
        (((try go_split_ands); (with_reducible refine (HC.out _ (by assumption)).mono ?_); rintro e w8 ⟨A8, c8, rfl, ho, hb8⟩; have HO8 := Lib.hid ho; have HB8 := Lib.hid hb8; have HS8 : Hid (w8.cell? ⟨B, 0, none⟩ = some (.int .i64 (m : Int)) ∧ Below w.heap.size w w8) := Lib.hid (by first | exact T_step hBl (by assumption) (hb8.mono (Below.size (And.right (by assumption)))) | exact T_step hBl ⟨by assumption, by assumption⟩ (hb8.mono (Below.size (by assumption)))); clear ho hb8))
      go_wp2
      go_ret3
      exact ⟨⟨A8, m, c8⟩, by first | rfl | simp, HO8.out.base (Below.refl w.heap.size w).drew.size, HS8.out.2⟩
end
end Go.Proofs.YtphmknhlibampaaDoor

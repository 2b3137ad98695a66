/-
  Layer 5, code: Shape, Known, Bytes.
-/
import Derived.Test.YtlflmobaegfnaabDoorOpE
namespace Go.Proofs.YtlflmobaegfnaabDoor
open Go.RowKit Go.Great
set_option linter.unusedVariables false
set_option linter.unusedSimpArgs false
set_option maxRecDepth 100000

namespace Op5
def inSpan (a b op : Int) : Bool := decide (a ≤ op) && decide (op ≤ b)
def inst (op : Int) : Bool := (List.range 16).any fun k => inSpan (first k) (last k) op
def hits {α : Type} (L : List (Int × Int × α)) (op : Int) : Option α := (L.find? fun t => inSpan t.1 t.2.1 op).map (·.2.2)
theorem hits_at {α : Type} (d : α) : ∀ (L : List (Int × Int × α)) (op : Int) (k : Nat), k < L.length → (∀ j, j < k → inSpan (L.getD j (0, 0, d)).1 (L.getD j (0, 0, d)).2.1 op = false) → inSpan (L.getD k (0, 0, d)).1 (L.getD k (0, 0, d)).2.1 op = true → hits L op = some (L.getD k (0, 0, d)).2.2
  | [], _, _, h, _, _ => by simp at h
  | x :: L, op, 0, _, _, h => by
    have h' : inSpan x.1 x.2.1 op = true := by simpa using h
    simp [hits, List.find?_cons, h']
  | x :: L, op, k + 1, hk, hn, h => by
    have h0 : inSpan x.1 x.2.1 op = false := by simpa using hn 0 (by omega)
    have ih := hits_at d L op k (by simpa using hk) (fun j hj => by simpa using hn (j + 1) (by omega)) (by simpa using h)
    unfold hits at ih ⊢
    rw [List.find?_cons, h0]
    simpa using ih
theorem hits_none {α : Type} (d : α) : ∀ (L : List (Int × Int × α)) (op : Int), (∀ j, j < L.length → inSpan (L.getD j (0, 0, d)).1 (L.getD j (0, 0, d)).2.1 op = false) → hits L op = none
  | [], _, _ => rfl
  | x :: L, op, hn => by
    have h0 : inSpan x.1 x.2.1 op = false := by simpa using hn 0 (by simp)
    have ih := hits_none d L op (fun j hj => by simpa using hn (j + 1) (by simpa using hj))
    unfold hits at ih ⊢
    rw [List.find?_cons, h0]
    simpa using ih
def moreL : List (Int × Int × Int) := [(2, 4, 2), (8, 8, 6), (12, 13, 4), (14, 14, 5), (16, 16, 6), (17, 17, 7), (18, 18, 6), (19, 19, 7), (20, 21, 6), (28, 28, 12), (31, 31, 3), (32, 38, 6), (40, 62, 8), (63, 64, 6), (65, 65, 9), (66, 66, 10), (208, 208, 11), (210, 210, 6), (213, 214, 4), (64256, 64257, 6), (64258, 64261, 7), (64262, 64263, 6), (64264, 64266, 7), (64267, 64270, 6), (64272, 64272, 6), (64273, 64275, 7), (64276, 64279, 11), (64280, 64281, 13), (64520, 64520, 7), (64521, 64521, 6), (64522, 64522, 7), (64523, 64523, 6), (64524, 64524, 7), (64525, 64525, 6), (64526, 64526, 7), (64527, 64529, 6)]
def knownL : List (Int × Int × Int) := [(42, 43, 1), (56, 57, 1), (67, 68, 1), (91, 102, 1), (139, 166, 1), (168, 171, 1), (174, 191, 1), (64512, 64519, 1), (253, 253, 1)]
def bytesL : List (Int × Int × Int) := [(40, 40, 4), (41, 41, 8), (44, 45, 1), (46, 47, 2), (48, 49, 1), (50, 51, 2), (52, 53, 4), (54, 54, 4), (55, 55, 8), (58, 58, 1), (59, 59, 2), (60, 60, 1), (61, 61, 2), (62, 62, 4)]
def moreOf (op : Int) : Int := (hits moreL op).getD 0
def knownOf (op : Int) : Bool := (hits knownL op).isSome
def bytesOf (op : Int) : Int := (hits bytesL op).getD 0
def shapeOf (op : Int) : Int := if inst op = true then (if moreOf op = 0 then 1 else moreOf op) else 0
def ra (L : List (Int × Int × Int)) (k : Nat) : Int := (L.getD k (0, 0, 0)).1
def rb (L : List (Int × Int × Int)) (k : Nat) : Int := (L.getD k (0, 0, 0)).2.1
def rc (L : List (Int × Int × Int)) (k : Nat) : Int := (L.getD k (0, 0, 0)).2.2
theorem ra_nn : ((List.range 36).all fun k => decide (0 ≤ ra moreL k)) = true := by decide +kernel
def moreC : Array Value := #[.int .i64 2, .int .i64 4, .int .i64 2, .int .i64 8, .int .i64 8, .int .i64 6, .int .i64 12, .int .i64 13, .int .i64 4, .int .i64 14, .int .i64 14, .int .i64 5, .int .i64 16, .int .i64 16, .int .i64 6, .int .i64 17, .int .i64 17, .int .i64 7, .int .i64 18, .int .i64 18, .int .i64 6, .int .i64 19, .int .i64 19, .int .i64 7, .int .i64 20, .int .i64 21, .int .i64 6, .int .i64 28, .int .i64 28, .int .i64 12, .int .i64 31, .int .i64 31, .int .i64 3, .int .i64 32, .int .i64 38, .int .i64 6, .int .i64 40, .int .i64 62, .int .i64 8, .int .i64 63, .int .i64 64, .int .i64 6, .int .i64 65, .int .i64 65, .int .i64 9, .int .i64 66, .int .i64 66, .int .i64 10, .int .i64 208, .int .i64 208, .int .i64 11, .int .i64 210, .int .i64 210, .int .i64 6, .int .i64 213, .int .i64 214, .int .i64 4, .int .i64 64256, .int .i64 64257, .int .i64 6, .int .i64 64258, .int .i64 64261, .int .i64 7, .int .i64 64262, .int .i64 64263, .int .i64 6, .int .i64 64264, .int .i64 64266, .int .i64 7, .int .i64 64267, .int .i64 64270, .int .i64 6, .int .i64 64272, .int .i64 64272, .int .i64 6, .int .i64 64273, .int .i64 64275, .int .i64 7, .int .i64 64276, .int .i64 64279, .int .i64 11, .int .i64 64280, .int .i64 64281, .int .i64 13, .int .i64 64520, .int .i64 64520, .int .i64 7, .int .i64 64521, .int .i64 64521, .int .i64 6, .int .i64 64522, .int .i64 64522, .int .i64 7, .int .i64 64523, .int .i64 64523, .int .i64 6, .int .i64 64524, .int .i64 64524, .int .i64 7, .int .i64 64525, .int .i64 64525, .int .i64 6, .int .i64 64526, .int .i64 64526, .int .i64 7, .int .i64 64527, .int .i64 64529, .int .i64 6]
def knownC : Array Value := #[.int .i64 42, .int .i64 43, .int .i64 56, .int .i64 57, .int .i64 67, .int .i64 68, .int .i64 91, .int .i64 102, .int .i64 139, .int .i64 166, .int .i64 168, .int .i64 171, .int .i64 174, .int .i64 191, .int .i64 64512, .int .i64 64519, .int .i64 253, .int .i64 253]
def bytesC : Array Value := #[.int .i64 40, .int .i64 40, .int .i64 4, .int .i64 41, .int .i64 41, .int .i64 8, .int .i64 44, .int .i64 45, .int .i64 1, .int .i64 46, .int .i64 47, .int .i64 2, .int .i64 48, .int .i64 49, .int .i64 1, .int .i64 50, .int .i64 51, .int .i64 2, .int .i64 52, .int .i64 53, .int .i64 4, .int .i64 54, .int .i64 54, .int .i64 4, .int .i64 55, .int .i64 55, .int .i64 8, .int .i64 58, .int .i64 58, .int .i64 1, .int .i64 59, .int .i64 59, .int .i64 2, .int .i64 60, .int .i64 60, .int .i64 1, .int .i64 61, .int .i64 61, .int .i64 2, .int .i64 62, .int .i64 62, .int .i64 4]
end Op5
theorem wp_frame_eq {P : Program} {c : Code} {Q : Exit → Act → World → Prop} {a a' : Act} {w : World} (h : a = a') (hc : c.wp P Q a' w) : c.wp P Q a w := by rw [h]; exact hc

theorem has_any (a b op : Int) (w : World) :
    Calls Tryd.prog 17 #[.agg #[.int .i64 a, .int .i64 b], .int .i64 op] w fun e w' => e = .returned (.bool (Op5.inSpan a b op)) ∧ Below w.heap.size w w' := by
  by_cases h1 : a ≤ op
  · by_cases h2 : op ≤ b
    · have hr : Op5.inSpan a b op = true := by simp [Op5.inSpan, h1, h2]
      rw [hr]
      go_enter Tryd.func17, Tryd.ntmps17
      go_wp2
      go_ret
      exact ⟨rfl, (Below.refl _ _).alloc (Nat.le_refl _) _⟩
    · have hr : Op5.inSpan a b op = false := by simp [Op5.inSpan, h1, h2]
      have h2' : decide (op ≤ b) = false := by simpa using h2
      rw [hr]
      go_enter Tryd.func17, Tryd.ntmps17
      go_wp2
      go_ret
      exact ⟨rfl, (Below.refl _ _).alloc (Nat.le_refl _) _⟩
  · have hr : Op5.inSpan a b op = false := by simp [Op5.inSpan, h1]
    have h1' : decide (a ≤ op) = false := by simpa using h1
    rw [hr]
    go_enter Tryd.func17, Tryd.ntmps17
    go_wp2
    go_ret
    exact ⟨rfl, (Below.refl _ _).alloc (Nat.le_refl _) _⟩
theorem more_at (k : Nat) (hk : k < 36) (w : World) : (Instr.index 48 (.agg Op5.moreC) (.int .i64 (k : Int))).run Tryd.prog w = .ok (.agg #[.int .i64 (Op5.ra Op5.moreL k), .int .i64 (Op5.rb Op5.moreL k), .int .i64 (Op5.rc Op5.moreL k)]) w := by
  rcases (by omega : k = 0 ∨ k = 1 ∨ k = 2 ∨ k = 3 ∨ k = 4 ∨ k = 5 ∨ k = 6 ∨ k = 7 ∨ k = 8 ∨ k = 9 ∨ k = 10 ∨ k = 11 ∨ k = 12 ∨ k = 13 ∨ k = 14 ∨ k = 15 ∨ k = 16 ∨ k = 17 ∨ k = 18 ∨ k = 19 ∨ k = 20 ∨ k = 21 ∨ k = 22 ∨ k = 23 ∨ k = 24 ∨ k = 25 ∨ k = 26 ∨ k = 27 ∨ k = 28 ∨ k = 29 ∨ k = 30 ∨ k = 31 ∨ k = 32 ∨ k = 33 ∨ k = 34 ∨ k = 35) with rfl | rfl | rfl | rfl | rfl | rfl | rfl | rfl | rfl | rfl | rfl | rfl | rfl | rfl | rfl | rfl | rfl | rfl | rfl | rfl | rfl | rfl | rfl | rfl | rfl | rfl | rfl | rfl | rfl | rfl | rfl | rfl | rfl | rfl | rfl | rfl
  · as_aux_lemma => kernel_rfl
  · as_aux_lemma => kernel_rfl
  · as_aux_lemma => kernel_rfl
  · as_aux_lemma => kernel_rfl
  · as_aux_lemma => kernel_rfl
  · as_aux_lemma => kernel_rfl
  · as_aux_lemma => kernel_rfl
  · as_aux_lemma => kernel_rfl
  · as_aux_lemma => kernel_rfl
  · as_aux_lemma => kernel_rfl
  · as_aux_lemma => kernel_rfl
  · as_aux_lemma => kernel_rfl
  · as_aux_lemma => kernel_rfl
  · as_aux_lemma => kernel_rfl
  · as_aux_lemma => kernel_rfl
  · as_aux_lemma => kernel_rfl
  · as_aux_lemma => kernel_rfl
  · as_aux_lemma => kernel_rfl
  · as_aux_lemma => kernel_rfl
  · as_aux_lemma => kernel_rfl
  · as_aux_lemma => kernel_rfl
  · as_aux_lemma => kernel_rfl
  · as_aux_lemma => kernel_rfl
  · as_aux_lemma => kernel_rfl
  · as_aux_lemma => kernel_rfl
  · as_aux_lemma => kernel_rfl
  · as_aux_lemma => kernel_rfl
  · as_aux_lemma => kernel_rfl
  · as_aux_lemma => kernel_rfl
  · as_aux_lemma => kernel_rfl
  · as_aux_lemma => kernel_rfl
  · as_aux_lemma => kernel_rfl
  · as_aux_lemma => kernel_rfl
  · as_aux_lemma => kernel_rfl
  · as_aux_lemma => kernel_rfl
  · as_aux_lemma => kernel_rfl
theorem known_at (k : Nat) (hk : k < 9) (w : World) : (Instr.index 37 (.agg Op5.knownC) (.int .i64 (k : Int))).run Tryd.prog w = .ok (.agg #[.int .i64 (Op5.ra Op5.knownL k), .int .i64 (Op5.rb Op5.knownL k)]) w := by
  rcases (by omega : k = 0 ∨ k = 1 ∨ k = 2 ∨ k = 3 ∨ k = 4 ∨ k = 5 ∨ k = 6 ∨ k = 7 ∨ k = 8) with rfl | rfl | rfl | rfl | rfl | rfl | rfl | rfl | rfl
  · as_aux_lemma => kernel_rfl
  · as_aux_lemma => kernel_rfl
  · as_aux_lemma => kernel_rfl
  · as_aux_lemma => kernel_rfl
  · as_aux_lemma => kernel_rfl
  · as_aux_lemma => kernel_rfl
  · as_aux_lemma => kernel_rfl
  · as_aux_lemma => kernel_rfl
  · as_aux_lemma => kernel_rfl
theorem bytes_at (k : Nat) (hk : k < 14) (w : World) : (Instr.index 39 (.agg Op5.bytesC) (.int .i64 (k : Int))).run Tryd.prog w = .ok (.agg #[.int .i64 (Op5.ra Op5.bytesL k), .int .i64 (Op5.rb Op5.bytesL k), .int .i64 (Op5.rc Op5.bytesL k)]) w := by
  rcases (by omega : k = 0 ∨ k = 1 ∨ k = 2 ∨ k = 3 ∨ k = 4 ∨ k = 5 ∨ k = 6 ∨ k = 7 ∨ k = 8 ∨ k = 9 ∨ k = 10 ∨ k = 11 ∨ k = 12 ∨ k = 13) with rfl | rfl | rfl | rfl | rfl | rfl | rfl | rfl | rfl | rfl | rfl | rfl | rfl | rfl
  · as_aux_lemma => kernel_rfl
  · as_aux_lemma => kernel_rfl
  · as_aux_lemma => kernel_rfl
  · as_aux_lemma => kernel_rfl
  · as_aux_lemma => kernel_rfl
  · as_aux_lemma => kernel_rfl
  · as_aux_lemma => kernel_rfl
  · as_aux_lemma => kernel_rfl
  · as_aux_lemma => kernel_rfl
  · as_aux_lemma => kernel_rfl
  · as_aux_lemma => kernel_rfl
  · as_aux_lemma => kernel_rfl
  · as_aux_lemma => kernel_rfl
  · as_aux_lemma => kernel_rfl
set_option maxHeartbeats 8000000 in
theorem known_any (op : Int) (w : World) :
    Calls Tryd.prog 8 #[.int .i64 op] w fun e w' => e = .returned (.bool (Op5.knownOf op)) ∧ Below w.heap.size w w' := by
  obtain ⟨Q, hQ⟩ : ∃ Q : Ending → World → Prop, Q = (fun e w' => e = .returned (.bool (Op5.knownOf op)) ∧ Below w.heap.size w w') := ⟨_, rfl⟩
  rw [← hQ]
  have HQ := Lib.hid hQ
  clear hQ
  go_enter Tryd.func8, Tryd.ntmps8
  apply wp_seq_k
  intro K hK
  apply wp_region_lit
  refine wpList_readTo rfl (some 2) rfl (.bool false) rfl ?_
  apply wpList_nil
  refine hK _ _ ?_
  clear hK K
  apply wp_seq_k
  intro K hK
  apply wp_seq_k
  intro K2 hK2
  apply wp_region_lit
  refine wpList_buildTo rfl 36 _ rfl (some 5) rfl #[.int .i64 42, .int .i64 43] (by as_aux_lemma => kernel_rfl) ?_
  refine wpList_buildTo rfl 36 _ rfl (some 6) rfl #[.int .i64 56, .int .i64 57] (by as_aux_lemma => kernel_rfl) ?_
  refine wpList_buildTo rfl 36 _ rfl (some 7) rfl #[.int .i64 67, .int .i64 68] (by as_aux_lemma => kernel_rfl) ?_
  refine wpList_buildTo rfl 36 _ rfl (some 8) rfl #[.int .i64 91, .int .i64 102] (by as_aux_lemma => kernel_rfl) ?_
  refine wpList_buildTo rfl 36 _ rfl (some 9) rfl #[.int .i64 139, .int .i64 166] (by as_aux_lemma => kernel_rfl) ?_
  refine wpList_buildTo rfl 36 _ rfl (some 10) rfl #[.int .i64 168, .int .i64 171] (by as_aux_lemma => kernel_rfl) ?_
  refine wpList_buildTo rfl 36 _ rfl (some 11) rfl #[.int .i64 174, .int .i64 191] (by as_aux_lemma => kernel_rfl) ?_
  refine wpList_buildTo rfl 36 _ rfl (some 12) rfl #[.int .i64 64512, .int .i64 64519] (by as_aux_lemma => kernel_rfl) ?_
  refine wpList_buildTo rfl 36 _ rfl (some 13) rfl #[.int .i64 253, .int .i64 253] (by as_aux_lemma => kernel_rfl) ?_
  refine wpList_buildTo rfl 37 _ rfl (some 14) rfl Op5.knownC (by as_aux_lemma => kernel_rfl) ?_
  refine wpList_readTo rfl (some 15) rfl (.int .i64 0) rfl ?_
  apply wpList_nil
  refine hK2 _ _ ?_
  clear hK2 K2
  refine wp_frame_eq (a' := { tmps := #[.int .i64 op, undef, .bool false, undef, undef, .agg #[.int .i64 42, .int .i64 43], .agg #[.int .i64 56, .int .i64 57], .agg #[.int .i64 67, .int .i64 68], .agg #[.int .i64 91, .int .i64 102], .agg #[.int .i64 139, .int .i64 166], .agg #[.int .i64 168, .int .i64 171], .agg #[.int .i64 174, .int .i64 191], .agg #[.int .i64 64512, .int .i64 64519], .agg #[.int .i64 253, .int .i64 253], .agg Op5.knownC, .int .i64 0, undef, undef, undef, undef, undef, undef], defers := [] }) (by as_aux_lemma => kernel_rfl) ?_
  go_wp2
  go_loopw [15] (fun i wr => ∃ k : Nat, k ≤ 9 ∧ i = .int .i64 k ∧ (∀ j, j < k → Op5.inSpan (Op5.ra Op5.knownL j) (Op5.rb Op5.knownL j) op = false) ∧ Below w.heap.size w wr) (fun i _ => 9 - (intOf i).toNat)
  case atStart => exact ⟨0, by omega, rfl, fun _ h => by omega, Below.refl _ _⟩
  case round =>
    obtain ⟨k, hk, rfl, hn, hB⟩ := hrel
    have HN := Lib.hid hn
    have HB := Lib.hid hB
    clear hn hB
    by_cases hlt : k < 9
    · obtain ⟨a, ha⟩ : ∃ a, Op5.ra Op5.knownL k = a := ⟨_, rfl⟩
      obtain ⟨b, hb⟩ : ∃ b, Op5.rb Op5.knownL k = b := ⟨_, rfl⟩
      have hx : ∀ w, (Instr.index 37 (.agg Op5.knownC) (.int .i64 (k : Int))).run Tryd.prog w = .ok (.agg #[.int .i64 a, .int .i64 b]) w := fun w => by
        have h := known_at k hlt w
        rw [ha, hb] at h
        exact h
      have HA := Lib.hid ha
      have HBb := Lib.hid hb
      clear ha hb
      have HS := Lib.hid (fun W => has_any a b op W)
      obtain ⟨r, hr⟩ : ∃ r, Op5.inSpan a b op = r := ⟨_, rfl⟩
      rw [hr] at HS
      have HR := Lib.hid hr
      clear hr
      cases r
      · go_wp2_with (go_at_call 17; ((with_reducible refine (HS.out _).mono ?_); rintro e w5 ⟨rfl, hb5⟩; have HB5 := Lib.hid hb5; clear hb5))
        go_roundw
        case rel =>
          refine ⟨k + 1, by omega, by go_num, fun j hj => ?_, HB.out.trans (below_box _ _ _ HB5.out |>.mono HB.out.size)⟩
          by_cases he : j = k
          · rw [he, HA.out, HBb.out]; exact HR.out
          · exact HN.out j (by omega)
        case measure => simp [intOf]; omega
      · go_wp2_with (go_at_call 17; ((with_reducible refine (HS.out _).mono ?_); rintro e w5 ⟨rfl, hb5⟩; have HB5 := Lib.hid hb5; clear hb5))
        rw [HQ.out]
        refine ⟨?_, HB.out.trans (below_box _ _ _ HB5.out |>.mono HB.out.size)⟩
        have h := Op5.hits_at (0 : Int) Op5.knownL op k (by show k < 9; exact hlt) (fun j hj => HN.out j hj) (by show Op5.inSpan (Op5.ra Op5.knownL k) (Op5.rb Op5.knownL k) op = true; rw [HA.out, HBb.out]; exact HR.out)
        unfold Op5.knownOf; rw [h]; rfl
    · obtain rfl : k = 9 := by omega
      go_wp2
      rw [HQ.out]
      refine ⟨?_, HB.out⟩
      have h := Op5.hits_none (0 : Int) Op5.knownL op (fun j hj => HN.out j hj)
      unfold Op5.knownOf; rw [h]; rfl
set_option maxHeartbeats 8000000 in
theorem bytes_any (op : Int) (w : World) :
    Calls Tryd.prog 9 #[.int .i64 op] w fun e w' => e = .returned (.int .i64 (Op5.bytesOf op)) ∧ Below w.heap.size w w' := by
  obtain ⟨Q, hQ⟩ : ∃ Q : Ending → World → Prop, Q = (fun e w' => e = .returned (.int .i64 (Op5.bytesOf op)) ∧ Below w.heap.size w w') := ⟨_, rfl⟩
  rw [← hQ]
  have HQ := Lib.hid hQ
  clear hQ
  go_enter Tryd.func9, Tryd.ntmps9
  apply wp_seq_k
  intro K hK
  apply wp_region_lit
  refine wpList_readTo rfl (some 2) rfl (.int .i64 0) rfl ?_
  apply wpList_nil
  refine hK _ _ ?_
  clear hK K
  apply wp_seq_k
  intro K hK
  apply wp_seq_k
  intro K2 hK2
  apply wp_region_lit
  refine wpList_buildTo rfl 36 _ rfl (some 5) rfl #[.int .i64 40, .int .i64 40] (by as_aux_lemma => kernel_rfl) ?_
  refine wpList_buildTo rfl 38 _ rfl (some 6) rfl #[.int .i64 40, .int .i64 40, .int .i64 4] (by as_aux_lemma => kernel_rfl) ?_
  refine wpList_buildTo rfl 36 _ rfl (some 7) rfl #[.int .i64 41, .int .i64 41] (by as_aux_lemma => kernel_rfl) ?_
  refine wpList_buildTo rfl 38 _ rfl (some 8) rfl #[.int .i64 41, .int .i64 41, .int .i64 8] (by as_aux_lemma => kernel_rfl) ?_
  refine wpList_buildTo rfl 36 _ rfl (some 9) rfl #[.int .i64 44, .int .i64 45] (by as_aux_lemma => kernel_rfl) ?_
  refine wpList_buildTo rfl 38 _ rfl (some 10) rfl #[.int .i64 44, .int .i64 45, .int .i64 1] (by as_aux_lemma => kernel_rfl) ?_
  refine wpList_buildTo rfl 36 _ rfl (some 11) rfl #[.int .i64 46, .int .i64 47] (by as_aux_lemma => kernel_rfl) ?_
  refine wpList_buildTo rfl 38 _ rfl (some 12) rfl #[.int .i64 46, .int .i64 47, .int .i64 2] (by as_aux_lemma => kernel_rfl) ?_
  refine wpList_buildTo rfl 36 _ rfl (some 13) rfl #[.int .i64 48, .int .i64 49] (by as_aux_lemma => kernel_rfl) ?_
  refine wpList_buildTo rfl 38 _ rfl (some 14) rfl #[.int .i64 48, .int .i64 49, .int .i64 1] (by as_aux_lemma => kernel_rfl) ?_
  refine wpList_buildTo rfl 36 _ rfl (some 15) rfl #[.int .i64 50, .int .i64 51] (by as_aux_lemma => kernel_rfl) ?_
  refine wpList_buildTo rfl 38 _ rfl (some 16) rfl #[.int .i64 50, .int .i64 51, .int .i64 2] (by as_aux_lemma => kernel_rfl) ?_
  refine wpList_buildTo rfl 36 _ rfl (some 17) rfl #[.int .i64 52, .int .i64 53] (by as_aux_lemma => kernel_rfl) ?_
  refine wpList_buildTo rfl 38 _ rfl (some 18) rfl #[.int .i64 52, .int .i64 53, .int .i64 4] (by as_aux_lemma => kernel_rfl) ?_
  refine wpList_buildTo rfl 36 _ rfl (some 19) rfl #[.int .i64 54, .int .i64 54] (by as_aux_lemma => kernel_rfl) ?_
  refine wpList_buildTo rfl 38 _ rfl (some 20) rfl #[.int .i64 54, .int .i64 54, .int .i64 4] (by as_aux_lemma => kernel_rfl) ?_
  refine wpList_buildTo rfl 36 _ rfl (some 21) rfl #[.int .i64 55, .int .i64 55] (by as_aux_lemma => kernel_rfl) ?_
  refine wpList_buildTo rfl 38 _ rfl (some 22) rfl #[.int .i64 55, .int .i64 55, .int .i64 8] (by as_aux_lemma => kernel_rfl) ?_
  refine wpList_buildTo rfl 36 _ rfl (some 23) rfl #[.int .i64 58, .int .i64 58] (by as_aux_lemma => kernel_rfl) ?_
  refine wpList_buildTo rfl 38 _ rfl (some 24) rfl #[.int .i64 58, .int .i64 58, .int .i64 1] (by as_aux_lemma => kernel_rfl) ?_
  refine wpList_buildTo rfl 36 _ rfl (some 25) rfl #[.int .i64 59, .int .i64 59] (by as_aux_lemma => kernel_rfl) ?_
  refine wpList_buildTo rfl 38 _ rfl (some 26) rfl #[.int .i64 59, .int .i64 59, .int .i64 2] (by as_aux_lemma => kernel_rfl) ?_
  refine wpList_buildTo rfl 36 _ rfl (some 27) rfl #[.int .i64 60, .int .i64 60] (by as_aux_lemma => kernel_rfl) ?_
  refine wpList_buildTo rfl 38 _ rfl (some 28) rfl #[.int .i64 60, .int .i64 60, .int .i64 1] (by as_aux_lemma => kernel_rfl) ?_
  refine wpList_buildTo rfl 36 _ rfl (some 29) rfl #[.int .i64 61, .int .i64 61] (by as_aux_lemma => kernel_rfl) ?_
  refine wpList_buildTo rfl 38 _ rfl (some 30) rfl #[.int .i64 61, .int .i64 61, .int .i64 2] (by as_aux_lemma => kernel_rfl) ?_
  refine wpList_buildTo rfl 36 _ rfl (some 31) rfl #[.int .i64 62, .int .i64 62] (by as_aux_lemma => kernel_rfl) ?_
  refine wpList_buildTo rfl 38 _ rfl (some 32) rfl #[.int .i64 62, .int .i64 62, .int .i64 4] (by as_aux_lemma => kernel_rfl) ?_
  refine wpList_buildTo rfl 39 _ rfl (some 33) rfl Op5.bytesC (by as_aux_lemma => kernel_rfl) ?_
  refine wpList_readTo rfl (some 34) rfl (.int .i64 0) rfl ?_
  apply wpList_nil
  refine hK2 _ _ ?_
  clear hK2 K2
  refine wp_frame_eq (a' := { tmps := #[.int .i64 op, undef, .int .i64 0, undef, undef, .agg #[.int .i64 40, .int .i64 40], .agg #[.int .i64 40, .int .i64 40, .int .i64 4], .agg #[.int .i64 41, .int .i64 41], .agg #[.int .i64 41, .int .i64 41, .int .i64 8], .agg #[.int .i64 44, .int .i64 45], .agg #[.int .i64 44, .int .i64 45, .int .i64 1], .agg #[.int .i64 46, .int .i64 47], .agg #[.int .i64 46, .int .i64 47, .int .i64 2], .agg #[.int .i64 48, .int .i64 49], .agg #[.int .i64 48, .int .i64 49, .int .i64 1], .agg #[.int .i64 50, .int .i64 51], .agg #[.int .i64 50, .int .i64 51, .int .i64 2], .agg #[.int .i64 52, .int .i64 53], .agg #[.int .i64 52, .int .i64 53, .int .i64 4], .agg #[.int .i64 54, .int .i64 54], .agg #[.int .i64 54, .int .i64 54, .int .i64 4], .agg #[.int .i64 55, .int .i64 55], .agg #[.int .i64 55, .int .i64 55, .int .i64 8], .agg #[.int .i64 58, .int .i64 58], .agg #[.int .i64 58, .int .i64 58, .int .i64 1], .agg #[.int .i64 59, .int .i64 59], .agg #[.int .i64 59, .int .i64 59, .int .i64 2], .agg #[.int .i64 60, .int .i64 60], .agg #[.int .i64 60, .int .i64 60, .int .i64 1], .agg #[.int .i64 61, .int .i64 61], .agg #[.int .i64 61, .int .i64 61, .int .i64 2], .agg #[.int .i64 62, .int .i64 62], .agg #[.int .i64 62, .int .i64 62, .int .i64 4], .agg Op5.bytesC, .int .i64 0, undef, undef, undef, undef, undef, undef, undef, undef, undef], defers := [] }) (by as_aux_lemma => kernel_rfl) ?_
  go_wp2
  go_loopw [34] (fun i wr => ∃ k : Nat, k ≤ 14 ∧ i = .int .i64 k ∧ (∀ j, j < k → Op5.inSpan (Op5.ra Op5.bytesL j) (Op5.rb Op5.bytesL j) op = false) ∧ Below w.heap.size w wr) (fun i _ => 14 - (intOf i).toNat)
  case atStart => exact ⟨0, by omega, rfl, fun _ h => by omega, Below.refl _ _⟩
  case round =>
    obtain ⟨k, hk, rfl, hn, hB⟩ := hrel
    have HN := Lib.hid hn
    have HB := Lib.hid hB
    clear hn hB
    by_cases hlt : k < 14
    · obtain ⟨a, ha⟩ : ∃ a, Op5.ra Op5.bytesL k = a := ⟨_, rfl⟩
      obtain ⟨b, hb⟩ : ∃ b, Op5.rb Op5.bytesL k = b := ⟨_, rfl⟩
      obtain ⟨c, hc⟩ : ∃ c, Op5.rc Op5.bytesL k = c := ⟨_, rfl⟩
      have hx : ∀ w, (Instr.index 39 (.agg Op5.bytesC) (.int .i64 (k : Int))).run Tryd.prog w = .ok (.agg #[.int .i64 a, .int .i64 b, .int .i64 c]) w := fun w => by
        have h := bytes_at k hlt w
        rw [ha, hb, hc] at h
        exact h
      have HA := Lib.hid ha
      have HBb := Lib.hid hb
      have HC := Lib.hid hc
      clear ha hb hc
      have HS := Lib.hid (fun W => has_any a b op W)
      obtain ⟨r, hr⟩ : ∃ r, Op5.inSpan a b op = r := ⟨_, rfl⟩
      rw [hr] at HS
      have HR := Lib.hid hr
      clear hr
      cases r
      · go_wp2_with (go_at_call 17; ((with_reducible refine (HS.out _).mono ?_); rintro e w5 ⟨rfl, hb5⟩; have HB5 := Lib.hid hb5; have hcc : w5.cell? ⟨wr.heap.size, 2, none⟩ = some (.int .i64 c) := (hb5.cell (p := ⟨wr.heap.size, 2, none⟩) (by simp)).trans (by go_simp); clear hb5))
        go_roundw
        case rel =>
          refine ⟨k + 1, by omega, by go_num, fun j hj => ?_, HB.out.trans (below_box _ _ _ HB5.out |>.mono HB.out.size)⟩
          by_cases he : j = k
          · rw [he, HA.out, HBb.out]; exact HR.out
          · exact HN.out j (by omega)
        case measure => simp [intOf]; omega
      · go_wp2_with (go_at_call 17; ((with_reducible refine (HS.out _).mono ?_); rintro e w5 ⟨rfl, hb5⟩; have HB5 := Lib.hid hb5; have hcc : w5.cell? ⟨wr.heap.size, 2, none⟩ = some (.int .i64 c) := (hb5.cell (p := ⟨wr.heap.size, 2, none⟩) (by simp)).trans (by go_simp); clear hb5))
        rw [HQ.out]
        refine ⟨?_, HB.out.trans (below_box _ _ _ HB5.out |>.mono HB.out.size)⟩
        have h := Op5.hits_at (0 : Int) Op5.bytesL op k (by show k < 14; exact hlt) (fun j hj => HN.out j hj) (by show Op5.inSpan (Op5.ra Op5.bytesL k) (Op5.rb Op5.bytesL k) op = true; rw [HA.out, HBb.out]; exact HR.out)
        unfold Op5.bytesOf; rw [h]; show _ = Ending.returned (.int .i64 (Op5.rc Op5.bytesL k)); rw [HC.out]; rfl
    · obtain rfl : k = 14 := by omega
      go_wp2
      rw [HQ.out]
      refine ⟨?_, HB.out⟩
      have h := Op5.hits_none (0 : Int) Op5.bytesL op (fun j hj => HN.out j hj)
      unfold Op5.bytesOf; rw [h]; rfl
set_option maxHeartbeats 8000000 in
theorem more_any (op : Int) (w : World) :
    Calls Tryd.prog 15 #[.int .i64 op] w fun e w' => e = .returned (.int .i64 (Op5.moreOf op)) ∧ Below w.heap.size w w' := by
  obtain ⟨Q, hQ⟩ : ∃ Q : Ending → World → Prop, Q = (fun e w' => e = .returned (.int .i64 (Op5.moreOf op)) ∧ Below w.heap.size w w') := ⟨_, rfl⟩
  rw [← hQ]
  have HQ := Lib.hid hQ
  clear hQ
  go_enter Tryd.func15, Tryd.ntmps15
  apply wp_seq_k
  intro K hK
  apply wp_region_lit
  refine wpList_readTo rfl (some 2) rfl (.int .i64 0) rfl ?_
  apply wpList_nil
  refine hK _ _ ?_
  clear hK K
  apply wp_seq_k
  intro K hK
  apply wp_seq_k
  intro K2 hK2
  apply wp_region_lit
  refine wpList_buildTo rfl 36 _ rfl (some 5) rfl #[.int .i64 2, .int .i64 4] (by as_aux_lemma => kernel_rfl) ?_
  refine wpList_buildTo rfl 47 _ rfl (some 6) rfl #[.int .i64 2, .int .i64 4, .int .i64 2] (by as_aux_lemma => kernel_rfl) ?_
  refine wpList_buildTo rfl 36 _ rfl (some 7) rfl #[.int .i64 8, .int .i64 8] (by as_aux_lemma => kernel_rfl) ?_
  refine wpList_buildTo rfl 47 _ rfl (some 8) rfl #[.int .i64 8, .int .i64 8, .int .i64 6] (by as_aux_lemma => kernel_rfl) ?_
  refine wpList_buildTo rfl 36 _ rfl (some 9) rfl #[.int .i64 12, .int .i64 13] (by as_aux_lemma => kernel_rfl) ?_
  refine wpList_buildTo rfl 47 _ rfl (some 10) rfl #[.int .i64 12, .int .i64 13, .int .i64 4] (by as_aux_lemma => kernel_rfl) ?_
  refine wpList_buildTo rfl 36 _ rfl (some 11) rfl #[.int .i64 14, .int .i64 14] (by as_aux_lemma => kernel_rfl) ?_
  refine wpList_buildTo rfl 47 _ rfl (some 12) rfl #[.int .i64 14, .int .i64 14, .int .i64 5] (by as_aux_lemma => kernel_rfl) ?_
  refine wpList_buildTo rfl 36 _ rfl (some 13) rfl #[.int .i64 16, .int .i64 16] (by as_aux_lemma => kernel_rfl) ?_
  refine wpList_buildTo rfl 47 _ rfl (some 14) rfl #[.int .i64 16, .int .i64 16, .int .i64 6] (by as_aux_lemma => kernel_rfl) ?_
  refine wpList_buildTo rfl 36 _ rfl (some 15) rfl #[.int .i64 17, .int .i64 17] (by as_aux_lemma => kernel_rfl) ?_
  refine wpList_buildTo rfl 47 _ rfl (some 16) rfl #[.int .i64 17, .int .i64 17, .int .i64 7] (by as_aux_lemma => kernel_rfl) ?_
  refine wpList_buildTo rfl 36 _ rfl (some 17) rfl #[.int .i64 18, .int .i64 18] (by as_aux_lemma => kernel_rfl) ?_
  refine wpList_buildTo rfl 47 _ rfl (some 18) rfl #[.int .i64 18, .int .i64 18, .int .i64 6] (by as_aux_lemma => kernel_rfl) ?_
  refine wpList_buildTo rfl 36 _ rfl (some 19) rfl #[.int .i64 19, .int .i64 19] (by as_aux_lemma => kernel_rfl) ?_
  refine wpList_buildTo rfl 47 _ rfl (some 20) rfl #[.int .i64 19, .int .i64 19, .int .i64 7] (by as_aux_lemma => kernel_rfl) ?_
  refine wpList_buildTo rfl 36 _ rfl (some 21) rfl #[.int .i64 20, .int .i64 21] (by as_aux_lemma => kernel_rfl) ?_
  refine wpList_buildTo rfl 47 _ rfl (some 22) rfl #[.int .i64 20, .int .i64 21, .int .i64 6] (by as_aux_lemma => kernel_rfl) ?_
  refine wpList_buildTo rfl 36 _ rfl (some 23) rfl #[.int .i64 28, .int .i64 28] (by as_aux_lemma => kernel_rfl) ?_
  refine wpList_buildTo rfl 47 _ rfl (some 24) rfl #[.int .i64 28, .int .i64 28, .int .i64 12] (by as_aux_lemma => kernel_rfl) ?_
  refine wpList_buildTo rfl 36 _ rfl (some 25) rfl #[.int .i64 31, .int .i64 31] (by as_aux_lemma => kernel_rfl) ?_
  refine wpList_buildTo rfl 47 _ rfl (some 26) rfl #[.int .i64 31, .int .i64 31, .int .i64 3] (by as_aux_lemma => kernel_rfl) ?_
  refine wpList_buildTo rfl 36 _ rfl (some 27) rfl #[.int .i64 32, .int .i64 38] (by as_aux_lemma => kernel_rfl) ?_
  refine wpList_buildTo rfl 47 _ rfl (some 28) rfl #[.int .i64 32, .int .i64 38, .int .i64 6] (by as_aux_lemma => kernel_rfl) ?_
  refine wpList_buildTo rfl 36 _ rfl (some 29) rfl #[.int .i64 40, .int .i64 62] (by as_aux_lemma => kernel_rfl) ?_
  refine wpList_buildTo rfl 47 _ rfl (some 30) rfl #[.int .i64 40, .int .i64 62, .int .i64 8] (by as_aux_lemma => kernel_rfl) ?_
  refine wpList_buildTo rfl 36 _ rfl (some 31) rfl #[.int .i64 63, .int .i64 64] (by as_aux_lemma => kernel_rfl) ?_
  refine wpList_buildTo rfl 47 _ rfl (some 32) rfl #[.int .i64 63, .int .i64 64, .int .i64 6] (by as_aux_lemma => kernel_rfl) ?_
  refine wpList_buildTo rfl 36 _ rfl (some 33) rfl #[.int .i64 65, .int .i64 65] (by as_aux_lemma => kernel_rfl) ?_
  refine wpList_buildTo rfl 47 _ rfl (some 34) rfl #[.int .i64 65, .int .i64 65, .int .i64 9] (by as_aux_lemma => kernel_rfl) ?_
  refine wpList_buildTo rfl 36 _ rfl (some 35) rfl #[.int .i64 66, .int .i64 66] (by as_aux_lemma => kernel_rfl) ?_
  refine wpList_buildTo rfl 47 _ rfl (some 36) rfl #[.int .i64 66, .int .i64 66, .int .i64 10] (by as_aux_lemma => kernel_rfl) ?_
  refine wpList_buildTo rfl 36 _ rfl (some 37) rfl #[.int .i64 208, .int .i64 208] (by as_aux_lemma => kernel_rfl) ?_
  refine wpList_buildTo rfl 47 _ rfl (some 38) rfl #[.int .i64 208, .int .i64 208, .int .i64 11] (by as_aux_lemma => kernel_rfl) ?_
  refine wpList_buildTo rfl 36 _ rfl (some 39) rfl #[.int .i64 210, .int .i64 210] (by as_aux_lemma => kernel_rfl) ?_
  refine wpList_buildTo rfl 47 _ rfl (some 40) rfl #[.int .i64 210, .int .i64 210, .int .i64 6] (by as_aux_lemma => kernel_rfl) ?_
  refine wpList_buildTo rfl 36 _ rfl (some 41) rfl #[.int .i64 213, .int .i64 214] (by as_aux_lemma => kernel_rfl) ?_
  refine wpList_buildTo rfl 47 _ rfl (some 42) rfl #[.int .i64 213, .int .i64 214, .int .i64 4] (by as_aux_lemma => kernel_rfl) ?_
  refine wpList_buildTo rfl 36 _ rfl (some 43) rfl #[.int .i64 64256, .int .i64 64257] (by as_aux_lemma => kernel_rfl) ?_
  refine wpList_buildTo rfl 47 _ rfl (some 44) rfl #[.int .i64 64256, .int .i64 64257, .int .i64 6] (by as_aux_lemma => kernel_rfl) ?_
  refine wpList_buildTo rfl 36 _ rfl (some 45) rfl #[.int .i64 64258, .int .i64 64261] (by as_aux_lemma => kernel_rfl) ?_
  refine wpList_buildTo rfl 47 _ rfl (some 46) rfl #[.int .i64 64258, .int .i64 64261, .int .i64 7] (by as_aux_lemma => kernel_rfl) ?_
  refine wpList_buildTo rfl 36 _ rfl (some 47) rfl #[.int .i64 64262, .int .i64 64263] (by as_aux_lemma => kernel_rfl) ?_
  refine wpList_buildTo rfl 47 _ rfl (some 48) rfl #[.int .i64 64262, .int .i64 64263, .int .i64 6] (by as_aux_lemma => kernel_rfl) ?_
  refine wpList_buildTo rfl 36 _ rfl (some 49) rfl #[.int .i64 64264, .int .i64 64266] (by as_aux_lemma => kernel_rfl) ?_
  refine wpList_buildTo rfl 47 _ rfl (some 50) rfl #[.int .i64 64264, .int .i64 64266, .int .i64 7] (by as_aux_lemma => kernel_rfl) ?_
  refine wpList_buildTo rfl 36 _ rfl (some 51) rfl #[.int .i64 64267, .int .i64 64270] (by as_aux_lemma => kernel_rfl) ?_
  refine wpList_buildTo rfl 47 _ rfl (some 52) rfl #[.int .i64 64267, .int .i64 64270, .int .i64 6] (by as_aux_lemma => kernel_rfl) ?_
  refine wpList_buildTo rfl 36 _ rfl (some 53) rfl #[.int .i64 64272, .int .i64 64272] (by as_aux_lemma => kernel_rfl) ?_
  refine wpList_buildTo rfl 47 _ rfl (some 54) rfl #[.int .i64 64272, .int .i64 64272, .int .i64 6] (by as_aux_lemma => kernel_rfl) ?_
  refine wpList_buildTo rfl 36 _ rfl (some 55) rfl #[.int .i64 64273, .int .i64 64275] (by as_aux_lemma => kernel_rfl) ?_
  refine wpList_buildTo rfl 47 _ rfl (some 56) rfl #[.int .i64 64273, .int .i64 64275, .int .i64 7] (by as_aux_lemma => kernel_rfl) ?_
  refine wpList_buildTo rfl 36 _ rfl (some 57) rfl #[.int .i64 64276, .int .i64 64279] (by as_aux_lemma => kernel_rfl) ?_
  refine wpList_buildTo rfl 47 _ rfl (some 58) rfl #[.int .i64 64276, .int .i64 64279, .int .i64 11] (by as_aux_lemma => kernel_rfl) ?_
  refine wpList_buildTo rfl 36 _ rfl (some 59) rfl #[.int .i64 64280, .int .i64 64281] (by as_aux_lemma => kernel_rfl) ?_
  refine wpList_buildTo rfl 47 _ rfl (some 60) rfl #[.int .i64 64280, .int .i64 64281, .int .i64 13] (by as_aux_lemma => kernel_rfl) ?_
  refine wpList_buildTo rfl 36 _ rfl (some 61) rfl #[.int .i64 64520, .int .i64 64520] (by as_aux_lemma => kernel_rfl) ?_
  refine wpList_buildTo rfl 47 _ rfl (some 62) rfl #[.int .i64 64520, .int .i64 64520, .int .i64 7] (by as_aux_lemma => kernel_rfl) ?_
  refine wpList_buildTo rfl 36 _ rfl (some 63) rfl #[.int .i64 64521, .int .i64 64521] (by as_aux_lemma => kernel_rfl) ?_
  refine wpList_buildTo rfl 47 _ rfl (some 64) rfl #[.int .i64 64521, .int .i64 64521, .int .i64 6] (by as_aux_lemma => kernel_rfl) ?_
  refine wpList_buildTo rfl 36 _ rfl (some 65) rfl #[.int .i64 64522, .int .i64 64522] (by as_aux_lemma => kernel_rfl) ?_
  refine wpList_buildTo rfl 47 _ rfl (some 66) rfl #[.int .i64 64522, .int .i64 64522, .int .i64 7] (by as_aux_lemma => kernel_rfl) ?_
  refine wpList_buildTo rfl 36 _ rfl (some 67) rfl #[.int .i64 64523, .int .i64 64523] (by as_aux_lemma => kernel_rfl) ?_
  refine wpList_buildTo rfl 47 _ rfl (some 68) rfl #[.int .i64 64523, .int .i64 64523, .int .i64 6] (by as_aux_lemma => kernel_rfl) ?_
  refine wpList_buildTo rfl 36 _ rfl (some 69) rfl #[.int .i64 64524, .int .i64 64524] (by as_aux_lemma => kernel_rfl) ?_
  refine wpList_buildTo rfl 47 _ rfl (some 70) rfl #[.int .i64 64524, .int .i64 64524, .int .i64 7] (by as_aux_lemma => kernel_rfl) ?_
  refine wpList_buildTo rfl 36 _ rfl (some 71) rfl #[.int .i64 64525, .int .i64 64525] (by as_aux_lemma => kernel_rfl) ?_
  refine wpList_buildTo rfl 47 _ rfl (some 72) rfl #[.int .i64 64525, .int .i64 64525, .int .i64 6] (by as_aux_lemma => kernel_rfl) ?_
  refine wpList_buildTo rfl 36 _ rfl (some 73) rfl #[.int .i64 64526, .int .i64 64526] (by as_aux_lemma => kernel_rfl) ?_
  refine wpList_buildTo rfl 47 _ rfl (some 74) rfl #[.int .i64 64526, .int .i64 64526, .int .i64 7] (by as_aux_lemma => kernel_rfl) ?_
  refine wpList_buildTo rfl 36 _ rfl (some 75) rfl #[.int .i64 64527, .int .i64 64529] (by as_aux_lemma => kernel_rfl) ?_
  refine wpList_buildTo rfl 47 _ rfl (some 76) rfl #[.int .i64 64527, .int .i64 64529, .int .i64 6] (by as_aux_lemma => kernel_rfl) ?_
  refine wpList_buildTo rfl 48 _ rfl (some 77) rfl Op5.moreC (by as_aux_lemma => kernel_rfl) ?_
  refine wpList_readTo rfl (some 78) rfl (.int .i64 0) rfl ?_
  apply wpList_nil
  refine hK2 _ _ ?_
  clear hK2 K2
  refine wp_frame_eq (a' := { tmps := #[.int .i64 op, undef, .int .i64 0, undef, undef, .agg #[.int .i64 2, .int .i64 4], .agg #[.int .i64 2, .int .i64 4, .int .i64 2], .agg #[.int .i64 8, .int .i64 8], .agg #[.int .i64 8, .int .i64 8, .int .i64 6], .agg #[.int .i64 12, .int .i64 13], .agg #[.int .i64 12, .int .i64 13, .int .i64 4], .agg #[.int .i64 14, .int .i64 14], .agg #[.int .i64 14, .int .i64 14, .int .i64 5], .agg #[.int .i64 16, .int .i64 16], .agg #[.int .i64 16, .int .i64 16, .int .i64 6], .agg #[.int .i64 17, .int .i64 17], .agg #[.int .i64 17, .int .i64 17, .int .i64 7], .agg #[.int .i64 18, .int .i64 18], .agg #[.int .i64 18, .int .i64 18, .int .i64 6], .agg #[.int .i64 19, .int .i64 19], .agg #[.int .i64 19, .int .i64 19, .int .i64 7], .agg #[.int .i64 20, .int .i64 21], .agg #[.int .i64 20, .int .i64 21, .int .i64 6], .agg #[.int .i64 28, .int .i64 28], .agg #[.int .i64 28, .int .i64 28, .int .i64 12], .agg #[.int .i64 31, .int .i64 31], .agg #[.int .i64 31, .int .i64 31, .int .i64 3], .agg #[.int .i64 32, .int .i64 38], .agg #[.int .i64 32, .int .i64 38, .int .i64 6], .agg #[.int .i64 40, .int .i64 62], .agg #[.int .i64 40, .int .i64 62, .int .i64 8], .agg #[.int .i64 63, .int .i64 64], .agg #[.int .i64 63, .int .i64 64, .int .i64 6], .agg #[.int .i64 65, .int .i64 65], .agg #[.int .i64 65, .int .i64 65, .int .i64 9], .agg #[.int .i64 66, .int .i64 66], .agg #[.int .i64 66, .int .i64 66, .int .i64 10], .agg #[.int .i64 208, .int .i64 208], .agg #[.int .i64 208, .int .i64 208, .int .i64 11], .agg #[.int .i64 210, .int .i64 210], .agg #[.int .i64 210, .int .i64 210, .int .i64 6], .agg #[.int .i64 213, .int .i64 214], .agg #[.int .i64 213, .int .i64 214, .int .i64 4], .agg #[.int .i64 64256, .int .i64 64257], .agg #[.int .i64 64256, .int .i64 64257, .int .i64 6], .agg #[.int .i64 64258, .int .i64 64261], .agg #[.int .i64 64258, .int .i64 64261, .int .i64 7], .agg #[.int .i64 64262, .int .i64 64263], .agg #[.int .i64 64262, .int .i64 64263, .int .i64 6], .agg #[.int .i64 64264, .int .i64 64266], .agg #[.int .i64 64264, .int .i64 64266, .int .i64 7], .agg #[.int .i64 64267, .int .i64 64270], .agg #[.int .i64 64267, .int .i64 64270, .int .i64 6], .agg #[.int .i64 64272, .int .i64 64272], .agg #[.int .i64 64272, .int .i64 64272, .int .i64 6], .agg #[.int .i64 64273, .int .i64 64275], .agg #[.int .i64 64273, .int .i64 64275, .int .i64 7], .agg #[.int .i64 64276, .int .i64 64279], .agg #[.int .i64 64276, .int .i64 64279, .int .i64 11], .agg #[.int .i64 64280, .int .i64 64281], .agg #[.int .i64 64280, .int .i64 64281, .int .i64 13], .agg #[.int .i64 64520, .int .i64 64520], .agg #[.int .i64 64520, .int .i64 64520, .int .i64 7], .agg #[.int .i64 64521, .int .i64 64521], .agg #[.int .i64 64521, .int .i64 64521, .int .i64 6], .agg #[.int .i64 64522, .int .i64 64522], .agg #[.int .i64 64522, .int .i64 64522, .int .i64 7], .agg #[.int .i64 64523, .int .i64 64523], .agg #[.int .i64 64523, .int .i64 64523, .int .i64 6], .agg #[.int .i64 64524, .int .i64 64524], .agg #[.int .i64 64524, .int .i64 64524, .int .i64 7], .agg #[.int .i64 64525, .int .i64 64525], .agg #[.int .i64 64525, .int .i64 64525, .int .i64 6], .agg #[.int .i64 64526, .int .i64 64526], .agg #[.int .i64 64526, .int .i64 64526, .int .i64 7], .agg #[.int .i64 64527, .int .i64 64529], .agg #[.int .i64 64527, .int .i64 64529, .int .i64 6], .agg Op5.moreC, .int .i64 0, undef, undef, undef, undef, undef, undef, undef, undef, undef], defers := [] }) (by as_aux_lemma => kernel_rfl) ?_
  go_wp2
  go_loopw [78] (fun i wr => ∃ k : Nat, k ≤ 36 ∧ i = .int .i64 k ∧ (∀ j, j < k → Op5.inSpan (Op5.ra Op5.moreL j) (Op5.rb Op5.moreL j) op = false) ∧ Below w.heap.size w wr) (fun i _ => 36 - (intOf i).toNat)
  case atStart => exact ⟨0, by omega, rfl, fun _ h => by omega, Below.refl _ _⟩
  case round =>
    obtain ⟨k, hk, rfl, hn, hB⟩ := hrel
    have HN := Lib.hid hn
    have HB := Lib.hid hB
    clear hn hB
    by_cases hlt : k < 36
    · obtain ⟨a, ha⟩ : ∃ a, Op5.ra Op5.moreL k = a := ⟨_, rfl⟩
      obtain ⟨b, hb⟩ : ∃ b, Op5.rb Op5.moreL k = b := ⟨_, rfl⟩
      obtain ⟨c, hc⟩ : ∃ c, Op5.rc Op5.moreL k = c := ⟨_, rfl⟩
      have hx : ∀ w, (Instr.index 48 (.agg Op5.moreC) (.int .i64 (k : Int))).run Tryd.prog w = .ok (.agg #[.int .i64 a, .int .i64 b, .int .i64 c]) w := fun w => by
        have h := more_at k hlt w
        rw [ha, hb, hc] at h
        exact h
      have HA := Lib.hid ha
      have HBb := Lib.hid hb
      have HC := Lib.hid hc
      clear ha hb hc
      have HS := Lib.hid (fun W => has_any a b op W)
      obtain ⟨r, hr⟩ : ∃ r, Op5.inSpan a b op = r := ⟨_, rfl⟩
      rw [hr] at HS
      have HR := Lib.hid hr
      clear hr
      cases r
      · go_wp2_with (go_at_call 17; ((with_reducible refine (HS.out _).mono ?_); rintro e w5 ⟨rfl, hb5⟩; have HB5 := Lib.hid hb5; have hcc : w5.cell? ⟨wr.heap.size, 2, none⟩ = some (.int .i64 c) := (hb5.cell (p := ⟨wr.heap.size, 2, none⟩) (by simp)).trans (by go_simp); clear hb5))
        go_roundw
        case rel =>
          refine ⟨k + 1, by omega, by go_num, fun j hj => ?_, HB.out.trans (below_box _ _ _ HB5.out |>.mono HB.out.size)⟩
          by_cases he : j = k
          · rw [he, HA.out, HBb.out]; exact HR.out
          · exact HN.out j (by omega)
        case measure => simp [intOf]; omega
      · go_wp2_with (go_at_call 17; ((with_reducible refine (HS.out _).mono ?_); rintro e w5 ⟨rfl, hb5⟩; have HB5 := Lib.hid hb5; have hcc : w5.cell? ⟨wr.heap.size, 2, none⟩ = some (.int .i64 c) := (hb5.cell (p := ⟨wr.heap.size, 2, none⟩) (by simp)).trans (by go_simp); clear hb5))
        rw [HQ.out]
        refine ⟨?_, HB.out.trans (below_box _ _ _ HB5.out |>.mono HB.out.size)⟩
        have h := Op5.hits_at (0 : Int) Op5.moreL op k (by show k < 36; exact hlt) (fun j hj => HN.out j hj) (by show Op5.inSpan (Op5.ra Op5.moreL k) (Op5.rb Op5.moreL k) op = true; rw [HA.out, HBb.out]; exact HR.out)
        unfold Op5.moreOf; rw [h]; show _ = Ending.returned (.int .i64 (Op5.rc Op5.moreL k)); rw [HC.out]; rfl
    · obtain rfl : k = 36 := by omega
      go_wp2
      rw [HQ.out]
      refine ⟨?_, HB.out⟩
      have h := Op5.hits_none (0 : Int) Op5.moreL op (fun j hj => HN.out j hj)
      unfold Op5.moreOf; rw [h]; rfl
end Go.Proofs.YtlflmobaegfnaabDoor

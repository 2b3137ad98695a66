/-
  Layer 5, the document's side: Name.
-/
import Derived.Test.YtlflmobaegfnaaaDoorOpU
namespace Go.Proofs.YtlflmobaegfnaaaDoor
open Go.RowKit Go.Great
set_option linter.unusedVariables false
set_option linter.unusedSimpArgs false
set_option maxRecDepth 100000

namespace Op5
theorem name_mem {op : Nat} {x : List UInt8} (h : (op, x) ∈ table) : nameOf (op : Int) = x := by
  obtain ⟨a, b, hab⟩ := List.append_of_mem h
  have hu := table_up
  rw [hab, List.pairwise_append] at hu
  unfold nameOf
  rw [hab, List.find?_append, List.find?_eq_none.2 (fun p hp => by have := hu.2.2 p hp (op, x) (by simp); simp at this ⊢; omega)]
  simp
theorem name_not {op : Int} (h : ∀ p ∈ table, (p.1 : Int) ≠ op) : nameOf op = [] := by
  unfold nameOf
  rw [List.find?_eq_none.2 (fun p hp => by simpa using h p hp)]
theorem upto2_sub : ∀ (d k : Nat) (p : Nat × List UInt8), p ∈ runAt (first k) (words (line k)) → p ∈ upto2 (k + 1 + d)
  | 0, k, p, h => List.mem_append_right _ h
  | d + 1, k, p, h => List.mem_append_left _ (upto2_sub d k p h)
theorem name_run (k j : Nat) (hk : k < 18) (hj : j < (words (line k)).length) : nameOf ((first k + j : Nat) : Int) = (words (line k))[j] := by
  refine name_mem ?_
  have h := upto2_sub (18 - (k + 1)) k ((first k + j), (words (line k))[j]) (by
    rw [← runAt_get (first k) (words (line k)) j (by rw [runAt_len]; exact hj) hj]
    exact List.getElem_mem _)
  rw [show k + 1 + (18 - (k + 1)) = 18 by omega, upto2_18] at h
  exact h
theorem upto2_mem : ∀ (n : Nat) (p : Nat × List UInt8), p ∈ upto2 n → ∃ k, k < n ∧ ∃ j, j < (words (line k)).length ∧ p.1 = first k + j
  | 0, p, h => by cases h
  | n + 1, p, h => by
    rcases List.mem_append.1 h with h | h
    · obtain ⟨k, hk, r⟩ := upto2_mem n p h
      exact ⟨k, by omega, r⟩
    · obtain ⟨j, hj, e⟩ := List.getElem_of_mem h
      rw [runAt_len] at hj
      refine ⟨n, by omega, j, hj, ?_⟩
      rw [← e, runAt_get _ _ _ (by rw [runAt_len]; exact hj) hj]
theorem name_out {op : Int} (h : ∀ k, k < 18 → ¬ ((first k : Int) ≤ op ∧ op < (first k : Int) + (words (line k)).length)) : nameOf op = [] := by
  refine name_not fun p hp e => ?_
  rw [← upto2_18] at hp
  obtain ⟨k, hk, j, hj, he⟩ := upto2_mem 18 p hp
  exact h k hk ⟨by omega, by omega⟩
end Op5
theorem own_sx {B n c : Nat} {w : World} {A : Option Addr} {l : List (List UInt8)} (h : OwnG 9 1 Sx B w (.slice A n c) l) (j : Nat) (hj : j < l.length) : ∃ b off, A = some ⟨b, off, none⟩ ∧ w.cell? ⟨b, off + j, none⟩ = some (Sv l[j]) := by
  obtain ⟨A', c', e, hs⟩ := h.seg elemS
  injection e with e1 e2 e3
  subst e1
  obtain ⟨b, off, rfl, _, hc⟩ := hs.2.2 (by omega)
  refine ⟨b, off, rfl, ?_⟩
  have := hc j hj 0 (Sv l[j]) rfl
  simpa using this
set_option maxHeartbeats 8000000 in
theorem rname_any (op : Int) (w : World) :
    Calls Tryd.prog 29 #[.int .i64 op] w fun e w' => e = .returned (Sv (Op5.nameOf op)) ∧ Below w.heap.size w w' := by
  obtain ⟨Q, hQ⟩ : ∃ Q : Ending → World → Prop, Q = (fun e w' => e = .returned (Sv (Op5.nameOf op)) ∧ Below w.heap.size w w') := ⟨_, rfl⟩
  rw [← hQ]
  have HQ := Lib.hid hQ
  clear hQ
  have HL := Lib.hid lines_any
  have HF := Lib.hid firsts_any
  go_enter Tryd.func29, Tryd.ntmps29
  go_wp2_with (first
    | (go_at_call 57; refine (HL.out _).mono ?_; rintro e w1 ⟨rfl, hb1⟩; have HB1 := Lib.hid hb1; clear hb1)
    | (go_at_call 58; refine (HF.out _).mono ?_; rintro e w2 ⟨rfl, hb2⟩; have HB2 := Lib.hid hb2; clear hb2)
    | ((with_reducible refine wpList_allocTo (o := ⟨some 3, .alloc 86, _, _, _, _⟩) rfl (some 3) rfl (.pointer (some ⟨_, 0, none⟩)) (.cells Op5.noStr 86) ?_ ?_); (as_aux_lemma => kernel_rfl))
    | ((with_reducible refine wpList_store_rowTo (o := ⟨none, .store 86 _ _, _, _, _, _⟩) rfl 86 _ _ rfl rfl _ Op5.linesC rfl rfl 86 Op5.noStr (World.alloc_heap_new _ _) ?_ ?_ ?_ ?_); (as_aux_lemma => kernel_rfl); (as_aux_lemma => kernel_rfl); (as_aux_lemma => kernel_rfl); rw [World.setRow_alloc_new])
    | ((with_reducible refine wpList_allocTo (o := ⟨some 4, .alloc 88, _, _, _, _⟩) rfl (some 4) rfl (.pointer (some ⟨_, 0, none⟩)) (.cells Op5.noInt 88) ?_ ?_); (as_aux_lemma => kernel_rfl))
    | ((with_reducible refine wpList_store_rowTo (o := ⟨none, .store 88 _ _, _, _, _, _⟩) rfl 88 _ _ rfl rfl _ Op5.firstsC rfl rfl 88 Op5.noInt (World.alloc_heap_new _ _) ?_ ?_ ?_ ?_); (as_aux_lemma => kernel_rfl); (as_aux_lemma => kernel_rfl); (as_aux_lemma => kernel_rfl); rw [World.setRow_alloc_new]))
  obtain ⟨W0, hW0⟩ : ∃ W0, W0 = w2.alloc (.cells Op5.firstsC 88) := ⟨_, rfl⟩
  rw [← hW0]
  have hz0 : W0.heap.size = w2.heap.size + 1 := by rw [hW0]; simp
  have hb12 : Below (w1.heap.size + 1) (w1.alloc (.cells Op5.linesC 86)) w2 := by
    have h := HB2.out
    rw [World.size_alloc] at h
    exact h
  have hlt12 : w1.heap.size < w2.heap.size := by have := hb12.size; rw [World.size_alloc] at this; omega
  have hbW : Below w.heap.size w W0 := by
    rw [hW0]
    exact ((HB1.out.trans (((Below.refl _ _).alloc (Nat.le_refl _) _).mono HB1.out.size)).trans (hb12.mono (by have := HB1.out.size; omega))).alloc (by have := HB1.out.size; omega) _
  have cl : ∀ k, k < 18 → W0.cell? ⟨w1.heap.size, k, none⟩ = some (Sv (Op5.line k)) := fun k hk => by
    rw [hW0]
    have e1 : (w2.alloc (.cells Op5.firstsC 88)).cell? ⟨w1.heap.size, k, none⟩ = w2.cell? ⟨w1.heap.size, k, none⟩ := ((Below.refl w2.heap.size w2).alloc (Nat.le_refl _) _).cell (p := ⟨w1.heap.size, k, none⟩) hlt12
    rw [e1, hb12.cell (p := ⟨w1.heap.size, k, none⟩) (by dsimp only; omega), World.cell?_alloc_at _ _ _ _ rfl]
    exact Op5.linesC_at k hk
  have cf : ∀ k, k < 18 → W0.cell? ⟨w2.heap.size, k, none⟩ = some (.int .i64 (Op5.first k : Int)) := fun k hk => by
    rw [hW0, World.cell?_alloc_at _ _ _ _ rfl]
    exact Op5.firstsC_at k hk
  have CL := Lib.hid cl
  have CF := Lib.hid cf
  have HBW := Lib.hid hbW
  have HZ0 := Lib.hid hz0
  have HLT := Lib.hid hlt12
  clear hW0 hb12 hbW cl cf hz0 hlt12 HB1 HB2 HL HF
  go_loopw [5] (fun i wr => ∃ k : Nat, k ≤ 18 ∧ i = .int .i64 k ∧ (∀ j, j < k → ¬ ((Op5.first j : Int) ≤ op ∧ op < (Op5.first j : Int) + (Op5.words (Op5.line j)).length)) ∧ Below W0.heap.size W0 wr) (fun i _ => 18 - (intOf i).toNat)
  case atStart => exact ⟨0, by omega, rfl, fun _ h => by omega, Below.refl _ _⟩
  case round =>
    obtain ⟨k, hk, rfl, hn, hB⟩ := hrel
    have HN := Lib.hid hn
    have HB := Lib.hid hB
    clear hn hB
    by_cases hlt : k < 18
    · obtain ⟨l1, l2, l3⟩ := Op5.line_short2 k hlt
      have g1 : wr.cell? ⟨w1.heap.size, k, none⟩ = some (Sv (Op5.line k)) := (HB.out.cell (p := ⟨w1.heap.size, k, none⟩) (by have := HZ0.out; have := HLT.out; dsimp only; omega)).trans (CL.out k hlt)
      have g2 : wr.cell? ⟨w2.heap.size, k, none⟩ = some (.int .i64 (Op5.first k : Int)) := (HB.out.cell (p := ⟨w2.heap.size, k, none⟩) (by have := HZ0.out; dsimp only; omega)).trans (CF.out k hlt)
      have HWd := Lib.hid (words_any ⟨(Op5.line k).toArray⟩ wr (by show (Op5.line k).toArray.size ≤ _; simp; omega))
      obtain ⟨ws, hws⟩ : ∃ ws, Op5.words (Op5.line k) = ws := ⟨_, rfl⟩
      have hws2 : Op5.words (ByteArray.data ⟨(Op5.line k).toArray⟩).toList = ws := hws
      rw [hws2] at HWd
      rw [hws] at l2
      obtain ⟨f, hf⟩ : ∃ f, Op5.first k = f := ⟨_, rfl⟩
      rw [hf] at g2 l3
      have hstep : Hid (¬ ((f : Int) ≤ op ∧ op < (f : Int) + ws.length) → ∀ j, j < k + 1 → ¬ ((Op5.first j : Int) ≤ op ∧ op < (Op5.first j : Int) + (Op5.words (Op5.line j)).length)) := Lib.hid fun h j hj => by
        by_cases he : j = k
        · rw [he, hf, hws]; exact h
        · exact HN.out j (by omega)
      have hnm : Hid (∀ j (h : j < ws.length), Op5.nameOf ((f + j : Nat) : Int) = ws[j]) := Lib.hid fun j h => by
        have h2 := Op5.name_run k j hlt (by rw [hws]; exact h)
        rw [hf] at h2
        rw [h2]
        congr 1
      clear hws hws2 hf
      by_cases h1 : op < (f : Int)
      · go_wp2
        go_roundw
        case rel => exact ⟨k + 1, by omega, by go_num, hstep.out (by omega), HB.out⟩
        case measure => simp [intOf]; omega
      · by_cases h2 : (f : Int) + 40 < op
        · have h1' : decide (op < (f : Int)) = false := by simpa using h1
          go_wp2
          go_roundw
          case rel => exact ⟨k + 1, by omega, by go_num, hstep.out (by omega), HB.out⟩
          case measure => simp [intOf]; omega
        · obtain ⟨j, hj⟩ : ∃ j : Nat, op = (f : Int) + j := ⟨(op - f).toNat, by omega⟩
          subst hj
          have hj40 : j ≤ 40 := by omega
          have h1' : decide ((f : Int) + j < (f : Int)) = false := by simp; omega
          have h2' : decide ((f : Int) + 40 < (f : Int) + j) = false := by simp; omega
          clear h1 h2
          by_cases h3 : j < ws.length
          · obtain ⟨x, hx⟩ : ∃ x, ws[j] = x := ⟨_, rfl⟩
            have HX := Lib.hid hx
            have hN := Lib.hid (hnm.out j h3)
            clear hx
            have h3' : decide (j < ws.length) = true := by simpa using h3
            have h3'' : decide ((j : Int) < (ws.length : Int)) = true := by simp; omega
            go_wp2_with (go_at_call 59; refine HWd.out.mono ?_; rintro e w3 ⟨⟨A3, c3, rfl, hw3⟩, hb3⟩; have g3 := (hb3.cell (p := ⟨w2.heap.size, k, none⟩) (World.block_lt_of_cell? wr ⟨w2.heap.size, k, none⟩ g2)).trans g2; obtain ⟨b, off, rfl, hcw⟩ := own_sx hw3 j h3; rw [HX.out] at hcw; have HB3 := Lib.hid hb3; clear hw3 hb3)
            rw [HQ.out]
            refine ⟨?_, HBW.out.trans ((HB.out.trans (HB3.out.mono HB.out.size)).mono HBW.out.size)⟩
            have h := hN.out
            rw [HX.out] at h
            rw [show (f : Int) + j = ((f + j : Nat) : Int) by omega, h]
            rfl
          · have h3' : decide (j < ws.length) = false := by simpa using h3
            have h3'' : decide ((j : Int) < (ws.length : Int)) = false := by simp; omega
            have HS := Lib.hid (hstep.out (by omega))
            go_wp2_with (go_at_call 59; refine HWd.out.mono ?_; rintro e w3 ⟨⟨A3, c3, rfl, hw3⟩, hb3⟩; have g3 := (hb3.cell (p := ⟨w2.heap.size, k, none⟩) (World.block_lt_of_cell? wr ⟨w2.heap.size, k, none⟩ g2)).trans g2; have HB3 := Lib.hid hb3; clear hw3 hb3)
            go_roundw
            case rel => exact ⟨k + 1, by omega, by go_num, HS.out, HB.out.trans (HB3.out.mono HB.out.size)⟩
            case measure => simp [intOf]; omega
    · obtain rfl : k = 18 := by omega
      go_wp2
      rw [HQ.out]
      refine ⟨?_, HBW.out.trans (HB.out.mono HBW.out.size)⟩
      rw [Op5.name_out HN.out]
      rfl
end Go.Proofs.YtlflmobaegfnaaaDoor

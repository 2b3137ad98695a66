/-
  Layer 5, the document's side: Ops, Find, Name.
-/
import Derived.Test.YtlflmobaegfnaaaDoorOpR
import Derived.Test.YtlflmobaegfnaaaDoorKdL
namespace Go.Proofs.YtlflmobaegfnaaaDoor
open Go.RowKit Go.Great
set_option linter.unusedVariables false
set_option linter.unusedSimpArgs false
set_option maxRecDepth 100000

namespace Op5
theorem runAt_len : ∀ (f : Nat) (l : List (List UInt8)), (runAt f l).length = l.length
  | _, [] => rfl
  | f, x :: l => by simp [runAt, runAt_len (f + 1) l]
theorem runAt_get : ∀ (f : Nat) (l : List (List UInt8)) (j : Nat) (h : j < (runAt f l).length) (h' : j < l.length), (runAt f l)[j] = (f + j, l[j])
  | f, [], j, h, _ => by simp [runAt] at h
  | f, x :: l, 0, _, _ => rfl
  | f, x :: l, j + 1, h, h' => by
    have ih := runAt_get (f + 1) l j (by simpa [runAt] using h) (by simpa using h')
    simp only [runAt, List.getElem_cons_succ]
    rw [ih]
    simp only [Prod.mk.injEq, and_true]
    omega
theorem step_run (f : Nat) (l : List (List UInt8)) (j : Nat) (h : j < l.length) : (runAt f l).take (j + 1) = (runAt f l).take j ++ [(f + j, l[j])] := by
  rw [List.take_succ_eq_append_getElem (by rw [runAt_len]; exact h), runAt_get f l j (by rw [runAt_len]; exact h) h]
end Op5
theorem OwnG.wide {α : Type} {e sz B B' : Nat} {cs : α → List Value} {w : World} {v : Value} {l : List α} (h : OwnG e sz cs B w v l) (hB : B' ≤ B) : OwnG e sz cs B' w v l := h.base hB
set_option maxHeartbeats 8000000 in
theorem ops_any (w : World) :
    Calls Tryd.prog 38 #[] w fun e w' => (∃ A c A2 c2, e = .returned (.tuple #[.slice A 167 c, .slice A2 167 c2]) ∧ OwnG 56 1 Ox w.heap.size w' (.slice A 167 c) (Op5.codes Op5.table) ∧ OwnG 9 1 Sx w.heap.size w' (.slice A2 167 c2) (Op5.table.map (·.2))) ∧ Below w.heap.size w w' := by
  obtain ⟨Q, hQ⟩ : ∃ Q : Ending → World → Prop, Q = (fun e w' => (∃ A c A2 c2, e = .returned (.tuple #[.slice A 167 c, .slice A2 167 c2]) ∧ OwnG 56 1 Ox w.heap.size w' (.slice A 167 c) (Op5.codes Op5.table) ∧ OwnG 9 1 Sx w.heap.size w' (.slice A2 167 c2) (Op5.table.map (·.2))) ∧ Below w.heap.size w w') := ⟨_, rfl⟩
  rw [← hQ]
  have HQ := Lib.hid hQ
  clear hQ
  have HL := Lib.hid lines_any
  have HF := Lib.hid firsts_any
  go_enter Tryd.func38, Tryd.ntmps38
  go_wp2_with (first
    | (go_at_call 57; refine (HL.out _).mono ?_; rintro e w1 ⟨rfl, hb1⟩; have HB1 := Lib.hid hb1; clear hb1)
    | (go_at_call 58; refine (HF.out _).mono ?_; rintro e w2 ⟨rfl, hb2⟩; have HB2 := Lib.hid hb2; clear hb2)
    | ((with_reducible refine wpList_allocTo (o := ⟨some 4, .alloc 86, _, _, _, _⟩) rfl (some 4) rfl (.pointer (some ⟨_, 0, none⟩)) (.cells Op5.noStr 86) ?_ ?_); (as_aux_lemma => kernel_rfl))
    | ((with_reducible refine wpList_store_rowTo (o := ⟨none, .store 86 _ _, _, _, _, _⟩) rfl 86 _ _ rfl rfl _ Op5.linesC rfl rfl 86 Op5.noStr (World.alloc_heap_new _ _) ?_ ?_ ?_ ?_); (as_aux_lemma => kernel_rfl); (as_aux_lemma => kernel_rfl); (as_aux_lemma => kernel_rfl); rw [World.setRow_alloc_new])
    | ((with_reducible refine wpList_allocTo (o := ⟨some 5, .alloc 88, _, _, _, _⟩) rfl (some 5) rfl (.pointer (some ⟨_, 0, none⟩)) (.cells Op5.noInt 88) ?_ ?_); (as_aux_lemma => kernel_rfl))
    | ((with_reducible refine wpList_store_rowTo (o := ⟨none, .store 88 _ _, _, _, _, _⟩) rfl 88 _ _ rfl rfl _ Op5.firstsC rfl rfl 88 Op5.noInt (World.alloc_heap_new _ _) ?_ ?_ ?_ ?_); (as_aux_lemma => kernel_rfl); (as_aux_lemma => kernel_rfl); (as_aux_lemma => kernel_rfl); rw [World.setRow_alloc_new]))
  obtain ⟨W0, hW0⟩ : ∃ W0, W0 = w2.alloc (.cells Op5.firstsC 88) := ⟨_, rfl⟩
  rw [← hW0]
  have hz0 : W0.heap.size = w2.heap.size + 1 := by rw [hW0]; simp
  have hb12 : Below (w1.heap.size + 1) (w1.alloc (.cells Op5.linesC 86)) w2 := by
    have h := HB2.out
    rw [World.size_alloc] at h
    exact h
  have hlt12 : w1.heap.size < w2.heap.size := by have := hb12.size; rw [World.size_alloc] at this; omega
  have hbW : Below w.heap.size w W0 := by
    rw [hW0]
    exact ((HB1.out.trans (((Below.refl _ _).alloc (Nat.le_refl _) _).mono HB1.out.size)).trans (hb12.mono (by have := HB1.out.size; omega))).alloc (by have := HB1.out.size; omega) _
  have cl : ∀ k, k < 18 → W0.cell? ⟨w1.heap.size, k, none⟩ = some (Sv (Op5.line k)) := fun k hk => by
    rw [hW0]
    have e1 : (w2.alloc (.cells Op5.firstsC 88)).cell? ⟨w1.heap.size, k, none⟩ = w2.cell? ⟨w1.heap.size, k, none⟩ := ((Below.refl w2.heap.size w2).alloc (Nat.le_refl _) _).cell (p := ⟨w1.heap.size, k, none⟩) hlt12
    rw [e1, hb12.cell (p := ⟨w1.heap.size, k, none⟩) (by dsimp only; omega), World.cell?_alloc_at _ _ _ _ rfl]
    exact Op5.linesC_at k hk
  have cf : ∀ k, k < 18 → W0.cell? ⟨w2.heap.size, k, none⟩ = some (.int .i64 (Op5.first k : Int)) := fun k hk => by
    rw [hW0, World.cell?_alloc_at _ _ _ _ rfl]
    exact Op5.firstsC_at k hk
  have CL := Lib.hid cl
  have CF := Lib.hid cf
  have HBW := Lib.hid hbW
  have HZ0 := Lib.hid hz0
  have HLT := Lib.hid hlt12
  clear hW0 hb12 hbW cl cf hz0 hlt12 HB1 HB2 HL HF
  go_loopw [2, 3, 6] (fun o p i wr => ∃ (k m : Nat) (A : Option Addr) (c : Nat) (A2 : Option Addr) (c2 : Nat), k ≤ 18 ∧ i = .int .i64 k ∧ o = .slice A m c ∧ p = .slice A2 m c2 ∧ m = (Op5.upto2 k).length ∧ OwnG 56 1 Ox W0.heap.size wr (.slice A m c) ((Op5.upto2 k).map (·.1)) ∧ OwnG 9 1 Sx W0.heap.size wr (.slice A2 m c2) ((Op5.upto2 k).map (·.2)) ∧
    Ap (.slice A m c) (.slice A2 m c2) ∧ Below W0.heap.size W0 wr) (fun _ _ i _ => 18 - (intOf i).toNat)
  case atStart => exact ⟨0, 0, none, 0, none, 0, by omega, rfl, rfl, rfl, rfl, OwnG.nil _ _, OwnG.nil _ _, Ap.none_l _, Below.refl _ _⟩
  case round =>
    obtain ⟨k, m, A, c, A2, c2, hk, rfl, rfl, rfl, hm, hO, hP, hA, hB⟩ := hrel
    have HO := Lib.hid hO
    have HP := Lib.hid hP
    have HA := Lib.hid hA
    have HB := Lib.hid hB
    have HM := Lib.hid hm
    clear hO hP hA hB hm
    by_cases hlt : k < 18
    · obtain ⟨l1, l2, l3⟩ := Op5.line_short2 k hlt
      have g1 : wr.cell? ⟨w1.heap.size, k, none⟩ = some (Sv (Op5.line k)) := (HB.out.cell (p := ⟨w1.heap.size, k, none⟩) (by have := HZ0.out; have := HLT.out; dsimp only; omega)).trans (CL.out k hlt)
      have HWd := Lib.hid (words_any ⟨(Op5.line k).toArray⟩ wr (by show (Op5.line k).toArray.size ≤ _; simp; omega))
      obtain ⟨ws, hws⟩ : ∃ ws, Op5.words (Op5.line k) = ws := ⟨_, rfl⟩
      have hws2 : Op5.words (ByteArray.data ⟨(Op5.line k).toArray⟩).toList = ws := hws
      rw [hws2] at HWd
      have HWS := Lib.hid hws
      rw [hws] at l2
      have hul := Op5.upto2_len k hk
      have HUL := Lib.hid hul
      have htk : decide ((k : Int) < 18) = true := by simp; omega
      obtain ⟨wo, rfl⟩ : ∃ wo : World, wo = wr := ⟨_, rfl⟩
      clear hws hws2 hul
      go_wp2_with (go_at_call 59; refine HWd.out.mono ?_; rintro e w3 ⟨⟨A3, c3, rfl, hw3⟩, hb3⟩; have HW3 := Lib.hid hw3; have HB3 := Lib.hid hb3; clear hw3 hb3)
      obtain ⟨f, hf⟩ : ∃ f, Op5.first k = f := ⟨_, rfl⟩
      rw [hf] at l3
      have HF := Lib.hid hf
      have hB3' : Hid (Below W0.heap.size W0 w3) := Lib.hid (HB.out.trans (HB3.out.mono HB.out.size))
      obtain ⟨n, hn⟩ : ∃ n, ws.length = n := ⟨_, rfl⟩
      have hOw := (HW3.out.seg elemS)
      rw [hn] at hOw l2
      obtain ⟨A4, c4, e4, hsg⟩ := hOw
      injection e4 with e5 e6 e7
      subst e5 e7
      have hrow3 : ∀ b off, A3 = some ⟨b, off, none⟩ → wo.heap.size ≤ b := fun b off e => (HW3.out.lt b (by subst e; rfl)).1
      have HSG := Lib.hid hsg
      have HR3 := Lib.hid hrow3
      have HNn := Lib.hid hn
      rw [hn]
      clear hf hn hsg hrow3 e6 htk
      go_loopw [2, 3, 8] (fun o p i wr => ∃ (j m2 : Nat) (A : Option Addr) (c : Nat) (A2 : Option Addr) (c2 : Nat), j ≤ n ∧ i = .int .i64 j ∧ o = .slice A m2 c ∧ p = .slice A2 m2 c2 ∧ m2 = (Op5.upto2 k ++ (Op5.runAt f ws).take j).length ∧ OwnG 56 1 Ox W0.heap.size wr (.slice A m2 c) ((Op5.upto2 k ++ (Op5.runAt f ws).take j).map (·.1)) ∧ OwnG 9 1 Sx W0.heap.size wr (.slice A2 m2 c2) ((Op5.upto2 k ++ (Op5.runAt f ws).take j).map (·.2)) ∧
        Ap (.slice A m2 c) (.slice A2 m2 c2) ∧ Below W0.heap.size W0 wr ∧ Seg 1 Sx wr wr.heap.size A3 c3 ws ∧ (∀ g b off, (Value.slice A m2 c).ownBlock = some g → A3 = some ⟨b, off, none⟩ → g ≠ b) ∧ (∀ g b off, (Value.slice A2 m2 c2).ownBlock = some g → A3 = some ⟨b, off, none⟩ → g ≠ b)) (fun _ _ i _ => n - (intOf i).toNat)
      case atStart =>
        refine ⟨0, m, A, c, A2, c2, by omega, rfl, rfl, rfl, by simpa using HM.out, by simpa using HO.out.below HB3.out, by simpa using HP.out.below HB3.out, HA.out, hB3'.out, HSG.out, fun g b off h1 h2 => ?_, fun g b off h1 h2 => ?_⟩
        · have h3 := (HO.out.lt g h1).2; have h4 := HR3.out b off h2; omega
        · have h3 := (HP.out.lt g h1).2; have h4 := HR3.out b off h2; omega
      case round =>
        obtain ⟨j, m2, A, c, A2, c2, hj, rfl, rfl, rfl, hm2, hO2, hP2, hA2, hB2, hS2, hr1, hr2⟩ := hrel
        have HO2 := Lib.hid hO2
        have HP2 := Lib.hid hP2
        have HA2 := Lib.hid hA2
        have HB2 := Lib.hid hB2
        have HS2 := Lib.hid hS2
        have HR1 := Lib.hid hr1
        have HR2 := Lib.hid hr2
        have HM2 := Lib.hid hm2
        clear hO2 hP2 hA2 hB2 hS2 hr1 hr2 hm2
        by_cases hlt2 : j < n
        · have hlw : j < ws.length := by rw [HNn.out]; exact hlt2
          have hm3 : Hid (m2 ≤ 400) := Lib.hid (by have h1 := HM2.out; have h2 := HUL.out; rw [List.length_append, List.length_take] at h1; omega)
          have hl2 : Hid (m2 + 1 < 1000000) := Lib.hid (by have := hm3.out; omega)
          have hl3 : Hid (((Op5.upto2 k ++ (Op5.runAt f ws).take j).map (·.1)).length + 1 = m2 + 1) := Lib.hid (by rw [List.length_map, HM2.out])
          have hl4 : Hid (((Op5.upto2 k ++ (Op5.runAt f ws).take j).map (·.2)).length + 1 = m2 + 1) := Lib.hid (by rw [List.length_map, HM2.out])
          have hst : Hid (Op5.upto2 k ++ (Op5.runAt f ws).take (j + 1) = Op5.upto2 k ++ (Op5.runAt f ws).take j ++ [(f + j, ws[j])]) := Lib.hid (by rw [Op5.step_run f ws j hlw, List.append_assoc])
          have hBz : Hid (W0.heap.size ≤ wr.heap.size) := Lib.hid HB2.out.size
          obtain ⟨b, off, rfl, hb, hc⟩ := HS2.out.2.2 (by omega)
          obtain ⟨x, hx⟩ : ∃ x, x = ws[j] := ⟨_, rfl⟩
          have HX := Lib.hid hx
          have gx := hc j hlw 0 (Sv x) (by rw [← hx]; rfl)
          simp only [Nat.mul_one, Nat.add_zero] at gx
          have gf : wr.cell? ⟨w2.heap.size, k, none⟩ = some (.int .i64 (f : Int)) := (HB2.out.cell (p := ⟨w2.heap.size, k, none⟩) (by have := HZ0.out; dsimp only; omega)).trans (by rw [CF.out k hlt, HF.out])
          have GX := Lib.hid gx
          have HBb := Lib.hid hb
          clear hx hc gx
          go_wp2_with (first
            | (at_builtin; refine push_at elemO rfl _ _ rfl wr _ rfl (f + j) _ _ rfl rfl HO2.out hBz.out (m2 + 1) hl2.out hl3.out rfl ?_; intro A8 c8 w4 hown8 hg8 hr8; have HO8 := Lib.hid hown8; have HG8 := Lib.hid hg8; have HR8 := Lib.hid hr8; have gy := (hg8.cell_far ⟨b, off + j, none⟩ HBb.out (fun e => HR1.out _ b off e.symm rfl rfl)).trans GX.out; have HP8 := Lib.hid (HP2.out.kept hg8 (fun g hg => HA2.out.symm g hg)); clear hown8 hg8 hr8)
            | (at_builtin; refine push_at elemS rfl _ _ rfl w4 _ rfl x _ _ rfl rfl HP8.out (Nat.le_trans hBz.out HG8.out.size) (m2 + 1) hl2.out hl4.out rfl ?_; intro A9 c9 w5 hown9 hg9 hr9))
          go_roundw
          case rel =>
            have a8 : Ap (.slice A8 (m2 + 1) c8) (.slice A2 m2 c2) := HA2.out.rowed HR8.out (fun g hg => (HP2.out.lt g hg).2)
            have b4 := HO2.out.grown HG8.out (Nat.le_refl _) hBz.out HB2.out
            refine ⟨j + 1, m2 + 1, A8, c8, A9, c9, by omega, by go_num, rfl, rfl, ?_, ?_, ?_, ?_, HP8.out.grown hg9 (Nat.le_refl _) (Nat.le_trans hBz.out HG8.out.size) b4, ?_, ?_, ?_⟩
            · rw [hst.out, List.length_append, ← HM2.out]; rfl
            · rw [hst.out, List.map_append]
              exact HO8.out.kept hg9 (fun g hg => a8 g hg)
            · rw [hst.out, List.map_append, ← HX.out]
              exact hown9
            · exact (a8.symm.rowed hr9 (fun g hg => (HO8.out.lt g hg).2)).symm
            · have s1 := (HS2.out.kept HG8.out hb (fun e => HR1.out b b off e rfl rfl)).more HG8.out.size
              exact (s1.kept hg9 (Nat.lt_of_lt_of_le hb HG8.out.size) (fun e => HR2.out b b off e rfl rfl)).more hg9.size
            · intro g b' off' hg e
              injection e with e
              injection e with e1 e2
              subst e1
              rcases HR8.out g hg with h | h
              · exact HR1.out g b off h rfl
              · omega
            · intro g b' off' hg e
              injection e with e
              injection e with e1 e2
              subst e1
              rcases hr9 g hg with h | h
              · exact HR2.out g b off h rfl
              · have := HG8.out.size; omega
          case measure => simp [intOf]; omega
        · obtain rfl : j = n := by omega
          clear hlt2
          have hall : Hid (Op5.upto2 k ++ (Op5.runAt f ws).take j = Op5.upto2 (k + 1)) := Lib.hid (by
            rw [List.take_of_length_le (by rw [Op5.runAt_len, HNn.out]; exact Nat.le_refl _)]
            show _ = Op5.upto2 k ++ Op5.runAt (Op5.first k) (Op5.words (Op5.line k))
            rw [HF.out, HWS.out])
          go_wp2
          go_roundw
          case rel =>
            refine ⟨k + 1, m2, A, c, A2, c2, by omega, by go_num, rfl, rfl, ?_, ?_, ?_, HA2.out, HB2.out⟩
            · rw [← hall.out]; exact HM2.out
            · rw [← hall.out]; exact HO2.out
            · rw [← hall.out]; exact HP2.out
          case measure => simp [intOf]; omega
    · obtain rfl : k = 18 := by omega
      have h167 : (Op5.upto2 18).length = 167 := by rw [Op5.upto2_18]; exact Op5.table_len
      obtain rfl : m = 167 := HM.out.trans h167
      clear h167
      go_wp2
      rw [HQ.out]
      refine ⟨⟨A, c, A2, c2, rfl, ?_, ?_⟩, HBW.out.trans (HB.out.mono HBW.out.size)⟩
      · have h := HO.out.base HBW.out.size
        rw [Op5.upto2_18] at h
        exact h
      · have h := HP.out.base HBW.out.size
        rw [Op5.upto2_18] at h
        exact h
end Go.Proofs.YtlflmobaegfnaaaDoor

/-
  Texts of this claim, one behind the other: part 4.
-/
import Derived.Deep.RegionHeld3
import Derived.Test.YtkdhjejchdcipaaDoorMgTbinCut3
/-
  Layer 6, code: item, at struct types.
-/
namespace Go.Proofs.YtkdhjejchdcipaaDoor
open Go.RowKit
set_option linter.unusedVariables false
set_option linter.unusedSimpArgs false
set_option maxRecDepth 100000

theorem below_setRow {B g : Nat} {w W : World} (h : Below B w W) (hg : B ≤ g) (cs : Array Value) : Below B w (W.setRow g cs) :=
  ⟨h.os, h.tape, h.output, by rw [size_setRow]; exact h.size, fun k hk => (setRow_other W g k cs (by omega)).trans (h.block k hk)⟩
theorem RdAt.later {w y z : World} {b n c : Nat} {A : Option Addr} {r r' : Rd} (h : RdAt w b A n c r) (hk : Keep (Db b) w y) (hs : Below w.heap.size y z) (hr : y.heap[b]? = some (.cells (rdCells A n c r') 102 (0, 0))) (hb : r'.bs = r.bs) (hp : r'.p ≤ n) : RdAt z b A n c r' := by
  refine ⟨(hs.block b h.lt).trans hr, ?_, hp⟩
  rw [hb]
  obtain ⟨q1, q2, q3, q4, q5⟩ := h.2.1
  refine ⟨q1, q2, q3, q4, fun hn => ?_⟩
  obtain ⟨b', off, e, hb', hc⟩ := q5 hn
  refine ⟨b', off, e, by have := hk.size; have := hs.size; omega, fun j hj => ?_⟩
  rw [hs.cell (p := ⟨b', off + j, none⟩) (by dsimp only; omega)]
  exact hk.cells b' _ _ (fun e => by rw [e] at hc; exact h.noByte _ _ (hc j hj)) (hc j hj)
theorem S_step {b : Nat} {v0 v2 : Value} {W0 w1 w2 : World} (hb : b < W0.heap.size) (h : w1.cell? ⟨b, 0, none⟩ = some v0 ∧ w1.cell? ⟨b, 2, none⟩ = some v2 ∧ Below W0.heap.size W0 w1) (h2 : Below W0.heap.size w1 w2) :
    w2.cell? ⟨b, 0, none⟩ = some v0 ∧ w2.cell? ⟨b, 2, none⟩ = some v2 ∧ Below W0.heap.size W0 w2 :=
  ⟨(h2.cell (p := ⟨b, 0, none⟩) hb).trans h.1, (h2.cell (p := ⟨b, 2, none⟩) hb).trans h.2.1, h.2.2.trans h2⟩
theorem step_store_row {P : Program} {ops : Array Oper} {o : Oper} {a : Act} {w : World} {K : Act → World → Prop} {Q : Exit → Act → World → Prop} {E : Prop} (hgd : o.guard = none) (ty : TypeId) (x y : Operand) (ho : o.op = .store ty x y)
    (g : Nat) (cells : Array Value) (hx : a.eval x = .pointer (some ⟨g, 0, none⟩)) (hy : a.eval y = .agg cells) (t : TypeId) (old : Array Value) (hg : w.heap[g]? = some (.cells old t (0, 0))) (hi : (P.info? ty).map (·.size) = some cells.size)
    (hold : old.size = cells.size) (h1 : cells.all (·.oneCell') = true) (h : K (a.put o.dst undef) (w.setRow g cells)) :
    if Region.wanted o (yielded ops a.tmps) = true then Oper.wp P o a w K Q else E := by
  have hw : Region.wanted o (yielded ops a.tmps) = true := by simp [Region.wanted, hgd]
  rw [if_pos hw]
  exact wp_store_row ty x y ho g cells hx hy t old hg hi hold h1 h
set_option maxHeartbeats 8000000 in
theorem item_Heap {w : World} {b n c : Nat} {A : Option Addr} {r : Rd} (h : RdAt w b A n c r) (fid : Nat) (lb : Array Value) (he : ∀ args w, (callFunc fid args).run Tryd.prog w = .ok (.enter fid args) w) (x0 x1 : Int) (nx er : Nat) (hnx : er = 0 → nx ≤ n)
    (hf : ∀ W, Below w.heap.size w W → Calls Tryd.prog fid (#[.slice A n c, .int .i64 (r.p : Int)] ++ lb) W fun e W' => e = .returned (.tuple #[.agg #[.int .i64 x0, .int .i64 x1], .int .i64 (nx : Int), .int .i64 (er : Int)]) ∧ Below W.heap.size W W') :
    Calls Tryd.prog 82 #[.pointer (some ⟨b, 0, none⟩), .func (.func fid) #[] lb] w fun e w' => e = .returned (.agg (if r.e = 0 ∧ er = 0 then #[.int .i64 x0, .int .i64 x1] else #[.int .i64 0, .int .i64 0])) ∧ RdAt w' b A n c (Tb.step nx er r) ∧ Keep (Db b) w w' := by
  obtain ⟨Q, hQ⟩ : ∃ Q : Ending → World → Prop, Q = (fun e w' => e = .returned (.agg (if r.e = 0 ∧ er = 0 then #[.int .i64 x0, .int .i64 x1] else #[.int .i64 0, .int .i64 0])) ∧ RdAt w' b A n c (Tb.step nx er r) ∧ Keep (Db b) w w') := ⟨_, rfl⟩
  rw [← hQ]
  obtain ⟨W0, hW0⟩ : ∃ W0, W0 = (w.alloc (.cells #[.int .i64 0, .int .i64 0] 39)).alloc (.cells #[.int .i64 0, .int .i64 0] 39) := ⟨_, rfl⟩
  have hz : W0.heap.size = w.heap.size + 2 := by rw [hW0]; simp
  have hB0 : Below w.heap.size w W0 := by rw [hW0]; exact ((Below.refl _ _).alloc (Nat.le_refl _) _).alloc (by simp) _
  have r0 : W0.heap[w.heap.size]? = some (.cells #[.int .i64 0, .int .i64 0] 39 (0, 0)) := by rw [hW0]; exact heap_alloc2_old _ _ _
  have r1 : W0.heap[w.heap.size + 1]? = some (.cells #[.int .i64 0, .int .i64 0] 39 (0, 0)) := by rw [hW0]; exact heap_alloc2_new _ _ _
  have h2 := h.below (Nat.le_refl _) hB0
  have hlt := h.lt
  by_cases h0 : r.e = 0
  · have HG := Lib.hid (goes_any h2 true (by simp [h0]))
    have HF : Hid (∀ W, Below W0.heap.size W0 W → Calls Tryd.prog fid (#[.slice A n c, .int .i64 (r.p : Int)] ++ lb) W fun e W' => e = .returned (.tuple #[.agg #[.int .i64 x0, .int .i64 x1], .int .i64 (nx : Int), .int .i64 (er : Int)]) ∧ Below W.heap.size W W') := Lib.hid fun W hW => hf W (hB0.trans (hW.mono hB0.size))
    have d0 := h2.cells.1
    have d2 := h2.cells.2.2.1
    have hb0 : b < W0.heap.size := by omega
    have RW0 : Hid (W0.heap.size = w.heap.size + 2) := Lib.hid hz
    have Hlt := Lib.hid hlt
    have H2 := Lib.hid h2
    have HB0 := Lib.hid hB0
    have HW0 := Lib.hid hW0
    have R0 := Lib.hid r0
    have R1 := Lib.hid r1
    -- behind the region: a world x in which all lies, and the variable's block g
    have FIN : Hid (∀ (x : World) (g : Nat), Below W0.heap.size W0 x → x.heap[g]? = some (.cells #[.int .i64 x0, .int .i64 x1] 39 (0, 0)) → W0.heap.size ≤ g → er = 0 →
        (x.setCell ⟨b, 2, none⟩ (.int .i64 (nx : Int))).heap[g]? = some (.cells #[.int .i64 x0, .int .i64 x1] 39 (0, 0)) ∧
        (x.setCell ⟨b, 2, none⟩ (.int .i64 (nx : Int))).heap[w.heap.size]? = some (.cells #[.int .i64 0, .int .i64 0] 39 (0, 0)) ∧ ((x.setCell ⟨b, 2, none⟩ (.int .i64 (nx : Int))).setRow w.heap.size #[.int .i64 x0, .int .i64 x1]).heap[w.heap.size]? = some (.cells #[.int .i64 x0, .int .i64 x1] 39 (0, 0)) ∧
        Q (.returned (.agg #[.int .i64 x0, .int .i64 x1])) ((x.setCell ⟨b, 2, none⟩ (.int .i64 (nx : Int))).setRow w.heap.size #[.int .i64 x0, .int .i64 x1])) := Lib.hid fun x g hx hg hgz he0 => by
      have hR := (h2.below (Nat.le_refl _) hx).goto nx (hnx he0) _ rfl
      have e0 : (x.setCell ⟨b, 2, none⟩ (.int .i64 (nx : Int))).heap[w.heap.size]? = some (.cells #[.int .i64 0, .int .i64 0] 39 (0, 0)) := by
        rw [heap_setCell_other _ _ _ _ (by dsimp only; omega), hx.block _ (by omega)]; exact r0
      have hk : Keep (Db b) w (x.setCell ⟨b, 2, none⟩ (.int .i64 (nx : Int))) := (Keep.of_below (hB0.trans (hx.mono hB0.size))).trans hR.2
      have hs : Below w.heap.size (x.setCell ⟨b, 2, none⟩ (.int .i64 (nx : Int))) ((x.setCell ⟨b, 2, none⟩ (.int .i64 (nx : Int))).setRow w.heap.size #[.int .i64 x0, .int .i64 x1]) := below_setRow (Below.refl _ _) (Nat.le_refl _) _
      refine ⟨by rw [heap_setCell_other _ _ _ _ (by dsimp only; omega)]; exact hg, e0, setRow_heap _ _ _ _ _ _ e0, ?_⟩
      rw [hQ]
      refine ⟨by rw [if_pos ⟨h0, he0⟩], ?_, hk.lies (Nat.le_refl _) hs⟩
      unfold Tb.step
      rw [if_pos h0, if_pos he0]
      exact h.later hk hs hR.1.1 rfl hR.1.2.2
    have FIN2 : Hid (∀ (x y : World), Below W0.heap.size W0 x → RdAt y b A n c (Tb.fail er r.p r) → Keep (Db b) x y → er ≠ 0 →
        y.heap[w.heap.size]? = some (.cells #[.int .i64 0, .int .i64 0] 39 (0, 0)) ∧ y.heap[w.heap.size + 1]? = some (.cells #[.int .i64 0, .int .i64 0] 39 (0, 0)) ∧ (y.setRow w.heap.size #[.int .i64 0, .int .i64 0]).heap[w.heap.size]? = some (.cells #[.int .i64 0, .int .i64 0] 39 (0, 0)) ∧
        Q (.returned (.agg #[.int .i64 0, .int .i64 0])) (y.setRow w.heap.size #[.int .i64 0, .int .i64 0])) := Lib.hid fun x y hx hy hxy he0 => by
      have hz2 := hx.size
      have e0 : y.heap[w.heap.size]? = some (.cells #[.int .i64 0, .int .i64 0] 39 (0, 0)) := by rw [hxy.block _ (by omega) (fun _ e => by omega), hx.block _ (by omega)]; exact r0
      have e1 : y.heap[w.heap.size + 1]? = some (.cells #[.int .i64 0, .int .i64 0] 39 (0, 0)) := by rw [hxy.block _ (by omega) (fun _ e => by omega), hx.block _ (by omega)]; exact r1
      have hk : Keep (Db b) w y := (Keep.of_below (hB0.trans (hx.mono hB0.size))).trans hxy
      have hs : Below w.heap.size y (y.setRow w.heap.size #[.int .i64 0, .int .i64 0]) := below_setRow (Below.refl _ _) (Nat.le_refl _) _
      refine ⟨e0, e1, setRow_heap _ _ _ _ _ _ e0, ?_⟩
      rw [hQ]
      refine ⟨by rw [if_neg (fun e => he0 e.2)], ?_, hk.lies (Nat.le_refl _) hs⟩
      unfold Tb.step
      unfold Tb.fail at hy
      rw [if_pos ⟨h0, by omega⟩] at hy
      rw [if_pos h0, if_neg he0]
      exact h.later hk hs hy.1 rfl hy.2.2
    have HFail : Hid (∀ x, Below W0.heap.size W0 x → Calls Tryd.prog 47 #[.pointer (some ⟨b, 0, none⟩), .int .i64 (er : Int), .int .i64 (r.p : Int)] x fun e w' => e = .returned (.tuple #[]) ∧ RdAt w' b A n c (Tb.fail er r.p r) ∧ Keep (Db b) x w') := Lib.hid fun x hx => Fail_any (h2.below (Nat.le_refl _) hx) er r.p
    have HC : Hid (∀ x, Below W0.heap.size W0 x → x.cell? ⟨b, 2, none⟩ = some (.int .i64 (r.p : Int)) ∧ x.frozen? ⟨b, 2, none⟩ = false) := Lib.hid fun x hx => ⟨(h2.below (Nat.le_refl _) hx).cells.2.2.1, (h2.below (Nat.le_refl _) hx).free 2⟩
    obtain ⟨p, hp⟩ : ∃ p, r.p = p := ⟨_, rfl⟩
    rw [hp] at d2 HF HFail HC FIN2
    clear h h0 hf hnx hp hQ h2 hB0 r0 r1 hW0 hz hlt
    go_enter Tryd.func82, Tryd.ntmps82
    go_wp2_with fail
    rw [← HW0.out]
    go_wp2_with (go_at_call 92; refine HG.out.mono ?_; rintro e w' ⟨rfl, rfl⟩)
    have BW : Below W0.heap.size W0 W0 := Below.refl _ _
    go_region_held3 (fun w' => w'.cell? ⟨b, 0, none⟩ = some (.slice A n c) ∧ w'.cell? ⟨b, 2, none⟩ = some (.int .i64 (p : Int)) ∧ Below W0.heap.size W0 w')
      (first
        | exact HS8.out
        | exact S_step hb0 HS8.out ((Below.refl _ _).alloc HS8.out.2.2.size _)
        | exact S_step hb0 HS8.out ((((Below.refl _ _).setCell (p := ⟨W0.heap.size, 0, none⟩) (Nat.le_refl _) _).setCell (p := ⟨W0.heap.size, 1, none⟩) (Nat.le_refl _) _))
        | exact S_step hb0 ⟨d0, d2, BW⟩ (Below.refl _ _).drew
        | exact S_step hb0 ⟨d0, d2, BW⟩ ((Below.refl _ _).drew.alloc (by simp) _))
      ((first
        | ((try go_split_ands); (with_reducible refine (HF.out _ (by assumption)).mono ?_); rintro e w8 ⟨rfl, hbb⟩; have HBB := Lib.hid hbb; have HS8 := Lib.hid (by first | exact S_step hb0 (by assumption) (hbb.mono (Below.size (by assumption))) | exact S_step hb0 ⟨by assumption, by assumption, by assumption⟩ (hbb.mono (Below.size (by assumption))) : w8.cell? ⟨b, 0, none⟩ = some (.slice A n c) ∧ w8.cell? ⟨b, 2, none⟩ = some (.int .i64 (p : Int)) ∧ Below W0.heap.size W0 w8); (try (have hq := (hbb.block W0.heap.size (by simp)).trans (World.alloc_heap_new _ _); have q0 := cell_of_row _ _ 0 _ _ _ hq; have g0 := frozen_of_row _ _ 0 _ _ hq; have q1 := cell_of_row _ _ 1 _ _ _ hq; have g1 := frozen_of_row _ _ 1 _ _ hq; have HQ8 := Lib.hid hq; clear hq)); clear hbb)))
    all_goals
      first
        | (have hg : ((w8.setCell ⟨W0.heap.size, 0, none⟩ (.int .i64 x0)).setCell ⟨W0.heap.size, 1, none⟩ (.int .i64 x1)).heap[W0.heap.size]? = some (.cells #[.int .i64 x0, .int .i64 x1] 39 (0, 0)) := by simpa using (heap_setCell_same _ _ 1 _ _ (.int .i64 x1) (heap_setCell_same _ _ 0 _ _ (.int .i64 x0) HQ8.out))
           have hb : Below W0.heap.size W0 ((w8.setCell ⟨W0.heap.size, 0, none⟩ (.int .i64 x0)).setCell ⟨W0.heap.size, 1, none⟩ (.int .i64 x1)) := HS8.out.2.2.trans (((Below.refl _ _).setCell (p := ⟨W0.heap.size, 0, none⟩) (Nat.le_refl _) _).setCell (p := ⟨W0.heap.size, 1, none⟩) (Nat.le_refl _) _)
           obtain ⟨x, hx⟩ : ∃ x, x = ((w8.setCell ⟨W0.heap.size, 0, none⟩ (.int .i64 x0)).setCell ⟨W0.heap.size, 1, none⟩ (.int .i64 x1)) := ⟨_, rfl⟩
           rw [← hx] at hg hb ⊢
           obtain ⟨g, hgg⟩ : ∃ g, g = W0.heap.size := ⟨_, rfl⟩
           have hgz : W0.heap.size ≤ g := by omega
           rw [← hgg] at hg
           simp only [← hgg])
        | (have hg : (w8.alloc (.cells #[.int .i64 x0, .int .i64 x1] 39)).heap[w8.heap.size]? = some (.cells #[.int .i64 x0, .int .i64 x1] 39 (0, 0)) := World.alloc_heap_new _ _
           have hb : Below W0.heap.size W0 (w8.alloc (.cells #[.int .i64 x0, .int .i64 x1] 39)) := HS8.out.2.2.alloc HS8.out.2.2.size _
           have hgz := HS8.out.2.2.size
           obtain ⟨x, hx⟩ : ∃ x, x = w8.alloc (.cells #[.int .i64 x0, .int .i64 x1] 39) := ⟨_, rfl⟩
           rw [← hx] at hg hb ⊢
           obtain ⟨g, hgg⟩ : ∃ g, g = w8.heap.size := ⟨_, rfl⟩
           rw [← hgg] at hg hgz ⊢)
      have HG8 := Lib.hid hg
      have HB8 := Lib.hid hb
      have HZ8 := Lib.hid hgz
      have hc := HC.out x hb
      obtain ⟨hc2, hf2⟩ := hc
      clear hg hb hx hgg hgz HS8
      try clear HQ8
      by_cases he0 : er = 0
      · have F := FIN.out x g HB8.out HG8.out HZ8.out he0
        subst he0
        have F1 := Lib.hid F.1
        have F2 := Lib.hid F.2.1
        have F3 := Lib.hid F.2.2.1
        have F4 := Lib.hid F.2.2.2
        clear F
        go_wp2_with (first
          | (refine wpList_load_row rfl 39 (.tmp 6) rfl g rfl _ _ _ _ F1.out Tryd.underlying39 rfl (by kernel_rfl) ?_)
          | (refine wpList_store_row rfl 39 (.tmp 4) (.tmp 44) rfl w.heap.size #[.int .i64 x0, .int .i64 x1] rfl rfl _ _ F2.out (by kernel_rfl) rfl (by simp [Value.oneCell']) ?_))
        refine bodyPost_ret (results_cell_row rfl _ _ w.heap.size _ _ (0, 0) _ rfl F3.out Tryd.underlying39 rfl (by as_aux_lemma => kernel_rfl)) rfl ?_
        exact F4.out
      · have hne : ((er : Int) != 0) = true := by simp; omega
        have HE := Lib.hid he0
        clear he0
        go_wp2_with (first
          | (go_at_call 47; (with_reducible refine (HFail.out x HB8.out).mono ?_); rintro e w9 ⟨rfl, hr, hk⟩; have F := FIN2.out x w9 HB8.out hr hk HE.out; have F1 := Lib.hid F.1; have F2 := Lib.hid F.2.1; have F3 := Lib.hid F.2.2.1; have F4 := Lib.hid F.2.2.2; clear F hr hk)
          | (refine wpList_load_row rfl 39 (.tmp 5) rfl (w.heap.size + 1) rfl _ _ _ _ F2.out Tryd.underlying39 rfl (by kernel_rfl) ?_)
          | (refine wpList_store_row rfl 39 (.tmp 4) (.tmp 38) rfl w.heap.size #[.int .i64 0, .int .i64 0] rfl rfl _ _ F1.out (by kernel_rfl) rfl (by simp [Value.oneCell']) ?_))
        refine bodyPost_ret (results_cell_row rfl _ _ w.heap.size _ _ (0, 0) _ rfl F3.out Tryd.underlying39 rfl (by as_aux_lemma => kernel_rfl)) rfl ?_
        exact F4.out
  · have HG := Lib.hid (goes_any h2 false (by simp [h0]))
    have FIN : Hid (Q (.returned (.agg #[.int .i64 0, .int .i64 0])) (W0.setRow w.heap.size #[.int .i64 0, .int .i64 0])) := Lib.hid (by
      have hk : Keep (Db b) w (W0.setRow w.heap.size #[.int .i64 0, .int .i64 0]) := Keep.of_below (below_setRow hB0 (Nat.le_refl _) _)
      rw [hQ]
      refine ⟨by rw [if_neg (fun e => h0 e.1)], ?_, hk⟩
      unfold Tb.step
      rw [if_neg h0]
      exact h.below (Nat.le_refl _) (below_setRow hB0 (Nat.le_refl _) _))
    have HR : Hid ((W0.setRow w.heap.size #[.int .i64 0, .int .i64 0]).heap[w.heap.size]? = some (.cells #[.int .i64 0, .int .i64 0] 39 (0, 0))) := Lib.hid (setRow_heap _ _ _ _ _ _ r0)
    have HW0 := Lib.hid hW0
    have R0 := Lib.hid r0
    have R1 := Lib.hid r1
    clear h h0 hf hnx hQ h2 hB0 r0 r1 hW0
    go_enter Tryd.func82, Tryd.ntmps82
    go_wp2_with fail
    rw [← HW0.out]
    go_wp2_with (first
      | (go_at_call 92; refine HG.out.mono ?_; rintro e w' ⟨rfl, rfl⟩)
      | (refine wpList_load_row rfl 39 (.tmp 5) rfl (w.heap.size + 1) rfl _ _ _ _ R1.out Tryd.underlying39 rfl (by kernel_rfl) ?_)
      | (refine wpList_store_row rfl 39 (.tmp 4) (.tmp 12) rfl w.heap.size #[.int .i64 0, .int .i64 0] rfl rfl _ _ R0.out (by kernel_rfl) rfl (by simp [Value.oneCell']) ?_))
    refine bodyPost_ret (results_cell_row rfl _ _ w.heap.size _ _ (0, 0) _ rfl HR.out Tryd.underlying39 rfl (by as_aux_lemma => kernel_rfl)) rfl ?_
    exact FIN.out
set_option maxHeartbeats 8000000 in
theorem item_Val {w : World} {b n c : Nat} {A : Option Addr} {r : Rd} (h : RdAt w b A n c r) (fid : Nat) (lb : Array Value) (he : ∀ args w, (callFunc fid args).run Tryd.prog w = .ok (.enter fid args) w) (x0 x1 x2 : Int) (u : Bool) (nx er : Nat) (hnx : er = 0 → nx ≤ n)
    (hf : ∀ W, Below w.heap.size w W → Calls Tryd.prog fid (#[.slice A n c, .int .i64 (r.p : Int)] ++ lb) W fun e W' => e = .returned (.tuple #[.agg #[.int .i64 x0, .bool u, .int .i64 x1, .int .i64 x2], .int .i64 (nx : Int), .int .i64 (er : Int)]) ∧ Below W.heap.size W W') :
    Calls Tryd.prog 87 #[.pointer (some ⟨b, 0, none⟩), .func (.func fid) #[] lb] w fun e w' => e = .returned (.agg (if r.e = 0 ∧ er = 0 then #[.int .i64 x0, .bool u, .int .i64 x1, .int .i64 x2] else #[.int .i64 0, .bool false, .int .i64 0, .int .i64 0])) ∧ RdAt w' b A n c (Tb.step nx er r) ∧ Keep (Db b) w w' := by
  obtain ⟨Q, hQ⟩ : ∃ Q : Ending → World → Prop, Q = (fun e w' => e = .returned (.agg (if r.e = 0 ∧ er = 0 then #[.int .i64 x0, .bool u, .int .i64 x1, .int .i64 x2] else #[.int .i64 0, .bool false, .int .i64 0, .int .i64 0])) ∧ RdAt w' b A n c (Tb.step nx er r) ∧ Keep (Db b) w w') := ⟨_, rfl⟩
  rw [← hQ]
  obtain ⟨W0, hW0⟩ : ∃ W0, W0 = (w.alloc (.cells #[.int .i64 0, .bool false, .int .i64 0, .int .i64 0] 46)).alloc (.cells #[.int .i64 0, .bool false, .int .i64 0, .int .i64 0] 46) := ⟨_, rfl⟩
  have hz : W0.heap.size = w.heap.size + 2 := by rw [hW0]; simp
  have hB0 : Below w.heap.size w W0 := by rw [hW0]; exact ((Below.refl _ _).alloc (Nat.le_refl _) _).alloc (by simp) _
  have r0 : W0.heap[w.heap.size]? = some (.cells #[.int .i64 0, .bool false, .int .i64 0, .int .i64 0] 46 (0, 0)) := by rw [hW0]; exact heap_alloc2_old _ _ _
  have r1 : W0.heap[w.heap.size + 1]? = some (.cells #[.int .i64 0, .bool false, .int .i64 0, .int .i64 0] 46 (0, 0)) := by rw [hW0]; exact heap_alloc2_new _ _ _
  have h2 := h.below (Nat.le_refl _) hB0
  have hlt := h.lt
  by_cases h0 : r.e = 0
  · have HG := Lib.hid (goes_any h2 true (by simp [h0]))
    have HF : Hid (∀ W, Below W0.heap.size W0 W → Calls Tryd.prog fid (#[.slice A n c, .int .i64 (r.p : Int)] ++ lb) W fun e W' => e = .returned (.tuple #[.agg #[.int .i64 x0, .bool u, .int .i64 x1, .int .i64 x2], .int .i64 (nx : Int), .int .i64 (er : Int)]) ∧ Below W.heap.size W W') := Lib.hid fun W hW => hf W (hB0.trans (hW.mono hB0.size))
    have d0 := h2.cells.1
    have d2 := h2.cells.2.2.1
    have hb0 : b < W0.heap.size := by omega
    have RW0 : Hid (W0.heap.size = w.heap.size + 2) := Lib.hid hz
    have Hlt := Lib.hid hlt
    have H2 := Lib.hid h2
    have HB0 := Lib.hid hB0
    have HW0 := Lib.hid hW0
    have R0 := Lib.hid r0
    have R1 := Lib.hid r1
    -- behind the region: a world x in which all lies, and the variable's block g
    have FIN : Hid (∀ (x : World) (g : Nat), Below W0.heap.size W0 x → x.heap[g]? = some (.cells #[.int .i64 x0, .bool u, .int .i64 x1, .int .i64 x2] 46 (0, 0)) → W0.heap.size ≤ g → er = 0 →
        (x.setCell ⟨b, 2, none⟩ (.int .i64 (nx : Int))).heap[g]? = some (.cells #[.int .i64 x0, .bool u, .int .i64 x1, .int .i64 x2] 46 (0, 0)) ∧
        (x.setCell ⟨b, 2, none⟩ (.int .i64 (nx : Int))).heap[w.heap.size]? = some (.cells #[.int .i64 0, .bool false, .int .i64 0, .int .i64 0] 46 (0, 0)) ∧ ((x.setCell ⟨b, 2, none⟩ (.int .i64 (nx : Int))).setRow w.heap.size #[.int .i64 x0, .bool u, .int .i64 x1, .int .i64 x2]).heap[w.heap.size]? = some (.cells #[.int .i64 x0, .bool u, .int .i64 x1, .int .i64 x2] 46 (0, 0)) ∧
        Q (.returned (.agg #[.int .i64 x0, .bool u, .int .i64 x1, .int .i64 x2])) ((x.setCell ⟨b, 2, none⟩ (.int .i64 (nx : Int))).setRow w.heap.size #[.int .i64 x0, .bool u, .int .i64 x1, .int .i64 x2])) := Lib.hid fun x g hx hg hgz he0 => by
      have hR := (h2.below (Nat.le_refl _) hx).goto nx (hnx he0) _ rfl
      have e0 : (x.setCell ⟨b, 2, none⟩ (.int .i64 (nx : Int))).heap[w.heap.size]? = some (.cells #[.int .i64 0, .bool false, .int .i64 0, .int .i64 0] 46 (0, 0)) := by
        rw [heap_setCell_other _ _ _ _ (by dsimp only; omega), hx.block _ (by omega)]; exact r0
      have hk : Keep (Db b) w (x.setCell ⟨b, 2, none⟩ (.int .i64 (nx : Int))) := (Keep.of_below (hB0.trans (hx.mono hB0.size))).trans hR.2
      have hs : Below w.heap.size (x.setCell ⟨b, 2, none⟩ (.int .i64 (nx : Int))) ((x.setCell ⟨b, 2, none⟩ (.int .i64 (nx : Int))).setRow w.heap.size #[.int .i64 x0, .bool u, .int .i64 x1, .int .i64 x2]) := below_setRow (Below.refl _ _) (Nat.le_refl _) _
      refine ⟨by rw [heap_setCell_other _ _ _ _ (by dsimp only; omega)]; exact hg, e0, setRow_heap _ _ _ _ _ _ e0, ?_⟩
      rw [hQ]
      refine ⟨by rw [if_pos ⟨h0, he0⟩], ?_, hk.lies (Nat.le_refl _) hs⟩
      unfold Tb.step
      rw [if_pos h0, if_pos he0]
      exact h.later hk hs hR.1.1 rfl hR.1.2.2
    have FIN2 : Hid (∀ (x y : World), Below W0.heap.size W0 x → RdAt y b A n c (Tb.fail er r.p r) → Keep (Db b) x y → er ≠ 0 →
        y.heap[w.heap.size]? = some (.cells #[.int .i64 0, .bool false, .int .i64 0, .int .i64 0] 46 (0, 0)) ∧ y.heap[w.heap.size + 1]? = some (.cells #[.int .i64 0, .bool false, .int .i64 0, .int .i64 0] 46 (0, 0)) ∧ (y.setRow w.heap.size #[.int .i64 0, .bool false, .int .i64 0, .int .i64 0]).heap[w.heap.size]? = some (.cells #[.int .i64 0, .bool false, .int .i64 0, .int .i64 0] 46 (0, 0)) ∧
        Q (.returned (.agg #[.int .i64 0, .bool false, .int .i64 0, .int .i64 0])) (y.setRow w.heap.size #[.int .i64 0, .bool false, .int .i64 0, .int .i64 0])) := Lib.hid fun x y hx hy hxy he0 => by
      have hz2 := hx.size
      have e0 : y.heap[w.heap.size]? = some (.cells #[.int .i64 0, .bool false, .int .i64 0, .int .i64 0] 46 (0, 0)) := by rw [hxy.block _ (by omega) (fun _ e => by omega), hx.block _ (by omega)]; exact r0
      have e1 : y.heap[w.heap.size + 1]? = some (.cells #[.int .i64 0, .bool false, .int .i64 0, .int .i64 0] 46 (0, 0)) := by rw [hxy.block _ (by omega) (fun _ e => by omega), hx.block _ (by omega)]; exact r1
      have hk : Keep (Db b) w y := (Keep.of_below (hB0.trans (hx.mono hB0.size))).trans hxy
      have hs : Below w.heap.size y (y.setRow w.heap.size #[.int .i64 0, .bool false, .int .i64 0, .int .i64 0]) := below_setRow (Below.refl _ _) (Nat.le_refl _) _
      refine ⟨e0, e1, setRow_heap _ _ _ _ _ _ e0, ?_⟩
      rw [hQ]
      refine ⟨by rw [if_neg (fun e => he0 e.2)], ?_, hk.lies (Nat.le_refl _) hs⟩
      unfold Tb.step
      unfold Tb.fail at hy
      rw [if_pos ⟨h0, by omega⟩] at hy
      rw [if_pos h0, if_neg he0]
      exact h.later hk hs hy.1 rfl hy.2.2
    have HFail : Hid (∀ x, Below W0.heap.size W0 x → Calls Tryd.prog 47 #[.pointer (some ⟨b, 0, none⟩), .int .i64 (er : Int), .int .i64 (r.p : Int)] x fun e w' => e = .returned (.tuple #[]) ∧ RdAt w' b A n c (Tb.fail er r.p r) ∧ Keep (Db b) x w') := Lib.hid fun x hx => Fail_any (h2.below (Nat.le_refl _) hx) er r.p
    have HC : Hid (∀ x, Below W0.heap.size W0 x → x.cell? ⟨b, 2, none⟩ = some (.int .i64 (r.p : Int)) ∧ x.frozen? ⟨b, 2, none⟩ = false) := Lib.hid fun x hx => ⟨(h2.below (Nat.le_refl _) hx).cells.2.2.1, (h2.below (Nat.le_refl _) hx).free 2⟩
    obtain ⟨p, hp⟩ : ∃ p, r.p = p := ⟨_, rfl⟩
    rw [hp] at d2 HF HFail HC FIN2
    clear h h0 hf hnx hp hQ h2 hB0 r0 r1 hW0 hz hlt
    go_enter Tryd.func87, Tryd.ntmps87
    go_wp2_with fail
    rw [← HW0.out]
    go_wp2_with (go_at_call 92; refine HG.out.mono ?_; rintro e w' ⟨rfl, rfl⟩)
    have BW : Below W0.heap.size W0 W0 := Below.refl _ _
    go_region_held3 (fun w' => w'.cell? ⟨b, 0, none⟩ = some (.slice A n c) ∧ w'.cell? ⟨b, 2, none⟩ = some (.int .i64 (p : Int)) ∧ Below W0.heap.size W0 w')
      (first
        | exact HS8.out
        | exact S_step hb0 HS8.out ((Below.refl _ _).alloc HS8.out.2.2.size _)
        | exact S_step hb0 HS8.out ((((((Below.refl _ _).setCell (p := ⟨W0.heap.size, 0, none⟩) (Nat.le_refl _) _).setCell (p := ⟨W0.heap.size, 1, none⟩) (Nat.le_refl _) _).setCell (p := ⟨W0.heap.size, 2, none⟩) (Nat.le_refl _) _).setCell (p := ⟨W0.heap.size, 3, none⟩) (Nat.le_refl _) _))
        | exact S_step hb0 ⟨d0, d2, BW⟩ (Below.refl _ _).drew
        | exact S_step hb0 ⟨d0, d2, BW⟩ ((Below.refl _ _).drew.alloc (by simp) _))
      ((first
        | ((try go_split_ands); (with_reducible refine (HF.out _ (by assumption)).mono ?_); rintro e w8 ⟨rfl, hbb⟩; have HBB := Lib.hid hbb; have HS8 := Lib.hid (by first | exact S_step hb0 (by assumption) (hbb.mono (Below.size (by assumption))) | exact S_step hb0 ⟨by assumption, by assumption, by assumption⟩ (hbb.mono (Below.size (by assumption))) : w8.cell? ⟨b, 0, none⟩ = some (.slice A n c) ∧ w8.cell? ⟨b, 2, none⟩ = some (.int .i64 (p : Int)) ∧ Below W0.heap.size W0 w8); (try (have hq := (hbb.block W0.heap.size (by simp)).trans (World.alloc_heap_new _ _); have q0 := cell_of_row _ _ 0 _ _ _ hq; have g0 := frozen_of_row _ _ 0 _ _ hq; have q1 := cell_of_row _ _ 1 _ _ _ hq; have g1 := frozen_of_row _ _ 1 _ _ hq; have q2 := cell_of_row _ _ 2 _ _ _ hq; have g2 := frozen_of_row _ _ 2 _ _ hq; have q3 := cell_of_row _ _ 3 _ _ _ hq; have g3 := frozen_of_row _ _ 3 _ _ hq; have HQ8 := Lib.hid hq; clear hq)); clear hbb)))
    all_goals
      first
        | (have hg : ((((w8.setCell ⟨W0.heap.size, 0, none⟩ (.int .i64 x0)).setCell ⟨W0.heap.size, 1, none⟩ (.bool u)).setCell ⟨W0.heap.size, 2, none⟩ (.int .i64 x1)).setCell ⟨W0.heap.size, 3, none⟩ (.int .i64 x2)).heap[W0.heap.size]? = some (.cells #[.int .i64 x0, .bool u, .int .i64 x1, .int .i64 x2] 46 (0, 0)) := by simpa using (heap_setCell_same _ _ 3 _ _ (.int .i64 x2) (heap_setCell_same _ _ 2 _ _ (.int .i64 x1) (heap_setCell_same _ _ 1 _ _ (.bool u) (heap_setCell_same _ _ 0 _ _ (.int .i64 x0) HQ8.out))))
           have hb : Below W0.heap.size W0 ((((w8.setCell ⟨W0.heap.size, 0, none⟩ (.int .i64 x0)).setCell ⟨W0.heap.size, 1, none⟩ (.bool u)).setCell ⟨W0.heap.size, 2, none⟩ (.int .i64 x1)).setCell ⟨W0.heap.size, 3, none⟩ (.int .i64 x2)) := HS8.out.2.2.trans (((((Below.refl _ _).setCell (p := ⟨W0.heap.size, 0, none⟩) (Nat.le_refl _) _).setCell (p := ⟨W0.heap.size, 1, none⟩) (Nat.le_refl _) _).setCell (p := ⟨W0.heap.size, 2, none⟩) (Nat.le_refl _) _).setCell (p := ⟨W0.heap.size, 3, none⟩) (Nat.le_refl _) _)
           obtain ⟨x, hx⟩ : ∃ x, x = ((((w8.setCell ⟨W0.heap.size, 0, none⟩ (.int .i64 x0)).setCell ⟨W0.heap.size, 1, none⟩ (.bool u)).setCell ⟨W0.heap.size, 2, none⟩ (.int .i64 x1)).setCell ⟨W0.heap.size, 3, none⟩ (.int .i64 x2)) := ⟨_, rfl⟩
           rw [← hx] at hg hb ⊢
           obtain ⟨g, hgg⟩ : ∃ g, g = W0.heap.size := ⟨_, rfl⟩
           have hgz : W0.heap.size ≤ g := by omega
           rw [← hgg] at hg
           simp only [← hgg])
        | (have hg : (w8.alloc (.cells #[.int .i64 x0, .bool u, .int .i64 x1, .int .i64 x2] 46)).heap[w8.heap.size]? = some (.cells #[.int .i64 x0, .bool u, .int .i64 x1, .int .i64 x2] 46 (0, 0)) := World.alloc_heap_new _ _
           have hb : Below W0.heap.size W0 (w8.alloc (.cells #[.int .i64 x0, .bool u, .int .i64 x1, .int .i64 x2] 46)) := HS8.out.2.2.alloc HS8.out.2.2.size _
           have hgz := HS8.out.2.2.size
           obtain ⟨x, hx⟩ : ∃ x, x = w8.alloc (.cells #[.int .i64 x0, .bool u, .int .i64 x1, .int .i64 x2] 46) := ⟨_, rfl⟩
           rw [← hx] at hg hb ⊢
           obtain ⟨g, hgg⟩ : ∃ g, g = w8.heap.size := ⟨_, rfl⟩
           rw [← hgg] at hg hgz ⊢)
      have HG8 := Lib.hid hg
      have HB8 := Lib.hid hb
      have HZ8 := Lib.hid hgz
      have hc := HC.out x hb
      obtain ⟨hc2, hf2⟩ := hc
      clear hg hb hx hgg hgz HS8
      try clear HQ8
      by_cases he0 : er = 0
      · have F := FIN.out x g HB8.out HG8.out HZ8.out he0
        subst he0
        have F1 := Lib.hid F.1
        have F2 := Lib.hid F.2.1
        have F3 := Lib.hid F.2.2.1
        have F4 := Lib.hid F.2.2.2
        clear F
        go_wp2_with (first
          | (refine wpList_load_row rfl 46 (.tmp 6) rfl g rfl _ _ _ _ F1.out Tryd.underlying46 rfl (by kernel_rfl) ?_)
          | (refine wpList_store_row rfl 46 (.tmp 4) (.tmp 44) rfl w.heap.size #[.int .i64 x0, .bool u, .int .i64 x1, .int .i64 x2] rfl rfl _ _ F2.out (by kernel_rfl) rfl (by simp [Value.oneCell']) ?_))
        refine bodyPost_ret (results_cell_row rfl _ _ w.heap.size _ _ (0, 0) _ rfl F3.out Tryd.underlying46 rfl (by as_aux_lemma => kernel_rfl)) rfl ?_
        exact F4.out
      · have hne : ((er : Int) != 0) = true := by simp; omega
        have HE := Lib.hid he0
        clear he0
        go_wp2_with (first
          | (go_at_call 47; (with_reducible refine (HFail.out x HB8.out).mono ?_); rintro e w9 ⟨rfl, hr, hk⟩; have F := FIN2.out x w9 HB8.out hr hk HE.out; have F1 := Lib.hid F.1; have F2 := Lib.hid F.2.1; have F3 := Lib.hid F.2.2.1; have F4 := Lib.hid F.2.2.2; clear F hr hk)
          | (refine wpList_load_row rfl 46 (.tmp 5) rfl (w.heap.size + 1) rfl _ _ _ _ F2.out Tryd.underlying46 rfl (by kernel_rfl) ?_)
          | (refine wpList_store_row rfl 46 (.tmp 4) (.tmp 38) rfl w.heap.size #[.int .i64 0, .bool false, .int .i64 0, .int .i64 0] rfl rfl _ _ F1.out (by kernel_rfl) rfl (by simp [Value.oneCell']) ?_))
        refine bodyPost_ret (results_cell_row rfl _ _ w.heap.size _ _ (0, 0) _ rfl F3.out Tryd.underlying46 rfl (by as_aux_lemma => kernel_rfl)) rfl ?_
        exact F4.out
  · have HG := Lib.hid (goes_any h2 false (by simp [h0]))
    have FIN : Hid (Q (.returned (.agg #[.int .i64 0, .bool false, .int .i64 0, .int .i64 0])) (W0.setRow w.heap.size #[.int .i64 0, .bool false, .int .i64 0, .int .i64 0])) := Lib.hid (by
      have hk : Keep (Db b) w (W0.setRow w.heap.size #[.int .i64 0, .bool false, .int .i64 0, .int .i64 0]) := Keep.of_below (below_setRow hB0 (Nat.le_refl _) _)
      rw [hQ]
      refine ⟨by rw [if_neg (fun e => h0 e.1)], ?_, hk⟩
      unfold Tb.step
      rw [if_neg h0]
      exact h.below (Nat.le_refl _) (below_setRow hB0 (Nat.le_refl _) _))
    have HR : Hid ((W0.setRow w.heap.size #[.int .i64 0, .bool false, .int .i64 0, .int .i64 0]).heap[w.heap.size]? = some (.cells #[.int .i64 0, .bool false, .int .i64 0, .int .i64 0] 46 (0, 0))) := Lib.hid (setRow_heap _ _ _ _ _ _ r0)
    have HW0 := Lib.hid hW0
    have R0 := Lib.hid r0
    have R1 := Lib.hid r1
    clear h h0 hf hnx hQ h2 hB0 r0 r1 hW0
    go_enter Tryd.func87, Tryd.ntmps87
    go_wp2_with fail
    rw [← HW0.out]
    go_wp2_with (first
      | (go_at_call 92; refine HG.out.mono ?_; rintro e w' ⟨rfl, rfl⟩)
      | (refine wpList_load_row rfl 46 (.tmp 5) rfl (w.heap.size + 1) rfl _ _ _ _ R1.out Tryd.underlying46 rfl (by kernel_rfl) ?_)
      | (refine wpList_store_row rfl 46 (.tmp 4) (.tmp 12) rfl w.heap.size #[.int .i64 0, .bool false, .int .i64 0, .int .i64 0] rfl rfl _ _ R0.out (by kernel_rfl) rfl (by simp [Value.oneCell']) ?_))
    refine bodyPost_ret (results_cell_row rfl _ _ w.heap.size _ _ (0, 0) _ rfl HR.out Tryd.underlying46 rfl (by as_aux_lemma => kernel_rfl)) rfl ?_
    exact FIN.out
set_option maxHeartbeats 8000000 in
theorem item_Comp {w : World} {b n c : Nat} {A : Option Addr} {r : Rd} (h : RdAt w b A n c r) (fid : Nat) (lb : Array Value) (he : ∀ args w, (callFunc fid args).run Tryd.prog w = .ok (.enter fid args) w) (x0 : Int) (nx er : Nat) (hnx : er = 0 → nx ≤ n)
    (hf : ∀ W, Below w.heap.size w W → Calls Tryd.prog fid (#[.slice A n c, .int .i64 (r.p : Int)] ++ lb) W fun e W' => e = .returned (.tuple #[.agg #[.int .i64 x0, .slice none 0 0, .slice none 0 0, .slice none 0 0], .int .i64 (nx : Int), .int .i64 (er : Int)]) ∧ Below W.heap.size W W') :
    Calls Tryd.prog 151 #[.pointer (some ⟨b, 0, none⟩), .func (.func fid) #[] lb] w fun e w' => e = .returned (.agg (if r.e = 0 ∧ er = 0 then #[.int .i64 x0, .slice none 0 0, .slice none 0 0, .slice none 0 0] else #[.int .i64 0, .slice none 0 0, .slice none 0 0, .slice none 0 0])) ∧ RdAt w' b A n c (Tb.step nx er r) ∧ Keep (Db b) w w' := by
  obtain ⟨Q, hQ⟩ : ∃ Q : Ending → World → Prop, Q = (fun e w' => e = .returned (.agg (if r.e = 0 ∧ er = 0 then #[.int .i64 x0, .slice none 0 0, .slice none 0 0, .slice none 0 0] else #[.int .i64 0, .slice none 0 0, .slice none 0 0, .slice none 0 0])) ∧ RdAt w' b A n c (Tb.step nx er r) ∧ Keep (Db b) w w') := ⟨_, rfl⟩
  rw [← hQ]
  obtain ⟨W0, hW0⟩ : ∃ W0, W0 = (w.alloc (.cells #[.int .i64 0, .slice none 0 0, .slice none 0 0, .slice none 0 0] 27)).alloc (.cells #[.int .i64 0, .slice none 0 0, .slice none 0 0, .slice none 0 0] 27) := ⟨_, rfl⟩
  have hz : W0.heap.size = w.heap.size + 2 := by rw [hW0]; simp
  have hB0 : Below w.heap.size w W0 := by rw [hW0]; exact ((Below.refl _ _).alloc (Nat.le_refl _) _).alloc (by simp) _
  have r0 : W0.heap[w.heap.size]? = some (.cells #[.int .i64 0, .slice none 0 0, .slice none 0 0, .slice none 0 0] 27 (0, 0)) := by rw [hW0]; exact heap_alloc2_old _ _ _
  have r1 : W0.heap[w.heap.size + 1]? = some (.cells #[.int .i64 0, .slice none 0 0, .slice none 0 0, .slice none 0 0] 27 (0, 0)) := by rw [hW0]; exact heap_alloc2_new _ _ _
  have h2 := h.below (Nat.le_refl _) hB0
  have hlt := h.lt
  by_cases h0 : r.e = 0
  · have HG := Lib.hid (goes_any h2 true (by simp [h0]))
    have HF : Hid (∀ W, Below W0.heap.size W0 W → Calls Tryd.prog fid (#[.slice A n c, .int .i64 (r.p : Int)] ++ lb) W fun e W' => e = .returned (.tuple #[.agg #[.int .i64 x0, .slice none 0 0, .slice none 0 0, .slice none 0 0], .int .i64 (nx : Int), .int .i64 (er : Int)]) ∧ Below W.heap.size W W') := Lib.hid fun W hW => hf W (hB0.trans (hW.mono hB0.size))
    have d0 := h2.cells.1
    have d2 := h2.cells.2.2.1
    have hb0 : b < W0.heap.size := by omega
    have RW0 : Hid (W0.heap.size = w.heap.size + 2) := Lib.hid hz
    have Hlt := Lib.hid hlt
    have H2 := Lib.hid h2
    have HB0 := Lib.hid hB0
    have HW0 := Lib.hid hW0
    have R0 := Lib.hid r0
    have R1 := Lib.hid r1
    -- behind the region: a world x in which all lies, and the variable's block g
    have FIN : Hid (∀ (x : World) (g : Nat), Below W0.heap.size W0 x → x.heap[g]? = some (.cells #[.int .i64 x0, .slice none 0 0, .slice none 0 0, .slice none 0 0] 27 (0, 0)) → W0.heap.size ≤ g → er = 0 →
        (x.setCell ⟨b, 2, none⟩ (.int .i64 (nx : Int))).heap[g]? = some (.cells #[.int .i64 x0, .slice none 0 0, .slice none 0 0, .slice none 0 0] 27 (0, 0)) ∧
        (x.setCell ⟨b, 2, none⟩ (.int .i64 (nx : Int))).heap[w.heap.size]? = some (.cells #[.int .i64 0, .slice none 0 0, .slice none 0 0, .slice none 0 0] 27 (0, 0)) ∧ ((x.setCell ⟨b, 2, none⟩ (.int .i64 (nx : Int))).setRow w.heap.size #[.int .i64 x0, .slice none 0 0, .slice none 0 0, .slice none 0 0]).heap[w.heap.size]? = some (.cells #[.int .i64 x0, .slice none 0 0, .slice none 0 0, .slice none 0 0] 27 (0, 0)) ∧
        Q (.returned (.agg #[.int .i64 x0, .slice none 0 0, .slice none 0 0, .slice none 0 0])) ((x.setCell ⟨b, 2, none⟩ (.int .i64 (nx : Int))).setRow w.heap.size #[.int .i64 x0, .slice none 0 0, .slice none 0 0, .slice none 0 0])) := Lib.hid fun x g hx hg hgz he0 => by
      have hR := (h2.below (Nat.le_refl _) hx).goto nx (hnx he0) _ rfl
      have e0 : (x.setCell ⟨b, 2, none⟩ (.int .i64 (nx : Int))).heap[w.heap.size]? = some (.cells #[.int .i64 0, .slice none 0 0, .slice none 0 0, .slice none 0 0] 27 (0, 0)) := by
        rw [heap_setCell_other _ _ _ _ (by dsimp only; omega), hx.block _ (by omega)]; exact r0
      have hk : Keep (Db b) w (x.setCell ⟨b, 2, none⟩ (.int .i64 (nx : Int))) := (Keep.of_below (hB0.trans (hx.mono hB0.size))).trans hR.2
      have hs : Below w.heap.size (x.setCell ⟨b, 2, none⟩ (.int .i64 (nx : Int))) ((x.setCell ⟨b, 2, none⟩ (.int .i64 (nx : Int))).setRow w.heap.size #[.int .i64 x0, .slice none 0 0, .slice none 0 0, .slice none 0 0]) := below_setRow (Below.refl _ _) (Nat.le_refl _) _
      refine ⟨by rw [heap_setCell_other _ _ _ _ (by dsimp only; omega)]; exact hg, e0, setRow_heap _ _ _ _ _ _ e0, ?_⟩
      rw [hQ]
      refine ⟨by rw [if_pos ⟨h0, he0⟩], ?_, hk.lies (Nat.le_refl _) hs⟩
      unfold Tb.step
      rw [if_pos h0, if_pos he0]
      exact h.later hk hs hR.1.1 rfl hR.1.2.2
    have FIN2 : Hid (∀ (x y : World), Below W0.heap.size W0 x → RdAt y b A n c (Tb.fail er r.p r) → Keep (Db b) x y → er ≠ 0 →
        y.heap[w.heap.size]? = some (.cells #[.int .i64 0, .slice none 0 0, .slice none 0 0, .slice none 0 0] 27 (0, 0)) ∧ y.heap[w.heap.size + 1]? = some (.cells #[.int .i64 0, .slice none 0 0, .slice none 0 0, .slice none 0 0] 27 (0, 0)) ∧ (y.setRow w.heap.size #[.int .i64 0, .slice none 0 0, .slice none 0 0, .slice none 0 0]).heap[w.heap.size]? = some (.cells #[.int .i64 0, .slice none 0 0, .slice none 0 0, .slice none 0 0] 27 (0, 0)) ∧
        Q (.returned (.agg #[.int .i64 0, .slice none 0 0, .slice none 0 0, .slice none 0 0])) (y.setRow w.heap.size #[.int .i64 0, .slice none 0 0, .slice none 0 0, .slice none 0 0])) := Lib.hid fun x y hx hy hxy he0 => by
      have hz2 := hx.size
      have e0 : y.heap[w.heap.size]? = some (.cells #[.int .i64 0, .slice none 0 0, .slice none 0 0, .slice none 0 0] 27 (0, 0)) := by rw [hxy.block _ (by omega) (fun _ e => by omega), hx.block _ (by omega)]; exact r0
      have e1 : y.heap[w.heap.size + 1]? = some (.cells #[.int .i64 0, .slice none 0 0, .slice none 0 0, .slice none 0 0] 27 (0, 0)) := by rw [hxy.block _ (by omega) (fun _ e => by omega), hx.block _ (by omega)]; exact r1
      have hk : Keep (Db b) w y := (Keep.of_below (hB0.trans (hx.mono hB0.size))).trans hxy
      have hs : Below w.heap.size y (y.setRow w.heap.size #[.int .i64 0, .slice none 0 0, .slice none 0 0, .slice none 0 0]) := below_setRow (Below.refl _ _) (Nat.le_refl _) _
      refine ⟨e0, e1, setRow_heap _ _ _ _ _ _ e0, ?_⟩
      rw [hQ]
      refine ⟨by rw [if_neg (fun e => he0 e.2)], ?_, hk.lies (Nat.le_refl _) hs⟩
      unfold Tb.step
      unfold Tb.fail at hy
      rw [if_pos ⟨h0, by omega⟩] at hy
      rw [if_pos h0, if_neg he0]
      exact h.later hk hs hy.1 rfl hy.2.2
    have HFail : Hid (∀ x, Below W0.heap.size W0 x → Calls Tryd.prog 47 #[.pointer (some ⟨b, 0, none⟩), .int .i64 (er : Int), .int .i64 (r.p : Int)] x fun e w' => e = .returned (.tuple #[]) ∧ RdAt w' b A n c (Tb.fail er r.p r) ∧ Keep (Db b) x w') := Lib.hid fun x hx => Fail_any (h2.below (Nat.le_refl _) hx) er r.p
    have HC : Hid (∀ x, Below W0.heap.size W0 x → x.cell? ⟨b, 2, none⟩ = some (.int .i64 (r.p : Int)) ∧ x.frozen? ⟨b, 2, none⟩ = false) := Lib.hid fun x hx => ⟨(h2.below (Nat.le_refl _) hx).cells.2.2.1, (h2.below (Nat.le_refl _) hx).free 2⟩
    obtain ⟨p, hp⟩ : ∃ p, r.p = p := ⟨_, rfl⟩
    rw [hp] at d2 HF HFail HC FIN2
    clear h h0 hf hnx hp hQ h2 hB0 r0 r1 hW0 hz hlt
    go_enter Tryd.func151, Tryd.ntmps151
    go_wp2_with fail
    rw [← HW0.out]
    go_wp2_with (go_at_call 92; refine HG.out.mono ?_; rintro e w' ⟨rfl, rfl⟩)
    have BW : Below W0.heap.size W0 W0 := Below.refl _ _
    go_region_held3 (fun w' => w'.cell? ⟨b, 0, none⟩ = some (.slice A n c) ∧ w'.cell? ⟨b, 2, none⟩ = some (.int .i64 (p : Int)) ∧ Below W0.heap.size W0 w')
      (first
        | exact HS8.out
        | exact S_step hb0 HS8.out ((Below.refl _ _).alloc HS8.out.2.2.size _)
        | exact S_step hb0 HS8.out ((((((Below.refl _ _).setCell (p := ⟨W0.heap.size, 0, none⟩) (Nat.le_refl _) _).setCell (p := ⟨W0.heap.size, 1, none⟩) (Nat.le_refl _) _).setCell (p := ⟨W0.heap.size, 2, none⟩) (Nat.le_refl _) _).setCell (p := ⟨W0.heap.size, 3, none⟩) (Nat.le_refl _) _))
        | exact S_step hb0 ⟨d0, d2, BW⟩ (Below.refl _ _).drew
        | exact S_step hb0 ⟨d0, d2, BW⟩ ((Below.refl _ _).drew.alloc (by simp) _))
      ((first
        | ((try go_split_ands); (with_reducible refine (HF.out _ (by assumption)).mono ?_); rintro e w8 ⟨rfl, hbb⟩; have HBB := Lib.hid hbb; have HS8 := Lib.hid (by first | exact S_step hb0 (by assumption) (hbb.mono (Below.size (by assumption))) | exact S_step hb0 ⟨by assumption, by assumption, by assumption⟩ (hbb.mono (Below.size (by assumption))) : w8.cell? ⟨b, 0, none⟩ = some (.slice A n c) ∧ w8.cell? ⟨b, 2, none⟩ = some (.int .i64 (p : Int)) ∧ Below W0.heap.size W0 w8); (try (have hq := (hbb.block W0.heap.size (by simp)).trans (World.alloc_heap_new _ _); have q0 := cell_of_row _ _ 0 _ _ _ hq; have g0 := frozen_of_row _ _ 0 _ _ hq; have q1 := cell_of_row _ _ 1 _ _ _ hq; have g1 := frozen_of_row _ _ 1 _ _ hq; have q2 := cell_of_row _ _ 2 _ _ _ hq; have g2 := frozen_of_row _ _ 2 _ _ hq; have q3 := cell_of_row _ _ 3 _ _ _ hq; have g3 := frozen_of_row _ _ 3 _ _ hq; have HQ8 := Lib.hid hq; clear hq)); clear hbb)))
    all_goals
      first
        | (have hg : ((((w8.setCell ⟨W0.heap.size, 0, none⟩ (.int .i64 x0)).setCell ⟨W0.heap.size, 1, none⟩ (.slice none 0 0)).setCell ⟨W0.heap.size, 2, none⟩ (.slice none 0 0)).setCell ⟨W0.heap.size, 3, none⟩ (.slice none 0 0)).heap[W0.heap.size]? = some (.cells #[.int .i64 x0, .slice none 0 0, .slice none 0 0, .slice none 0 0] 27 (0, 0)) := by simpa using (heap_setCell_same _ _ 3 _ _ (.slice none 0 0) (heap_setCell_same _ _ 2 _ _ (.slice none 0 0) (heap_setCell_same _ _ 1 _ _ (.slice none 0 0) (heap_setCell_same _ _ 0 _ _ (.int .i64 x0) HQ8.out))))
           have hb : Below W0.heap.size W0 ((((w8.setCell ⟨W0.heap.size, 0, none⟩ (.int .i64 x0)).setCell ⟨W0.heap.size, 1, none⟩ (.slice none 0 0)).setCell ⟨W0.heap.size, 2, none⟩ (.slice none 0 0)).setCell ⟨W0.heap.size, 3, none⟩ (.slice none 0 0)) := HS8.out.2.2.trans (((((Below.refl _ _).setCell (p := ⟨W0.heap.size, 0, none⟩) (Nat.le_refl _) _).setCell (p := ⟨W0.heap.size, 1, none⟩) (Nat.le_refl _) _).setCell (p := ⟨W0.heap.size, 2, none⟩) (Nat.le_refl _) _).setCell (p := ⟨W0.heap.size, 3, none⟩) (Nat.le_refl _) _)
           obtain ⟨x, hx⟩ : ∃ x, x = ((((w8.setCell ⟨W0.heap.size, 0, none⟩ (.int .i64 x0)).setCell ⟨W0.heap.size, 1, none⟩ (.slice none 0 0)).setCell ⟨W0.heap.size, 2, none⟩ (.slice none 0 0)).setCell ⟨W0.heap.size, 3, none⟩ (.slice none 0 0)) := ⟨_, rfl⟩
           rw [← hx] at hg hb ⊢
           obtain ⟨g, hgg⟩ : ∃ g, g = W0.heap.size := ⟨_, rfl⟩
           have hgz : W0.heap.size ≤ g := by omega
           rw [← hgg] at hg
           simp only [← hgg])
        | (have hg : (w8.alloc (.cells #[.int .i64 x0, .slice none 0 0, .slice none 0 0, .slice none 0 0] 27)).heap[w8.heap.size]? = some (.cells #[.int .i64 x0, .slice none 0 0, .slice none 0 0, .slice none 0 0] 27 (0, 0)) := World.alloc_heap_new _ _
           have hb : Below W0.heap.size W0 (w8.alloc (.cells #[.int .i64 x0, .slice none 0 0, .slice none 0 0, .slice none 0 0] 27)) := HS8.out.2.2.alloc HS8.out.2.2.size _
           have hgz := HS8.out.2.2.size
           obtain ⟨x, hx⟩ : ∃ x, x = w8.alloc (.cells #[.int .i64 x0, .slice none 0 0, .slice none 0 0, .slice none 0 0] 27) := ⟨_, rfl⟩
           rw [← hx] at hg hb ⊢
           obtain ⟨g, hgg⟩ : ∃ g, g = w8.heap.size := ⟨_, rfl⟩
           rw [← hgg] at hg hgz ⊢)
      have HG8 := Lib.hid hg
      have HB8 := Lib.hid hb
      have HZ8 := Lib.hid hgz
      have hc := HC.out x hb
      obtain ⟨hc2, hf2⟩ := hc
      clear hg hb hx hgg hgz HS8
      try clear HQ8
      by_cases he0 : er = 0
      · have F := FIN.out x g HB8.out HG8.out HZ8.out he0
        subst he0
        have F1 := Lib.hid F.1
        have F2 := Lib.hid F.2.1
        have F3 := Lib.hid F.2.2.1
        have F4 := Lib.hid F.2.2.2
        clear F
        go_wp2_with (first
          | (refine wpList_load_row rfl 27 (.tmp 6) rfl g rfl _ _ _ _ F1.out Tryd.underlying27 rfl (by kernel_rfl) ?_)
          | (refine wpList_store_row rfl 27 (.tmp 4) (.tmp 44) rfl w.heap.size #[.int .i64 x0, .slice none 0 0, .slice none 0 0, .slice none 0 0] rfl rfl _ _ F2.out (by kernel_rfl) rfl (by simp [Value.oneCell']) ?_))
        refine bodyPost_ret (results_cell_row rfl _ _ w.heap.size _ _ (0, 0) _ rfl F3.out Tryd.underlying27 rfl (by as_aux_lemma => kernel_rfl)) rfl ?_
        exact F4.out
      · have hne : ((er : Int) != 0) = true := by simp; omega
        have HE := Lib.hid he0
        clear he0
        go_wp2_with (first
          | (go_at_call 47; (with_reducible refine (HFail.out x HB8.out).mono ?_); rintro e w9 ⟨rfl, hr, hk⟩; have F := FIN2.out x w9 HB8.out hr hk HE.out; have F1 := Lib.hid F.1; have F2 := Lib.hid F.2.1; have F3 := Lib.hid F.2.2.1; have F4 := Lib.hid F.2.2.2; clear F hr hk)
          | (refine wpList_load_row rfl 27 (.tmp 5) rfl (w.heap.size + 1) rfl _ _ _ _ F2.out Tryd.underlying27 rfl (by kernel_rfl) ?_)
          | (refine wpList_store_row rfl 27 (.tmp 4) (.tmp 38) rfl w.heap.size #[.int .i64 0, .slice none 0 0, .slice none 0 0, .slice none 0 0] rfl rfl _ _ F1.out (by kernel_rfl) rfl (by simp [Value.oneCell']) ?_))
        refine bodyPost_ret (results_cell_row rfl _ _ w.heap.size _ _ (0, 0) _ rfl F3.out Tryd.underlying27 rfl (by as_aux_lemma => kernel_rfl)) rfl ?_
        exact F4.out
  · have HG := Lib.hid (goes_any h2 false (by simp [h0]))
    have FIN : Hid (Q (.returned (.agg #[.int .i64 0, .slice none 0 0, .slice none 0 0, .slice none 0 0])) (W0.setRow w.heap.size #[.int .i64 0, .slice none 0 0, .slice none 0 0, .slice none 0 0])) := Lib.hid (by
      have hk : Keep (Db b) w (W0.setRow w.heap.size #[.int .i64 0, .slice none 0 0, .slice none 0 0, .slice none 0 0]) := Keep.of_below (below_setRow hB0 (Nat.le_refl _) _)
      rw [hQ]
      refine ⟨by rw [if_neg (fun e => h0 e.1)], ?_, hk⟩
      unfold Tb.step
      rw [if_neg h0]
      exact h.below (Nat.le_refl _) (below_setRow hB0 (Nat.le_refl _) _))
    have HR : Hid ((W0.setRow w.heap.size #[.int .i64 0, .slice none 0 0, .slice none 0 0, .slice none 0 0]).heap[w.heap.size]? = some (.cells #[.int .i64 0, .slice none 0 0, .slice none 0 0, .slice none 0 0] 27 (0, 0))) := Lib.hid (setRow_heap _ _ _ _ _ _ r0)
    have HW0 := Lib.hid hW0
    have R0 := Lib.hid r0
    have R1 := Lib.hid r1
    clear h h0 hf hnx hQ h2 hB0 r0 r1 hW0
    go_enter Tryd.func151, Tryd.ntmps151
    go_wp2_with fail
    rw [← HW0.out]
    go_wp2_with (first
      | (go_at_call 92; refine HG.out.mono ?_; rintro e w' ⟨rfl, rfl⟩)
      | (refine wpList_load_row rfl 27 (.tmp 5) rfl (w.heap.size + 1) rfl _ _ _ _ R1.out Tryd.underlying27 rfl (by kernel_rfl) ?_)
      | (refine wpList_store_row rfl 27 (.tmp 4) (.tmp 12) rfl w.heap.size #[.int .i64 0, .slice none 0 0, .slice none 0 0, .slice none 0 0] rfl rfl _ _ R0.out (by kernel_rfl) rfl (by simp [Value.oneCell']) ?_))
    refine bodyPost_ret (results_cell_row rfl _ _ w.heap.size _ _ (0, 0) _ rfl HR.out Tryd.underlying27 rfl (by as_aux_lemma => kernel_rfl)) rfl ?_
    exact FIN.out
end Go.Proofs.YtkdhjejchdcipaaDoor
/-
  Layer 6, code: the items of bytes: byteAt, U$1, S$1, countAt, Take$1, noneAt, mutAt, given, heapAt, shortAt.
-/
namespace Go.Proofs.YtkdhjejchdcipaaDoor
open Go.RowKit
set_option linter.unusedVariables false
set_option linter.unusedSimpArgs false
set_option maxRecDepth 100000

/-- The table of the heap types' kinds. -/
def Tab6 (W : World) : Prop := ∀ j : Nat, j < 12 → W.cell? ⟨1, j, none⟩ = some (.int .i64 (Tb.kinds.getD j 0))
theorem Tab6.below {W W' : World} (h : Tab6 W) (hb : Below W.heap.size W W') : Tab6 W' := fun j hj => by
  have hc := h j hj
  rw [hb.cell (p := ⟨1, j, none⟩) (World.block_lt_of_cell? W ⟨1, j, none⟩ hc)]
  exact hc
theorem Tab6.keep {D : Nat → Nat → Prop} {W W' : World} (h : Tab6 W) (hk : Keep D W W') (hD : ∀ o, ¬ D 1 o) : Tab6 W' := fun j hj => hk.cells _ _ _ (hD _) (h j hj)

section
variable {w : World} {A : Option Addr} {n c C : Nat} {l : List Nat}
theorem Bytes.byte (h : Bytes w C A n c l) {p : Nat} (hp : p < n) : ∃ bb off, A = some ⟨bb, off, none⟩ ∧ w.cell? ⟨bb, off + p, none⟩ = some (.int .u8 (l.getD p 0 : Int)) ∧ l.getD p 0 < 256 := by
  obtain ⟨bb, off, e, hbb, hc⟩ := h.2.2.2.2 (by omega)
  have h1 := h.1
  have e2 : l.getD p 0 = l[p]'(by omega) := by rw [List.getD_eq_getElem?_getD, List.getElem?_eq_getElem (by omega)]; rfl
  refine ⟨bb, off, e, by rw [hc p (by omega), e2], ?_⟩
  rw [e2]
  exact h.2.2.2.1 _ (List.getElem_mem _)
theorem Bytes.max (h : Bytes w C A n c l) : n ≤ 9223372036854775807 := by have h1 := h.2.1; have h2 := h.2.2.1; unfold maxLen at h2; omega
theorem wrap1 {p n : Nat} (hp : p < n) (hn : n ≤ 9223372036854775807) : IntKind.i64.wrap ((p : Int) + 1) = ((p + 1 : Nat) : Int) := by rw [IntWalk.i64_in _ (by omega)]; omega
/-- What a function of bytes tells: a value, a place, an error. -/
def Item (v : Value) (nx er : Nat) (w : World) (e : Ending) (w' : World) : Prop := e = .returned (.tuple #[v, .int .i64 (nx : Int), .int .i64 (er : Int)]) ∧ Below w.heap.size w w'
theorem item_end {v v' : Value} {a b : Int} {nx er : Nat} {w' : World} (h1 : v = v') (h2 : a = (nx : Int)) (h3 : b = (er : Int)) (hb : Below w.heap.size w w') : Item v' nx er w (.returned (.tuple #[v, .int .i64 a, .int .i64 b])) w' := by
  subst h1 h2 h3
  exact ⟨rfl, hb⟩
set_option maxHeartbeats 1000000 in
theorem byteAt_any (h : Bytes w C A n c l) {p : Nat} (hp : p ≤ n) : Calls Tryd.prog 66 #[.slice A n c, .int .i64 (p : Int)] w (Item (.int .u8 ((Tb.byteAt l p).1 : Int)) (Tb.byteAt l p).2.1 (Tb.byteAt l p).2.2 w) := by
  have hl := h.1
  have hm := h.max
  by_cases hlt : p < n
  · obtain ⟨bb, off, rfl, hc, hx⟩ := h.byte hlt
    have e : Tb.byteAt l p = (l.getD p 0, p + 1, 0) := by unfold Tb.byteAt; rw [if_pos (by omega)]
    rw [e]
    obtain ⟨y, hy⟩ : ∃ y, l.getD p 0 = y := ⟨_, rfl⟩
    rw [hy] at hc hx ⊢
    have hne : ((p : Int) == (n : Int)) = false := by rw [beq_eq_false_iff_ne]; omega
    have hi1 : (0 : Int) ≤ (p : Int) := by omega
    have hi2 : (p : Int) < (n : Int) := by omega
    have hw := wrap1 hlt hm
    have HW := Lib.hid hw
    clear h hl e hy hp hlt
    go_enter Tryd.func66, Tryd.ntmps66
    go_wp2
    go_ret3
    exact item_end rfl (by first | rfl | omega) rfl (Below.refl _ _)
  · obtain rfl : p = n := by omega
    have e : Tb.byteAt l p = (0, 0, 10) := by unfold Tb.byteAt; rw [if_neg (by omega)]
    rw [e]
    clear h hl hp hlt e
    go_enter Tryd.func66, Tryd.ntmps66
    go_wp2
    go_ret3
    exact item_end rfl rfl rfl (Below.refl _ _)
set_option maxHeartbeats 1000000 in
theorem u1_any (h : Bytes w C A n c l) (p : Nat) {B : Nat} {bits : Int} (hb : w.cell? ⟨B, 0, none⟩ = some (.int .i64 bits)) : Calls Tryd.prog 68 #[.slice A n c, .int .i64 (p : Int), .pointer (some ⟨B, 0, none⟩)] w (Item (.int .u64 ((Tb.uAt bits l p).1 : Int)) (Tb.uAt bits l p).2.1 (Tb.uAt bits l p).2.2 w) := by
  obtain ⟨⟨x, y, z⟩, hq⟩ : ∃ q, told false l p bits = q := ⟨_, rfl⟩
  have hU := Lib.hid (U_at A n c l C p bits w x y z h hq)
  unfold Tb.uAt
  rw [hq]
  clear h hq
  go_enter Tryd.func68, Tryd.ntmps68
  go_wp2_with (refine hU.out.mono ?_; rintro e w' ⟨rfl, k, rfl⟩)
  go_ret3
  exact item_end rfl rfl rfl (below_drewN (Below.refl _ _) _)
set_option maxHeartbeats 1000000 in
theorem s1_any (h : Bytes w C A n c l) (p : Nat) {B : Nat} {bits : Int} (hb : w.cell? ⟨B, 0, none⟩ = some (.int .i64 bits)) : Calls Tryd.prog 72 #[.slice A n c, .int .i64 (p : Int), .pointer (some ⟨B, 0, none⟩)] w (Item (.int .i64 (Tb.sAt bits l p).1) (Tb.sAt bits l p).2.1 (Tb.sAt bits l p).2.2 w) := by
  obtain ⟨⟨x, y, z⟩, hq⟩ : ∃ q, told true l p bits = q := ⟨_, rfl⟩
  have hU := Lib.hid (S_at A n c l C p bits w _ x y z h hq rfl)
  unfold Tb.sAt
  rw [hq]
  clear h hq
  go_enter Tryd.func72, Tryd.ntmps72
  go_wp2_with (refine hU.out.mono ?_; rintro e w' ⟨rfl, k, rfl⟩)
  go_ret3
  exact item_end rfl rfl rfl (below_drewN (Below.refl _ _) _)
set_option maxHeartbeats 2000000 in
theorem countAt_any (h : Bytes w C A n c l) (p : Nat) : Calls Tryd.prog 79 #[.slice A n c, .int .i64 (p : Int)] w (Item (.int .i64 ((Tb.countAt l p).1 : Int)) (Tb.countAt l p).2.1 (Tb.countAt l p).2.2 w) := by
  have hnx := told_next l p
  have hlt := told_lt false l p 32
  have hl := h.1
  have hm := h.max
  obtain ⟨⟨x, y, z⟩, hq⟩ : ∃ q, told false l p 32 = q := ⟨_, rfl⟩
  have hU := Lib.hid (U_at A n c l C p 32 w x y z h hq)
  unfold Tb.countAt
  rw [hq] at hnx hlt ⊢
  dsimp only at hnx hlt ⊢
  rw [hl] at hnx ⊢
  clear h hq hl
  by_cases h0 : z = 0
  · subst h0
    have hy := hnx rfl
    rw [if_pos rfl]
    have hy2 : (y : Int) ≤ (n : Int) := by omega
    by_cases hg : n - y < x
    · rw [if_pos hg]
      have hv2 : (n : Int) - (y : Int) < (x : Int) := by omega
      clear hnx hg
      go_enter Tryd.func79, Tryd.ntmps79
      go_wp2_with (refine hU.out.mono ?_; rintro e w' ⟨rfl, k, rfl⟩)
      go_ret3
      exact item_end rfl rfl rfl (below_drewN (Below.refl _ _) _)
    · rw [if_neg hg]
      have hv2 : (x : Int) ≤ (n : Int) - (y : Int) := by omega
      clear hnx hg
      go_enter Tryd.func79, Tryd.ntmps79
      go_wp2_with (refine hU.out.mono ?_; rintro e w' ⟨rfl, k, rfl⟩)
      go_ret3
      exact item_end rfl rfl rfl (below_drewN (Below.refl _ _) _)
  · rw [if_neg h0]
    have hz1 : ((z : Int) == 0) = false := by rw [beq_eq_false_iff_ne]; omega
    have hz2 : ((z : Int) != 0) = true := by simp; omega
    clear hnx h0
    go_enter Tryd.func79, Tryd.ntmps79
    go_wp2_with (refine hU.out.mono ?_; rintro e w' ⟨rfl, k, rfl⟩)
    go_ret3
    exact item_end rfl rfl rfl (below_drewN (Below.refl _ _) _)
set_option maxHeartbeats 1000000 in
theorem noneB_any (h : Bytes w C A n c l) (p : Nat) : Calls Tryd.prog 184 #[.slice A n c, .int .i64 (p : Int)] w (Item (.bool (Tb.noneAt false l p).1) (Tb.noneAt false l p).2.1 (Tb.noneAt false l p).2.2 w) := by
  have hl := h.1
  unfold Tb.noneAt
  rw [hl]
  clear h hl
  by_cases hp : p = n
  · rw [if_pos hp]
    have hd : ((p : Int) == (n : Int)) = true := by simp; omega
    clear hp
    go_enter Tryd.func184, Tryd.ntmps184
    go_wp2
    go_ret3
    exact item_end rfl rfl rfl (Below.refl _ _)
  · rw [if_neg hp]
    have hd : ((p : Int) == (n : Int)) = false := by rw [beq_eq_false_iff_ne]; omega
    clear hp
    go_enter Tryd.func184, Tryd.ntmps184
    go_wp2
    go_ret3
    exact item_end rfl rfl rfl (Below.refl _ _)
set_option maxHeartbeats 2000000 in
theorem mutAt_any (h : Bytes w C A n c l) {p : Nat} (hp : p ≤ n) : Calls Tryd.prog 174 #[.slice A n c, .int .i64 (p : Int)] w (Item (.bool (Tb.mutAt l p).1) (Tb.mutAt l p).2.1 (Tb.mutAt l p).2.2 w) := by
  have hl := h.1
  have hm := h.max
  have HN := Lib.hid (noneB_any h p)
  by_cases hlt : p < n
  · obtain ⟨bb, off, rfl, hc, hx⟩ := h.byte hlt
    obtain ⟨y, hy⟩ : ∃ y, l.getD p 0 = y := ⟨_, rfl⟩
    have hi1 : (0 : Int) ≤ (p : Int) := by omega
    have hi2 : (p : Int) < (n : Int) := by omega
    have hw := wrap1 hlt hm
    unfold Tb.mutAt
    rw [hl, hy]
    rw [hy] at hc hx
    by_cases h1 : y ≤ 1
    · rw [if_pos ⟨hlt, h1⟩]
      clear h hl hy hp hlt HN hm
      have h01 : y = 0 ∨ y = 1 := by omega
      rcases h01 with rfl | rfl
      all_goals
        clear h1 hx
        go_enter Tryd.func174, Tryd.ntmps174
        go_wp2
        go_ret3
        exact item_end rfl (by first | rfl | omega) rfl (Below.refl _ _)
    · rw [if_neg (fun e => h1 e.2)]
      have hd0 : ((y : Int) == 0) = false := by rw [beq_eq_false_iff_ne]; omega
      have hd1 : ((y : Int) == 1) = false := by rw [beq_eq_false_iff_ne]; omega
      obtain ⟨q, hq⟩ : ∃ q, Tb.noneAt false l p = q := ⟨_, rfl⟩
      rw [hq] at HN ⊢
      clear h hl hy hp hlt hm h1 hw hq
      go_enter Tryd.func174, Tryd.ntmps174
      go_wp2_with (go_at_call 184; refine HN.out.mono ?_; rintro e w' ⟨rfl, hb⟩)
      go_ret3
      exact item_end rfl rfl rfl hb
  · have hpn : p = n := by omega
    subst hpn
    unfold Tb.mutAt
    rw [hl, if_neg (fun e => hlt e.1)]
    obtain ⟨q, hq⟩ : ∃ q, Tb.noneAt false l p = q := ⟨_, rfl⟩
    rw [hq] at HN ⊢
    clear h hl hp hlt hm hq
    go_enter Tryd.func174, Tryd.ntmps174
    go_wp2_with (go_at_call 184; refine HN.out.mono ?_; rintro e w' ⟨rfl, hb⟩)
    go_ret3
    exact item_end rfl rfl rfl hb
end
end Go.Proofs.YtkdhjejchdcipaaDoor
/-
  Layer 6, code: the items of bytes that tell structs: given, noneAt, heapAt, shortAt; Take$1.
-/
namespace Go.Proofs.YtkdhjejchdcipaaDoor
open Go.RowKit
set_option linter.unusedVariables false
set_option linter.unusedSimpArgs false
set_option maxRecDepth 100000

theorem results_row_two {P : Program} {fn : Func} {p t1 : Tmp} {ty : TypeId} (h : fn.results = #[.cell p ty, .tmp t1]) (tmps : Array Value) (w : World) (g : Nat) (t : TypeId) (cs : Array Value) (fr : Nat × Nat) (d : TypeDesc)
    (hp : tmps.getD p undef = .pointer (some ⟨g, 0, none⟩)) (hg : w.heap[g]? = some (.cells cs t fr))
    (hu : P.underlying ty = some d) (hd : (match d with | .struct _ | .array _ _ => true | _ => false) = true) (hi : (P.info? ty).map (·.size) = some cs.size) :
    (results fn tmps).run P w = .ok (.tuple #[.agg cs, tmps.getD t1 undef]) w := by
  have hp' : tmps[p]?.getD undef = .pointer (some ⟨g, 0, none⟩) := by simpa using hp
  simp [results, h, hp', asAddr, run_loadVar_row w g t ty cs fr d hg hu hd hi]
theorem results_row_three {P : Program} {fn : Func} {p t1 t2 : Tmp} {ty : TypeId} (h : fn.results = #[.cell p ty, .tmp t1, .tmp t2]) (tmps : Array Value) (w : World) (g : Nat) (t : TypeId) (cs : Array Value) (fr : Nat × Nat) (d : TypeDesc)
    (hp : tmps.getD p undef = .pointer (some ⟨g, 0, none⟩)) (hg : w.heap[g]? = some (.cells cs t fr))
    (hu : P.underlying ty = some d) (hd : (match d with | .struct _ | .array _ _ => true | _ => false) = true) (hi : (P.info? ty).map (·.size) = some cs.size) :
    (results fn tmps).run P w = .ok (.tuple #[.agg cs, tmps.getD t1 undef, tmps.getD t2 undef]) w := by
  have hp' : tmps[p]?.getD undef = .pointer (some ⟨g, 0, none⟩) := by simpa using hp
  simp [results, h, hp', asAddr, run_loadVar_row w g t ty cs fr d hg hu hd hi]

section
variable {w : World} {A : Option Addr} {n c C : Nat} {l : List Nat}
/-- A struct variable was laid, and is written whole. -/
theorem new_row (w : World) (z cs : Array Value) (t : TypeId) : ((w.alloc (.cells z t)).setRow w.heap.size cs).heap[w.heap.size]? = some (.cells cs t (0, 0)) := setRow_heap _ _ _ _ _ _ (World.alloc_heap_new _ _)
theorem new_row_below (w : World) (z cs : Array Value) (t : TypeId) : Below w.heap.size w ((w.alloc (.cells z t)).setRow w.heap.size cs) := below_setRow ((Below.refl _ _).alloc (Nat.le_refl _) _) (Nat.le_refl _) _
def Two (v v2 : Value) (w : World) (e : Ending) (w' : World) : Prop := e = .returned (.tuple #[v, v2]) ∧ Below w.heap.size w w'
set_option maxHeartbeats 2000000 in
theorem given_any (h : Bytes w C A n c l) (hT : Tab6 w) {p : Nat} (hp : p ≤ n) (g : Bool) (hg : Tb.isGiven l p = g) : Calls Tryd.prog 115 #[.slice A n c, .int .i64 (p : Int)] w (Two (.agg #[.int .i64 (Tb.given l p).k, .int .i64 (Tb.given l p).n]) (.bool g) w) := by
  have hl := h.1
  have hm := h.max
  have HR0 := Lib.hid (new_row w #[.int .i64 0, .int .i64 0] #[.int .i64 (Tb.given l p).k, .int .i64 (Tb.given l p).n] 39)
  have HB0 := Lib.hid (new_row_below w #[.int .i64 0, .int .i64 0] #[.int .i64 (Tb.given l p).k, .int .i64 (Tb.given l p).n] 39)
  have HA : Hid ((w.alloc (.cells #[.int .i64 0, .int .i64 0] 39)).heap[w.heap.size]? = some (.cells #[.int .i64 0, .int .i64 0] 39 (0, 0))) := Lib.hid (World.alloc_heap_new _ _)
  by_cases hlt : p < n
  · obtain ⟨bb, off, rfl, hc, hx⟩ := h.byte hlt
    have hgy : g = (decide (105 ≤ l.getD p 0) && decide (l.getD p 0 < 117)) := by rw [← hg]; unfold Tb.isGiven; rw [hl]; simp [hlt]
    have hcg : Tb.given l p = if g = true then ⟨Tb.kinds.getD (l.getD p 0 - 105) 0, 0⟩ else ⟨0, 0⟩ := by unfold Tb.given; rw [hg]
    obtain ⟨y, hy⟩ : ∃ y, l.getD p 0 = y := ⟨_, rfl⟩
    rw [hy] at hc hx hgy hcg
    have hi1 : (0 : Int) ≤ (p : Int) := by omega
    have hi2 : (p : Int) < (n : Int) := by omega
    have hne : ((p : Int) == (n : Int)) = false := by rw [beq_eq_false_iff_ne]; omega
    have hbb := World.block_lt_of_cell? w ⟨bb, off + p, none⟩ hc
    cases g with
    | true =>
      rw [if_pos rfl] at hcg
      have hr : 105 ≤ y ∧ y < 117 := by simpa using hgy.symm
      have hr1 : (105 : Int) ≤ (y : Int) := by omega
      have hr2 : (y : Int) < 117 := by omega
      have hs : IntKind.u8.wrap ((y : Int) - 105) = ((y - 105 : Nat) : Int) := by rw [IntWalk.u8_in _ (by omega)]; omega
      rw [hcg] at HR0 HB0 ⊢
      dsimp only at HR0 HB0 ⊢
      have hk := hT (y - 105) (by omega)
      obtain ⟨j, hj⟩ : ∃ j, y - 105 = j := ⟨_, rfl⟩
      rw [hj] at hk hs HR0 HB0 ⊢
      have hj1 : (0 : Int) ≤ (j : Int) := by omega
      have hj2 : (j : Int) < 12 := by omega
      have hyj : (y : Int) - 105 = (j : Int) := by omega
      obtain ⟨k, hkk⟩ : ∃ k, Tb.kinds.getD j 0 = k := ⟨_, rfl⟩
      rw [hkk] at hk HR0 HB0 ⊢
      have hgl := World.block_lt_of_cell? w ⟨1, j, none⟩ hk
      dsimp only at hgl hbb
      have HJ := Lib.hid hyj
      clear h hl hm hg hgy hcg hy hp hlt hT hr hkk hj hyj
      go_enter Tryd.func115, Tryd.ntmps115
      go_wp2_with (refine wpList_store_row rfl 39 (.tmp 4) (.tmp 33) rfl w.heap.size #[.int .i64 k, .int .i64 0] rfl rfl _ _ HA.out (by kernel_rfl) rfl (by simp [Value.oneCell']) ?_)
      exact bodyPost_ret (results_row_two rfl _ _ w.heap.size _ _ (0, 0) _ rfl HR0.out Tryd.underlying39 rfl (by as_aux_lemma => kernel_rfl)) rfl ⟨rfl, HB0.out⟩
    | false =>
      rw [if_neg (by simp)] at hcg
      rw [hcg] at HR0 HB0 ⊢
      dsimp only at HR0 HB0 ⊢
      have hr : y < 105 ∨ 117 ≤ y := by have := hgy; simp at this; omega
      clear h hl hm hg hgy hcg hy hp hlt hT
      rcases hr with hr | hr
      · have hr1 : (y : Int) < 105 := by omega
        clear hr
        go_enter Tryd.func115, Tryd.ntmps115
        go_wp2_with (refine wpList_store_row rfl 39 (.tmp 4) (.tmp 25) rfl w.heap.size #[.int .i64 0, .int .i64 0] rfl rfl _ _ HA.out (by kernel_rfl) rfl (by simp [Value.oneCell']) ?_)
        exact bodyPost_ret (results_row_two rfl _ _ w.heap.size _ _ (0, 0) _ rfl HR0.out Tryd.underlying39 rfl (by as_aux_lemma => kernel_rfl)) rfl ⟨rfl, HB0.out⟩
      · have hr1 : (105 : Int) ≤ (y : Int) := by omega
        have hr2 : (117 : Int) ≤ (y : Int) := by omega
        clear hr
        go_enter Tryd.func115, Tryd.ntmps115
        go_wp2_with (refine wpList_store_row rfl 39 (.tmp 4) (.tmp 25) rfl w.heap.size #[.int .i64 0, .int .i64 0] rfl rfl _ _ HA.out (by kernel_rfl) rfl (by simp [Value.oneCell']) ?_)
        exact bodyPost_ret (results_row_two rfl _ _ w.heap.size _ _ (0, 0) _ rfl HR0.out Tryd.underlying39 rfl (by as_aux_lemma => kernel_rfl)) rfl ⟨rfl, HB0.out⟩
  · have hpn : p = n := by omega
    subst hpn
    have hgf : g = false := by rw [← hg]; unfold Tb.isGiven; rw [hl]; simp
    subst hgf
    have hcg : Tb.given l p = ⟨0, 0⟩ := by unfold Tb.given; rw [hg]; rfl
    rw [hcg] at HR0 HB0 ⊢
    dsimp only at HR0 HB0 ⊢
    clear h hl hm hg hcg hp hlt hT
    go_enter Tryd.func115, Tryd.ntmps115
    go_wp2_with (refine wpList_store_row rfl 39 (.tmp 4) (.tmp 25) rfl w.heap.size #[.int .i64 0, .int .i64 0] rfl rfl _ _ HA.out (by kernel_rfl) rfl (by simp [Value.oneCell']) ?_)
    exact bodyPost_ret (results_row_two rfl _ _ w.heap.size _ _ (0, 0) _ rfl HR0.out Tryd.underlying39 rfl (by as_aux_lemma => kernel_rfl)) rfl ⟨rfl, HB0.out⟩
set_option maxHeartbeats 2000000 in
theorem noneV_any (h : Bytes w C A n c l) (p : Nat) : Calls Tryd.prog 116 #[.slice A n c, .int .i64 (p : Int)] w (Item (.agg #[.int .i64 0, .bool false, .int .i64 0, .int .i64 0]) 0 (if p = n then 10 else 60) w) := by
  obtain ⟨W0, hW0⟩ : ∃ W0, W0 = (w.alloc (.cells #[.int .i64 0, .bool false, .int .i64 0, .int .i64 0] 46)).alloc (.cells #[.int .i64 0, .bool false, .int .i64 0, .int .i64 0] 46) := ⟨_, rfl⟩
  have hB0 : Below w.heap.size w W0 := by rw [hW0]; exact ((Below.refl _ _).alloc (Nat.le_refl _) _).alloc (by simp) _
  have R0 : Hid (W0.heap[w.heap.size]? = some (.cells #[.int .i64 0, .bool false, .int .i64 0, .int .i64 0] 46 (0, 0))) := Lib.hid (by rw [hW0]; exact heap_alloc2_old _ _ _)
  have R1 : Hid (W0.heap[w.heap.size + 1]? = some (.cells #[.int .i64 0, .bool false, .int .i64 0, .int .i64 0] 46 (0, 0))) := Lib.hid (by rw [hW0]; exact heap_alloc2_new _ _ _)
  have HB := Lib.hid hB0
  have HW0 := Lib.hid hW0
  clear hB0 hW0 h
  by_cases hp : p = n
  · rw [if_pos hp]
    have hd : ((p : Int) == (n : Int)) = true := by simp; omega
    clear hp
    go_enter Tryd.func116, Tryd.ntmps116
    go_wp2_with fail
    rw [← HW0.out]
    exact bodyPost_ret (results_row_three rfl _ _ w.heap.size _ _ (0, 0) _ rfl R0.out Tryd.underlying46 rfl (by as_aux_lemma => kernel_rfl)) rfl ⟨rfl, HB.out⟩
  · rw [if_neg hp]
    have hd : ((p : Int) == (n : Int)) = false := by rw [beq_eq_false_iff_ne]; omega
    clear hp
    go_enter Tryd.func116, Tryd.ntmps116
    go_wp2_with fail
    rw [← HW0.out]
    exact bodyPost_ret (results_row_three rfl _ _ w.heap.size _ _ (0, 0) _ rfl R0.out Tryd.underlying46 rfl (by as_aux_lemma => kernel_rfl)) rfl ⟨rfl, HB.out⟩
set_option maxHeartbeats 2000000 in
theorem noneC_any (h : Bytes w C A n c l) (p : Nat) : Calls Tryd.prog 152 #[.slice A n c, .int .i64 (p : Int)] w (Item (.agg #[.int .i64 0, .slice none 0 0, .slice none 0 0, .slice none 0 0]) 0 (if p = n then 10 else 60) w) := by
  obtain ⟨W0, hW0⟩ : ∃ W0, W0 = (w.alloc (.cells #[.int .i64 0, .slice none 0 0, .slice none 0 0, .slice none 0 0] 27)).alloc (.cells #[.int .i64 0, .slice none 0 0, .slice none 0 0, .slice none 0 0] 27) := ⟨_, rfl⟩
  have hB0 : Below w.heap.size w W0 := by rw [hW0]; exact ((Below.refl _ _).alloc (Nat.le_refl _) _).alloc (by simp) _
  have R0 : Hid (W0.heap[w.heap.size]? = some (.cells #[.int .i64 0, .slice none 0 0, .slice none 0 0, .slice none 0 0] 27 (0, 0))) := Lib.hid (by rw [hW0]; exact heap_alloc2_old _ _ _)
  have R1 : Hid (W0.heap[w.heap.size + 1]? = some (.cells #[.int .i64 0, .slice none 0 0, .slice none 0 0, .slice none 0 0] 27 (0, 0))) := Lib.hid (by rw [hW0]; exact heap_alloc2_new _ _ _)
  have HB := Lib.hid hB0
  have HW0 := Lib.hid hW0
  clear hB0 hW0 h
  by_cases hp : p = n
  · rw [if_pos hp]
    have hd : ((p : Int) == (n : Int)) = true := by simp; omega
    clear hp
    go_enter Tryd.func152, Tryd.ntmps152
    go_wp2_with fail
    rw [← HW0.out]
    exact bodyPost_ret (results_row_three rfl _ _ w.heap.size _ _ (0, 0) _ rfl R0.out Tryd.underlying27 rfl (by as_aux_lemma => kernel_rfl)) rfl ⟨rfl, HB.out⟩
  · rw [if_neg hp]
    have hd : ((p : Int) == (n : Int)) = false := by rw [beq_eq_false_iff_ne]; omega
    clear hp
    go_enter Tryd.func152, Tryd.ntmps152
    go_wp2_with fail
    rw [← HW0.out]
    exact bodyPost_ret (results_row_three rfl _ _ w.heap.size _ _ (0, 0) _ rfl R0.out Tryd.underlying27 rfl (by as_aux_lemma => kernel_rfl)) rfl ⟨rfl, HB.out⟩
set_option maxHeartbeats 4000000 in
theorem heapAt_any (h : Bytes w C A n c l) (hC : C ≤ w.heap.size) (hT : Tab6 w) {p : Nat} (hp : p ≤ n) : Calls Tryd.prog 83 #[.slice A n c, .int .i64 (p : Int)] w (Item (.agg #[.int .i64 (Tb.heapAt l p).1.k, .int .i64 (Tb.heapAt l p).1.n]) (Tb.heapAt l p).2.1 (Tb.heapAt l p).2.2 w) := by
  have hl := h.1
  have hm := h.max
  obtain ⟨W0, hW0⟩ : ∃ W0, W0 = w.alloc (.cells #[.int .i64 0, .int .i64 0] 39) := ⟨_, rfl⟩
  have hB0 : Below w.heap.size w W0 := by rw [hW0]; exact (Below.refl _ _).alloc (Nat.le_refl _) _
  have hz : W0.heap.size = w.heap.size + 1 := by rw [hW0]; simp
  have r0 : W0.heap[w.heap.size]? = some (.cells #[.int .i64 0, .int .i64 0] 39 (0, 0)) := by rw [hW0]; exact World.alloc_heap_new _ _
  obtain ⟨g, hg⟩ : ∃ g, Tb.isGiven l p = g := ⟨_, rfl⟩
  have hy0 := (h.more hC).below hB0
  have HG := Lib.hid (given_any hy0 (hT.below hB0) hp g hg)
  obtain ⟨gv, hgv⟩ : ∃ gv, Tb.given l p = gv := ⟨_, rfl⟩
  have HW0 := Lib.hid hW0
  rw [hgv] at HG
  cases g with
  | true =>
    have e : Tb.heapAt l p = (gv, p + 1, 0) := by unfold Tb.heapAt; rw [if_pos hg, hgv]
    rw [e]
    have hlt : p < n := by unfold Tb.isGiven at hg; rw [hl] at hg; simp at hg; exact hg.1
    have hw := wrap1 hlt hm
    have hi2 : (p : Int) < (n : Int) := by omega
    have FIN : Hid (∀ W, Below W0.heap.size W0 W → W.heap[w.heap.size]? = some (.cells #[.int .i64 0, .int .i64 0] 39 (0, 0)) ∧ (W.setRow w.heap.size #[.int .i64 gv.k, .int .i64 gv.n]).heap[w.heap.size]? = some (.cells #[.int .i64 gv.k, .int .i64 gv.n] 39 (0, 0)) ∧ Below w.heap.size w (W.setRow w.heap.size #[.int .i64 gv.k, .int .i64 gv.n])) := Lib.hid fun W hW => by
      have e0 := (hW.block _ (by omega)).trans r0
      exact ⟨e0, setRow_heap _ _ _ _ _ _ e0, below_setRow (hB0.trans (hW.mono (by omega))) (Nat.le_refl _) _⟩
    clear h hy0 hT hp hg hgv hl hB0 hW0 hz r0 e hlt
    go_enter Tryd.func83, Tryd.ntmps83
    go_wp2_with fail
    rw [← HW0.out]
    go_wp2_with (first
      | (go_at_call 115; refine HG.out.mono ?_; rintro e w1 ⟨rfl, hb1⟩; have F := FIN.out (w1.alloc (.cells #[.int .i64 gv.k, .int .i64 gv.n] 39)) (hb1.alloc hb1.size _); have F1 := Lib.hid F.1; have F2 := Lib.hid F.2.1; have F3 := Lib.hid F.2.2; clear F hb1)
      | (refine wpList_store_row rfl 39 (.tmp 4) (.tmp 19) rfl w.heap.size #[.int .i64 gv.k, .int .i64 gv.n] rfl rfl _ _ F1.out (by kernel_rfl) rfl (by simp [Value.oneCell']) ?_))
    refine bodyPost_ret (results_row_three rfl _ _ w.heap.size _ _ (0, 0) _ rfl F2.out Tryd.underlying39 rfl (by as_aux_lemma => kernel_rfl)) rfl ?_
    exact item_end rfl rfl rfl F3.out
  | false =>
    obtain ⟨⟨x, y, z⟩, hq⟩ : ∃ q, told true l p 33 = q := ⟨_, rfl⟩
    obtain ⟨sx, hsx⟩ : ∃ sx, Leb.sOf x = sx := ⟨_, rfl⟩
    have HS : Hid (∀ W, Below W0.heap.size W0 W → Calls Tryd.prog 73 #[.slice A n c, .int .i64 (p : Int), .int .i64 33] W fun e w' => e = .returned (.tuple #[.int .i64 sx, .int .i64 (y : Int), .int .i64 (z : Int)]) ∧ ∃ k, w' = W.drewN k) := Lib.hid fun W hW =>
      S_at A n c l W.heap.size p 33 W sx x y z ((hy0.below (hW.mono (by omega))).more (by have := hW.size; omega)) hq hsx
    have e : Tb.heapAt l p = (if z = 0 then (if sx < 0 then (⟨0, 0⟩, 0, 60) else (⟨13, sx⟩, y, 0)) else (⟨0, 0⟩, 0, z)) := by unfold Tb.heapAt; rw [if_neg (by rw [hg]; simp), hq, ← hsx]
    rw [e]
    have FIN : Hid (∀ (W : World) (a b : Int), Below W0.heap.size W0 W → W.heap[w.heap.size]? = some (.cells #[.int .i64 0, .int .i64 0] 39 (0, 0)) ∧ (W.setRow w.heap.size #[.int .i64 a, .int .i64 b]).heap[w.heap.size]? = some (.cells #[.int .i64 a, .int .i64 b] 39 (0, 0)) ∧ Below w.heap.size w (W.setRow w.heap.size #[.int .i64 a, .int .i64 b])) := Lib.hid fun W a b hW => by
      have e0 := (hW.block _ (by omega)).trans r0
      exact ⟨e0, setRow_heap _ _ _ _ _ _ e0, below_setRow (hB0.trans (hW.mono (by omega))) (Nat.le_refl _) _⟩
    clear h hy0 hT hp hg hgv hl hB0 hW0 hz r0 e hq hsx hm
    by_cases hz0 : z = 0
    · subst hz0
      rw [if_pos rfl]
      by_cases hs0 : sx < 0
      · rw [if_pos hs0]
        go_enter Tryd.func83, Tryd.ntmps83
        go_wp2_with fail
        rw [← HW0.out]
        go_wp2_with (first
          | (go_at_call 115; refine HG.out.mono ?_; rintro e w1 ⟨rfl, hb1⟩; have HB1 := Lib.hid (hb1.alloc hb1.size (.cells #[.int .i64 gv.k, .int .i64 gv.n] 39)); clear hb1)
          | (go_at_call 73; refine (HS.out _ HB1.out).mono ?_; rintro e w2 ⟨rfl, k, rfl⟩; have F := FIN.out _ 0 0 (below_drewN HB1.out k); have F1 := Lib.hid F.1; have F2 := Lib.hid F.2.1; have F3 := Lib.hid F.2.2; clear F)
          | (refine wpList_store_row rfl 39 (.tmp 4) (.tmp 37) rfl w.heap.size #[.int .i64 0, .int .i64 0] rfl rfl _ _ F1.out (by kernel_rfl) rfl (by simp [Value.oneCell']) ?_))
        refine bodyPost_ret (results_row_three rfl _ _ w.heap.size _ _ (0, 0) _ rfl F2.out Tryd.underlying39 rfl (by as_aux_lemma => kernel_rfl)) rfl ?_
        exact item_end rfl rfl rfl F3.out
      · rw [if_neg hs0]
        have hs1 : 0 ≤ sx := by omega
        go_enter Tryd.func83, Tryd.ntmps83
        go_wp2_with fail
        rw [← HW0.out]
        go_wp2_with (first
          | (go_at_call 115; refine HG.out.mono ?_; rintro e w1 ⟨rfl, hb1⟩; have HB1 := Lib.hid (hb1.alloc hb1.size (.cells #[.int .i64 gv.k, .int .i64 gv.n] 39)); clear hb1)
          | (go_at_call 73; refine (HS.out _ HB1.out).mono ?_; rintro e w2 ⟨rfl, k, rfl⟩; have F := FIN.out _ 13 sx (below_drewN HB1.out k); have F1 := Lib.hid F.1; have F2 := Lib.hid F.2.1; have F3 := Lib.hid F.2.2; clear F)
          | (refine wpList_store_row rfl 39 (.tmp 4) (.tmp 40) rfl w.heap.size #[.int .i64 13, .int .i64 sx] rfl rfl _ _ F1.out (by kernel_rfl) rfl (by simp [Value.oneCell']) ?_))
        refine bodyPost_ret (results_row_three rfl _ _ w.heap.size _ _ (0, 0) _ rfl F2.out Tryd.underlying39 rfl (by as_aux_lemma => kernel_rfl)) rfl ?_
        exact item_end rfl rfl rfl F3.out
    · rw [if_neg hz0]
      have hz1 : ((z : Int) == 0) = false := by rw [beq_eq_false_iff_ne]; omega
      have hz2 : ((z : Int) != 0) = true := by simp; omega
      clear hz0
      go_enter Tryd.func83, Tryd.ntmps83
      go_wp2_with fail
      rw [← HW0.out]
      go_wp2_with (first
        | (go_at_call 115; refine HG.out.mono ?_; rintro e w1 ⟨rfl, hb1⟩; have HB1 := Lib.hid (hb1.alloc hb1.size (.cells #[.int .i64 gv.k, .int .i64 gv.n] 39)); clear hb1)
        | (go_at_call 73; refine (HS.out _ HB1.out).mono ?_; rintro e w2 ⟨rfl, k, rfl⟩; have F := FIN.out _ 0 0 (below_drewN HB1.out k); have F1 := Lib.hid F.1; have F2 := Lib.hid F.2.1; have F3 := Lib.hid F.2.2; clear F)
        | (refine wpList_store_row rfl 39 (.tmp 4) (.tmp 37) rfl w.heap.size #[.int .i64 0, .int .i64 0] rfl rfl _ _ F1.out (by kernel_rfl) rfl (by simp [Value.oneCell']) ?_))
      refine bodyPost_ret (results_row_three rfl _ _ w.heap.size _ _ (0, 0) _ rfl F2.out Tryd.underlying39 rfl (by as_aux_lemma => kernel_rfl)) rfl ?_
      exact item_end rfl rfl rfl F3.out
set_option maxHeartbeats 4000000 in
theorem shortAt_any (h : Bytes w C A n c l) (hC : C ≤ w.heap.size) (hT : Tab6 w) {p : Nat} (hp : p ≤ n) :
    Calls Tryd.prog 88 #[.slice A n c, .int .i64 (p : Int)] w (Item (Tb.shortAt l p).1.val (Tb.shortAt l p).2.1 (Tb.shortAt l p).2.2 w) := by
  unfold Vl.val
  have hl := h.1
  have hm := h.max
  obtain ⟨W0, hW0⟩ : ∃ W0, W0 = w.alloc (.cells #[.int .i64 0, .bool false, .int .i64 0, .int .i64 0] 46) := ⟨_, rfl⟩
  have hB0 : Below w.heap.size w W0 := by rw [hW0]; exact (Below.refl _ _).alloc (Nat.le_refl _) _
  have hz : W0.heap.size = w.heap.size + 1 := by rw [hW0]; simp
  have r0 : W0.heap[w.heap.size]? = some (.cells #[.int .i64 0, .bool false, .int .i64 0, .int .i64 0] 46 (0, 0)) := by rw [hW0]; exact World.alloc_heap_new _ _
  obtain ⟨g, hg⟩ : ∃ g, Tb.isGiven l p = g := ⟨_, rfl⟩
  have hy0 := (h.more hC).below hB0
  have HG := Lib.hid (given_any hy0 (hT.below hB0) hp g hg)
  obtain ⟨gv, hgv⟩ : ∃ gv, Tb.given l p = gv := ⟨_, rfl⟩
  have HW0 := Lib.hid hW0
  rw [hgv] at HG
  have FIN : Hid (∀ (W : World) (a : Int) (u : Bool) (b d : Int), Below W0.heap.size W0 W → W.heap[w.heap.size]? = some (.cells #[.int .i64 0, .bool false, .int .i64 0, .int .i64 0] 46 (0, 0)) ∧ (W.setRow w.heap.size #[.int .i64 a, .bool u, .int .i64 b, .int .i64 d]).heap[w.heap.size]? = some (.cells #[.int .i64 a, .bool u, .int .i64 b, .int .i64 d] 46 (0, 0)) ∧ Below w.heap.size w (W.setRow w.heap.size #[.int .i64 a, .bool u, .int .i64 b, .int .i64 d])) := Lib.hid fun W a u b d hW => by
    have e0 := (hW.block _ (by omega)).trans r0
    exact ⟨e0, setRow_heap _ _ _ _ _ _ e0, below_setRow (hB0.trans (hW.mono (by omega))) (Nat.le_refl _) _⟩
  have HY : Hid (∀ W, Below W0.heap.size W0 W → Bytes W W.heap.size A n c l) := Lib.hid fun W hW => (hy0.below (hW.mono (by omega))).more (by have := hW.size; omega)
  cases g with
  | true =>
    have e : Tb.shortAt l p = (⟨3, true, gv⟩, p + 1, 0) := by unfold Tb.shortAt; rw [if_pos hg, hgv]
    rw [e]
    have hlt : p < n := by unfold Tb.isGiven at hg; rw [hl] at hg; simp at hg; exact hg.1
    have hw := wrap1 hlt hm
    have hi2 : (p : Int) < (n : Int) := by omega
    clear h hy0 hT hp hg hgv hl hB0 hW0 hz r0 e hlt
    go_enter Tryd.func88, Tryd.ntmps88
    go_wp2_with fail
    rw [← HW0.out]
    go_wp2_with (first
      | (go_at_call 115; refine HG.out.mono ?_; rintro e w1 ⟨rfl, hb1⟩; have F := FIN.out (w1.alloc (.cells #[.int .i64 gv.k, .int .i64 gv.n] 39)) 3 true gv.k gv.n (hb1.alloc hb1.size _); have F1 := Lib.hid F.1; have F2 := Lib.hid F.2.1; have F3 := Lib.hid F.2.2; clear F hb1)
      | (refine wpList_store_row rfl 46 (.tmp 4) (.tmp 17) rfl w.heap.size #[.int .i64 3, .bool true, .int .i64 gv.k, .int .i64 gv.n] rfl rfl _ _ F1.out (by kernel_rfl) rfl (by simp [Value.oneCell']) ?_))
    refine bodyPost_ret (results_row_three rfl _ _ w.heap.size _ _ (0, 0) _ rfl F2.out Tryd.underlying46 rfl (by as_aux_lemma => kernel_rfl)) rfl ?_
    exact item_end rfl rfl rfl F3.out
  | false =>
    have HN : Hid (∀ W, Below W0.heap.size W0 W → Calls Tryd.prog 116 #[.slice A n c, .int .i64 (p : Int)] W (Item (.agg #[.int .i64 0, .bool false, .int .i64 0, .int .i64 0]) 0 (if p = n then 10 else 60) W)) := Lib.hid fun W hW => noneV_any (HY.out W hW) p
    by_cases hlt : p < n
    · obtain ⟨bb, off, rfl, hc, hx⟩ := h.byte hlt
      have hbb := World.block_lt_of_cell? w ⟨bb, off + p, none⟩ hc
      dsimp only at hbb
      obtain ⟨y, hy⟩ : ∃ y, l.getD p 0 = y := ⟨_, rfl⟩
      have e : Tb.shortAt l p = if 123 ≤ y ∧ y ≤ 125 then (Tb.noVal, 0, 61) else (Tb.noVal, 0, if p = n then 10 else 60) := by
        unfold Tb.shortAt Tb.noneAt
        rw [if_neg (by rw [hg]; simp), hl, hy]
        by_cases h1 : 123 ≤ y ∧ y ≤ 125
        · rw [if_pos ⟨hlt, h1⟩, if_pos h1]
        · rw [if_neg (fun e => h1 e.2), if_neg h1]; split <;> rfl
      rw [e]
      rw [hy] at hc hx
      have hcw : Hid (∀ W, Below W0.heap.size W0 W → W.cell? ⟨bb, off + p, none⟩ = some (.int .u8 (y : Int))) := Lib.hid fun W hW => (hW.cell (p := ⟨bb, off + p, none⟩) (by dsimp only; omega)).trans ((hB0.cell (p := ⟨bb, off + p, none⟩) hbb).trans hc)
      have hi1 : (0 : Int) ≤ (p : Int) := by omega
      have hi2 : (p : Int) < (n : Int) := by omega
      by_cases h1 : 123 ≤ y ∧ y ≤ 125
      · rw [if_pos h1]
        have hy1 : (123 : Int) ≤ (y : Int) := by omega
        have hy2 : (y : Int) ≤ 125 := by omega
        clear h hy0 hT hp hg hgv hl hB0 hW0 hz r0 e hlt hm h1 hc hy HN
        go_enter Tryd.func88, Tryd.ntmps88
        go_wp2_with fail
        rw [← HW0.out]
        go_wp2_with (first
          | (go_at_call 115; refine HG.out.mono ?_; rintro e w1 ⟨rfl, hb1⟩; have hbq := hb1.alloc hb1.size (.cells #[.int .i64 gv.k, .int .i64 gv.n] 39); have hcc := hcw.out _ hbq; have F := FIN.out _ 0 false 0 0 hbq; have F1 := Lib.hid F.1; have F2 := Lib.hid F.2.1; have F3 := Lib.hid F.2.2; clear F hb1 hbq)
          | (refine wpList_store_row rfl 46 (.tmp 4) (.tmp 38) rfl w.heap.size #[.int .i64 0, .bool false, .int .i64 0, .int .i64 0] rfl rfl _ _ F1.out (by kernel_rfl) rfl (by simp [Value.oneCell']) ?_))
        refine bodyPost_ret (results_row_three rfl _ _ w.heap.size _ _ (0, 0) _ rfl F2.out Tryd.underlying46 rfl (by as_aux_lemma => kernel_rfl)) rfl ?_
        exact item_end rfl rfl rfl F3.out
      · rw [if_neg h1]
        obtain ⟨er, her⟩ : ∃ er, (if p = n then 10 else 60) = er := ⟨_, rfl⟩
        rw [her] at HN ⊢
        have hyy : (y : Int) < 123 ∨ ((123 : Int) ≤ (y : Int) ∧ (125 : Int) < (y : Int)) := by omega
        clear h hy0 hT hp hg hgv hl hB0 hW0 hz r0 e hlt hm h1 hc hy her
        rcases hyy with hy1 | ⟨hy1, hy2⟩
        all_goals
          go_enter Tryd.func88, Tryd.ntmps88
          go_wp2_with fail
          rw [← HW0.out]
          go_wp2_with (first
            | (go_at_call 115; refine HG.out.mono ?_; rintro e w1 ⟨rfl, hb1⟩; have hbq := hb1.alloc hb1.size (.cells #[.int .i64 gv.k, .int .i64 gv.n] 39); have hcc := hcw.out _ hbq; have HBQ := Lib.hid hbq; clear hb1 hbq)
            | (go_at_call 116; refine (HN.out _ HBQ.out).mono ?_; rintro e w2 ⟨rfl, hb2⟩; have F := FIN.out _ 0 false 0 0 (HBQ.out.trans (hb2.mono HBQ.out.size)); have F1 := Lib.hid F.1; have F2 := Lib.hid F.2.1; have F3 := Lib.hid F.2.2; clear F hb2)
            | (refine wpList_store_row rfl 46 (.tmp 4) (.tmp 42) rfl w.heap.size #[.int .i64 0, .bool false, .int .i64 0, .int .i64 0] rfl rfl _ _ F1.out (by kernel_rfl) rfl (by simp [Value.oneCell']) ?_))
          refine bodyPost_ret (results_row_three rfl _ _ w.heap.size _ _ (0, 0) _ rfl F2.out Tryd.underlying46 rfl (by as_aux_lemma => kernel_rfl)) rfl ?_
          exact item_end rfl rfl rfl F3.out
    · have hpn : p = n := by omega
      subst hpn
      have e : Tb.shortAt l p = (Tb.noVal, 0, 10) := by
        unfold Tb.shortAt Tb.noneAt
        rw [if_neg (by rw [hg]; simp), hl, if_neg (fun e => hlt e.1), if_pos rfl]
      rw [e]
      rw [if_pos rfl] at HN
      clear h hy0 hT hp hg hgv hl hB0 hW0 hz r0 e hlt hm
      go_enter Tryd.func88, Tryd.ntmps88
      go_wp2_with fail
      rw [← HW0.out]
      go_wp2_with (first
        | (go_at_call 115; refine HG.out.mono ?_; rintro e w1 ⟨rfl, hb1⟩; have HBQ := Lib.hid (hb1.alloc hb1.size (.cells #[.int .i64 gv.k, .int .i64 gv.n] 39)); clear hb1)
        | (go_at_call 116; refine (HN.out _ HBQ.out).mono ?_; rintro e w2 ⟨rfl, hb2⟩; have F := FIN.out _ 0 false 0 0 (HBQ.out.trans (hb2.mono HBQ.out.size)); have F1 := Lib.hid F.1; have F2 := Lib.hid F.2.1; have F3 := Lib.hid F.2.2; clear F hb2)
        | (refine wpList_store_row rfl 46 (.tmp 4) (.tmp 42) rfl w.heap.size #[.int .i64 0, .bool false, .int .i64 0, .int .i64 0] rfl rfl _ _ F1.out (by kernel_rfl) rfl (by simp [Value.oneCell']) ?_))
      refine bodyPost_ret (results_row_three rfl _ _ w.heap.size _ _ (0, 0) _ rfl F2.out Tryd.underlying46 rfl (by as_aux_lemma => kernel_rfl)) rfl ?_
      exact item_end rfl rfl rfl F3.out
end
end Go.Proofs.YtkdhjejchdcipaaDoor
/-
  Layer 6, code: a reader's items: Byte, U, S, Name, Count, Heap, ref, Val, index, store, field.
-/
namespace Go.Proofs.YtkdhjejchdcipaaDoor
open Go.RowKit
set_option linter.unusedVariables false
set_option linter.unusedSimpArgs false
set_option maxRecDepth 100000

theorem told_le (sg : Bool) (l : List Nat) (at0 bits : Int) (h : (told sg l at0 bits).2.2 = 0) : (told sg l at0 bits).2.1 ≤ l.length := by
  unfold told at h ⊢
  split
  · exact Nat.zero_le _
  · next h1 =>
    rw [if_neg h1] at h
    obtain ⟨⟨v, nx, er⟩, hq⟩ : ∃ q, Leb.rd bits.toNat sg (l.drop at0.toNat) at0.toNat 0 0 = q := ⟨_, rfl⟩
    rw [hq] at h ⊢
    simp only at h ⊢
    subst h
    have := Leb.rd_next _ _ _ _ _ _ _ _ hq
    rw [List.length_drop] at this
    omega
theorem Leb.rd_lt_bits (bits : Nat) (hb : bits ≤ 64) (l : List Nat) : ∀ (a place n : Nat), n < 2 ^ place → place ≤ bits → (Leb.rd bits false l a place n).1 < 2 ^ bits := by
  have hpos : 0 < 2 ^ bits := Nat.two_pow_pos bits
  induction l with
  | nil => intro a place n _ _; rw [Leb.rd]; exact hpos
  | cons x l ih =>
    intro a place n hn hp
    rw [Leb.rd]
    split
    · rename_i hf
      have hx : x % 128 < 2 ^ (bits - place) := by
        unfold Leb.fits at hf
        simp only [Bool.false_eq_true, if_false, decide_eq_true_eq] at hf
        have h2 := Nat.div_eq_zero_iff.1 hf
        have h3 : x % 128 < 2 ^ min (bits - place) 8 := by
          rcases h2 with h2 | h2
          · have := Nat.two_pow_pos (min (bits - place) 8); omega
          · exact h2
        exact Nat.lt_of_lt_of_le h3 (Nat.pow_le_pow_right (by omega) (Nat.min_le_left _ _))
      have hs : n + x % 128 * 2 ^ place < 2 ^ bits := by
        have h1 : (x % 128 + 1) * 2 ^ place ≤ 2 ^ (bits - place) * 2 ^ place := Nat.mul_le_mul_right _ hx
        rw [← Nat.pow_add, Nat.sub_add_cancel hp] at h1
        rw [Nat.add_mul, Nat.one_mul] at h1
        omega
      split
      · unfold Leb.ext
        simp only [Bool.false_and, Bool.false_eq_true, if_false]
        exact Nat.lt_of_le_of_lt (Nat.mod_le _ _) hs
      · split
        · exact hpos
        · exact ih _ _ _ (Leb.step_lt n x place hn) (by omega)
    · exact hpos
theorem told_lt_bits (l : List Nat) (p : Int) (bits : Int) : bits ≤ 64 → (told false l p bits).1 < 2 ^ bits.toNat := by
  intro h
  unfold told
  split
  · exact Nat.two_pow_pos _
  · exact Leb.rd_lt_bits _ (by omega) _ _ _ _ (by simp) (Nat.zero_le _)
theorem Tb.told_lt32 (l : List Nat) (p : Nat) : (told false l p 32).1 < 4294967296 := told_lt_bits l p 32 (by omega)
namespace Tb
theorem byteAt_le (l : List Nat) (p : Nat) (h : (byteAt l p).2.2 = 0) : (byteAt l p).2.1 ≤ l.length := by
  unfold byteAt at h ⊢
  split <;> rename_i h1
  · exact h1
  · rw [if_neg h1] at h; cases h
theorem countAt_le (l : List Nat) (p : Nat) (h : (countAt l p).2.2 = 0) : (countAt l p).2.1 ≤ l.length := by
  unfold countAt at h ⊢
  split <;> rename_i h1
  · split
    · exact Nat.zero_le _
    · exact told_le _ _ _ _ h1
  · exact Nat.zero_le _
theorem nameAt_le (l : List Nat) (p : Nat) (h : (nameAt l p).2.2 = 0) : (nameAt l p).2.1 ≤ l.length := by
  unfold nameAt readName at h ⊢
  split <;> rename_i h1
  · exact Nat.zero_le _
  · split <;> rename_i h2
    · exact Nat.zero_le _
    · split
      · have := told_le false l p 32 (by omega); dsimp only; omega
      · exact Nat.zero_le _
theorem isGiven_lt {l : List Nat} {p : Nat} (h : isGiven l p = true) : p < l.length := by
  unfold isGiven at h
  simp at h
  exact h.1
theorem heapAt_le (l : List Nat) (p : Nat) (h : (heapAt l p).2.2 = 0) : (heapAt l p).2.1 ≤ l.length := by
  unfold heapAt at h ⊢
  split <;> rename_i h1
  · exact isGiven_lt h1
  · split <;> rename_i h2
    · split
      · exact Nat.zero_le _
      · exact told_le _ _ _ _ h2
    · exact Nat.zero_le _
theorem noneAt_no {α : Type} (d : α) (l : List Nat) (p : Nat) : (noneAt d l p).2.2 ≠ 0 := by unfold noneAt; split <;> simp
theorem shortAt_le (l : List Nat) (p : Nat) (h : (shortAt l p).2.2 = 0) : (shortAt l p).2.1 ≤ l.length := by
  unfold shortAt at h ⊢
  split <;> rename_i h1
  · exact isGiven_lt h1
  · rw [if_neg h1] at h
    split at h
    · cases h
    · exact absurd h (noneAt_no _ _ _)
theorem mutAt_le (l : List Nat) (p : Nat) (h : (mutAt l p).2.2 = 0) : (mutAt l p).2.1 ≤ l.length := by
  unfold mutAt at h ⊢
  split <;> rename_i h1
  · exact h1.1
  · rw [if_neg h1] at h; exact absurd h (noneAt_no _ _ _)
end Tb
/-- What a reader's call tells, and where it stands then. -/
def RdOut (b : Nat) (A : Option Addr) (n c : Nat) (v : Value) (r' : Rd) (w : World) (e : Ending) (w' : World) : Prop := e = .returned v ∧ RdAt w' b A n c r' ∧ Keep (Db b) w w'
section
variable {w : World} {b n c : Nat} {A : Option Addr} {r : Rd}
theorem Item.out {v : Value} {nx er : Nat} {e : Ending} {W W' : World} (h : Item v nx er W e W') : e = .returned (.tuple #[v, .int .i64 (nx : Int), .int .i64 (er : Int)]) ∧ Below W.heap.size W W' := h
theorem RdAt.bytes (h : RdAt w b A n c r) {W : World} (hb : Below w.heap.size w W) : Bytes W W.heap.size A n c r.bs := (h.below (Nat.le_refl _) hb).2.1
theorem RdAt.pl (h : RdAt w b A n c r) : r.p ≤ n := h.2.2
/-- An item's value, as the reader tells it. -/
theorem item_out {α : Type} (enc : α → Value) (d : α) (f : List Nat → Nat → α × Nat × Nat) (z : Value) (hz : enc d = z) {e : Ending} {w' : World}
    (h : e = .returned (if r.e = 0 ∧ (f r.bs r.p).2.2 = 0 then enc (f r.bs r.p).1 else z) ∧ RdAt w' b A n c (Tb.step (f r.bs r.p).2.1 (f r.bs r.p).2.2 r) ∧ Keep (Db b) w w') :
    RdOut b A n c (enc (Tb.item d f r).1) (Tb.item d f r).2 w e w' := by
  rw [Tb.item_eq]
  obtain ⟨h1, h2, h3⟩ := h
  refine ⟨h1.trans ?_, h2, h3⟩
  rw [← hz]
  dsimp only
  split <;> rfl
set_option maxHeartbeats 1000000 in
theorem Byte_any (h : RdAt w b A n c r) : Calls Tryd.prog 25 #[.pointer (some ⟨b, 0, none⟩)] w (RdOut b A n c (.int .u8 ((Tb.byte r).1 : Int)) (Tb.byte r).2 w) := by
  have H := Lib.hid ((item_byte h 66 #[] (enters_of Tryd.func66 (by kernel_rfl) rfl) _ _ _ (fun e => by have := Tb.byteAt_le r.bs r.p e; rw [h.len] at this; exact this)
    (fun W hW => (byteAt_any (h.bytes hW) h.pl).mono fun _ _ => Item.out)).mono fun _ _ => item_out (fun x : Nat => .int .u8 (x : Int)) 0 Tb.byteAt _ rfl)
  clear h
  go_enter Tryd.func25, Tryd.ntmps25
  go_wp2_with (refine H.out.mono ?_; rintro e w' ⟨rfl, h1, h2⟩)
  go_ret
  exact ⟨rfl, h1, h2⟩
set_option maxHeartbeats 1000000 in
theorem U_rd (h : RdAt w b A n c r) (bits : Int) : Calls Tryd.prog 27 #[.pointer (some ⟨b, 0, none⟩), .int .i64 bits] w (RdOut b A n c (.int .u64 ((Tb.u bits r).1 : Int)) (Tb.u bits r).2 w) := by
  obtain ⟨W0, hW0⟩ : ∃ W0, W0 = w.alloc (.cells #[.int .i64 bits] 3) := ⟨_, rfl⟩
  have hB0 : Below w.heap.size w W0 := by rw [hW0]; exact (Below.refl _ _).alloc (Nat.le_refl _) _
  have hz : W0.heap.size = w.heap.size + 1 := by rw [hW0]; simp
  have hc0 : W0.cell? ⟨w.heap.size, 0, none⟩ = some (.int .i64 bits) := by rw [hW0]; go_simp
  have h0 := h.below (Nat.le_refl _) hB0
  have H := Lib.hid ((item_uint64 h0 68 #[.pointer (some ⟨w.heap.size, 0, none⟩)] (enters_of Tryd.func68 (by kernel_rfl) rfl) _ _ _ (fun e => by have := told_le false r.bs r.p bits e; rw [h.len] at this; exact this)
    (fun W hW => (u1_any (h0.bytes hW) r.p ((hW.cell (p := ⟨w.heap.size, 0, none⟩) (by dsimp only; omega)).trans hc0)).mono fun _ _ => Item.out)).mono fun _ _ => item_out (fun x : Nat => .int .u64 (x : Int)) 0 (Tb.uAt bits) _ rfl)
  have HW0 := Lib.hid hW0
  have HB := Lib.hid hB0
  clear h h0 hW0 hc0 hz hB0
  go_enter Tryd.func27, Tryd.ntmps27
  go_wp2_with fail
  rw [← HW0.out]
  go_wp2_with (refine H.out.mono ?_; rintro e w' ⟨rfl, h1, h2⟩)
  go_ret
  exact ⟨rfl, h1, (Keep.of_below HB.out).trans h2⟩
set_option maxHeartbeats 1000000 in
theorem S_rd (h : RdAt w b A n c r) (bits : Int) : Calls Tryd.prog 29 #[.pointer (some ⟨b, 0, none⟩), .int .i64 bits] w (RdOut b A n c (.int .i64 (Tb.s bits r).1) (Tb.s bits r).2 w) := by
  obtain ⟨W0, hW0⟩ : ∃ W0, W0 = w.alloc (.cells #[.int .i64 bits] 3) := ⟨_, rfl⟩
  have hB0 : Below w.heap.size w W0 := by rw [hW0]; exact (Below.refl _ _).alloc (Nat.le_refl _) _
  have hz : W0.heap.size = w.heap.size + 1 := by rw [hW0]; simp
  have hc0 : W0.cell? ⟨w.heap.size, 0, none⟩ = some (.int .i64 bits) := by rw [hW0]; go_simp
  have h0 := h.below (Nat.le_refl _) hB0
  have H := Lib.hid ((item_int64 h0 72 #[.pointer (some ⟨w.heap.size, 0, none⟩)] (enters_of Tryd.func72 (by kernel_rfl) rfl) _ _ _ (fun e => by have := told_le true r.bs r.p bits e; rw [h.len] at this; exact this)
    (fun W hW => (s1_any (h0.bytes hW) r.p ((hW.cell (p := ⟨w.heap.size, 0, none⟩) (by dsimp only; omega)).trans hc0)).mono fun _ _ => Item.out)).mono fun _ _ => item_out (fun x : Int => .int .i64 x) 0 (Tb.sAt bits) _ rfl)
  have HW0 := Lib.hid hW0
  have HB := Lib.hid hB0
  clear h h0 hW0 hc0 hz hB0
  go_enter Tryd.func29, Tryd.ntmps29
  go_wp2_with fail
  rw [← HW0.out]
  go_wp2_with (refine H.out.mono ?_; rintro e w' ⟨rfl, h1, h2⟩)
  go_ret
  exact ⟨rfl, h1, (Keep.of_below HB.out).trans h2⟩
set_option maxHeartbeats 1000000 in
theorem Name_any (h : RdAt w b A n c r) : Calls Tryd.prog 31 #[.pointer (some ⟨b, 0, none⟩)] w (RdOut b A n c (.string (str (Tb.name r).1)) (Tb.name r).2 w) := by
  have H := Lib.hid ((item_string h 76 #[] (enters_of Tryd.func76 (by kernel_rfl) rfl) _ _ _ (fun e => by have := Tb.nameAt_le r.bs r.p e; rw [h.len] at this; exact this)
    (fun W hW => (Read_any A n c r.bs _ r.p W (h.bytes hW)).mono fun _ _ => fun h => h)).mono fun _ _ => item_out (fun x : List Nat => .string (str x)) [] Tb.nameAt _ rfl)
  clear h
  go_enter Tryd.func31, Tryd.ntmps31
  go_wp2_with (refine H.out.mono ?_; rintro e w' ⟨rfl, h1, h2⟩)
  go_ret
  exact ⟨rfl, h1, h2⟩
set_option maxHeartbeats 1000000 in
theorem Count_rd (h : RdAt w b A n c r) : Calls Tryd.prog 33 #[.pointer (some ⟨b, 0, none⟩)] w (RdOut b A n c (.int .i64 ((Tb.count r).1 : Int)) (Tb.count r).2 w) := by
  have H := Lib.hid ((item_int h 79 #[] (enters_of Tryd.func79 (by kernel_rfl) rfl) _ _ _ (fun e => by have := Tb.countAt_le r.bs r.p e; rw [h.len] at this; exact this)
    (fun W hW => (countAt_any (h.bytes hW) r.p).mono fun _ _ => Item.out)).mono fun _ _ => item_out (fun x : Nat => .int .i64 (x : Int)) 0 Tb.countAt _ rfl)
  clear h
  go_enter Tryd.func33, Tryd.ntmps33
  go_wp2_with (refine H.out.mono ?_; rintro e w' ⟨rfl, h1, h2⟩)
  go_ret
  exact ⟨rfl, h1, h2⟩
end
end Go.Proofs.YtkdhjejchdcipaaDoor

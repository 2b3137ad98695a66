/-
  Layer 6, code: item, at struct types.
-/
import Derived.Test.YtphmknhlibampaaDoorTbD
import Derived.Deep.RegionHeld3
import Derived.Test.YtphmknhlibampaaDoorKdQ
namespace Go.Proofs.YtphmknhlibampaaDoor
open Go.RowKit
set_option linter.unusedVariables false
set_option linter.unusedSimpArgs false
set_option maxRecDepth 100000

theorem below_setRow {B g : Nat} {w W : World} (h : Below B w W) (hg : B ≤ g) (cs : Array Value) : Below B w (W.setRow g cs) :=
  ⟨h.os, h.tape, h.output, by rw [size_setRow]; exact h.size, fun k hk => (setRow_other W g k cs (by omega)).trans (h.block k hk)⟩
theorem RdAt.later {w y z : World} {b n c : Nat} {A : Option Addr} {r r' : Rd} (h : RdAt w b A n c r) (hk : Keep (Db b) w y) (hs : Below w.heap.size y z) (hr : y.heap[b]? = some (.cells (rdCells A n c r') 61 (0, 0))) (hb : r'.bs = r.bs) (hp : r'.p ≤ n) : RdAt z b A n c r' := by
  refine ⟨(hs.block b h.lt).trans hr, ?_, hp⟩
  rw [hb]
  obtain ⟨q1, q2, q3, q4, q5⟩ := h.2.1
  refine ⟨q1, q2, q3, q4, fun hn => ?_⟩
  obtain ⟨b', off, e, hb', hc⟩ := q5 hn
  refine ⟨b', off, e, by have := hk.size; have := hs.size; omega, fun j hj => ?_⟩
  rw [hs.cell (p := ⟨b', off + j, none⟩) (by dsimp only; omega)]
  exact hk.cells b' _ _ (fun e => by rw [e] at hc; exact h.noByte _ _ (hc j hj)) (hc j hj)
theorem S_step {b : Nat} {v0 v2 : Value} {W0 w1 w2 : World} (hb : b < W0.heap.size) (h : w1.cell? ⟨b, 0, none⟩ = some v0 ∧ w1.cell? ⟨b, 2, none⟩ = some v2 ∧ Below W0.heap.size W0 w1) (h2 : Below W0.heap.size w1 w2) :
    w2.cell? ⟨b, 0, none⟩ = some v0 ∧ w2.cell? ⟨b, 2, none⟩ = some v2 ∧ Below W0.heap.size W0 w2 :=
  ⟨(h2.cell (p := ⟨b, 0, none⟩) hb).trans h.1, (h2.cell (p := ⟨b, 2, none⟩) hb).trans h.2.1, h.2.2.trans h2⟩
theorem step_store_row {P : Program} {ops : Array Oper} {o : Oper} {a : Act} {w : World} {K : Act → World → Prop} {Q : Exit → Act → World → Prop} {E : Prop} (hgd : o.guard = none) (ty : TypeId) (x y : Operand) (ho : o.op = .store ty x y)
    (g : Nat) (cells : Array Value) (hx : a.eval x = .pointer (some ⟨g, 0, none⟩)) (hy : a.eval y = .agg cells) (t : TypeId) (old : Array Value) (hg : w.heap[g]? = some (.cells old t (0, 0))) (hi : (P.info? ty).map (·.size) = some cells.size)
    (hold : old.size = cells.size) (h1 : cells.all (·.oneCell') = true) (h : K (a.put o.dst undef) (w.setRow g cells)) :
    if Region.wanted o (yielded ops a.tmps) = true then Oper.wp P o a w K Q else E := by
  have hw : Region.wanted o (yielded ops a.tmps) = true := by simp [Region.wanted, hgd]
  rw [if_pos hw]
  exact wp_store_row ty x y ho g cells hx hy t old hg hi hold h1 h
set_option maxHeartbeats 8000000 in
theorem item_Heap {w : World} {b n c : Nat} {A : Option Addr} {r : Rd} (h : RdAt w b A n c r) (fid : Nat) (lb : Array Value) (he : ∀ args w, (callFunc fid args).run Tryd.prog w = .ok (.enter fid args) w) (x0 x1 : Int) (nx er : Nat) (hnx : er = 0 → nx ≤ n)
    (hf : ∀ W, Below w.heap.size w W → Calls Tryd.prog fid (#[.slice A n c, .int .i64 (r.p : Int)] ++ lb) W fun e W' => e = .returned (.tuple #[.agg #[.int .i64 x0, .int .i64 x1], .int .i64 (nx : Int), .int .i64 (er : Int)]) ∧ Below W.heap.size W W') :
    Calls Tryd.prog 58 #[.pointer (some ⟨b, 0, none⟩), .func (.func fid) #[] lb] w fun e w' => e = .returned (.agg (if r.e = 0 ∧ er = 0 then #[.int .i64 x0, .int .i64 x1] else #[.int .i64 0, .int .i64 0])) ∧ RdAt w' b A n c (Tb.step nx er r) ∧ Keep (Db b) w w' := by
  obtain ⟨Q, hQ⟩ : ∃ Q : Ending → World → Prop, Q = (fun e w' => e = .returned (.agg (if r.e = 0 ∧ er = 0 then #[.int .i64 x0, .int .i64 x1] else #[.int .i64 0, .int .i64 0])) ∧ RdAt w' b A n c (Tb.step nx er r) ∧ Keep (Db b) w w') := ⟨_, rfl⟩
  rw [← hQ]
  obtain ⟨W0, hW0⟩ : ∃ W0, W0 = (w.alloc (.cells #[.int .i64 0, .int .i64 0] 42)).alloc (.cells #[.int .i64 0, .int .i64 0] 42) := ⟨_, rfl⟩
  have hz : W0.heap.size = w.heap.size + 2 := by rw [hW0]; simp
  have hB0 : Below w.heap.size w W0 := by rw [hW0]; exact ((Below.refl _ _).alloc (Nat.le_refl _) _).alloc (by simp) _
  have r0 : W0.heap[w.heap.size]? = some (.cells #[.int .i64 0, .int .i64 0] 42 (0, 0)) := by rw [hW0]; exact heap_alloc2_old _ _ _
  have r1 : W0.heap[w.heap.size + 1]? = some (.cells #[.int .i64 0, .int .i64 0] 42 (0, 0)) := by rw [hW0]; exact heap_alloc2_new _ _ _
  have h2 := h.below (Nat.le_refl _) hB0
  have hlt := h.lt
  by_cases h0 : r.e = 0
  · have HG := Lib.hid (goes_any h2 true (by simp [h0]))
    have HF : Hid (∀ W, Below W0.heap.size W0 W → Calls Tryd.prog fid (#[.slice A n c, .int .i64 (r.p : Int)] ++ lb) W fun e W' => e = .returned (.tuple #[.agg #[.int .i64 x0, .int .i64 x1], .int .i64 (nx : Int), .int .i64 (er : Int)]) ∧ Below W.heap.size W W') := Lib.hid fun W hW => hf W (hB0.trans (hW.mono hB0.size))
    have d0 := h2.cells.1
    have d2 := h2.cells.2.2.1
    have hb0 : b < W0.heap.size := by omega
    have RW0 : Hid (W0.heap.size = w.heap.size + 2) := Lib.hid hz
    have Hlt := Lib.hid hlt
    have H2 := Lib.hid h2
    have HB0 := Lib.hid hB0
    have HW0 := Lib.hid hW0
    have R0 := Lib.hid r0
    have R1 := Lib.hid r1
    -- behind the region: a world x in which all lies, and the variable's block g
    have FIN : Hid (∀ (x : World) (g : Nat), Below W0.heap.size W0 x → x.heap[g]? = some (.cells #[.int .i64 x0, .int .i64 x1] 42 (0, 0)) → W0.heap.size ≤ g → er = 0 →
        (x.setCell ⟨b, 2, none⟩ (.int .i64 (nx : Int))).heap[g]? = some (.cells #[.int .i64 x0, .int .i64 x1] 42 (0, 0)) ∧
        (x.setCell ⟨b, 2, none⟩ (.int .i64 (nx : Int))).heap[w.heap.size]? = some (.cells #[.int .i64 0, .int .i64 0] 42 (0, 0)) ∧ ((x.setCell ⟨b, 2, none⟩ (.int .i64 (nx : Int))).setRow w.heap.size #[.int .i64 x0, .int .i64 x1]).heap[w.heap.size]? = some (.cells #[.int .i64 x0, .int .i64 x1] 42 (0, 0)) ∧
        Q (.returned (.agg #[.int .i64 x0, .int .i64 x1])) ((x.setCell ⟨b, 2, none⟩ (.int .i64 (nx : Int))).setRow w.heap.size #[.int .i64 x0, .int .i64 x1])) := Lib.hid fun x g hx hg hgz he0 => by
      have hR := (h2.below (Nat.le_refl _) hx).goto nx (hnx he0) _ rfl
      have e0 : (x.setCell ⟨b, 2, none⟩ (.int .i64 (nx : Int))).heap[w.heap.size]? = some (.cells #[.int .i64 0, .int .i64 0] 42 (0, 0)) := by
        rw [heap_setCell_other _ _ _ _ (by dsimp only; omega), hx.block _ (by omega)]; exact r0
      have hk : Keep (Db b) w (x.setCell ⟨b, 2, none⟩ (.int .i64 (nx : Int))) := (Keep.of_below (hB0.trans (hx.mono hB0.size))).trans hR.2
      have hs : Below w.heap.size (x.setCell ⟨b, 2, none⟩ (.int .i64 (nx : Int))) ((x.setCell ⟨b, 2, none⟩ (.int .i64 (nx : Int))).setRow w.heap.size #[.int .i64 x0, .int .i64 x1]) := below_setRow (Below.refl _ _) (Nat.le_refl _) _
      refine ⟨by rw [heap_setCell_other _ _ _ _ (by dsimp only; omega)]; exact hg, e0, setRow_heap _ _ _ _ _ _ e0, ?_⟩
      rw [hQ]
      refine ⟨by rw [if_pos ⟨h0, he0⟩], ?_, hk.lies (Nat.le_refl _) hs⟩
      unfold Tb.step
      rw [if_pos h0, if_pos he0]
      exact h.later hk hs hR.1.1 rfl hR.1.2.2
    have FIN2 : Hid (∀ (x y : World), Below W0.heap.size W0 x → RdAt y b A n c (Tb.fail er r.p r) → Keep (Db b) x y → er ≠ 0 →
        y.heap[w.heap.size]? = some (.cells #[.int .i64 0, .int .i64 0] 42 (0, 0)) ∧ y.heap[w.heap.size + 1]? = some (.cells #[.int .i64 0, .int .i64 0] 42 (0, 0)) ∧ (y.setRow w.heap.size #[.int .i64 0, .int .i64 0]).heap[w.heap.size]? = some (.cells #[.int .i64 0, .int .i64 0] 42 (0, 0)) ∧
        Q (.returned (.agg #[.int .i64 0, .int .i64 0])) (y.setRow w.heap.size #[.int .i64 0, .int .i64 0])) := Lib.hid fun x y hx hy hxy he0 => by
      have hz2 := hx.size
      have e0 : y.heap[w.heap.size]? = some (.cells #[.int .i64 0, .int .i64 0] 42 (0, 0)) := by rw [hxy.block _ (by omega) (fun _ e => by omega), hx.block _ (by omega)]; exact r0
      have e1 : y.heap[w.heap.size + 1]? = some (.cells #[.int .i64 0, .int .i64 0] 42 (0, 0)) := by rw [hxy.block _ (by omega) (fun _ e => by omega), hx.block _ (by omega)]; exact r1
      have hk : Keep (Db b) w y := (Keep.of_below (hB0.trans (hx.mono hB0.size))).trans hxy
      have hs : Below w.heap.size y (y.setRow w.heap.size #[.int .i64 0, .int .i64 0]) := below_setRow (Below.refl _ _) (Nat.le_refl _) _
      refine ⟨e0, e1, setRow_heap _ _ _ _ _ _ e0, ?_⟩
      rw [hQ]
      refine ⟨by rw [if_neg (fun e => he0 e.2)], ?_, hk.lies (Nat.le_refl _) hs⟩
      unfold Tb.step
      unfold Tb.fail at hy
      rw [if_pos ⟨h0, by omega⟩] at hy
      rw [if_pos h0, if_neg he0]
      exact h.later hk hs hy.1 rfl hy.2.2
    have HFail : Hid (∀ x, Below W0.heap.size W0 x → Calls Tryd.prog 32 #[.pointer (some ⟨b, 0, none⟩), .int .i64 (er : Int), .int .i64 (r.p : Int)] x fun e w' => e = .returned (.tuple #[]) ∧ RdAt w' b A n c (Tb.fail er r.p r) ∧ Keep (Db b) x w') := Lib.hid fun x hx => Fail_any (h2.below (Nat.le_refl _) hx) er r.p
    have HC : Hid (∀ x, Below W0.heap.size W0 x → x.cell? ⟨b, 2, none⟩ = some (.int .i64 (r.p : Int)) ∧ x.frozen? ⟨b, 2, none⟩ = false) := Lib.hid fun x hx => ⟨(h2.below (Nat.le_refl _) hx).cells.2.2.1, (h2.below (Nat.le_refl _) hx).free 2⟩
    obtain ⟨p, hp⟩ : ∃ p, r.p = p := ⟨_, rfl⟩
    rw [hp] at d2 HF HFail HC FIN2
    clear h h0 hf hnx hp hQ h2 hB0 r0 r1 hW0 hz hlt
    go_enter Tryd.func58, Tryd.ntmps58
    go_wp2_with fail
    rw [← HW0.out]
    go_wp2_with (go_at_call 69; refine HG.out.mono ?_; rintro e w' ⟨rfl, rfl⟩)
    have BW : Below W0.heap.size W0 W0 := Below.refl _ _
    go_region_held3 (fun w' => w'.cell? ⟨b, 0, none⟩ = some (.slice A n c) ∧ w'.cell? ⟨b, 2, none⟩ = some (.int .i64 (p : Int)) ∧ Below W0.heap.size W0 w')
      (first
        | exact HS8.out
        | exact S_step hb0 HS8.out ((Below.refl _ _).alloc HS8.out.2.2.size _)
        | exact S_step hb0 HS8.out ((((Below.refl _ _).setCell (p := ⟨W0.heap.size, 0, none⟩) (Nat.le_refl _) _).setCell (p := ⟨W0.heap.size, 1, none⟩) (Nat.le_refl _) _))
        | exact S_step hb0 ⟨d0, d2, BW⟩ (Below.refl _ _).drew
        | exact S_step hb0 ⟨d0, d2, BW⟩ ((Below.refl _ _).drew.alloc (by simp) _))
      ((first
        | ((try go_split_ands); (with_reducible refine (HF.out _ (by assumption)).mono ?_); rintro e w8 ⟨rfl, hbb⟩; have HBB := Lib.hid hbb; have HS8 := Lib.hid (by first | exact S_step hb0 (by assumption) (hbb.mono (Below.size (by assumption))) | exact S_step hb0 ⟨by assumption, by assumption, by assumption⟩ (hbb.mono (Below.size (by assumption))) : w8.cell? ⟨b, 0, none⟩ = some (.slice A n c) ∧ w8.cell? ⟨b, 2, none⟩ = some (.int .i64 (p : Int)) ∧ Below W0.heap.size W0 w8); (try (have hq := (hbb.block W0.heap.size (by simp)).trans (World.alloc_heap_new _ _); have q0 := cell_of_row _ _ 0 _ _ _ hq; have g0 := frozen_of_row _ _ 0 _ _ hq; have q1 := cell_of_row _ _ 1 _ _ _ hq; have g1 := frozen_of_row _ _ 1 _ _ hq; have HQ8 := Lib.hid hq; clear hq)); clear hbb)))
    all_goals
      first
        | (have hg : ((w8.setCell ⟨W0.heap.size, 0, none⟩ (.int .i64 x0)).setCell ⟨W0.heap.size, 1, none⟩ (.int .i64 x1)).heap[W0.heap.size]? = some (.cells #[.int .i64 x0, .int .i64 x1] 42 (0, 0)) := by simpa using (heap_setCell_same _ _ 1 _ _ (.int .i64 x1) (heap_setCell_same _ _ 0 _ _ (.int .i64 x0) HQ8.out))
           have hb : Below W0.heap.size W0 ((w8.setCell ⟨W0.heap.size, 0, none⟩ (.int .i64 x0)).setCell ⟨W0.heap.size, 1, none⟩ (.int .i64 x1)) := HS8.out.2.2.trans (((Below.refl _ _).setCell (p := ⟨W0.heap.size, 0, none⟩) (Nat.le_refl _) _).setCell (p := ⟨W0.heap.size, 1, none⟩) (Nat.le_refl _) _)
           obtain ⟨x, hx⟩ : ∃ x, x = ((w8.setCell ⟨W0.heap.size, 0, none⟩ (.int .i64 x0)).setCell ⟨W0.heap.size, 1, none⟩ (.int .i64 x1)) := ⟨_, rfl⟩
           rw [← hx] at hg hb ⊢
           obtain ⟨g, hgg⟩ : ∃ g, g = W0.heap.size := ⟨_, rfl⟩
           have hgz : W0.heap.size ≤ g := by omega
           rw [← hgg] at hg
           simp only [← hgg])
        | (have hg : (w8.alloc (.cells #[.int .i64 x0, .int .i64 x1] 42)).heap[w8.heap.size]? = some (.cells #[.int .i64 x0, .int .i64 x1] 42 (0, 0)) := World.alloc_heap_new _ _
           have hb : Below W0.heap.size W0 (w8.alloc (.cells #[.int .i64 x0, .int .i64 x1] 42)) := HS8.out.2.2.alloc HS8.out.2.2.size _
           have hgz := HS8.out.2.2.size
           obtain ⟨x, hx⟩ : ∃ x, x = w8.alloc (.cells #[.int .i64 x0, .int .i64 x1] 42) := ⟨_, rfl⟩
           rw [← hx] at hg hb ⊢
           obtain ⟨g, hgg⟩ : ∃ g, g = w8.heap.size := ⟨_, rfl⟩
           rw [← hgg] at hg hgz ⊢)
      have HG8 := Lib.hid hg
      have HB8 := Lib.hid hb
      have HZ8 := Lib.hid hgz
      have hc := HC.out x hb
      obtain ⟨hc2, hf2⟩ := hc
      clear hg hb hx hgg hgz HS8
      try clear HQ8
      by_cases he0 : er = 0
      · have F := FIN.out x g HB8.out HG8.out HZ8.out he0
        subst he0
        have F1 := Lib.hid F.1
        have F2 := Lib.hid F.2.1
        have F3 := Lib.hid F.2.2.1
        have F4 := Lib.hid F.2.2.2
        clear F
        go_wp2_with (first
          | (refine wpList_load_row rfl 42 (.tmp 6) rfl g rfl _ _ _ _ F1.out Tryd.underlying42 rfl (by kernel_rfl) ?_)
          | (refine wpList_store_row rfl 42 (.tmp 4) (.tmp 44) rfl w.heap.size #[.int .i64 x0, .int .i64 x1] rfl rfl _ _ F2.out (by kernel_rfl) rfl (by simp [Value.oneCell']) ?_))
        refine bodyPost_ret (results_cell_row rfl _ _ w.heap.size _ _ (0, 0) _ rfl F3.out Tryd.underlying42 rfl (by as_aux_lemma => kernel_rfl)) rfl ?_
        exact F4.out
      · have hne : ((er : Int) != 0) = true := by simp; omega
        have HE := Lib.hid he0
        clear he0
        go_wp2_with (first
          | (go_at_call 32; (with_reducible refine (HFail.out x HB8.out).mono ?_); rintro e w9 ⟨rfl, hr, hk⟩; have F := FIN2.out x w9 HB8.out hr hk HE.out; have F1 := Lib.hid F.1; have F2 := Lib.hid F.2.1; have F3 := Lib.hid F.2.2.1; have F4 := Lib.hid F.2.2.2; clear F hr hk)
          | (refine wpList_load_row rfl 42 (.tmp 5) rfl (w.heap.size + 1) rfl _ _ _ _ F2.out Tryd.underlying42 rfl (by kernel_rfl) ?_)
          | (refine wpList_store_row rfl 42 (.tmp 4) (.tmp 38) rfl w.heap.size #[.int .i64 0, .int .i64 0] rfl rfl _ _ F1.out (by kernel_rfl) rfl (by simp [Value.oneCell']) ?_))
        refine bodyPost_ret (results_cell_row rfl _ _ w.heap.size _ _ (0, 0) _ rfl F3.out Tryd.underlying42 rfl (by as_aux_lemma => kernel_rfl)) rfl ?_
        exact F4.out
  · have HG := Lib.hid (goes_any h2 false (by simp [h0]))
    have FIN : Hid (Q (.returned (.agg #[.int .i64 0, .int .i64 0])) (W0.setRow w.heap.size #[.int .i64 0, .int .i64 0])) := Lib.hid (by
      have hk : Keep (Db b) w (W0.setRow w.heap.size #[.int .i64 0, .int .i64 0]) := Keep.of_below (below_setRow hB0 (Nat.le_refl _) _)
      rw [hQ]
      refine ⟨by rw [if_neg (fun e => h0 e.1)], ?_, hk⟩
      unfold Tb.step
      rw [if_neg h0]
      exact h.below (Nat.le_refl _) (below_setRow hB0 (Nat.le_refl _) _))
    have HR : Hid ((W0.setRow w.heap.size #[.int .i64 0, .int .i64 0]).heap[w.heap.size]? = some (.cells #[.int .i64 0, .int .i64 0] 42 (0, 0))) := Lib.hid (setRow_heap _ _ _ _ _ _ r0)
    have HW0 := Lib.hid hW0
    have R0 := Lib.hid r0
    have R1 := Lib.hid r1
    clear h h0 hf hnx hQ h2 hB0 r0 r1 hW0
    go_enter Tryd.func58, Tryd.ntmps58
    go_wp2_with fail
    rw [← HW0.out]
    go_wp2_with (first
      | (go_at_call 69; refine HG.out.mono ?_; rintro e w' ⟨rfl, rfl⟩)
      | (refine wpList_load_row rfl 42 (.tmp 5) rfl (w.heap.size + 1) rfl _ _ _ _ R1.out Tryd.underlying42 rfl (by kernel_rfl) ?_)
      | (refine wpList_store_row rfl 42 (.tmp 4) (.tmp 12) rfl w.heap.size #[.int .i64 0, .int .i64 0] rfl rfl _ _ R0.out (by kernel_rfl) rfl (by simp [Value.oneCell']) ?_))
    refine bodyPost_ret (results_cell_row rfl _ _ w.heap.size _ _ (0, 0) _ rfl HR.out Tryd.underlying42 rfl (by as_aux_lemma => kernel_rfl)) rfl ?_
    exact FIN.out
set_option maxHeartbeats 8000000 in
theorem item_Val {w : World} {b n c : Nat} {A : Option Addr} {r : Rd} (h : RdAt w b A n c r) (fid : Nat) (lb : Array Value) (he : ∀ args w, (callFunc fid args).run Tryd.prog w = .ok (.enter fid args) w) (x0 x1 x2 : Int) (u : Bool) (nx er : Nat) (hnx : er = 0 → nx ≤ n)
    (hf : ∀ W, Below w.heap.size w W → Calls Tryd.prog fid (#[.slice A n c, .int .i64 (r.p : Int)] ++ lb) W fun e W' => e = .returned (.tuple #[.agg #[.int .i64 x0, .bool u, .int .i64 x1, .int .i64 x2], .int .i64 (nx : Int), .int .i64 (er : Int)]) ∧ Below W.heap.size W W') :
    Calls Tryd.prog 63 #[.pointer (some ⟨b, 0, none⟩), .func (.func fid) #[] lb] w fun e w' => e = .returned (.agg (if r.e = 0 ∧ er = 0 then #[.int .i64 x0, .bool u, .int .i64 x1, .int .i64 x2] else #[.int .i64 0, .bool false, .int .i64 0, .int .i64 0])) ∧ RdAt w' b A n c (Tb.step nx er r) ∧ Keep (Db b) w w' := by
  obtain ⟨Q, hQ⟩ : ∃ Q : Ending → World → Prop, Q = (fun e w' => e = .returned (.agg (if r.e = 0 ∧ er = 0 then #[.int .i64 x0, .bool u, .int .i64 x1, .int .i64 x2] else #[.int .i64 0, .bool false, .int .i64 0, .int .i64 0])) ∧ RdAt w' b A n c (Tb.step nx er r) ∧ Keep (Db b) w w') := ⟨_, rfl⟩
  rw [← hQ]
  obtain ⟨W0, hW0⟩ : ∃ W0, W0 = (w.alloc (.cells #[.int .i64 0, .bool false, .int .i64 0, .int .i64 0] 46)).alloc (.cells #[.int .i64 0, .bool false, .int .i64 0, .int .i64 0] 46) := ⟨_, rfl⟩
  have hz : W0.heap.size = w.heap.size + 2 := by rw [hW0]; simp
  have hB0 : Below w.heap.size w W0 := by rw [hW0]; exact ((Below.refl _ _).alloc (Nat.le_refl _) _).alloc (by simp) _
  have r0 : W0.heap[w.heap.size]? = some (.cells #[.int .i64 0, .bool false, .int .i64 0, .int .i64 0] 46 (0, 0)) := by rw [hW0]; exact heap_alloc2_old _ _ _
  have r1 : W0.heap[w.heap.size + 1]? = some (.cells #[.int .i64 0, .bool false, .int .i64 0, .int .i64 0] 46 (0, 0)) := by rw [hW0]; exact heap_alloc2_new _ _ _
  have h2 := h.below (Nat.le_refl _) hB0
  have hlt := h.lt
  by_cases h0 : r.e = 0
  · have HG := Lib.hid (goes_any h2 true (by simp [h0]))
    have HF : Hid (∀ W, Below W0.heap.size W0 W → Calls Tryd.prog fid (#[.slice A n c, .int .i64 (r.p : Int)] ++ lb) W fun e W' => e = .returned (.tuple #[.agg #[.int .i64 x0, .bool u, .int .i64 x1, .int .i64 x2], .int .i64 (nx : Int), .int .i64 (er : Int)]) ∧ Below W.heap.size W W') := Lib.hid fun W hW => hf W (hB0.trans (hW.mono hB0.size))
    have d0 := h2.cells.1
    have d2 := h2.cells.2.2.1
    have hb0 : b < W0.heap.size := by omega
    have RW0 : Hid (W0.heap.size = w.heap.size + 2) := Lib.hid hz
    have Hlt := Lib.hid hlt
    have H2 := Lib.hid h2
    have HB0 := Lib.hid hB0
    have HW0 := Lib.hid hW0
    have R0 := Lib.hid r0
    have R1 := Lib.hid r1
    -- behind the region: a world x in which all lies, and the variable's block g
    have FIN : Hid (∀ (x : World) (g : Nat), Below W0.heap.size W0 x → x.heap[g]? = some (.cells #[.int .i64 x0, .bool u, .int .i64 x1, .int .i64 x2] 46 (0, 0)) → W0.heap.size ≤ g → er = 0 →
        (x.setCell ⟨b, 2, none⟩ (.int .i64 (nx : Int))).heap[g]? = some (.cells #[.int .i64 x0, .bool u, .int .i64 x1, .int .i64 x2] 46 (0, 0)) ∧
        (x.setCell ⟨b, 2, none⟩ (.int .i64 (nx : Int))).heap[w.heap.size]? = some (.cells #[.int .i64 0, .bool false, .int .i64 0, .int .i64 0] 46 (0, 0)) ∧ ((x.setCell ⟨b, 2, none⟩ (.int .i64 (nx : Int))).setRow w.heap.size #[.int .i64 x0, .bool u, .int .i64 x1, .int .i64 x2]).heap[w.heap.size]? = some (.cells #[.int .i64 x0, .bool u, .int .i64 x1, .int .i64 x2] 46 (0, 0)) ∧
        Q (.returned (.agg #[.int .i64 x0, .bool u, .int .i64 x1, .int .i64 x2])) ((x.setCell ⟨b, 2, none⟩ (.int .i64 (nx : Int))).setRow w.heap.size #[.int .i64 x0, .bool u, .int .i64 x1, .int .i64 x2])) := Lib.hid fun x g hx hg hgz he0 => by
      have hR := (h2.below (Nat.le_refl _) hx).goto nx (hnx he0) _ rfl
      have e0 : (x.setCell ⟨b, 2, none⟩ (.int .i64 (nx : Int))).heap[w.heap.size]? = some (.cells #[.int .i64 0, .bool false, .int .i64 0, .int .i64 0] 46 (0, 0)) := by
        rw [heap_setCell_other _ _ _ _ (by dsimp only; omega), hx.block _ (by omega)]; exact r0
      have hk : Keep (Db b) w (x.setCell ⟨b, 2, none⟩ (.int .i64 (nx : Int))) := (Keep.of_below (hB0.trans (hx.mono hB0.size))).trans hR.2
      have hs : Below w.heap.size (x.setCell ⟨b, 2, none⟩ (.int .i64 (nx : Int))) ((x.setCell ⟨b, 2, none⟩ (.int .i64 (nx : Int))).setRow w.heap.size #[.int .i64 x0, .bool u, .int .i64 x1, .int .i64 x2]) := below_setRow (Below.refl _ _) (Nat.le_refl _) _
      refine ⟨by rw [heap_setCell_other _ _ _ _ (by dsimp only; omega)]; exact hg, e0, setRow_heap _ _ _ _ _ _ e0, ?_⟩
      rw [hQ]
      refine ⟨by rw [if_pos ⟨h0, he0⟩], ?_, hk.lies (Nat.le_refl _) hs⟩
      unfold Tb.step
      rw [if_pos h0, if_pos he0]
      exact h.later hk hs hR.1.1 rfl hR.1.2.2
    have FIN2 : Hid (∀ (x y : World), Below W0.heap.size W0 x → RdAt y b A n c (Tb.fail er r.p r) → Keep (Db b) x y → er ≠ 0 →
        y.heap[w.heap.size]? = some (.cells #[.int .i64 0, .bool false, .int .i64 0, .int .i64 0] 46 (0, 0)) ∧ y.heap[w.heap.size + 1]? = some (.cells #[.int .i64 0, .bool false, .int .i64 0, .int .i64 0] 46 (0, 0)) ∧ (y.setRow w.heap.size #[.int .i64 0, .bool false, .int .i64 0, .int .i64 0]).heap[w.heap.size]? = some (.cells #[.int .i64 0, .bool false, .int .i64 0, .int .i64 0] 46 (0, 0)) ∧
        Q (.returned (.agg #[.int .i64 0, .bool false, .int .i64 0, .int .i64 0])) (y.setRow w.heap.size #[.int .i64 0, .bool false, .int .i64 0, .int .i64 0])) := Lib.hid fun x y hx hy hxy he0 => by
      have hz2 := hx.size
      have e0 : y.heap[w.heap.size]? = some (.cells #[.int .i64 0, .bool false, .int .i64 0, .int .i64 0] 46 (0, 0)) := by rw [hxy.block _ (by omega) (fun _ e => by omega), hx.block _ (by omega)]; exact r0
      have e1 : y.heap[w.heap.size + 1]? = some (.cells #[.int .i64 0, .bool false, .int .i64 0, .int .i64 0] 46 (0, 0)) := by rw [hxy.block _ (by omega) (fun _ e => by omega), hx.block _ (by omega)]; exact r1
      have hk : Keep (Db b) w y := (Keep.of_below (hB0.trans (hx.mono hB0.size))).trans hxy
      have hs : Below w.heap.size y (y.setRow w.heap.size #[.int .i64 0, .bool false, .int .i64 0, .int .i64 0]) := below_setRow (Below.refl _ _) (Nat.le_refl _) _
      refine ⟨e0, e1, setRow_heap _ _ _ _ _ _ e0, ?_⟩
      rw [hQ]
      refine ⟨by rw [if_neg (fun e => he0 e.2)], ?_, hk.lies (Nat.le_refl _) hs⟩
      unfold Tb.step
      unfold Tb.fail at hy
      rw [if_pos ⟨h0, by omega⟩] at hy
      rw [if_pos h0, if_neg he0]
      exact h.later hk hs hy.1 rfl hy.2.2
    have HFail : Hid (∀ x, Below W0.heap.size W0 x → Calls Tryd.prog 32 #[.pointer (some ⟨b, 0, none⟩), .int .i64 (er : Int), .int .i64 (r.p : Int)] x fun e w' => e = .returned (.tuple #[]) ∧ RdAt w' b A n c (Tb.fail er r.p r) ∧ Keep (Db b) x w') := Lib.hid fun x hx => Fail_any (h2.below (Nat.le_refl _) hx) er r.p
    have HC : Hid (∀ x, Below W0.heap.size W0 x → x.cell? ⟨b, 2, none⟩ = some (.int .i64 (r.p : Int)) ∧ x.frozen? ⟨b, 2, none⟩ = false) := Lib.hid fun x hx => ⟨(h2.below (Nat.le_refl _) hx).cells.2.2.1, (h2.below (Nat.le_refl _) hx).free 2⟩
    obtain ⟨p, hp⟩ : ∃ p, r.p = p := ⟨_, rfl⟩
    rw [hp] at d2 HF HFail HC FIN2
    clear h h0 hf hnx hp hQ h2 hB0 r0 r1 hW0 hz hlt
    go_enter Tryd.func63, Tryd.ntmps63
    go_wp2_with fail
    rw [← HW0.out]
    go_wp2_with (go_at_call 69; refine HG.out.mono ?_; rintro e w' ⟨rfl, rfl⟩)
    have BW : Below W0.heap.size W0 W0 := Below.refl _ _
    go_region_held3 (fun w' => w'.cell? ⟨b, 0, none⟩ = some (.slice A n c) ∧ w'.cell? ⟨b, 2, none⟩ = some (.int .i64 (p : Int)) ∧ Below W0.heap.size W0 w')
      (first
        | exact HS8.out
        | exact S_step hb0 HS8.out ((Below.refl _ _).alloc HS8.out.2.2.size _)
        | exact S_step hb0 HS8.out ((((((Below.refl _ _).setCell (p := ⟨W0.heap.size, 0, none⟩) (Nat.le_refl _) _).setCell (p := ⟨W0.heap.size, 1, none⟩) (Nat.le_refl _) _).setCell (p := ⟨W0.heap.size, 2, none⟩) (Nat.le_refl _) _).setCell (p := ⟨W0.heap.size, 3, none⟩) (Nat.le_refl _) _))
        | exact S_step hb0 ⟨d0, d2, BW⟩ (Below.refl _ _).drew
        | exact S_step hb0 ⟨d0, d2, BW⟩ ((Below.refl _ _).drew.alloc (by simp) _))
      ((first
        | ((try go_split_ands); (with_reducible refine (HF.out _ (by assumption)).mono ?_); rintro e w8 ⟨rfl, hbb⟩; have HBB := Lib.hid hbb; have HS8 := Lib.hid (by first | exact S_step hb0 (by assumption) (hbb.mono (Below.size (by assumption))) | exact S_step hb0 ⟨by assumption, by assumption, by assumption⟩ (hbb.mono (Below.size (by assumption))) : w8.cell? ⟨b, 0, none⟩ = some (.slice A n c) ∧ w8.cell? ⟨b, 2, none⟩ = some (.int .i64 (p : Int)) ∧ Below W0.heap.size W0 w8); (try (have hq := (hbb.block W0.heap.size (by simp)).trans (World.alloc_heap_new _ _); have q0 := cell_of_row _ _ 0 _ _ _ hq; have g0 := frozen_of_row _ _ 0 _ _ hq; have q1 := cell_of_row _ _ 1 _ _ _ hq; have g1 := frozen_of_row _ _ 1 _ _ hq; have q2 := cell_of_row _ _ 2 _ _ _ hq; have g2 := frozen_of_row _ _ 2 _ _ hq; have q3 := cell_of_row _ _ 3 _ _ _ hq; have g3 := frozen_of_row _ _ 3 _ _ hq; have HQ8 := Lib.hid hq; clear hq)); clear hbb)))
    all_goals
      first
        | (have hg : ((((w8.setCell ⟨W0.heap.size, 0, none⟩ (.int .i64 x0)).setCell ⟨W0.heap.size, 1, none⟩ (.bool u)).setCell ⟨W0.heap.size, 2, none⟩ (.int .i64 x1)).setCell ⟨W0.heap.size, 3, none⟩ (.int .i64 x2)).heap[W0.heap.size]? = some (.cells #[.int .i64 x0, .bool u, .int .i64 x1, .int .i64 x2] 46 (0, 0)) := by simpa using (heap_setCell_same _ _ 3 _ _ (.int .i64 x2) (heap_setCell_same _ _ 2 _ _ (.int .i64 x1) (heap_setCell_same _ _ 1 _ _ (.bool u) (heap_setCell_same _ _ 0 _ _ (.int .i64 x0) HQ8.out))))
           have hb : Below W0.heap.size W0 ((((w8.setCell ⟨W0.heap.size, 0, none⟩ (.int .i64 x0)).setCell ⟨W0.heap.size, 1, none⟩ (.bool u)).setCell ⟨W0.heap.size, 2, none⟩ (.int .i64 x1)).setCell ⟨W0.heap.size, 3, none⟩ (.int .i64 x2)) := HS8.out.2.2.trans (((((Below.refl _ _).setCell (p := ⟨W0.heap.size, 0, none⟩) (Nat.le_refl _) _).setCell (p := ⟨W0.heap.size, 1, none⟩) (Nat.le_refl _) _).setCell (p := ⟨W0.heap.size, 2, none⟩) (Nat.le_refl _) _).setCell (p := ⟨W0.heap.size, 3, none⟩) (Nat.le_refl _) _)
           obtain ⟨x, hx⟩ : ∃ x, x = ((((w8.setCell ⟨W0.heap.size, 0, none⟩ (.int .i64 x0)).setCell ⟨W0.heap.size, 1, none⟩ (.bool u)).setCell ⟨W0.heap.size, 2, none⟩ (.int .i64 x1)).setCell ⟨W0.heap.size, 3, none⟩ (.int .i64 x2)) := ⟨_, rfl⟩
           rw [← hx] at hg hb ⊢
           obtain ⟨g, hgg⟩ : ∃ g, g = W0.heap.size := ⟨_, rfl⟩
           have hgz : W0.heap.size ≤ g := by omega
           rw [← hgg] at hg
           simp only [← hgg])
        | (have hg : (w8.alloc (.cells #[.int .i64 x0, .bool u, .int .i64 x1, .int .i64 x2] 46)).heap[w8.heap.size]? = some (.cells #[.int .i64 x0, .bool u, .int .i64 x1, .int .i64 x2] 46 (0, 0)) := World.alloc_heap_new _ _
           have hb : Below W0.heap.size W0 (w8.alloc (.cells #[.int .i64 x0, .bool u, .int .i64 x1, .int .i64 x2] 46)) := HS8.out.2.2.alloc HS8.out.2.2.size _
           have hgz := HS8.out.2.2.size
           obtain ⟨x, hx⟩ : ∃ x, x = w8.alloc (.cells #[.int .i64 x0, .bool u, .int .i64 x1, .int .i64 x2] 46) := ⟨_, rfl⟩
           rw [← hx] at hg hb ⊢
           obtain ⟨g, hgg⟩ : ∃ g, g = w8.heap.size := ⟨_, rfl⟩
           rw [← hgg] at hg hgz ⊢)
      have HG8 := Lib.hid hg
      have HB8 := Lib.hid hb
      have HZ8 := Lib.hid hgz
      have hc := HC.out x hb
      obtain ⟨hc2, hf2⟩ := hc
      clear hg hb hx hgg hgz HS8
      try clear HQ8
      by_cases he0 : er = 0
      · have F := FIN.out x g HB8.out HG8.out HZ8.out he0
        subst he0
        have F1 := Lib.hid F.1
        have F2 := Lib.hid F.2.1
        have F3 := Lib.hid F.2.2.1
        have F4 := Lib.hid F.2.2.2
        clear F
        go_wp2_with (first
          | (refine wpList_load_row rfl 46 (.tmp 6) rfl g rfl _ _ _ _ F1.out Tryd.underlying46 rfl (by kernel_rfl) ?_)
          | (refine wpList_store_row rfl 46 (.tmp 4) (.tmp 44) rfl w.heap.size #[.int .i64 x0, .bool u, .int .i64 x1, .int .i64 x2] rfl rfl _ _ F2.out (by kernel_rfl) rfl (by simp [Value.oneCell']) ?_))
        refine bodyPost_ret (results_cell_row rfl _ _ w.heap.size _ _ (0, 0) _ rfl F3.out Tryd.underlying46 rfl (by as_aux_lemma => kernel_rfl)) rfl ?_
        exact F4.out
      · have hne : ((er : Int) != 0) = true := by simp; omega
        have HE := Lib.hid he0
        clear he0
        go_wp2_with (first
          | (go_at_call 32; (with_reducible refine (HFail.out x HB8.out).mono ?_); rintro e w9 ⟨rfl, hr, hk⟩; have F := FIN2.out x w9 HB8.out hr hk HE.out; have F1 := Lib.hid F.1; have F2 := Lib.hid F.2.1; have F3 := Lib.hid F.2.2.1; have F4 := Lib.hid F.2.2.2; clear F hr hk)
          | (refine wpList_load_row rfl 46 (.tmp 5) rfl (w.heap.size + 1) rfl _ _ _ _ F2.out Tryd.underlying46 rfl (by kernel_rfl) ?_)
          | (refine wpList_store_row rfl 46 (.tmp 4) (.tmp 38) rfl w.heap.size #[.int .i64 0, .bool false, .int .i64 0, .int .i64 0] rfl rfl _ _ F1.out (by kernel_rfl) rfl (by simp [Value.oneCell']) ?_))
        refine bodyPost_ret (results_cell_row rfl _ _ w.heap.size _ _ (0, 0) _ rfl F3.out Tryd.underlying46 rfl (by as_aux_lemma => kernel_rfl)) rfl ?_
        exact F4.out
  · have HG := Lib.hid (goes_any h2 false (by simp [h0]))
    have FIN : Hid (Q (.returned (.agg #[.int .i64 0, .bool false, .int .i64 0, .int .i64 0])) (W0.setRow w.heap.size #[.int .i64 0, .bool false, .int .i64 0, .int .i64 0])) := Lib.hid (by
      have hk : Keep (Db b) w (W0.setRow w.heap.size #[.int .i64 0, .bool false, .int .i64 0, .int .i64 0]) := Keep.of_below (below_setRow hB0 (Nat.le_refl _) _)
      rw [hQ]
      refine ⟨by rw [if_neg (fun e => h0 e.1)], ?_, hk⟩
      unfold Tb.step
      rw [if_neg h0]
      exact h.below (Nat.le_refl _) (below_setRow hB0 (Nat.le_refl _) _))
    have HR : Hid ((W0.setRow w.heap.size #[.int .i64 0, .bool false, .int .i64 0, .int .i64 0]).heap[w.heap.size]? = some (.cells #[.int .i64 0, .bool false, .int .i64 0, .int .i64 0] 46 (0, 0))) := Lib.hid (setRow_heap _ _ _ _ _ _ r0)
    have HW0 := Lib.hid hW0
    have R0 := Lib.hid r0
    have R1 := Lib.hid r1
    clear h h0 hf hnx hQ h2 hB0 r0 r1 hW0
    go_enter Tryd.func63, Tryd.ntmps63
    go_wp2_with fail
    rw [← HW0.out]
    go_wp2_with (first
      | (go_at_call 69; refine HG.out.mono ?_; rintro e w' ⟨rfl, rfl⟩)
      | (refine wpList_load_row rfl 46 (.tmp 5) rfl (w.heap.size + 1) rfl _ _ _ _ R1.out Tryd.underlying46 rfl (by kernel_rfl) ?_)
      | (refine wpList_store_row rfl 46 (.tmp 4) (.tmp 12) rfl w.heap.size #[.int .i64 0, .bool false, .int .i64 0, .int .i64 0] rfl rfl _ _ R0.out (by kernel_rfl) rfl (by simp [Value.oneCell']) ?_))
    refine bodyPost_ret (results_cell_row rfl _ _ w.heap.size _ _ (0, 0) _ rfl HR.out Tryd.underlying46 rfl (by as_aux_lemma => kernel_rfl)) rfl ?_
    exact FIN.out
set_option maxHeartbeats 8000000 in
theorem item_Comp {w : World} {b n c : Nat} {A : Option Addr} {r : Rd} (h : RdAt w b A n c r) (fid : Nat) (lb : Array Value) (he : ∀ args w, (callFunc fid args).run Tryd.prog w = .ok (.enter fid args) w) (x0 : Int) (nx er : Nat) (hnx : er = 0 → nx ≤ n)
    (hf : ∀ W, Below w.heap.size w W → Calls Tryd.prog fid (#[.slice A n c, .int .i64 (r.p : Int)] ++ lb) W fun e W' => e = .returned (.tuple #[.agg #[.int .i64 x0, .slice none 0 0, .slice none 0 0, .slice none 0 0], .int .i64 (nx : Int), .int .i64 (er : Int)]) ∧ Below W.heap.size W W') :
    Calls Tryd.prog 109 #[.pointer (some ⟨b, 0, none⟩), .func (.func fid) #[] lb] w fun e w' => e = .returned (.agg (if r.e = 0 ∧ er = 0 then #[.int .i64 x0, .slice none 0 0, .slice none 0 0, .slice none 0 0] else #[.int .i64 0, .slice none 0 0, .slice none 0 0, .slice none 0 0])) ∧ RdAt w' b A n c (Tb.step nx er r) ∧ Keep (Db b) w w' := by
  obtain ⟨Q, hQ⟩ : ∃ Q : Ending → World → Prop, Q = (fun e w' => e = .returned (.agg (if r.e = 0 ∧ er = 0 then #[.int .i64 x0, .slice none 0 0, .slice none 0 0, .slice none 0 0] else #[.int .i64 0, .slice none 0 0, .slice none 0 0, .slice none 0 0])) ∧ RdAt w' b A n c (Tb.step nx er r) ∧ Keep (Db b) w w') := ⟨_, rfl⟩
  rw [← hQ]
  obtain ⟨W0, hW0⟩ : ∃ W0, W0 = (w.alloc (.cells #[.int .i64 0, .slice none 0 0, .slice none 0 0, .slice none 0 0] 68)).alloc (.cells #[.int .i64 0, .slice none 0 0, .slice none 0 0, .slice none 0 0] 68) := ⟨_, rfl⟩
  have hz : W0.heap.size = w.heap.size + 2 := by rw [hW0]; simp
  have hB0 : Below w.heap.size w W0 := by rw [hW0]; exact ((Below.refl _ _).alloc (Nat.le_refl _) _).alloc (by simp) _
  have r0 : W0.heap[w.heap.size]? = some (.cells #[.int .i64 0, .slice none 0 0, .slice none 0 0, .slice none 0 0] 68 (0, 0)) := by rw [hW0]; exact heap_alloc2_old _ _ _
  have r1 : W0.heap[w.heap.size + 1]? = some (.cells #[.int .i64 0, .slice none 0 0, .slice none 0 0, .slice none 0 0] 68 (0, 0)) := by rw [hW0]; exact heap_alloc2_new _ _ _
  have h2 := h.below (Nat.le_refl _) hB0
  have hlt := h.lt
  by_cases h0 : r.e = 0
  · have HG := Lib.hid (goes_any h2 true (by simp [h0]))
    have HF : Hid (∀ W, Below W0.heap.size W0 W → Calls Tryd.prog fid (#[.slice A n c, .int .i64 (r.p : Int)] ++ lb) W fun e W' => e = .returned (.tuple #[.agg #[.int .i64 x0, .slice none 0 0, .slice none 0 0, .slice none 0 0], .int .i64 (nx : Int), .int .i64 (er : Int)]) ∧ Below W.heap.size W W') := Lib.hid fun W hW => hf W (hB0.trans (hW.mono hB0.size))
    have d0 := h2.cells.1
    have d2 := h2.cells.2.2.1
    have hb0 : b < W0.heap.size := by omega
    have RW0 : Hid (W0.heap.size = w.heap.size + 2) := Lib.hid hz
    have Hlt := Lib.hid hlt
    have H2 := Lib.hid h2
    have HB0 := Lib.hid hB0
    have HW0 := Lib.hid hW0
    have R0 := Lib.hid r0
    have R1 := Lib.hid r1
    -- behind the region: a world x in which all lies, and the variable's block g
    have FIN : Hid (∀ (x : World) (g : Nat), Below W0.heap.size W0 x → x.heap[g]? = some (.cells #[.int .i64 x0, .slice none 0 0, .slice none 0 0, .slice none 0 0] 68 (0, 0)) → W0.heap.size ≤ g → er = 0 →
        (x.setCell ⟨b, 2, none⟩ (.int .i64 (nx : Int))).heap[g]? = some (.cells #[.int .i64 x0, .slice none 0 0, .slice none 0 0, .slice none 0 0] 68 (0, 0)) ∧
        (x.setCell ⟨b, 2, none⟩ (.int .i64 (nx : Int))).heap[w.heap.size]? = some (.cells #[.int .i64 0, .slice none 0 0, .slice none 0 0, .slice none 0 0] 68 (0, 0)) ∧ ((x.setCell ⟨b, 2, none⟩ (.int .i64 (nx : Int))).setRow w.heap.size #[.int .i64 x0, .slice none 0 0, .slice none 0 0, .slice none 0 0]).heap[w.heap.size]? = some (.cells #[.int .i64 x0, .slice none 0 0, .slice none 0 0, .slice none 0 0] 68 (0, 0)) ∧
        Q (.returned (.agg #[.int .i64 x0, .slice none 0 0, .slice none 0 0, .slice none 0 0])) ((x.setCell ⟨b, 2, none⟩ (.int .i64 (nx : Int))).setRow w.heap.size #[.int .i64 x0, .slice none 0 0, .slice none 0 0, .slice none 0 0])) := Lib.hid fun x g hx hg hgz he0 => by
      have hR := (h2.below (Nat.le_refl _) hx).goto nx (hnx he0) _ rfl
      have e0 : (x.setCell ⟨b, 2, none⟩ (.int .i64 (nx : Int))).heap[w.heap.size]? = some (.cells #[.int .i64 0, .slice none 0 0, .slice none 0 0, .slice none 0 0] 68 (0, 0)) := by
        rw [heap_setCell_other _ _ _ _ (by dsimp only; omega), hx.block _ (by omega)]; exact r0
      have hk : Keep (Db b) w (x.setCell ⟨b, 2, none⟩ (.int .i64 (nx : Int))) := (Keep.of_below (hB0.trans (hx.mono hB0.size))).trans hR.2
      have hs : Below w.heap.size (x.setCell ⟨b, 2, none⟩ (.int .i64 (nx : Int))) ((x.setCell ⟨b, 2, none⟩ (.int .i64 (nx : Int))).setRow w.heap.size #[.int .i64 x0, .slice none 0 0, .slice none 0 0, .slice none 0 0]) := below_setRow (Below.refl _ _) (Nat.le_refl _) _
      refine ⟨by rw [heap_setCell_other _ _ _ _ (by dsimp only; omega)]; exact hg, e0, setRow_heap _ _ _ _ _ _ e0, ?_⟩
      rw [hQ]
      refine ⟨by rw [if_pos ⟨h0, he0⟩], ?_, hk.lies (Nat.le_refl _) hs⟩
      unfold Tb.step
      rw [if_pos h0, if_pos he0]
      exact h.later hk hs hR.1.1 rfl hR.1.2.2
    have FIN2 : Hid (∀ (x y : World), Below W0.heap.size W0 x → RdAt y b A n c (Tb.fail er r.p r) → Keep (Db b) x y → er ≠ 0 →
        y.heap[w.heap.size]? = some (.cells #[.int .i64 0, .slice none 0 0, .slice none 0 0, .slice none 0 0] 68 (0, 0)) ∧ y.heap[w.heap.size + 1]? = some (.cells #[.int .i64 0, .slice none 0 0, .slice none 0 0, .slice none 0 0] 68 (0, 0)) ∧ (y.setRow w.heap.size #[.int .i64 0, .slice none 0 0, .slice none 0 0, .slice none 0 0]).heap[w.heap.size]? = some (.cells #[.int .i64 0, .slice none 0 0, .slice none 0 0, .slice none 0 0] 68 (0, 0)) ∧
        Q (.returned (.agg #[.int .i64 0, .slice none 0 0, .slice none 0 0, .slice none 0 0])) (y.setRow w.heap.size #[.int .i64 0, .slice none 0 0, .slice none 0 0, .slice none 0 0])) := Lib.hid fun x y hx hy hxy he0 => by
      have hz2 := hx.size
      have e0 : y.heap[w.heap.size]? = some (.cells #[.int .i64 0, .slice none 0 0, .slice none 0 0, .slice none 0 0] 68 (0, 0)) := by rw [hxy.block _ (by omega) (fun _ e => by omega), hx.block _ (by omega)]; exact r0
      have e1 : y.heap[w.heap.size + 1]? = some (.cells #[.int .i64 0, .slice none 0 0, .slice none 0 0, .slice none 0 0] 68 (0, 0)) := by rw [hxy.block _ (by omega) (fun _ e => by omega), hx.block _ (by omega)]; exact r1
      have hk : Keep (Db b) w y := (Keep.of_below (hB0.trans (hx.mono hB0.size))).trans hxy
      have hs : Below w.heap.size y (y.setRow w.heap.size #[.int .i64 0, .slice none 0 0, .slice none 0 0, .slice none 0 0]) := below_setRow (Below.refl _ _) (Nat.le_refl _) _
      refine ⟨e0, e1, setRow_heap _ _ _ _ _ _ e0, ?_⟩
      rw [hQ]
      refine ⟨by rw [if_neg (fun e => he0 e.2)], ?_, hk.lies (Nat.le_refl _) hs⟩
      unfold Tb.step
      unfold Tb.fail at hy
      rw [if_pos ⟨h0, by omega⟩] at hy
      rw [if_pos h0, if_neg he0]
      exact h.later hk hs hy.1 rfl hy.2.2
    have HFail : Hid (∀ x, Below W0.heap.size W0 x → Calls Tryd.prog 32 #[.pointer (some ⟨b, 0, none⟩), .int .i64 (er : Int), .int .i64 (r.p : Int)] x fun e w' => e = .returned (.tuple #[]) ∧ RdAt w' b A n c (Tb.fail er r.p r) ∧ Keep (Db b) x w') := Lib.hid fun x hx => Fail_any (h2.below (Nat.le_refl _) hx) er r.p
    have HC : Hid (∀ x, Below W0.heap.size W0 x → x.cell? ⟨b, 2, none⟩ = some (.int .i64 (r.p : Int)) ∧ x.frozen? ⟨b, 2, none⟩ = false) := Lib.hid fun x hx => ⟨(h2.below (Nat.le_refl _) hx).cells.2.2.1, (h2.below (Nat.le_refl _) hx).free 2⟩
    obtain ⟨p, hp⟩ : ∃ p, r.p = p := ⟨_, rfl⟩
    rw [hp] at d2 HF HFail HC FIN2
    clear h h0 hf hnx hp hQ h2 hB0 r0 r1 hW0 hz hlt
    go_enter Tryd.func109, Tryd.ntmps109
    go_wp2_with fail
    rw [← HW0.out]
    go_wp2_with (go_at_call 69; refine HG.out.mono ?_; rintro e w' ⟨rfl, rfl⟩)
    have BW : Below W0.heap.size W0 W0 := Below.refl _ _
    go_region_held3 (fun w' => w'.cell? ⟨b, 0, none⟩ = some (.slice A n c) ∧ w'.cell? ⟨b, 2, none⟩ = some (.int .i64 (p : Int)) ∧ Below W0.heap.size W0 w')
      (first
        | exact HS8.out
        | exact S_step hb0 HS8.out ((Below.refl _ _).alloc HS8.out.2.2.size _)
        | exact S_step hb0 HS8.out ((((((Below.refl _ _).setCell (p := ⟨W0.heap.size, 0, none⟩) (Nat.le_refl _) _).setCell (p := ⟨W0.heap.size, 1, none⟩) (Nat.le_refl _) _).setCell (p := ⟨W0.heap.size, 2, none⟩) (Nat.le_refl _) _).setCell (p := ⟨W0.heap.size, 3, none⟩) (Nat.le_refl _) _))
        | exact S_step hb0 ⟨d0, d2, BW⟩ (Below.refl _ _).drew
        | exact S_step hb0 ⟨d0, d2, BW⟩ ((Below.refl _ _).drew.alloc (by simp) _))
      ((first
        | ((try go_split_ands); (with_reducible refine (HF.out _ (by assumption)).mono ?_); rintro e w8 ⟨rfl, hbb⟩; have HBB := Lib.hid hbb; have HS8 := Lib.hid (by first | exact S_step hb0 (by assumption) (hbb.mono (Below.size (by assumption))) | exact S_step hb0 ⟨by assumption, by assumption, by assumption⟩ (hbb.mono (Below.size (by assumption))) : w8.cell? ⟨b, 0, none⟩ = some (.slice A n c) ∧ w8.cell? ⟨b, 2, none⟩ = some (.int .i64 (p : Int)) ∧ Below W0.heap.size W0 w8); (try (have hq := (hbb.block W0.heap.size (by simp)).trans (World.alloc_heap_new _ _); have q0 := cell_of_row _ _ 0 _ _ _ hq; have g0 := frozen_of_row _ _ 0 _ _ hq; have q1 := cell_of_row _ _ 1 _ _ _ hq; have g1 := frozen_of_row _ _ 1 _ _ hq; have q2 := cell_of_row _ _ 2 _ _ _ hq; have g2 := frozen_of_row _ _ 2 _ _ hq; have q3 := cell_of_row _ _ 3 _ _ _ hq; have g3 := frozen_of_row _ _ 3 _ _ hq; have HQ8 := Lib.hid hq; clear hq)); clear hbb)))
    all_goals
      first
        | (have hg : ((((w8.setCell ⟨W0.heap.size, 0, none⟩ (.int .i64 x0)).setCell ⟨W0.heap.size, 1, none⟩ (.slice none 0 0)).setCell ⟨W0.heap.size, 2, none⟩ (.slice none 0 0)).setCell ⟨W0.heap.size, 3, none⟩ (.slice none 0 0)).heap[W0.heap.size]? = some (.cells #[.int .i64 x0, .slice none 0 0, .slice none 0 0, .slice none 0 0] 68 (0, 0)) := by simpa using (heap_setCell_same _ _ 3 _ _ (.slice none 0 0) (heap_setCell_same _ _ 2 _ _ (.slice none 0 0) (heap_setCell_same _ _ 1 _ _ (.slice none 0 0) (heap_setCell_same _ _ 0 _ _ (.int .i64 x0) HQ8.out))))
           have hb : Below W0.heap.size W0 ((((w8.setCell ⟨W0.heap.size, 0, none⟩ (.int .i64 x0)).setCell ⟨W0.heap.size, 1, none⟩ (.slice none 0 0)).setCell ⟨W0.heap.size, 2, none⟩ (.slice none 0 0)).setCell ⟨W0.heap.size, 3, none⟩ (.slice none 0 0)) := HS8.out.2.2.trans (((((Below.refl _ _).setCell (p := ⟨W0.heap.size, 0, none⟩) (Nat.le_refl _) _).setCell (p := ⟨W0.heap.size, 1, none⟩) (Nat.le_refl _) _).setCell (p := ⟨W0.heap.size, 2, none⟩) (Nat.le_refl _) _).setCell (p := ⟨W0.heap.size, 3, none⟩) (Nat.le_refl _) _)
           obtain ⟨x, hx⟩ : ∃ x, x = ((((w8.setCell ⟨W0.heap.size, 0, none⟩ (.int .i64 x0)).setCell ⟨W0.heap.size, 1, none⟩ (.slice none 0 0)).setCell ⟨W0.heap.size, 2, none⟩ (.slice none 0 0)).setCell ⟨W0.heap.size, 3, none⟩ (.slice none 0 0)) := ⟨_, rfl⟩
           rw [← hx] at hg hb ⊢
           obtain ⟨g, hgg⟩ : ∃ g, g = W0.heap.size := ⟨_, rfl⟩
           have hgz : W0.heap.size ≤ g := by omega
           rw [← hgg] at hg
           simp only [← hgg])
        | (have hg : (w8.alloc (.cells #[.int .i64 x0, .slice none 0 0, .slice none 0 0, .slice none 0 0] 68)).heap[w8.heap.size]? = some (.cells #[.int .i64 x0, .slice none 0 0, .slice none 0 0, .slice none 0 0] 68 (0, 0)) := World.alloc_heap_new _ _
           have hb : Below W0.heap.size W0 (w8.alloc (.cells #[.int .i64 x0, .slice none 0 0, .slice none 0 0, .slice none 0 0] 68)) := HS8.out.2.2.alloc HS8.out.2.2.size _
           have hgz := HS8.out.2.2.size
           obtain ⟨x, hx⟩ : ∃ x, x = w8.alloc (.cells #[.int .i64 x0, .slice none 0 0, .slice none 0 0, .slice none 0 0] 68) := ⟨_, rfl⟩
           rw [← hx] at hg hb ⊢
           obtain ⟨g, hgg⟩ : ∃ g, g = w8.heap.size := ⟨_, rfl⟩
           rw [← hgg] at hg hgz ⊢)
      have HG8 := Lib.hid hg
      have HB8 := Lib.hid hb
      have HZ8 := Lib.hid hgz
      have hc := HC.out x hb
      obtain ⟨hc2, hf2⟩ := hc
      clear hg hb hx hgg hgz HS8
      try clear HQ8
      by_cases he0 : er = 0
      · have F := FIN.out x g HB8.out HG8.out HZ8.out he0
        subst he0
        have F1 := Lib.hid F.1
        have F2 := Lib.hid F.2.1
        have F3 := Lib.hid F.2.2.1
        have F4 := Lib.hid F.2.2.2
        clear F
        go_wp2_with (first
          | (refine wpList_load_row rfl 68 (.tmp 6) rfl g rfl _ _ _ _ F1.out Tryd.underlying68 rfl (by kernel_rfl) ?_)
          | (refine wpList_store_row rfl 68 (.tmp 4) (.tmp 44) rfl w.heap.size #[.int .i64 x0, .slice none 0 0, .slice none 0 0, .slice none 0 0] rfl rfl _ _ F2.out (by kernel_rfl) rfl (by simp [Value.oneCell']) ?_))
        refine bodyPost_ret (results_cell_row rfl _ _ w.heap.size _ _ (0, 0) _ rfl F3.out Tryd.underlying68 rfl (by as_aux_lemma => kernel_rfl)) rfl ?_
        exact F4.out
      · have hne : ((er : Int) != 0) = true := by simp; omega
        have HE := Lib.hid he0
        clear he0
        go_wp2_with (first
          | (go_at_call 32; (with_reducible refine (HFail.out x HB8.out).mono ?_); rintro e w9 ⟨rfl, hr, hk⟩; have F := FIN2.out x w9 HB8.out hr hk HE.out; have F1 := Lib.hid F.1; have F2 := Lib.hid F.2.1; have F3 := Lib.hid F.2.2.1; have F4 := Lib.hid F.2.2.2; clear F hr hk)
          | (refine wpList_load_row rfl 68 (.tmp 5) rfl (w.heap.size + 1) rfl _ _ _ _ F2.out Tryd.underlying68 rfl (by kernel_rfl) ?_)
          | (refine wpList_store_row rfl 68 (.tmp 4) (.tmp 38) rfl w.heap.size #[.int .i64 0, .slice none 0 0, .slice none 0 0, .slice none 0 0] rfl rfl _ _ F1.out (by kernel_rfl) rfl (by simp [Value.oneCell']) ?_))
        refine bodyPost_ret (results_cell_row rfl _ _ w.heap.size _ _ (0, 0) _ rfl F3.out Tryd.underlying68 rfl (by as_aux_lemma => kernel_rfl)) rfl ?_
        exact F4.out
  · have HG := Lib.hid (goes_any h2 false (by simp [h0]))
    have FIN : Hid (Q (.returned (.agg #[.int .i64 0, .slice none 0 0, .slice none 0 0, .slice none 0 0])) (W0.setRow w.heap.size #[.int .i64 0, .slice none 0 0, .slice none 0 0, .slice none 0 0])) := Lib.hid (by
      have hk : Keep (Db b) w (W0.setRow w.heap.size #[.int .i64 0, .slice none 0 0, .slice none 0 0, .slice none 0 0]) := Keep.of_below (below_setRow hB0 (Nat.le_refl _) _)
      rw [hQ]
      refine ⟨by rw [if_neg (fun e => h0 e.1)], ?_, hk⟩
      unfold Tb.step
      rw [if_neg h0]
      exact h.below (Nat.le_refl _) (below_setRow hB0 (Nat.le_refl _) _))
    have HR : Hid ((W0.setRow w.heap.size #[.int .i64 0, .slice none 0 0, .slice none 0 0, .slice none 0 0]).heap[w.heap.size]? = some (.cells #[.int .i64 0, .slice none 0 0, .slice none 0 0, .slice none 0 0] 68 (0, 0))) := Lib.hid (setRow_heap _ _ _ _ _ _ r0)
    have HW0 := Lib.hid hW0
    have R0 := Lib.hid r0
    have R1 := Lib.hid r1
    clear h h0 hf hnx hQ h2 hB0 r0 r1 hW0
    go_enter Tryd.func109, Tryd.ntmps109
    go_wp2_with fail
    rw [← HW0.out]
    go_wp2_with (first
      | (go_at_call 69; refine HG.out.mono ?_; rintro e w' ⟨rfl, rfl⟩)
      | (refine wpList_load_row rfl 68 (.tmp 5) rfl (w.heap.size + 1) rfl _ _ _ _ R1.out Tryd.underlying68 rfl (by kernel_rfl) ?_)
      | (refine wpList_store_row rfl 68 (.tmp 4) (.tmp 12) rfl w.heap.size #[.int .i64 0, .slice none 0 0, .slice none 0 0, .slice none 0 0] rfl rfl _ _ R0.out (by kernel_rfl) rfl (by simp [Value.oneCell']) ?_))
    refine bodyPost_ret (results_cell_row rfl _ _ w.heap.size _ _ (0, 0) _ rfl HR.out Tryd.underlying68 rfl (by as_aux_lemma => kernel_rfl)) rfl ?_
    exact FIN.out
end Go.Proofs.YtphmknhlibampaaDoor

/-
  Layer 6, code: sub.
-/
import Derived.Test.YtphmknhlibampaaDoorTbM
import Derived.Test.YtphmknhlibampaaDoorKitW
namespace Go.Proofs.YtphmknhlibampaaDoor
open Go.RowKit
set_option linter.unusedVariables false
set_option linter.unusedSimpArgs false
set_option maxRecDepth 100000

/-- A declared type whose lists lie in blocks from B on. -/
structure OwnS (B : Nat) (W : World) (x : Sr) (s : Sb) : Prop where
  fin : x.fin = s.fin
  sups : OwnG 42 2 Hp.cs B W (.slice x.x1.a x.x1.n x.x1.c) s.sups
  comp : OwnC B W x.k x.x2 x.x3 x.x4 s.c
def SubOut (b : Nat) (A : Option Addr) (n c : Nat) (q : Sb × Rd) (w : World) (en : Ending) (w' : World) : Prop :=
  ∃ x : Sr, en = .returned (.agg #[.bool x.fin, .slice x.x1.a x.x1.n x.x1.c, .int .i64 x.k, .slice x.x2.a x.x2.n x.x2.c, .slice x.x3.a x.x3.n x.x3.c, .slice x.x4.a x.x4.n x.x4.c]) ∧ OwnS w.heap.size w' x q.1 ∧ RdAt w' b A n c q.2 ∧ Keep (Db b) w w'
abbrev noSub : Array Value := #[.bool false, .slice none 0 0, .int .i64 0, .slice none 0 0, .slice none 0 0, .slice none 0 0]
/-- How it stands within sub. -/
structure SubSt (w y : World) (b : Nat) (A : Option Addr) (n c : Nat) (r' : Rd) (row : Array Value) : Prop where
  rd : RdAt y b A n c r'
  kp : Keep (Db b) w y
  r2 : y.heap[w.heap.size]? = some (.cells noSub 70 (0, 0))
  r3 : y.heap[w.heap.size + 1]? = some (.cells row 70 (0, 0))
  sz : w.heap.size + 2 ≤ y.heap.size
section
variable {w y z : World} {b n c : Nat} {A : Option Addr} {r r' r'' : Rd} {row row' : Array Value}
theorem SubSt.call (h : SubSt w y b A n c r' row) (hr : RdAt w b A n c r) (h1 : RdAt z b A n c r'') (h2 : Keep (Db b) y z) : SubSt w z b A n c r'' row := by
  have hlt := hr.lt
  have hs := h.sz
  exact ⟨h1, h.kp.trans h2, (h2.block _ (by omega) (fun _ e => by have : w.heap.size = b := e; omega)).trans h.r2, (h2.block _ (by omega) (fun _ e => by have : w.heap.size + 1 = b := e; omega)).trans h.r3, Nat.le_trans hs h2.size⟩
theorem SubSt.set (h : SubSt w y b A n c r' row) (hr : RdAt w b A n c r) (i : Nat) (v : Value) (he : row.setIfInBounds i v = row') : SubSt w (y.setCell ⟨w.heap.size + 1, i, none⟩ v) b A n c r' row' := by
  have hs : Below w.heap.size y (y.setCell ⟨w.heap.size + 1, i, none⟩ v) := (Below.refl _ _).setCell (p := ⟨w.heap.size + 1, i, none⟩) (by dsimp only; omega) _
  refine ⟨hr.later h.kp hs h.rd.1 (hr.bs_eq h.kp h.rd) h.rd.2.2, h.kp.lies (Nat.le_refl _) hs, ?_, ?_, by simp; exact h.sz⟩
  · rw [heap_setCell_other _ _ _ _ (by dsimp only; omega)]; exact h.r2
  · rw [← he]; exact heap_setCell_same _ _ _ _ _ _ h.r3
theorem SubSt.put (h : SubSt w y b A n c r' row) (hr : RdAt w b A n c r) (row' : Array Value) : SubSt w (y.setRow (w.heap.size + 1) row') b A n c r' row' := by
  have hs : Below w.heap.size y (y.setRow (w.heap.size + 1) row') := below_setRow (Below.refl _ _) (by omega) _
  exact ⟨hr.later h.kp hs h.rd.1 (hr.bs_eq h.kp h.rd) h.rd.2.2, h.kp.lies (Nat.le_refl _) hs, (setRow_other _ _ _ _ (by omega)).trans h.r2, setRow_heap _ _ _ _ _ _ h.r3, by rw [size_setRow]; exact h.sz⟩
theorem SubSt.cell (h : SubSt w y b A n c r' row) (i : Nat) : y.cell? ⟨w.heap.size + 1, i, none⟩ = row[i]? := cell_of_row _ _ i _ _ (0, 0) h.r3
theorem SubSt.free (h : SubSt w y b A n c r' row) (i : Nat) : y.frozen? ⟨w.heap.size + 1, i, none⟩ = false := frozen_of_row _ _ _ _ _ h.r3
theorem SubSt.done (h : SubSt w y b A n c r' row) (hr : RdAt w b A n c r) : (y.setRow w.heap.size row).heap[w.heap.size]? = some (.cells row 70 (0, 0)) ∧ RdAt (y.setRow w.heap.size row) b A n c r' ∧ Keep (Db b) w (y.setRow w.heap.size row) := by
  have hs : Below w.heap.size y (y.setRow w.heap.size row) := below_setRow (Below.refl _ _) (Nat.le_refl _) _
  exact ⟨setRow_heap _ _ _ _ _ _ h.r2, hr.later h.kp hs h.rd.1 (hr.bs_eq h.kp h.rd) h.rd.2.2, h.kp.lies (Nat.le_refl _) hs⟩
theorem OwnC.imp {B : Nat} {k : Int} {x2 x3 x4 : Sl} {q : Cp} (h : OwnC B y k x2 x3 x4 q)
    (hi : ∀ {α : Type} {e sz : Nat} {cs : α → List Value} {v : Value} {l : List α}, OwnG e sz cs B y v l → OwnG e sz cs B z v l) : OwnC B z k x2 x3 x4 q := ⟨h.k, hi h.ps, hi h.rs, hi h.fs⟩
theorem OwnC.base {B B' : Nat} {k : Int} {x2 x3 x4 : Sl} {q : Cp} (h : OwnC B y k x2 x3 x4 q) (hB : B' ≤ B) : OwnC B' y k x2 x3 x4 q := ⟨h.k, h.ps.base hB, h.rs.base hB, h.fs.base hB⟩
set_option maxHeartbeats 8000000 in
theorem sub_any (h : RdAt w b A n c r) (hn : n < 1000000) (hT : Tab6 w) : Calls Tryd.prog 68 #[.pointer (some ⟨b, 0, none⟩)] w (SubOut b A n c (Tb.sub r) w) := by
  obtain ⟨W0, hW0⟩ : ∃ W0, W0 = (w.alloc (.cells noSub 70)).alloc (.cells #[.bool true, .slice none 0 0, .int .i64 0, .slice none 0 0, .slice none 0 0, .slice none 0 0] 70) := ⟨_, rfl⟩
  have HW0 := Lib.hid hW0
  have HH := Lib.hid h
  have HT := Lib.hid hT
  have Hlt := Lib.hid h.lt
  have S0 : Hid (SubSt w W0 b A n c r #[.bool true, .slice none 0 0, .int .i64 0, .slice none 0 0, .slice none 0 0, .slice none 0 0]) := Lib.hid (by
    have hB0 : Below w.heap.size w W0 := by rw [hW0]; exact ((Below.refl _ _).alloc (Nat.le_refl _) _).alloc (by simp) _
    exact ⟨h.below (Nat.le_refl _) hB0, Keep.of_below hB0, by rw [hW0]; exact heap_alloc2_old _ _ _, by rw [hW0]; exact heap_alloc2_new _ _ _, by rw [hW0]; simp⟩)
  cases hm0 : Tb.may 80 r with
  | true =>
    have HM0 := Lib.hid hm0
    have e : Tb.sub r = (⟨false, (Tb.list Tb.index (Tb.on r)).1, (Tb.comp (Tb.list Tb.index (Tb.on r)).2).1⟩, (Tb.comp (Tb.list Tb.index (Tb.on r)).2).2) := by unfold Tb.sub; simp only [hm0, if_true, if_false, Bool.false_eq_true]
    rw [e]
    have HV1 : Hid (∀ y, RdAt y b A n c (Tb.on r) → Keep (Db b) w y → Calls Tryd.prog 85 #[.pointer (some ⟨b, 0, none⟩), .func (.func 86) #[.pointer (some ⟨b, 0, none⟩)] #[]] y (ListOut b A n c 42 2 Hp.cs (Tb.list Tb.index (Tb.on r)).1 (Tb.list Tb.index (Tb.on r)).2 y)) := Lib.hid fun y hy hk => sups_any hy hn
    obtain ⟨q1, hq1⟩ : ∃ q, Tb.list Tb.index (Tb.on r) = q := ⟨_, rfl⟩
    rw [hq1] at HV1 ⊢
    have HC : Hid (∀ y, RdAt y b A n c q1.2 → Keep (Db b) w y → Calls Tryd.prog 87 #[.pointer (some ⟨b, 0, none⟩)] y (CompOut b A n c (Tb.comp q1.2) y)) := Lib.hid fun y hy hk => comp_any hy hn (HT.out.out HH.out hk)
    obtain ⟨q2, hq2⟩ : ∃ q, Tb.comp q1.2 = q := ⟨_, rfl⟩
    rw [hq2] at HC ⊢
    clear h hT hW0 e hq2 hm0 hq1
    go_enter Tryd.func68, Tryd.ntmps68
    go_wp2_with fail
    rw [← HW0.out]
    go_wp2_with (first
      | (go_at_call 61; (with_reducible refine (may_yes S0.out.rd 80 80 rfl HM0.out).mono ?_); rintro e y0 ⟨rfl, h1, h2⟩; have S0 := Lib.hid (S0.out.call HH.out h1 h2); clear h1 h2; have p0 := S0.out.cell 0; have g0 := S0.out.free 0; have S0 := Lib.hid (S0.out.set HH.out 0 (.bool false) (row' := #[.bool false, .slice none 0 0, .int .i64 0, .slice none 0 0, .slice none 0 0, .slice none 0 0]) rfl))
      | (go_at_call 85; (with_reducible refine (HV1.out _ S0.out.rd S0.out.kp).mono ?_); rintro e v1 ⟨x1, rfl, ho, h1, h2⟩; have hz0 := S0.out.sz; have S0 := Lib.hid (S0.out.call HH.out h1 h2); have p1 := S0.out.cell 1; have g1 := S0.out.free 1; have S0 := Lib.hid (S0.out.set HH.out 1 (.slice x1.a x1.n x1.c) (row' := #[.bool false, .slice x1.a x1.n x1.c, .int .i64 0, .slice none 0 0, .slice none 0 0, .slice none 0 0]) rfl); have HX := Lib.hid ((ho.base hz0).setCell_far (g := w.heap.size + 1) (by omega) 1 (.slice x1.a x1.n x1.c)); clear ho h1 h2 hz0)
      | (go_at_call 87; (with_reducible refine (HC.out _ S0.out.rd S0.out.kp).mono ?_); rintro e v2 ⟨k, x2, x3, x4, rfl, hc, h1, h2⟩; have hz0 := S0.out.sz; have S1 := Lib.hid (S0.out.call HH.out h1 h2); have S0 := Lib.hid (S1.out.put HH.out #[.bool false, .slice x1.a x1.n x1.c, .int .i64 k, .slice x2.a x2.n x2.c, .slice x3.a x3.n x3.c, .slice x4.a x4.n x4.c]); have HCC := Lib.hid ((hc.base hz0).imp (fun ho => ho.setRow_far (g := w.heap.size + 1) (by omega) #[.bool false, .slice x1.a x1.n x1.c, .int .i64 k, .slice x2.a x2.n x2.c, .slice x3.a x3.n x3.c, .slice x4.a x4.n x4.c])); have HX := Lib.hid ((HX.out.keepb (by have := Hlt.out; omega) h2).setRow_far (g := w.heap.size + 1) (by omega) #[.bool false, .slice x1.a x1.n x1.c, .int .i64 k, .slice x2.a x2.n x2.c, .slice x3.a x3.n x3.c, .slice x4.a x4.n x4.c]); clear hc h1 h2 hz0)
      | (refine wpList_store_at rfl 68 (.tmp 24) (.tmp 23) rfl (w.heap.size + 1) 2 (.agg #[.int .i64 k, .slice x2.a x2.n x2.c, .slice x3.a x3.n x3.c, .slice x4.a x4.n x4.c]) rfl rfl _ _ #[.bool false, .slice x1.a x1.n x1.c, .int .i64 k, .slice x2.a x2.n x2.c, .slice x3.a x3.n x3.c, .slice x4.a x4.n x4.c] S1.out.r3 (by kernel_rfl) (Nat.le_refl 6) (by rfl) (by rfl) ?_)
      | (refine wpList_load_row rfl 70 (.tmp 3) rfl (w.heap.size + 1) rfl _ _ _ _ S0.out.r3 Tryd.underlying70 rfl (by kernel_rfl) ?_)
      | (refine wpList_store_row rfl 70 (.tmp 2) (.tmp 25) rfl w.heap.size #[.bool false, .slice x1.a x1.n x1.c, .int .i64 k, .slice x2.a x2.n x2.c, .slice x3.a x3.n x3.c, .slice x4.a x4.n x4.c] rfl rfl _ _ S0.out.r2 (by kernel_rfl) rfl (by simp [Value.oneCell']) ?_))
    have D := S0.out.done HH.out
    exact bodyPost_ret (results_cell_row rfl _ _ w.heap.size _ _ (0, 0) _ rfl D.1 Tryd.underlying70 rfl (by as_aux_lemma => kernel_rfl)) rfl ⟨⟨false, x1, k, x2, x3, x4⟩, rfl, ⟨rfl, (HX.out.setRow_far (by omega) _).base (by omega), (HCC.out.imp (fun ho => ho.setRow_far (by omega) _)).base (by omega)⟩, D.2.1, D.2.2⟩
  | false =>
    cases hm1 : Tb.may 79 r with
    | true =>
      have HM0 := Lib.hid hm0
      have HM1 := Lib.hid hm1
      have e : Tb.sub r = (⟨true, (Tb.list Tb.index (Tb.on r)).1, (Tb.comp (Tb.list Tb.index (Tb.on r)).2).1⟩, (Tb.comp (Tb.list Tb.index (Tb.on r)).2).2) := by unfold Tb.sub; simp only [hm0, hm1, if_true, if_false, Bool.false_eq_true]
      rw [e]
      have HV1 : Hid (∀ y, RdAt y b A n c (Tb.on r) → Keep (Db b) w y → Calls Tryd.prog 85 #[.pointer (some ⟨b, 0, none⟩), .func (.func 86) #[.pointer (some ⟨b, 0, none⟩)] #[]] y (ListOut b A n c 42 2 Hp.cs (Tb.list Tb.index (Tb.on r)).1 (Tb.list Tb.index (Tb.on r)).2 y)) := Lib.hid fun y hy hk => sups_any hy hn
      obtain ⟨q1, hq1⟩ : ∃ q, Tb.list Tb.index (Tb.on r) = q := ⟨_, rfl⟩
      rw [hq1] at HV1 ⊢
      have HC : Hid (∀ y, RdAt y b A n c q1.2 → Keep (Db b) w y → Calls Tryd.prog 87 #[.pointer (some ⟨b, 0, none⟩)] y (CompOut b A n c (Tb.comp q1.2) y)) := Lib.hid fun y hy hk => comp_any hy hn (HT.out.out HH.out hk)
      obtain ⟨q2, hq2⟩ : ∃ q, Tb.comp q1.2 = q := ⟨_, rfl⟩
      rw [hq2] at HC ⊢
      clear h hT hW0 e hq2 hm0 hm1 hq1
      go_enter Tryd.func68, Tryd.ntmps68
      go_wp2_with fail
      rw [← HW0.out]
      go_wp2_with (first
        | (go_at_call 61; (with_reducible refine (may_no S0.out.rd 80 80 rfl HM0.out).mono ?_); rintro e y0 ⟨rfl, h1, h2⟩; have S0 := Lib.hid (S0.out.call HH.out h1 h2); clear h1 h2)
        | (go_at_call 61; (with_reducible refine (may_yes S0.out.rd 79 79 rfl HM1.out).mono ?_); rintro e y1 ⟨rfl, h1, h2⟩; have S0 := Lib.hid (S0.out.call HH.out h1 h2); clear h1 h2)
        | (go_at_call 85; (with_reducible refine (HV1.out _ S0.out.rd S0.out.kp).mono ?_); rintro e v1 ⟨x1, rfl, ho, h1, h2⟩; have hz0 := S0.out.sz; have S0 := Lib.hid (S0.out.call HH.out h1 h2); have p1 := S0.out.cell 1; have g1 := S0.out.free 1; have S0 := Lib.hid (S0.out.set HH.out 1 (.slice x1.a x1.n x1.c) (row' := #[.bool true, .slice x1.a x1.n x1.c, .int .i64 0, .slice none 0 0, .slice none 0 0, .slice none 0 0]) rfl); have HX := Lib.hid ((ho.base hz0).setCell_far (g := w.heap.size + 1) (by omega) 1 (.slice x1.a x1.n x1.c)); clear ho h1 h2 hz0)
        | (go_at_call 87; (with_reducible refine (HC.out _ S0.out.rd S0.out.kp).mono ?_); rintro e v2 ⟨k, x2, x3, x4, rfl, hc, h1, h2⟩; have hz0 := S0.out.sz; have S1 := Lib.hid (S0.out.call HH.out h1 h2); have S0 := Lib.hid (S1.out.put HH.out #[.bool true, .slice x1.a x1.n x1.c, .int .i64 k, .slice x2.a x2.n x2.c, .slice x3.a x3.n x3.c, .slice x4.a x4.n x4.c]); have HCC := Lib.hid ((hc.base hz0).imp (fun ho => ho.setRow_far (g := w.heap.size + 1) (by omega) #[.bool true, .slice x1.a x1.n x1.c, .int .i64 k, .slice x2.a x2.n x2.c, .slice x3.a x3.n x3.c, .slice x4.a x4.n x4.c])); have HX := Lib.hid ((HX.out.keepb (by have := Hlt.out; omega) h2).setRow_far (g := w.heap.size + 1) (by omega) #[.bool true, .slice x1.a x1.n x1.c, .int .i64 k, .slice x2.a x2.n x2.c, .slice x3.a x3.n x3.c, .slice x4.a x4.n x4.c]); clear hc h1 h2 hz0)
        | (refine wpList_store_at rfl 68 (.tmp 24) (.tmp 23) rfl (w.heap.size + 1) 2 (.agg #[.int .i64 k, .slice x2.a x2.n x2.c, .slice x3.a x3.n x3.c, .slice x4.a x4.n x4.c]) rfl rfl _ _ #[.bool true, .slice x1.a x1.n x1.c, .int .i64 k, .slice x2.a x2.n x2.c, .slice x3.a x3.n x3.c, .slice x4.a x4.n x4.c] S1.out.r3 (by kernel_rfl) (Nat.le_refl 6) (by rfl) (by rfl) ?_)
        | (refine wpList_load_row rfl 70 (.tmp 3) rfl (w.heap.size + 1) rfl _ _ _ _ S0.out.r3 Tryd.underlying70 rfl (by kernel_rfl) ?_)
        | (refine wpList_store_row rfl 70 (.tmp 2) (.tmp 25) rfl w.heap.size #[.bool true, .slice x1.a x1.n x1.c, .int .i64 k, .slice x2.a x2.n x2.c, .slice x3.a x3.n x3.c, .slice x4.a x4.n x4.c] rfl rfl _ _ S0.out.r2 (by kernel_rfl) rfl (by simp [Value.oneCell']) ?_))
      have D := S0.out.done HH.out
      exact bodyPost_ret (results_cell_row rfl _ _ w.heap.size _ _ (0, 0) _ rfl D.1 Tryd.underlying70 rfl (by as_aux_lemma => kernel_rfl)) rfl ⟨⟨true, x1, k, x2, x3, x4⟩, rfl, ⟨rfl, (HX.out.setRow_far (by omega) _).base (by omega), (HCC.out.imp (fun ho => ho.setRow_far (by omega) _)).base (by omega)⟩, D.2.1, D.2.2⟩
    | false =>
      have HM0 := Lib.hid hm0
      have HM1 := Lib.hid hm1
      have e : Tb.sub r = (⟨true, [], (Tb.comp r).1⟩, (Tb.comp r).2) := by unfold Tb.sub; simp only [hm0, hm1, if_true, if_false, Bool.false_eq_true]
      rw [e]
      have HC : Hid (∀ y, RdAt y b A n c r → Keep (Db b) w y → Calls Tryd.prog 87 #[.pointer (some ⟨b, 0, none⟩)] y (CompOut b A n c (Tb.comp r) y)) := Lib.hid fun y hy hk => comp_any hy hn (HT.out.out HH.out hk)
      obtain ⟨q2, hq2⟩ : ∃ q, Tb.comp r = q := ⟨_, rfl⟩
      rw [hq2] at HC ⊢
      clear h hT hW0 e hq2 hm0 hm1
      go_enter Tryd.func68, Tryd.ntmps68
      go_wp2_with fail
      rw [← HW0.out]
      go_wp2_with (first
        | (go_at_call 61; (with_reducible refine (may_no S0.out.rd 80 80 rfl HM0.out).mono ?_); rintro e y0 ⟨rfl, h1, h2⟩; have S0 := Lib.hid (S0.out.call HH.out h1 h2); clear h1 h2)
        | (go_at_call 61; (with_reducible refine (may_no S0.out.rd 79 79 rfl HM1.out).mono ?_); rintro e y1 ⟨rfl, h1, h2⟩; have S0 := Lib.hid (S0.out.call HH.out h1 h2); clear h1 h2)
        | (go_at_call 87; (with_reducible refine (HC.out _ S0.out.rd S0.out.kp).mono ?_); rintro e v2 ⟨k, x2, x3, x4, rfl, hc, h1, h2⟩; have hz0 := S0.out.sz; have S1 := Lib.hid (S0.out.call HH.out h1 h2); have S0 := Lib.hid (S1.out.put HH.out #[.bool true, .slice none 0 0, .int .i64 k, .slice x2.a x2.n x2.c, .slice x3.a x3.n x3.c, .slice x4.a x4.n x4.c]); have HCC := Lib.hid ((hc.base hz0).imp (fun ho => ho.setRow_far (g := w.heap.size + 1) (by omega) #[.bool true, .slice none 0 0, .int .i64 k, .slice x2.a x2.n x2.c, .slice x3.a x3.n x3.c, .slice x4.a x4.n x4.c])); clear hc h1 h2 hz0)
        | (refine wpList_store_at rfl 68 (.tmp 24) (.tmp 23) rfl (w.heap.size + 1) 2 (.agg #[.int .i64 k, .slice x2.a x2.n x2.c, .slice x3.a x3.n x3.c, .slice x4.a x4.n x4.c]) rfl rfl _ _ #[.bool true, .slice none 0 0, .int .i64 k, .slice x2.a x2.n x2.c, .slice x3.a x3.n x3.c, .slice x4.a x4.n x4.c] S1.out.r3 (by kernel_rfl) (Nat.le_refl 6) (by rfl) (by rfl) ?_)
        | (refine wpList_load_row rfl 70 (.tmp 3) rfl (w.heap.size + 1) rfl _ _ _ _ S0.out.r3 Tryd.underlying70 rfl (by kernel_rfl) ?_)
        | (refine wpList_store_row rfl 70 (.tmp 2) (.tmp 25) rfl w.heap.size #[.bool true, .slice none 0 0, .int .i64 k, .slice x2.a x2.n x2.c, .slice x3.a x3.n x3.c, .slice x4.a x4.n x4.c] rfl rfl _ _ S0.out.r2 (by kernel_rfl) rfl (by simp [Value.oneCell']) ?_))
      have D := S0.out.done HH.out
      exact bodyPost_ret (results_cell_row rfl _ _ w.heap.size _ _ (0, 0) _ rfl D.1 Tryd.underlying70 rfl (by as_aux_lemma => kernel_rfl)) rfl ⟨⟨true, Sl.no, k, x2, x3, x4⟩, rfl, ⟨rfl, OwnG.nil _ _, (HCC.out.imp (fun ho => ho.setRow_far (by omega) _)).base (by omega)⟩, D.2.1, D.2.2⟩
end
end Go.Proofs.YtphmknhlibampaaDoor

/-
  Texts of this claim, one behind the other: part 5.
-/
import Derived.Maps.AppendAt
import Derived.Deep.AppendLies
import Derived.Test.YtkdhjejchdcipaaDoorMgTbinCut4
/-
  Layer 6, code: a reader's heap types and value types: Heap, ref, Val, index.
-/
namespace Go.Proofs.YtkdhjejchdcipaaDoor
open Go.RowKit
set_option linter.unusedVariables false
set_option linter.unusedSimpArgs false
set_option maxRecDepth 100000

section
variable {w y : World} {b n c : Nat} {A : Option Addr} {r r' : Rd}
theorem RdAt.bs_eq (h : RdAt w b A n c r) (hk : Keep (Db b) w y) (hy : RdAt y b A n c r') : r'.bs = r.bs := by
  have l1 := h.len
  have l2 := hy.len
  rcases Nat.eq_zero_or_pos n with h0 | h0
  · rw [List.eq_nil_of_length_eq_zero (show r.bs.length = 0 by omega), List.eq_nil_of_length_eq_zero (show r'.bs.length = 0 by omega)]
  · obtain ⟨b1, o1, e1, -, c1⟩ := h.2.1.2.2.2.2 h0
    obtain ⟨b2, o2, e2, -, c2⟩ := hy.2.1.2.2.2.2 h0
    rw [e1] at e2
    injection e2 with e2
    injection e2 with e2 e3
    subst e2 e3
    refine List.ext_getElem (by omega) fun j hj hj' => ?_
    have h1 := hk.cells b1 _ _ (fun e => by rw [e] at c1; exact h.noByte _ _ (c1 j hj')) (c1 j hj')
    rw [c2 j hj] at h1
    injection h1 with h1
    injection h1 with _ h1
    omega
/-- The result's block, behind a reader's calls. -/
theorem res_row (h : RdAt w b A n c r) (zs : Array Value) (t : TypeId) (hy : RdAt y b A n c r') (hk : Keep (Db b) (w.alloc (.cells zs t)) y) : y.heap[w.heap.size]? = some (.cells zs t (0, 0)) ∧
    ∀ cs : Array Value, (y.setRow w.heap.size cs).heap[w.heap.size]? = some (.cells cs t (0, 0)) ∧ ∀ v, RdOut b A n c v r' w (.returned v) (y.setRow w.heap.size cs) := by
  have hlt := h.lt
  have e0 : y.heap[w.heap.size]? = some (.cells zs t (0, 0)) := (hk.block _ (by simp) (fun _ e => by omega)).trans (World.alloc_heap_new _ _)
  have hk0 : Keep (Db b) w y := (Keep.of_below ((Below.refl _ _).alloc (Nat.le_refl _) _)).trans hk
  refine ⟨e0, fun cs => ⟨setRow_heap _ _ _ _ _ _ e0, fun v => ⟨rfl, ?_, ?_⟩⟩⟩
  · have hs : Below w.heap.size y (y.setRow w.heap.size cs) := below_setRow (Below.refl _ _) (Nat.le_refl _) _
    exact h.later hk0 hs hy.1 (h.bs_eq hk0 hy) hy.2.2
  · exact hk0.lies (Nat.le_refl _) (below_setRow (Below.refl _ _) (Nat.le_refl _) _)
theorem may_yes (h : RdAt w b A n c r) (q : Int) (x : Nat) (hq : q = (x : Int)) (hm : Tb.may x r = true) :
    Calls Tryd.prog 85 #[.pointer (some ⟨b, 0, none⟩), .int .u8 q] w fun e w' => e = .returned (.bool true) ∧ RdAt w' b A n c (Tb.on r) ∧ Keep (Db b) w w' := by
  subst hq
  exact may_any h x true hm
theorem may_no (h : RdAt w b A n c r) (q : Int) (x : Nat) (hq : q = (x : Int)) (hm : Tb.may x r = false) :
    Calls Tryd.prog 85 #[.pointer (some ⟨b, 0, none⟩), .int .u8 q] w fun e w' => e = .returned (.bool false) ∧ RdAt w' b A n c r ∧ Keep (Db b) w w' := by
  subst hq
  exact may_any h x false hm
theorem Tab6.out (hT : Tab6 w) (h : RdAt w b A n c r) (hk : Keep (Db b) w y) : Tab6 y := fun j hj => by
  refine hk.cells _ _ _ (fun e => ?_) (hT j hj)
  have h1 := hT 0 (by omega)
  have h2 := h.cells.1
  have e : 1 = b := e
  subst e
  rw [h2] at h1
  cases h1
/-- A struct's item, as the reader tells it. -/
theorem item_outA {α : Type} (enc : α → Array Value) (d : α) (f : List Nat → Nat → α × Nat × Nat) (z : Array Value) (hz : enc d = z) {e : Ending} {w' : World}
    (h : e = .returned (.agg (if r.e = 0 ∧ (f r.bs r.p).2.2 = 0 then enc (f r.bs r.p).1 else z)) ∧ RdAt w' b A n c (Tb.step (f r.bs r.p).2.1 (f r.bs r.p).2.2 r) ∧ Keep (Db b) w w') :
    RdOut b A n c (.agg (enc (Tb.item d f r).1)) (Tb.item d f r).2 w e w' := by
  rw [Tb.item_eq]
  obtain ⟨h1, h2, h3⟩ := h
  refine ⟨h1.trans ?_, h2, h3⟩
  rw [← hz]
  dsimp only
  split <;> rfl
def HpA (h : Hp) : Array Value := #[.int .i64 h.k, .int .i64 h.n]
def VlA (v : Vl) : Array Value := #[.int .i64 v.k, .bool v.nu, .int .i64 v.h.k, .int .i64 v.h.n]
set_option maxHeartbeats 2000000 in
theorem Heap_rd (h : RdAt w b A n c r) (hT : Tab6 w) : Calls Tryd.prog 37 #[.pointer (some ⟨b, 0, none⟩)] w (RdOut b A n c (.agg #[.int .i64 (Tb.heap r).1.k, .int .i64 (Tb.heap r).1.n]) (Tb.heap r).2 w) := by
  obtain ⟨W0, hW0⟩ : ∃ W0, W0 = w.alloc (.cells #[.int .i64 0, .int .i64 0] 39) := ⟨_, rfl⟩
  have hB0 : Below w.heap.size w W0 := by rw [hW0]; exact (Below.refl _ _).alloc (Nat.le_refl _) _
  have h0 := h.below (Nat.le_refl _) hB0
  have hT0 := hT.below hB0
  have H := Lib.hid ((item_Heap h0 83 #[] (enters_of Tryd.func83 (by kernel_rfl) rfl) _ _ _ _ (fun e => by have := Tb.heapAt_le r.bs r.p e; rw [h.len] at this; exact this)
    (fun W hW => (heapAt_any (h0.bytes hW) (Nat.le_refl _) (hT0.below hW) h.pl).mono fun _ _ => Item.out)).mono fun _ _ => item_outA HpA ⟨0, 0⟩ Tb.heapAt _ rfl)
  obtain ⟨q, hq⟩ : ∃ q, Tb.item ⟨0, 0⟩ Tb.heapAt r = q := ⟨_, rfl⟩
  have hq2 : Tb.heap r = q := hq
  rw [hq] at H
  rw [hq2]
  have HW0 := Lib.hid hW0
  have HH := Lib.hid h
  clear h h0 hB0 hT hT0 hq hq2 hW0
  go_enter Tryd.func37, Tryd.ntmps37
  go_wp2_with fail
  rw [← HW0.out]
  go_wp2_with (first
    | (refine H.out.mono ?_; rintro e w1 ⟨rfl, h1, h2⟩; have F := res_row HH.out _ _ h1 (HW0.out ▸ h2); have F1 := Lib.hid F.1; have F2 := Lib.hid (F.2 #[.int .i64 q.1.k, .int .i64 q.1.n]); clear F h1 h2)
    | (refine wpList_store_row rfl 39 (.tmp 2) (.tmp 4) rfl w.heap.size #[.int .i64 q.1.k, .int .i64 q.1.n] rfl rfl _ _ F1.out (by kernel_rfl) rfl (by simp [Value.oneCell']) ?_))
  exact bodyPost_ret (results_cell_row rfl _ _ w.heap.size _ _ (0, 0) _ rfl F2.out.1 Tryd.underlying39 rfl (by as_aux_lemma => kernel_rfl)) rfl (F2.out.2 _)
theorem r_keep {W0 w1 w2 : World} (h : Keep (Db b) W0 w1) (h2 : Keep (Db b) w1 w2) : Keep (Db b) W0 w2 := h.trans h2
set_option maxHeartbeats 2000000 in
theorem ref_any (h : RdAt w b A n c r) (hT : Tab6 w) (nu : Bool) : Calls Tryd.prog 86 #[.pointer (some ⟨b, 0, none⟩), .bool nu] w (RdOut b A n c (Tb.ref nu r).1.val (Tb.ref nu r).2 w) := by
  obtain ⟨W0, hW0⟩ : ∃ W0, W0 = w.alloc (.cells #[.int .i64 0, .bool false, .int .i64 0, .int .i64 0] 46) := ⟨_, rfl⟩
  have hB0 : Below w.heap.size w W0 := by rw [hW0]; exact (Below.refl _ _).alloc (Nat.le_refl _) _
  have h0 := h.below (Nat.le_refl _) hB0
  have H := Lib.hid (Heap_rd h0 (hT.below hB0))
  obtain ⟨q, hq⟩ : ∃ q, Tb.heap r = q := ⟨_, rfl⟩
  have HW0 := Lib.hid hW0
  have HH := Lib.hid h
  have HR : Hid (∀ y, RdAt y b A n c q.2 → Keep (Db b) W0 y → RdAt (y.alloc (.cells #[.int .i64 q.1.k, .int .i64 q.1.n] 39)) b A n c q.2 ∧ Keep (Db b) W0 (y.alloc (.cells #[.int .i64 q.1.k, .int .i64 q.1.n] 39)) ∧ (y.alloc (.cells #[.int .i64 q.1.k, .int .i64 q.1.n] 39)).heap[y.heap.size]? = some (.cells #[.int .i64 q.1.k, .int .i64 q.1.n] 39 (0, 0))) := Lib.hid fun y h1 h2 => by
    have hb : Below y.heap.size y (y.alloc (.cells #[.int .i64 q.1.k, .int .i64 q.1.n] 39)) := (Below.refl _ _).alloc (Nat.le_refl _) _
    exact ⟨h1.below (Nat.le_refl _) hb, h2.trans (Keep.of_below hb), World.alloc_heap_new _ _⟩
  unfold Tb.ref
  rw [hq] at H ⊢
  by_cases he : q.2.e = 0
  · rw [if_pos he]
    have HG : Hid (∀ y, RdAt y b A n c q.2 → Calls Tryd.prog 92 #[.pointer (some ⟨b, 0, none⟩)] y fun e w' => e = .returned (.bool true) ∧ y = w') := Lib.hid fun y hy => goes_any hy true (by simp [he])
    clear h h0 hB0 hT hq hW0 he
    go_enter Tryd.func86, Tryd.ntmps86
    go_wp2_with fail
    rw [← HW0.out]
    go_wp2_with (first
      | (go_at_call 37; refine H.out.mono ?_; rintro e w1 ⟨rfl, h1, h2⟩; have R1 := Lib.hid (HR.out _ h1 h2); have F := res_row HH.out _ _ R1.out.1 (HW0.out ▸ R1.out.2.1); have F1 := Lib.hid F.1; have F2 := Lib.hid (F.2 #[.int .i64 3, .bool nu, .int .i64 q.1.k, .int .i64 q.1.n]); clear F h1 h2)
      | (go_at_call 92; refine (HG.out _ R1.out.1).mono ?_; rintro e w2 ⟨rfl, rfl⟩)
      | (refine wpList_load_row rfl 39 (.tmp 5) rfl w1.heap.size rfl _ _ _ _ R1.out.2.2 Tryd.underlying39 rfl (by kernel_rfl) ?_)
      | (refine wpList_store_row rfl 46 (.tmp 4) (.tmp 14) rfl w.heap.size #[.int .i64 3, .bool nu, .int .i64 q.1.k, .int .i64 q.1.n] rfl rfl _ _ F1.out (by kernel_rfl) rfl (by simp [Value.oneCell']) ?_))
    exact bodyPost_ret (results_cell_row rfl _ _ w.heap.size _ _ (0, 0) _ rfl F2.out.1 Tryd.underlying46 rfl (by as_aux_lemma => kernel_rfl)) rfl (F2.out.2 _)
  · rw [if_neg he]
    have HG : Hid (∀ y, RdAt y b A n c q.2 → Calls Tryd.prog 92 #[.pointer (some ⟨b, 0, none⟩)] y fun e w' => e = .returned (.bool false) ∧ y = w') := Lib.hid fun y hy => goes_any hy false (by simp [he])
    clear h h0 hB0 hT hq hW0 he
    go_enter Tryd.func86, Tryd.ntmps86
    go_wp2_with fail
    rw [← HW0.out]
    go_wp2_with (first
      | (go_at_call 37; refine H.out.mono ?_; rintro e w1 ⟨rfl, h1, h2⟩; have R1 := Lib.hid (HR.out _ h1 h2); have F := res_row HH.out _ _ R1.out.1 (HW0.out ▸ R1.out.2.1); have F1 := Lib.hid F.1; have F2 := Lib.hid (F.2 #[.int .i64 0, .bool false, .int .i64 0, .int .i64 0]); clear F h1 h2)
      | (go_at_call 92; refine (HG.out _ R1.out.1).mono ?_; rintro e w2 ⟨rfl, rfl⟩)
      | (refine wpList_store_row rfl 46 (.tmp 4) (.tmp 11) rfl w.heap.size #[.int .i64 0, .bool false, .int .i64 0, .int .i64 0] rfl rfl _ _ F1.out (by kernel_rfl) rfl (by simp [Value.oneCell']) ?_))
    exact bodyPost_ret (results_cell_row rfl _ _ w.heap.size _ _ (0, 0) _ rfl F2.out.1 Tryd.underlying46 rfl (by as_aux_lemma => kernel_rfl)) rfl (F2.out.2 _)
set_option maxHeartbeats 4000000 in
theorem index_any (h : RdAt w b A n c r) : Calls Tryd.prog 118 #[.pointer (some ⟨b, 0, none⟩)] w (RdOut b A n c (Tb.index r).1.val (Tb.index r).2 w) := by
  obtain ⟨W0, hW0⟩ : ∃ W0, W0 = w.alloc (.cells #[.int .i64 0, .int .i64 0] 39) := ⟨_, rfl⟩
  have hB0 : Below w.heap.size w W0 := by rw [hW0]; exact (Below.refl _ _).alloc (Nat.le_refl _) _
  have h0 := h.below (Nat.le_refl _) hB0
  have H := Lib.hid (U_rd h0 32)
  have hlt : (Tb.u 32 r).1 < 4294967296 := by
    unfold Tb.u Tb.item Tb.uAt
    split
    · split
      · exact Tb.told_lt32 _ _
      · show (0 : Nat) < 4294967296; omega
    · show (0 : Nat) < 4294967296; omega
  unfold Tb.index
  obtain ⟨q, hq⟩ : ∃ q, Tb.u 32 r = q := ⟨_, rfl⟩
  rw [hq] at H hlt ⊢
  have hw : IntKind.i64.wrap (q.1 : Int) = (q.1 : Int) := IntWalk.i64_in _ (by omega)
  have HW0 := Lib.hid hW0
  have HH := Lib.hid h
  have hq1 : (q.1 : Int) < 4294967296 := by omega
  clear h h0 hB0 hq hW0 hlt
  go_enter Tryd.func118, Tryd.ntmps118
  go_wp2_with fail
  rw [← HW0.out]
  go_wp2_with (first
    | (go_at_call 27; refine H.out.mono ?_; rintro e w1 ⟨rfl, h1, h2⟩; have F := res_row HH.out _ _ h1 (HW0.out ▸ h2); have F1 := Lib.hid F.1; have F2 := Lib.hid (F.2 #[.int .i64 13, .int .i64 q.1]); clear F h1 h2)
    | (refine wpList_store_row rfl 39 (.tmp 2) (.tmp 6) rfl w.heap.size #[.int .i64 13, .int .i64 q.1] rfl rfl _ _ F1.out (by kernel_rfl) rfl (by simp [Value.oneCell']) ?_))
  exact bodyPost_ret (results_cell_row rfl _ _ w.heap.size _ _ (0, 0) _ rfl F2.out.1 Tryd.underlying39 rfl (by as_aux_lemma => kernel_rfl)) rfl (F2.out.2 _)
end
end Go.Proofs.YtkdhjejchdcipaaDoor
/-
  Layer 6, code: a reader's value types, and what stands in a field: Val, store, field.
-/
namespace Go.Proofs.YtkdhjejchdcipaaDoor
open Go.RowKit
set_option linter.unusedVariables false
set_option linter.unusedSimpArgs false
set_option maxRecDepth 100000

section
variable {w y : World} {b n c : Nat} {A : Option Addr} {r r' : Rd}
theorem shortItem_any (h : RdAt w b A n c r) (hT : Tab6 w) : Calls Tryd.prog 87 #[.pointer (some ⟨b, 0, none⟩), .func (.func 88) #[] #[]] w (RdOut b A n c (Tb.item Tb.noVal Tb.shortAt r).1.val (Tb.item Tb.noVal Tb.shortAt r).2 w) :=
  (item_Val h 88 #[] (enters_of Tryd.func88 (by kernel_rfl) rfl) _ _ _ _ _ _ (fun e => by have := Tb.shortAt_le r.bs r.p e; rw [h.len] at this; exact this)
    (fun W hW => (shortAt_any (h.bytes hW) (Nat.le_refl _) (hT.below hW) h.pl).mono fun _ _ => Item.out)).mono fun _ _ => item_outA VlA Tb.noVal Tb.shortAt _ rfl
set_option maxHeartbeats 8000000 in
theorem Val_rd (h : RdAt w b A n c r) (hT : Tab6 w) : Calls Tryd.prog 39 #[.pointer (some ⟨b, 0, none⟩)] w (RdOut b A n c (Tb.val r).1.val (Tb.val r).2 w) := by
  obtain ⟨W0, hW0⟩ : ∃ W0, W0 = w.alloc (.cells #[.int .i64 0, .bool false, .int .i64 0, .int .i64 0] 46) := ⟨_, rfl⟩
  have hB0 : Below w.heap.size w W0 := by rw [hW0]; exact (Below.refl _ _).alloc (Nat.le_refl _) _
  have h0 := h.below (Nat.le_refl _) hB0
  have hT0 := hT.below hB0
  have HW0 := Lib.hid hW0
  have HH := Lib.hid h
  have hK : Hid (Keep (Db b) W0 W0) := Lib.hid (Keep.refl _)
  have hR := Lib.hid h0
  have H0 := Lib.hid h0
  have HT := Lib.hid hT0
  cases hm0 : Tb.may 127 r with
  | true =>
    have HM0 := Lib.hid hm0
    have e : Tb.val r = (⟨1, false, ⟨0, 0⟩⟩, Tb.on r) := by unfold Tb.val; simp only [hm0, if_true, if_false, Bool.false_eq_true]
    rw [e]
    clear h h0 hB0 hT hT0 hW0 e hm0
    go_enter Tryd.func39, Tryd.ntmps39
    go_wp2_with fail
    rw [← HW0.out]
    go_wp2_with (first
      | (go_at_call 85; (with_reducible refine (may_yes hR.out 127 127 rfl HM0.out).mono ?_); rintro e w0 ⟨rfl, h1, h2⟩; have hK := Lib.hid (r_keep hK.out h2); have hR := Lib.hid h1; clear h1 h2; have F := res_row HH.out _ _ hR.out (HW0.out ▸ hK.out); have F1 := Lib.hid F.1; have F2 := Lib.hid (F.2 #[.int .i64 1, .bool false, .int .i64 0, .int .i64 0]); clear F)
      | (refine wpList_store_row rfl 46 (.tmp 2) (.tmp 6) rfl w.heap.size #[.int .i64 1, .bool false, .int .i64 0, .int .i64 0] rfl rfl _ _ F1.out (by kernel_rfl) rfl (by simp [Value.oneCell']) ?_))
    exact bodyPost_ret (results_cell_row rfl _ _ w.heap.size _ _ (0, 0) _ rfl F2.out.1 Tryd.underlying46 rfl (by as_aux_lemma => kernel_rfl)) rfl (F2.out.2 _)
  | false =>
    cases hm1 : Tb.may 126 r with
    | true =>
      have HM0 := Lib.hid hm0
      have HM1 := Lib.hid hm1
      have e : Tb.val r = (⟨2, false, ⟨0, 0⟩⟩, Tb.on r) := by unfold Tb.val; simp only [hm0, hm1, if_true, if_false, Bool.false_eq_true]
      rw [e]
      clear h h0 hB0 hT hT0 hW0 e hm0 hm1
      go_enter Tryd.func39, Tryd.ntmps39
      go_wp2_with fail
      rw [← HW0.out]
      go_wp2_with (first
        | (go_at_call 85; (with_reducible refine (may_no hR.out 127 127 rfl HM0.out).mono ?_); rintro e w0 ⟨rfl, h1, h2⟩; have hK := Lib.hid (r_keep hK.out h2); have hR := Lib.hid h1; clear h1 h2)
        | (go_at_call 85; (with_reducible refine (may_yes hR.out 126 126 rfl HM1.out).mono ?_); rintro e w1 ⟨rfl, h1, h2⟩; have hK := Lib.hid (r_keep hK.out h2); have hR := Lib.hid h1; clear h1 h2; have F := res_row HH.out _ _ hR.out (HW0.out ▸ hK.out); have F1 := Lib.hid F.1; have F2 := Lib.hid (F.2 #[.int .i64 2, .bool false, .int .i64 0, .int .i64 0]); clear F)
        | (refine wpList_store_row rfl 46 (.tmp 2) (.tmp 10) rfl w.heap.size #[.int .i64 2, .bool false, .int .i64 0, .int .i64 0] rfl rfl _ _ F1.out (by kernel_rfl) rfl (by simp [Value.oneCell']) ?_))
      exact bodyPost_ret (results_cell_row rfl _ _ w.heap.size _ _ (0, 0) _ rfl F2.out.1 Tryd.underlying46 rfl (by as_aux_lemma => kernel_rfl)) rfl (F2.out.2 _)
    | false =>
      cases hm2 : Tb.may 99 r with
      | true =>
        have HM0 := Lib.hid hm0
        have HM1 := Lib.hid hm1
        have HM2 := Lib.hid hm2
        have e : Tb.val r = Tb.ref true (Tb.on r) := by unfold Tb.val; simp only [hm0, hm1, hm2, if_true, if_false, Bool.false_eq_true]
        rw [e]
        have HF : Hid (∀ y, RdAt y b A n c (Tb.on r) → Keep (Db b) W0 y → Calls Tryd.prog 86 #[.pointer (some ⟨b, 0, none⟩), .bool true] y (RdOut b A n c (Tb.ref true (Tb.on r)).1.val (Tb.ref true (Tb.on r)).2 y)) := Lib.hid fun y hy hk => ref_any hy (HT.out.out H0.out hk) true
        obtain ⟨q, hq⟩ : ∃ q, Tb.ref true (Tb.on r) = q := ⟨_, rfl⟩
        rw [hq] at HF ⊢
        clear hq
        clear h h0 hB0 hT hT0 hW0 e hm0 hm1 hm2
        go_enter Tryd.func39, Tryd.ntmps39
        go_wp2_with fail
        rw [← HW0.out]
        go_wp2_with (first
          | (go_at_call 85; (with_reducible refine (may_no hR.out 127 127 rfl HM0.out).mono ?_); rintro e w0 ⟨rfl, h1, h2⟩; have hK := Lib.hid (r_keep hK.out h2); have hR := Lib.hid h1; clear h1 h2)
          | (go_at_call 85; (with_reducible refine (may_no hR.out 126 126 rfl HM1.out).mono ?_); rintro e w1 ⟨rfl, h1, h2⟩; have hK := Lib.hid (r_keep hK.out h2); have hR := Lib.hid h1; clear h1 h2)
          | (go_at_call 85; (with_reducible refine (may_yes hR.out 99 99 rfl HM2.out).mono ?_); rintro e w2 ⟨rfl, h1, h2⟩; have hK := Lib.hid (r_keep hK.out h2); have hR := Lib.hid h1; clear h1 h2)
          | (go_at_call 86; (with_reducible refine (HF.out _ hR.out hK.out).mono ?_); rintro e w9 ⟨rfl, h1, h2⟩; have hK := Lib.hid (r_keep hK.out h2); have hR := Lib.hid h1; clear h1 h2; have F := res_row HH.out _ _ hR.out (HW0.out ▸ hK.out); have F1 := Lib.hid F.1; have F2 := Lib.hid (F.2 #[.int .i64 q.1.k, .bool q.1.nu, .int .i64 q.1.h.k, .int .i64 q.1.h.n]); clear F)
          | (refine wpList_store_row rfl 46 (.tmp 2) (.tmp 15) rfl w.heap.size #[.int .i64 q.1.k, .bool q.1.nu, .int .i64 q.1.h.k, .int .i64 q.1.h.n] rfl rfl _ _ F1.out (by kernel_rfl) rfl (by simp [Value.oneCell']) ?_))
        exact bodyPost_ret (results_cell_row rfl _ _ w.heap.size _ _ (0, 0) _ rfl F2.out.1 Tryd.underlying46 rfl (by as_aux_lemma => kernel_rfl)) rfl (F2.out.2 _)
      | false =>
        cases hm3 : Tb.may 100 r with
        | true =>
          have HM0 := Lib.hid hm0
          have HM1 := Lib.hid hm1
          have HM2 := Lib.hid hm2
          have HM3 := Lib.hid hm3
          have e : Tb.val r = Tb.ref false (Tb.on r) := by unfold Tb.val; simp only [hm0, hm1, hm2, hm3, if_true, if_false, Bool.false_eq_true]
          rw [e]
          have HF : Hid (∀ y, RdAt y b A n c (Tb.on r) → Keep (Db b) W0 y → Calls Tryd.prog 86 #[.pointer (some ⟨b, 0, none⟩), .bool false] y (RdOut b A n c (Tb.ref false (Tb.on r)).1.val (Tb.ref false (Tb.on r)).2 y)) := Lib.hid fun y hy hk => ref_any hy (HT.out.out H0.out hk) false
          obtain ⟨q, hq⟩ : ∃ q, Tb.ref false (Tb.on r) = q := ⟨_, rfl⟩
          rw [hq] at HF ⊢
          clear hq
          clear h h0 hB0 hT hT0 hW0 e hm0 hm1 hm2 hm3
          go_enter Tryd.func39, Tryd.ntmps39
          go_wp2_with fail
          rw [← HW0.out]
          go_wp2_with (first
            | (go_at_call 85; (with_reducible refine (may_no hR.out 127 127 rfl HM0.out).mono ?_); rintro e w0 ⟨rfl, h1, h2⟩; have hK := Lib.hid (r_keep hK.out h2); have hR := Lib.hid h1; clear h1 h2)
            | (go_at_call 85; (with_reducible refine (may_no hR.out 126 126 rfl HM1.out).mono ?_); rintro e w1 ⟨rfl, h1, h2⟩; have hK := Lib.hid (r_keep hK.out h2); have hR := Lib.hid h1; clear h1 h2)
            | (go_at_call 85; (with_reducible refine (may_no hR.out 99 99 rfl HM2.out).mono ?_); rintro e w2 ⟨rfl, h1, h2⟩; have hK := Lib.hid (r_keep hK.out h2); have hR := Lib.hid h1; clear h1 h2)
            | (go_at_call 85; (with_reducible refine (may_yes hR.out 100 100 rfl HM3.out).mono ?_); rintro e w3 ⟨rfl, h1, h2⟩; have hK := Lib.hid (r_keep hK.out h2); have hR := Lib.hid h1; clear h1 h2)
            | (go_at_call 86; (with_reducible refine (HF.out _ hR.out hK.out).mono ?_); rintro e w9 ⟨rfl, h1, h2⟩; have hK := Lib.hid (r_keep hK.out h2); have hR := Lib.hid h1; clear h1 h2; have F := res_row HH.out _ _ hR.out (HW0.out ▸ hK.out); have F1 := Lib.hid F.1; have F2 := Lib.hid (F.2 #[.int .i64 q.1.k, .bool q.1.nu, .int .i64 q.1.h.k, .int .i64 q.1.h.n]); clear F)
            | (refine wpList_store_row rfl 46 (.tmp 2) (.tmp 20) rfl w.heap.size #[.int .i64 q.1.k, .bool q.1.nu, .int .i64 q.1.h.k, .int .i64 q.1.h.n] rfl rfl _ _ F1.out (by kernel_rfl) rfl (by simp [Value.oneCell']) ?_))
          exact bodyPost_ret (results_cell_row rfl _ _ w.heap.size _ _ (0, 0) _ rfl F2.out.1 Tryd.underlying46 rfl (by as_aux_lemma => kernel_rfl)) rfl (F2.out.2 _)
        | false =>
          have HM0 := Lib.hid hm0
          have HM1 := Lib.hid hm1
          have HM2 := Lib.hid hm2
          have HM3 := Lib.hid hm3
          have e : Tb.val r = Tb.item Tb.noVal Tb.shortAt r := by unfold Tb.val; simp only [hm0, hm1, hm2, hm3, if_true, if_false, Bool.false_eq_true]
          rw [e]
          have HF : Hid (∀ y, RdAt y b A n c r → Keep (Db b) W0 y → Calls Tryd.prog 87 #[.pointer (some ⟨b, 0, none⟩), .func (.func 88) #[] #[]] y (RdOut b A n c (Tb.item Tb.noVal Tb.shortAt r).1.val (Tb.item Tb.noVal Tb.shortAt r).2 y)) := Lib.hid fun y hy hk => shortItem_any hy (HT.out.out H0.out hk)
          obtain ⟨q, hq⟩ : ∃ q, Tb.item Tb.noVal Tb.shortAt r = q := ⟨_, rfl⟩
          rw [hq] at HF ⊢
          clear hq
          clear h h0 hB0 hT hT0 hW0 e hm0 hm1 hm2 hm3
          go_enter Tryd.func39, Tryd.ntmps39
          go_wp2_with fail
          rw [← HW0.out]
          go_wp2_with (first
            | (go_at_call 85; (with_reducible refine (may_no hR.out 127 127 rfl HM0.out).mono ?_); rintro e w0 ⟨rfl, h1, h2⟩; have hK := Lib.hid (r_keep hK.out h2); have hR := Lib.hid h1; clear h1 h2)
            | (go_at_call 85; (with_reducible refine (may_no hR.out 126 126 rfl HM1.out).mono ?_); rintro e w1 ⟨rfl, h1, h2⟩; have hK := Lib.hid (r_keep hK.out h2); have hR := Lib.hid h1; clear h1 h2)
            | (go_at_call 85; (with_reducible refine (may_no hR.out 99 99 rfl HM2.out).mono ?_); rintro e w2 ⟨rfl, h1, h2⟩; have hK := Lib.hid (r_keep hK.out h2); have hR := Lib.hid h1; clear h1 h2)
            | (go_at_call 85; (with_reducible refine (may_no hR.out 100 100 rfl HM3.out).mono ?_); rintro e w3 ⟨rfl, h1, h2⟩; have hK := Lib.hid (r_keep hK.out h2); have hR := Lib.hid h1; clear h1 h2)
            | (go_at_call 87; (with_reducible refine (HF.out _ hR.out hK.out).mono ?_); rintro e w9 ⟨rfl, h1, h2⟩; have hK := Lib.hid (r_keep hK.out h2); have hR := Lib.hid h1; clear h1 h2; have F := res_row HH.out _ _ hR.out (HW0.out ▸ hK.out); have F1 := Lib.hid F.1; have F2 := Lib.hid (F.2 #[.int .i64 q.1.k, .bool q.1.nu, .int .i64 q.1.h.k, .int .i64 q.1.h.n]); clear F)
            | (refine wpList_store_row rfl 46 (.tmp 2) (.tmp 22) rfl w.heap.size #[.int .i64 q.1.k, .bool q.1.nu, .int .i64 q.1.h.k, .int .i64 q.1.h.n] rfl rfl _ _ F1.out (by kernel_rfl) rfl (by simp [Value.oneCell']) ?_))
          exact bodyPost_ret (results_cell_row rfl _ _ w.heap.size _ _ (0, 0) _ rfl F2.out.1 Tryd.underlying46 rfl (by as_aux_lemma => kernel_rfl)) rfl (F2.out.2 _)
set_option maxHeartbeats 8000000 in
theorem store_any (h : RdAt w b A n c r) (hT : Tab6 w) : Calls Tryd.prog 172 #[.pointer (some ⟨b, 0, none⟩)] w (RdOut b A n c (.agg #[.int .i64 (Tb.store r).1.1, .int .i64 (Tb.store r).1.2.k, .bool (Tb.store r).1.2.nu, .int .i64 (Tb.store r).1.2.h.k, .int .i64 (Tb.store r).1.2.h.n]) (Tb.store r).2 w) := by
  obtain ⟨W0, hW0⟩ : ∃ W0, W0 = w.alloc (.cells #[.int .i64 0, .int .i64 0, .bool false, .int .i64 0, .int .i64 0] 48) := ⟨_, rfl⟩
  have hB0 : Below w.heap.size w W0 := by rw [hW0]; exact (Below.refl _ _).alloc (Nat.le_refl _) _
  have h0 := h.below (Nat.le_refl _) hB0
  have hT0 := hT.below hB0
  have HW0 := Lib.hid hW0
  have HH := Lib.hid h
  have hK : Hid (Keep (Db b) W0 W0) := Lib.hid (Keep.refl _)
  have hR := Lib.hid h0
  have H0 := Lib.hid h0
  have HT := Lib.hid hT0
  cases hm0 : Tb.may 120 r with
  | true =>
    have HM0 := Lib.hid hm0
    have e : Tb.store r = ((8, ⟨1, false, ⟨0, 0⟩⟩), Tb.on r) := by unfold Tb.store; simp only [hm0, if_true, if_false, Bool.false_eq_true]
    rw [e]
    clear h h0 hB0 hT hT0 hW0 e hm0
    go_enter Tryd.func172, Tryd.ntmps172
    go_wp2_with fail
    rw [← HW0.out]
    go_wp2_with (first
      | (go_at_call 85; (with_reducible refine (may_yes hR.out 120 120 rfl HM0.out).mono ?_); rintro e w0 ⟨rfl, h1, h2⟩; have hK := Lib.hid (r_keep hK.out h2); have hR := Lib.hid h1; clear h1 h2; have F := res_row HH.out _ _ hR.out (HW0.out ▸ hK.out); have F1 := Lib.hid F.1; have F2 := Lib.hid (F.2 #[.int .i64 8, .int .i64 1, .bool false, .int .i64 0, .int .i64 0]); clear F)
      | (refine wpList_store_row rfl 48 (.tmp 2) (.tmp 7) rfl w.heap.size #[.int .i64 8, .int .i64 1, .bool false, .int .i64 0, .int .i64 0] rfl rfl _ _ F1.out (by kernel_rfl) rfl (by simp [Value.oneCell']) ?_))
    exact bodyPost_ret (results_cell_row rfl _ _ w.heap.size _ _ (0, 0) _ rfl F2.out.1 Tryd.underlying48 rfl (by as_aux_lemma => kernel_rfl)) rfl (F2.out.2 _)
  | false =>
    cases hm1 : Tb.may 119 r with
    | true =>
      have HM0 := Lib.hid hm0
      have HM1 := Lib.hid hm1
      have e : Tb.store r = ((16, ⟨1, false, ⟨0, 0⟩⟩), Tb.on r) := by unfold Tb.store; simp only [hm0, hm1, if_true, if_false, Bool.false_eq_true]
      rw [e]
      clear h h0 hB0 hT hT0 hW0 e hm0 hm1
      go_enter Tryd.func172, Tryd.ntmps172
      go_wp2_with fail
      rw [← HW0.out]
      go_wp2_with (first
        | (go_at_call 85; (with_reducible refine (may_no hR.out 120 120 rfl HM0.out).mono ?_); rintro e w0 ⟨rfl, h1, h2⟩; have hK := Lib.hid (r_keep hK.out h2); have hR := Lib.hid h1; clear h1 h2)
        | (go_at_call 85; (with_reducible refine (may_yes hR.out 119 119 rfl HM1.out).mono ?_); rintro e w1 ⟨rfl, h1, h2⟩; have hK := Lib.hid (r_keep hK.out h2); have hR := Lib.hid h1; clear h1 h2; have F := res_row HH.out _ _ hR.out (HW0.out ▸ hK.out); have F1 := Lib.hid F.1; have F2 := Lib.hid (F.2 #[.int .i64 16, .int .i64 1, .bool false, .int .i64 0, .int .i64 0]); clear F)
        | (refine wpList_store_row rfl 48 (.tmp 2) (.tmp 12) rfl w.heap.size #[.int .i64 16, .int .i64 1, .bool false, .int .i64 0, .int .i64 0] rfl rfl _ _ F1.out (by kernel_rfl) rfl (by simp [Value.oneCell']) ?_))
      exact bodyPost_ret (results_cell_row rfl _ _ w.heap.size _ _ (0, 0) _ rfl F2.out.1 Tryd.underlying48 rfl (by as_aux_lemma => kernel_rfl)) rfl (F2.out.2 _)
    | false =>
      have HM0 := Lib.hid hm0
      have HM1 := Lib.hid hm1
      have e : Tb.store r = ((0, (Tb.val r).1), (Tb.val r).2) := by unfold Tb.store; simp only [hm0, hm1, if_true, if_false, Bool.false_eq_true]
      rw [e]
      have HF : Hid (∀ y, RdAt y b A n c r → Keep (Db b) W0 y → Calls Tryd.prog 39 #[.pointer (some ⟨b, 0, none⟩)] y (RdOut b A n c (Tb.val r).1.val (Tb.val r).2 y)) := Lib.hid fun y hy hk => Val_rd hy (HT.out.out H0.out hk)
      obtain ⟨q, hq⟩ : ∃ q, Tb.val r = q := ⟨_, rfl⟩
      rw [hq] at HF ⊢
      clear hq
      clear h h0 hB0 hT hT0 hW0 e hm0 hm1
      go_enter Tryd.func172, Tryd.ntmps172
      go_wp2_with fail
      rw [← HW0.out]
      go_wp2_with (first
        | (go_at_call 85; (with_reducible refine (may_no hR.out 120 120 rfl HM0.out).mono ?_); rintro e w0 ⟨rfl, h1, h2⟩; have hK := Lib.hid (r_keep hK.out h2); have hR := Lib.hid h1; clear h1 h2)
        | (go_at_call 85; (with_reducible refine (may_no hR.out 119 119 rfl HM1.out).mono ?_); rintro e w1 ⟨rfl, h1, h2⟩; have hK := Lib.hid (r_keep hK.out h2); have hR := Lib.hid h1; clear h1 h2)
        | (go_at_call 39; (with_reducible refine (HF.out _ hR.out hK.out).mono ?_); rintro e w9 ⟨rfl, h1, h2⟩; have hK := Lib.hid (r_keep hK.out h2); have hR := Lib.hid h1; clear h1 h2; have F := res_row HH.out _ _ hR.out (HW0.out ▸ hK.out); have F1 := Lib.hid F.1; have F2 := Lib.hid (F.2 #[.int .i64 0, .int .i64 q.1.k, .bool q.1.nu, .int .i64 q.1.h.k, .int .i64 q.1.h.n]); clear F)
        | (refine wpList_store_row rfl 48 (.tmp 2) (.tmp 15) rfl w.heap.size #[.int .i64 0, .int .i64 q.1.k, .bool q.1.nu, .int .i64 q.1.h.k, .int .i64 q.1.h.n] rfl rfl _ _ F1.out (by kernel_rfl) rfl (by simp [Value.oneCell']) ?_))
      exact bodyPost_ret (results_cell_row rfl _ _ w.heap.size _ _ (0, 0) _ rfl F2.out.1 Tryd.underlying48 rfl (by as_aux_lemma => kernel_rfl)) rfl (F2.out.2 _)
theorem mutItem_any (h : RdAt w b A n c r) : Calls Tryd.prog 173 #[.pointer (some ⟨b, 0, none⟩), .func (.func 174) #[] #[]] w (RdOut b A n c (.bool (Tb.item false Tb.mutAt r).1) (Tb.item false Tb.mutAt r).2 w) :=
  (item_bool h 174 #[] (enters_of Tryd.func174 (by kernel_rfl) rfl) _ _ _ (fun e => by have := Tb.mutAt_le r.bs r.p e; rw [h.len] at this; exact this)
    (fun W hW => (mutAt_any (h.bytes hW) h.pl).mono fun _ _ => Item.out)).mono fun _ _ => item_out (fun x : Bool => .bool x) false Tb.mutAt _ rfl
set_option maxHeartbeats 4000000 in
theorem field_any (h : RdAt w b A n c r) (hT : Tab6 w) : Calls Tryd.prog 150 #[.pointer (some ⟨b, 0, none⟩)] w (RdOut b A n c (Tb.field r).1.val (Tb.field r).2 w) := by
  obtain ⟨W0, hW0⟩ : ∃ W0, W0 = w.alloc (.cells #[.int .i64 0, .int .i64 0, .bool false, .int .i64 0, .int .i64 0, .bool false] 50) := ⟨_, rfl⟩
  have hB0 : Below w.heap.size w W0 := by rw [hW0]; exact (Below.refl _ _).alloc (Nat.le_refl _) _
  have h0 := h.below (Nat.le_refl _) hB0
  have hT0 := hT.below hB0
  have HW0 := Lib.hid hW0
  have HH := Lib.hid h
  have HS := Lib.hid (store_any h0 hT0)
  unfold Tb.field
  obtain ⟨q, hq⟩ : ∃ q, Tb.store r = q := ⟨_, rfl⟩
  rw [hq] at HS ⊢
  have HM : Hid (∀ y, RdAt y b A n c q.2 → Calls Tryd.prog 173 #[.pointer (some ⟨b, 0, none⟩), .func (.func 174) #[] #[]] y (RdOut b A n c (.bool (Tb.item false Tb.mutAt q.2).1) (Tb.item false Tb.mutAt q.2).2 y)) := Lib.hid fun y hy => mutItem_any hy
  obtain ⟨m, hm⟩ : ∃ m, Tb.item false Tb.mutAt q.2 = m := ⟨_, rfl⟩
  rw [hm] at HM ⊢
  clear h h0 hB0 hT hT0 hq hm hW0
  go_enter Tryd.func150, Tryd.ntmps150
  go_wp2_with fail
  rw [← HW0.out]
  go_wp2_with (first
    | (go_at_call 172; refine HS.out.mono ?_; rintro e w1 ⟨rfl, h1, h2⟩; have hR := Lib.hid h1; have hK := Lib.hid h2; clear h1 h2)
    | (go_at_call 173; refine (HM.out _ hR.out).mono ?_; rintro e w2 ⟨rfl, h1, h2⟩; have F := res_row HH.out _ _ h1 (HW0.out ▸ hK.out.trans h2); have F1 := Lib.hid F.1; have F2 := Lib.hid (F.2 #[.int .i64 q.1.1, .int .i64 q.1.2.k, .bool q.1.2.nu, .int .i64 q.1.2.h.k, .int .i64 q.1.2.h.n, .bool m.1]); clear F h1 h2)
    | (refine wpList_store_row rfl 50 (.tmp 2) (.tmp 7) rfl w.heap.size #[.int .i64 q.1.1, .int .i64 q.1.2.k, .bool q.1.2.nu, .int .i64 q.1.2.h.k, .int .i64 q.1.2.h.n, .bool m.1] rfl rfl _ _ F1.out (by kernel_rfl) rfl (by simp [Value.oneCell']) ?_))
  exact bodyPost_ret (results_cell_row rfl _ _ w.heap.size _ _ (0, 0) _ rfl F2.out.1 Tryd.underlying50 rfl (by as_aux_lemma => kernel_rfl)) rfl (F2.out.2 _)
end
end Go.Proofs.YtkdhjejchdcipaaDoor
/-
  Words for slices of any element type that the call made (OwnG), and appends onto them.
-/
namespace Go.Proofs.YtkdhjejchdcipaaDoor
open Go.RowKit
set_option linter.unusedVariables false
set_option maxRecDepth 100000

/-- An element type e of sz cells, its slice type ts. -/
structure Elem {α : Type} (e ts sz : Nat) (cs : α → List Value) : Prop where
  info : ∃ i z, Tryd.prog.info? e = some i ∧ i.zero = some z ∧ i.size = sz ∧ z.cells.size = sz ∧ i.bytes ≤ 128
  under : Tryd.prog.underlying ts = some (.slice e)
  len : ∀ x, (cs x).length = sz
  pos : 0 < sz
  one : ∀ x u, u ∈ cs x → u.oneCell' = true
def OwnG {α : Type} (e sz : Nat) (cs : α → List Value) (B : Nat) (w : World) (v : Value) (l : List α) : Prop := w.ownsRow B e sz v l.length (l.flatMap cs)

section
variable {α : Type} {e ts sz : Nat} {cs : α → List Value} {w w' : World} {B C n c : Nat} {A : Option Addr} {v : Value} {l m : List α}
theorem flat_len (hs : ∀ x, (cs x).length = sz) : ∀ l : List α, (l.flatMap cs).length = l.length * sz
  | [] => by simp
  | x :: l => by simp [flat_len hs l, hs x, Nat.add_mul]; omega
theorem flat_at (hs : ∀ x, (cs x).length = sz) : ∀ (l : List α) (j i : Nat) (hj : j < l.length), i < sz → (l.flatMap cs)[j * sz + i]? = (cs l[j])[i]?
  | [], j, i, hj, hi => by simp at hj
  | x :: l, 0, i, hj, hi => by
    simp only [List.flatMap_cons, Nat.zero_mul, Nat.zero_add, List.getElem_cons_zero]
    rw [List.getElem?_append_left (by rw [hs x]; exact hi)]
  | x :: l, j + 1, i, hj, hi => by
    simp only [List.flatMap_cons, List.getElem_cons_succ]
    rw [List.getElem?_append_right (by rw [hs x, Nat.add_mul]; omega), hs x, show (j + 1) * sz + i - sz = j * sz + i by rw [Nat.add_mul]; omega]
    exact flat_at hs l j i (by simpa using hj) hi
theorem flat_of (hs : ∀ x, (cs x).length = sz) (hp : 0 < sz) (l : List α) (p : Nat) (u : Value) (h : (l.flatMap cs)[p]? = some u) : ∃ (j i : Nat) (hj : j < l.length), p = j * sz + i ∧ (cs l[j])[i]? = some u := by
  have hlt : p < l.length * sz := by rw [← flat_len hs l]; exact (List.getElem?_eq_some_iff.1 h).1
  have hj : p / sz < l.length := (Nat.div_lt_iff_lt_mul hp).2 hlt
  have e : p = p / sz * sz + p % sz := by rw [Nat.mul_comm]; exact (Nat.div_add_mod p sz).symm
  refine ⟨p / sz, p % sz, hj, e, ?_⟩
  rw [e, flat_at hs l _ _ hj (Nat.mod_lt _ hp)] at h
  exact h
theorem OwnG.nil (w : World) (B : Nat) : OwnG e sz cs B w (.slice none 0 0) ([] : List α) := World.ownsRow_nil w B _ _
theorem OwnG.below (h : OwnG e sz cs B w v l) (hb : Below w.heap.size w w') : OwnG e sz cs B w' v l :=
  World.ownsRow.kept (row := none) h ⟨hb.os, hb.tape, hb.output, hb.size, fun k hk _ => hb.block k hk⟩ (by cases v.ownBlock <;> simp)
theorem OwnG.alloc (h : OwnG e sz cs B w v l) (o : Obj) : OwnG e sz cs B (w.alloc o) v l := World.ownsRow.alloc h o
theorem OwnG.form (h : OwnG e sz cs B w v l) : ∃ A c, v = .slice A l.length c := by
  obtain ⟨h1, h2⟩ := h
  rcases h2 with ⟨rfl, h0⟩ | ⟨g, cap, cur, rfl, _⟩
  · exact ⟨none, 0, by rw [h0]⟩
  · exact ⟨_, cap, rfl⟩
theorem OwnG.lt (h : OwnG e sz cs B w v l) : ∀ k, v.ownBlock = some k → B ≤ k ∧ k < w.heap.size := World.ownsRow.lt h
theorem OwnG.grown {W wr w' : World} (hown : OwnG e sz cs B wr v l) (hg : wr.grownBy w' v.ownBlock) (hC : C ≤ B) (hC' : C ≤ wr.heap.size) (hb : Below C W wr) : Below C W w' :=
  hb.grown hg hC' (fun k hk => by have := (World.ownsRow.lt hown k hk).1; omega)
/-- What the call made can be read. -/
theorem OwnG.seg (hE : Elem e ts sz cs) (h : OwnG e sz cs B w v l) : ∃ A c, v = .slice A l.length c ∧ Seg sz cs w w.heap.size A c l := by
  obtain ⟨h1, h2⟩ := h
  rcases h2 with ⟨rfl, h0⟩ | ⟨g, cap, cur, rfl, hg, hh, hn, hc, hs, ht⟩
  · exact ⟨none, 0, by rw [h0], by omega, by simp [maxLen], fun h => absurd h (by omega)⟩
  · refine ⟨_, cap, rfl, hn, hc, fun _ => ⟨g, 0, rfl, (Array.getElem?_eq_some_iff.1 hh).1, fun j hj i u hu => ?_⟩⟩
    have hi : i < sz := by rw [← hE.len l[j]]; exact (List.getElem?_eq_some_iff.1 hu).1
    rw [Nat.zero_add, cell_of_row w g (j * sz + i) cur _ (0, 0) hh]
    have e := flat_at hE.len l j i hj hi
    rw [hu, ← ht, List.getElem?_take] at e
    split at e
    · simpa using e
    · cases e
/-- 'append(v, m...)' of a slice that is read. -/
theorem cat_g (hE : Elem e ts sz cs) {ops : Array Oper} {rest : List Oper} {o : Oper} {a : Act} {Q : Exit → Act → World → Prop} (hgd : o.guard = none) (s x : Operand)
    (ho : o.op = .call { callee := .builtin .append, args := #[s, x], argTypes := #[ts, ts] }) (wr : World) (n2 : Nat)
    (hs : a.eval s = v) (hx : a.eval x = .slice A n2 c) (hown : OwnG e sz cs B wr v l) (hn2 : m.length = n2) (hb : Seg sz cs wr C A c m) (hB : B ≤ wr.heap.size) (k : Nat) (hl : k < 1000000) (hk : l.length + n2 = k)
    (h : ∀ A' c' w', OwnG e sz cs B w' (.slice A' k c') (l ++ m) → wr.grownBy w' v.ownBlock → wpList Tryd.prog ops Q rest (a.put o.dst (.slice A' k c')) w') :
    wpList Tryd.prog ops Q (o :: rest) a wr := by
  obtain ⟨i0, z, hi0, hz0, hz1, hz2, hz3⟩ := hE.info
  obtain ⟨hmc, hcm, hcell⟩ := hb
  subst hn2
  subst hk
  rcases A with _ | ad
  · have hl2 : m = [] := by
      rcases Nat.eq_zero_or_pos m.length with h0 | h0
      · exact List.eq_nil_of_length_eq_zero h0
      · obtain ⟨b, off, e, _⟩ := hcell h0; cases e
    subst hl2
    refine wpList_plain hgd fun K hK => ?_
    have hrun : (Builtin.append_ #[ts, ts] o.type #[v, .slice none 0 c]).run Tryd.prog wr = .ok v wr := by
      rcases hown.2 with ⟨rfl, h0⟩ | ⟨g, cap, cur, rfl, _, _, hnc, _⟩
      · simp [Builtin.append_, run_underlying hE.under, sizeOf, typeInfo, hi0, Builtin.lenOf, Builtin.firstCells]
      · simp [Builtin.append_, run_underlying hE.under, sizeOf, typeInfo, hi0, Builtin.lenOf, Builtin.firstCells, hnc, storeCells]
    obtain ⟨A', c', e⟩ := hown.form
    have h2 := h A' c' wr (by simpa [← e] using hown) ⟨rfl, rfl, rfl, Nat.le_refl _, fun _ _ _ => rfl⟩
    simp only [List.length_nil, Nat.add_zero, ← e] at h2
    unfold Oper.wp execOp
    simp only [ho, resolve, invoke, builtin, Sem.run_bind, Sem.run_pure, Result.andThen_ok, List.map_toArray, List.map_cons, List.map_nil, hs, hx, List.length_nil, hrun]
    exact hK _ _ h2
  · refine wpList_append_own _ hgd s x ts ho B e i0 z sz i0.bytes hE.under hi0 hz0 hz1 rfl hz2 hE.pos v l.length (l.flatMap cs) hs hown ad m.length c (m.flatMap cs) hx (flat_len hE.len m) ?_ ?_ (by simp only [maxLen]; omega) ?_ hB ?_
    · intro p u hu
      obtain ⟨j, i, hj, rfl, hu'⟩ := flat_of hE.len hE.pos m p u hu
      obtain ⟨b, off, e, hbC, hc⟩ := hcell (by omega)
      injection e with e
      subst e
      rw [Addr.add_lit, ← Nat.add_assoc, hc j hj i u hu']
    · intro u hu
      obtain ⟨y, _, hy⟩ := List.mem_flatMap.1 hu
      exact hE.one y u hy
    · have := Nat.mul_le_mul (Nat.le_of_lt hl) hz3
      omega
    · intro v' w' hown' hg _
      have h1 : OwnG e sz cs B w' v' (l ++ m) := by simpa [OwnG] using hown'
      obtain ⟨A', c', rfl⟩ := h1.form
      rw [List.length_append] at *
      exact h A' c' w' h1 hg
/-- 'append(v, y)' of one element, which the walk has laid in a new block. -/
theorem push_g (hE : Elem e ts sz cs) {ops : Array Oper} {rest : List Oper} {o : Oper} {a : Act} {Q : Exit → Act → World → Prop} (hgd : o.guard = none) (s x : Operand)
    (ho : o.op = .call { callee := .builtin .append, args := #[s, x], argTypes := #[ts, ts] }) (wr : World) (z : Nat) (hz : z = wr.heap.size) (y : α) (ys : Array Value) (t : Nat)
    (hs : a.eval s = v) (hx : a.eval x = .slice (some ⟨z, 0, none⟩) 1 1) (hown : OwnG e sz cs B wr v l) (hB : B ≤ wr.heap.size) (hl : l.length < 100000) (k : Nat) (hk : l.length + 1 = k)
    (h : ∀ A' c' w', OwnG e sz cs B w' (.slice A' k c') (l ++ [y]) → wr.grownBy w' v.ownBlock → wpList Tryd.prog ops Q rest (a.put o.dst (.slice A' k c')) w') (hy : ys.toList = cs y) :
    wpList Tryd.prog ops Q (o :: rest) a (wr.alloc (.cells ys t)) := by
  obtain ⟨i0, zz, hi0, hz0, hz1, hz2, hz3⟩ := hE.info
  subst hz hk
  have hys : ys = (cs y).toArray := by rw [← hy]
  refine wpList_append_own _ hgd s x ts ho B e i0 zz sz i0.bytes hE.under hi0 hz0 hz1 rfl hz2 hE.pos v l.length (l.flatMap cs) hs (World.ownsRow.alloc hown _) ⟨wr.heap.size, 0, none⟩ 1 1 (cs y) hx (by rw [hE.len, Nat.one_mul]) ?_ (fun u hu => hE.one y u hu) (by simp only [maxLen]; omega) ?_ (by simp; omega) ?_
  · intro j u hu
    rw [Addr.add_lit, Nat.zero_add, World.cell?_alloc_at _ _ _ _ rfl, hys]
    simpa using hu
  · have := Nat.mul_le_mul (show l.length + 1 ≤ 100001 by omega) hz3
    omega
  · intro v' w' hown' hg _
    have h1 : OwnG e sz cs B w' v' (l ++ [y]) := by simpa [OwnG] using hown'
    obtain ⟨A', c', rfl⟩ := h1.form
    rw [List.length_append, List.length_singleton] at *
    refine h A' c' w' h1 ⟨hg.os, hg.tape, hg.output, Nat.le_trans (by simp) hg.size, fun k hk hne => ?_⟩
    rw [hg.block k (by simp; omega) hne]
    exact Below.heap_alloc wr _ k hk
theorem OwnG.lit1 (hE : Elem e ts sz cs) (w : World) (hB : B ≤ w.heap.size) (y : α) (ys : Array Value) (hy : ys.toList = cs y) : OwnG e sz cs B (w.alloc (.cells ys e)) (.slice (some ⟨w.heap.size, 0, none⟩) 1 1) [y] := by
  have hys : ys = (cs y).toArray := by rw [← hy]
  have := World.ownsRow_lit (e := e) (size := sz) w ys 1 hB (by simp [maxLen]) (by rw [hys]; simp [hE.len])
  unfold OwnG
  simpa [hy] using this
end

theorem elemH : Elem (α := Hp) 39 22 2 Hp.cs where
  info := by
    obtain ⟨i0, hi0, hz0, hz1, hz2⟩ := info_parts (show (Tryd.prog.info? 39).map (fun i => (i.zero, i.size, i.bytes)) = some (some (.agg #[.int .i64 0, .int .i64 0]), 2, 16) by kernel_rfl)
    exact ⟨i0, _, hi0, hz0, hz1, rfl, by omega⟩
  under := Tryd.underlying22
  len _ := rfl
  pos := by decide
  one x u hu := by simp [Hp.cs] at hu; rcases hu with rfl | rfl <;> rfl
theorem elemV : Elem (α := Vl) 46 24 4 Vl.cs where
  info := by
    obtain ⟨i0, hi0, hz0, hz1, hz2⟩ := info_parts (show (Tryd.prog.info? 46).map (fun i => (i.zero, i.size, i.bytes)) = some (some (.agg #[.int .i64 0, .bool false, .int .i64 0, .int .i64 0]), 4, 32) by kernel_rfl)
    exact ⟨i0, _, hi0, hz0, hz1, rfl, by omega⟩
  under := Tryd.underlying24
  len _ := rfl
  pos := by decide
  one x u hu := by simp [Vl.cs] at hu; rcases hu with rfl | rfl | rfl | rfl <;> rfl
theorem elemF : Elem (α := Fd) 50 25 6 Fd.cs where
  info := by
    obtain ⟨i0, hi0, hz0, hz1, hz2⟩ := info_parts (show (Tryd.prog.info? 50).map (fun i => (i.zero, i.size, i.bytes)) = some (some (.agg #[.int .i64 0, .int .i64 0, .bool false, .int .i64 0, .int .i64 0, .bool false]), 6, 48) by kernel_rfl)
    exact ⟨i0, _, hi0, hz0, hz1, rfl, by omega⟩
  under := Tryd.underlying25
  len _ := rfl
  pos := by decide
  one x u hu := by simp [Fd.cs] at hu; rcases hu with rfl | rfl | rfl | rfl | rfl | rfl <;> rfl
/-- Strings, as lists of bytes. -/
def Sx (l : List UInt8) : List Value := [.string ⟨l.toArray⟩]
theorem elemS : Elem (α := List UInt8) 9 135 1 Sx where
  info := by
    obtain ⟨i0, hi0, hz0, hz1, hz2⟩ := info_parts (show (Tryd.prog.info? 9).map (fun i => (i.zero, i.size, i.bytes)) = some (some (.string ⟨#[]⟩), 1, 16) by kernel_rfl)
    exact ⟨i0, _, hi0, hz0, hz1, rfl, by omega⟩
  under := Tryd.underlying135
  len _ := rfl
  pos := by decide
  one x u hu := by simp [Sx] at hu; subst hu; rfl
theorem flat_set : ∀ (l : List (List UInt8)) (j : Nat) (y : List UInt8), (l.flatMap Sx).set j (.string ⟨y.toArray⟩) = (l.set j y).flatMap Sx
  | [], j, y => by simp
  | x :: l, 0, y => by simp [Sx]
  | x :: l, j + 1, y => by simp only [List.flatMap_cons, Sx, List.singleton_append, List.set_cons_succ]; rw [← flat_set l j y]
theorem made_strs (n : Nat) : (madeCells (Value.string ⟨#[]⟩).cells (n * 1)).toList = (List.replicate n ([] : List UInt8)).flatMap Sx := by
  rw [Nat.mul_one]
  unfold madeCells
  apply List.ext_getElem?
  intro i
  have e : (List.replicate n ([] : List UInt8)).flatMap Sx = List.replicate n (Value.string ⟨#[]⟩) := by
    induction n with
    | zero => rfl
    | succ n ih => rw [List.replicate_succ, List.flatMap_cons, ih]; rfl
  rw [e]
  by_cases hi : i < n
  · simp [hi, Value.cells, Nat.mod_one]
  · simp [hi]
/-- 'make([]string, n)'. -/
theorem run_make_strs (wr : World) (B n : Nat) (hn : n < 1000000) (hB : B ≤ wr.heap.size) :
    ∃ w', (Instr.makeSlice 135 (.int .i64 (n : Int)) (.int .i64 (n : Int))).run Tryd.prog wr = .ok (.slice (some ⟨wr.heap.size, 0, none⟩) n n) w' ∧
      OwnG 9 1 Sx B w' (.slice (some ⟨wr.heap.size, 0, none⟩) n n) (List.replicate n []) ∧ wr.grownBy w' none := by
  obtain ⟨i0, hi0, hz0, hz1, hz2⟩ := info_parts (show (Tryd.prog.info? 9).map (fun i => (i.zero, i.size, i.bytes)) = some (some (.string ⟨#[]⟩), 1, 16) by kernel_rfl)
  obtain ⟨w', hrun, r1, r2⟩ := run_make_full (P := Tryd.prog) wr B 135 9 i0 (.string ⟨#[]⟩) 1 Tryd.underlying135 hi0 hz0 hz1 .i64 .i64 n (by rw [hz2]; omega) (by simp only [maxLen]; omega) hB
  refine ⟨w', hrun, ?_, r2⟩
  rw [made_strs] at r1
  show World.ownsRow _ _ _ _ _ _ _
  rw [List.length_replicate]
  exact r1
/-- What a store into a slice of strings wants, and leaves. -/
theorem OwnG.openS {B g : Nat} {w : World} {n c : Nat} {l : List (List UInt8)} (h : OwnG 9 1 Sx B w (.slice (some ⟨g, 0, none⟩) n c) l) : n = l.length ∧ B ≤ g ∧ g < w.heap.size ∧
    (∀ j (hj : j < l.length), w.cell? ⟨g, j, none⟩ = some (.string ⟨l[j].toArray⟩)) ∧ (∀ j, w.frozen? ⟨g, j, none⟩ = false) ∧
    ∀ (j : Nat) (y : List UInt8), OwnG 9 1 Sx B (w.setCell ⟨g, j, none⟩ (.string ⟨y.toArray⟩)) (.slice (some ⟨g, 0, none⟩) n c) (l.set j y) := by
  obtain ⟨A', c', e⟩ := h.form
  injection e with e1 e2 e3
  subst e2
  have h' := h
  have hlt := h.lt g rfl
  refine ⟨rfl, hlt.1, hlt.2, fun j hj => ?_, fun j => World.ownsRow.frozenAt h' j, fun j y => ?_⟩
  · rw [World.ownsRow.cellAt h' j (by omega)]
    have := flat_at (cs := Sx) (sz := 1) (fun _ => rfl) l j 0 hj (by decide)
    simpa [Sx] using this
  · have := (World.ownsRow.stored h' j (.string ⟨y.toArray⟩)).1
    show World.ownsRow _ _ _ _ _ _ _
    rw [List.length_set, ← flat_set]
    exact this
theorem grownNone {W wr w' : World} {C : Nat} (hg : wr.grownBy w' none) (hC : C ≤ wr.heap.size) (hb : Below C W wr) : Below C W w' :=
  hb.grown hg hC (fun k hk => by cases hk)
end Go.Proofs.YtkdhjejchdcipaaDoor
/-
  Appends onto slices that the call made, where the new row lies; for plain regions (cat_at, push_at) and for a step of one that draws (step_cat, step_push).
-/
namespace Go.Proofs.YtkdhjejchdcipaaDoor
open Go.RowKit
set_option linter.unusedVariables false
set_option maxRecDepth 100000

section
variable {α : Type} {e ts sz : Nat} {cs : α → List Value} {w w' : World} {B C n c : Nat} {A : Option Addr} {v : Value} {l m : List α}
/-- The row of v' is v's, or a new one. -/
def Rowed (wr : World) (v v' : Value) : Prop := ∀ g, v'.ownBlock = some g → v.ownBlock = some g ∨ wr.heap.size ≤ g
theorem run_cat (hE : Elem e ts sz cs) (ty : Nat) (wr : World) (n2 : Nat) (hown : OwnG e sz cs B wr v l) (hn2 : m.length = n2) (hb : Seg sz cs wr C A c m) (hB : B ≤ wr.heap.size) (k : Nat) (hl : k < 1000000) (hk : l.length + n2 = k) :
    ∃ A' c' w', (Builtin.append_ #[ts, ts] ty #[v, .slice A n2 c]).run Tryd.prog wr = .ok (.slice A' k c') w' ∧ OwnG e sz cs B w' (.slice A' k c') (l ++ m) ∧ wr.grownBy w' v.ownBlock ∧ Rowed wr v (.slice A' k c') := by
  obtain ⟨i0, z, hi0, hz0, hz1, hz2, hz3⟩ := hE.info
  obtain ⟨hmc, hcm, hcell⟩ := hb
  subst hn2
  subst hk
  rcases A with _ | ad
  · have hl2 : m = [] := by
      rcases Nat.eq_zero_or_pos m.length with h0 | h0
      · exact List.eq_nil_of_length_eq_zero h0
      · obtain ⟨b, off, e, _⟩ := hcell h0; cases e
    subst hl2
    have hrun : (Builtin.append_ #[ts, ts] ty #[v, .slice none 0 c]).run Tryd.prog wr = .ok v wr := by
      rcases hown.2 with ⟨rfl, h0⟩ | ⟨g, cap, cur, rfl, _, _, hnc, _⟩
      · simp [Builtin.append_, run_underlying hE.under, sizeOf, typeInfo, hi0, Builtin.lenOf, Builtin.firstCells]
      · simp [Builtin.append_, run_underlying hE.under, sizeOf, typeInfo, hi0, Builtin.lenOf, Builtin.firstCells, hnc, storeCells]
    obtain ⟨A', c', e⟩ := hown.form
    refine ⟨A', c', wr, by simpa [← e] using hrun, by simpa [← e] using hown, ⟨rfl, rfl, rfl, Nat.le_refl _, fun _ _ _ => rfl⟩, fun g hg => .inl ?_⟩
    simp only [List.length_nil, Nat.add_zero, ← e] at hg
    exact hg
  · obtain ⟨v', w', hr, h2, h3, _, h5⟩ := run_append_own_at (P := Tryd.prog) wr B ts ty e i0 z sz i0.bytes hE.under hi0 hz0 hz1 rfl hz2 hE.pos v l.length (l.flatMap cs) hown ad m.length c (m.flatMap cs) (flat_len hE.len m) (by
        intro p u hu
        obtain ⟨j, i, hj, rfl, hu'⟩ := flat_of hE.len hE.pos m p u hu
        obtain ⟨b, off, e, hbC, hc⟩ := hcell (by omega)
        injection e with e
        subst e
        rw [Addr.add_lit, ← Nat.add_assoc, hc j hj i u hu']) (by
        intro u hu
        obtain ⟨y, _, hy⟩ := List.mem_flatMap.1 hu
        exact hE.one y u hy) (by simp only [maxLen]; omega) (by
        have := Nat.mul_le_mul (Nat.le_of_lt hl) hz3
        omega) hB
    have h1 : OwnG e sz cs B w' v' (l ++ m) := by simpa [OwnG] using h2
    obtain ⟨A', c', rfl⟩ := h1.form
    rw [List.length_append] at *
    refine ⟨A', c', w', hr, h1, h3, fun g hg => ?_⟩
    rcases h5 with h5 | h5
    · exact .inl (by rw [← h5]; exact hg)
    · rw [h5] at hg
      injection hg with hg
      exact .inr (Nat.le_of_eq hg)
theorem seg_new (hE : Elem e ts sz cs) (wr : World) (y : α) (ys : Array Value) (t : Nat) (hy : ys.toList = cs y) : Seg sz cs (wr.alloc (.cells ys t)) (wr.heap.size + 1) (some ⟨wr.heap.size, 0, none⟩) 1 [y] := by
  have hys : ys = (cs y).toArray := by rw [← hy]
  refine ⟨by simp, by simp [maxLen], fun _ => ⟨wr.heap.size, 0, rfl, by omega, fun j hj i u hu => ?_⟩⟩
  have h0 : j = 0 := by simp at hj; omega
  subst h0
  rw [Nat.zero_add, Nat.zero_mul, Nat.zero_add, World.cell?_alloc_at _ _ _ _ rfl, hys]
  simpa using hu
theorem run_push (hE : Elem e ts sz cs) (ty : Nat) (wr : World) (y : α) (ys : Array Value) (t : Nat) (hy : ys.toList = cs y) (hown : OwnG e sz cs B wr v l) (hB : B ≤ wr.heap.size) (k : Nat) (hl : k < 1000000) (hk : l.length + 1 = k) :
    ∃ A' c' w', (Builtin.append_ #[ts, ts] ty #[v, .slice (some ⟨wr.heap.size, 0, none⟩) 1 1]).run Tryd.prog (wr.alloc (.cells ys t)) = .ok (.slice A' k c') w' ∧ OwnG e sz cs B w' (.slice A' k c') (l ++ [y]) ∧ wr.grownBy w' v.ownBlock ∧ Rowed wr v (.slice A' k c') := by
  obtain ⟨A', c', w', h1, h2, h3, h4⟩ := run_cat hE ty (wr.alloc (.cells ys t)) 1 (hown.alloc _) (m := [y]) rfl (seg_new hE wr y ys t hy) (by simp; omega) k hl hk
  refine ⟨A', c', w', h1, h2, ⟨h3.os, h3.tape, h3.output, Nat.le_trans (by simp) h3.size, fun k hk hne => ?_⟩, fun g hg => ?_⟩
  · rw [h3.block k (by simp; omega) hne]
    exact Below.heap_alloc wr _ k hk
  · rcases h4 g hg with h | h
    · exact .inl h
    · exact .inr (by simp at h; omega)
theorem wp_append_run {o : Oper} {a : Act} {K : Act → World → Prop} {Q : Exit → Act → World → Prop} (s x : Operand) (ho : o.op = .call { callee := .builtin .append, args := #[s, x], argTypes := #[ts, ts] }) {xv r : Value} (hs : a.eval s = v) (hx : a.eval x = xv)
    (hrun : (Builtin.append_ #[ts, ts] o.type #[v, xv]).run Tryd.prog w = .ok r w') (h : K (a.put o.dst r) w') : o.wp Tryd.prog a w K Q := by
  unfold Oper.wp execOp
  simp only [ho, resolve, invoke, builtin, Sem.run_bind, Sem.run_pure, Result.andThen_ok, List.map_toArray, List.map_cons, List.map_nil, hs, hx, hrun]
  exact h
/-- 'append(v, m...)' in a plain region. -/
theorem cat_at (hE : Elem e ts sz cs) {ops : Array Oper} {rest : List Oper} {o : Oper} {a : Act} {Q : Exit → Act → World → Prop} (hgd : o.guard = none) (s x : Operand)
    (ho : o.op = .call { callee := .builtin .append, args := #[s, x], argTypes := #[ts, ts] }) (wr : World) (n2 : Nat)
    (hs : a.eval s = v) (hx : a.eval x = .slice A n2 c) (hown : OwnG e sz cs B wr v l) (hn2 : m.length = n2) (hb : Seg sz cs wr C A c m) (hB : B ≤ wr.heap.size) (k : Nat) (hl : k < 1000000) (hk : l.length + n2 = k)
    (h : ∀ A' c' w', OwnG e sz cs B w' (.slice A' k c') (l ++ m) → wr.grownBy w' v.ownBlock → Rowed wr v (.slice A' k c') → wpList Tryd.prog ops Q rest (a.put o.dst (.slice A' k c')) w') :
    wpList Tryd.prog ops Q (o :: rest) a wr := by
  obtain ⟨A', c', w', hrun, h1, h2, h3⟩ := run_cat hE o.type wr n2 hown hn2 hb hB k hl hk
  exact wpList_plain hgd fun K hK => wp_append_run s x ho hs hx hrun (hK _ _ (h A' c' w' h1 h2 h3))
/-- 'append(v, y)' in a plain region. -/
theorem push_at (hE : Elem e ts sz cs) {ops : Array Oper} {rest : List Oper} {o : Oper} {a : Act} {Q : Exit → Act → World → Prop} (hgd : o.guard = none) (s x : Operand)
    (ho : o.op = .call { callee := .builtin .append, args := #[s, x], argTypes := #[ts, ts] }) (wr : World) (z : Nat) (hz : z = wr.heap.size) (y : α) (ys : Array Value) (t : Nat)
    (hs : a.eval s = v) (hx : a.eval x = .slice (some ⟨z, 0, none⟩) 1 1) (hown : OwnG e sz cs B wr v l) (hB : B ≤ wr.heap.size) (k : Nat) (hl : k < 1000000) (hk : l.length + 1 = k) (hy : ys.toList = cs y)
    (h : ∀ A' c' w', OwnG e sz cs B w' (.slice A' k c') (l ++ [y]) → wr.grownBy w' v.ownBlock → Rowed wr v (.slice A' k c') → wpList Tryd.prog ops Q rest (a.put o.dst (.slice A' k c')) w') :
    wpList Tryd.prog ops Q (o :: rest) a (wr.alloc (.cells ys t)) := by
  subst hz
  obtain ⟨A', c', w', hrun, h1, h2, h3⟩ := run_push hE o.type wr y ys t hy hown hB k hl hk
  exact wpList_plain hgd fun K hK => wp_append_run s x ho hs hx hrun (hK _ _ (h A' c' w' h1 h2 h3))
/-- The same as a step of a region that draws its order. -/
theorem step_cat (hE : Elem e ts sz cs) {ops : Array Oper} {o : Oper} {a : Act} {K : Act → World → Prop} {Q : Exit → Act → World → Prop} {E : Prop} (hgd : o.guard = none) (s x : Operand)
    (ho : o.op = .call { callee := .builtin .append, args := #[s, x], argTypes := #[ts, ts] }) (wr : World) (n2 : Nat)
    (hs : a.eval s = v) (hx : a.eval x = .slice A n2 c) (hown : OwnG e sz cs B wr v l) (hn2 : m.length = n2) (hb : Seg sz cs wr C A c m) (hB : B ≤ wr.heap.size) (k : Nat) (hl : k < 1000000) (hk : l.length + n2 = k)
    (h : ∀ A' c' w', OwnG e sz cs B w' (.slice A' k c') (l ++ m) → wr.grownBy w' v.ownBlock → Rowed wr v (.slice A' k c') → K (a.put o.dst (.slice A' k c')) w') :
    if Region.wanted o (yielded ops a.tmps) = true then Oper.wp Tryd.prog o a wr K Q else E := by
  have hw : Region.wanted o (yielded ops a.tmps) = true := by simp [Region.wanted, hgd]
  rw [if_pos hw]
  obtain ⟨A', c', w', hrun, h1, h2, h3⟩ := run_cat hE o.type wr n2 hown hn2 hb hB k hl hk
  exact wp_append_run s x ho hs hx hrun (h A' c' w' h1 h2 h3)
theorem step_push (hE : Elem e ts sz cs) {ops : Array Oper} {o : Oper} {a : Act} {K : Act → World → Prop} {Q : Exit → Act → World → Prop} {E : Prop} (hgd : o.guard = none) (s x : Operand)
    (ho : o.op = .call { callee := .builtin .append, args := #[s, x], argTypes := #[ts, ts] }) (wr : World) (z : Nat) (hz : z = wr.heap.size) (y : α) (ys : Array Value) (t : Nat)
    (hs : a.eval s = v) (hx : a.eval x = .slice (some ⟨z, 0, none⟩) 1 1) (hown : OwnG e sz cs B wr v l) (hB : B ≤ wr.heap.size) (k : Nat) (hl : k < 1000000) (hk : l.length + 1 = k) (hy : ys.toList = cs y)
    (h : ∀ A' c' w', OwnG e sz cs B w' (.slice A' k c') (l ++ [y]) → wr.grownBy w' v.ownBlock → Rowed wr v (.slice A' k c') → K (a.put o.dst (.slice A' k c')) w') :
    if Region.wanted o (yielded ops a.tmps) = true then Oper.wp Tryd.prog o a (wr.alloc (.cells ys t)) K Q else E := by
  subst hz
  have hw : Region.wanted o (yielded ops a.tmps) = true := by simp [Region.wanted, hgd]
  rw [if_pos hw]
  obtain ⟨A', c', w', hrun, h1, h2, h3⟩ := run_push hE o.type wr y ys t hy hown hB k hl hk
  exact wp_append_run s x ho hs hx hrun (h A' c' w' h1 h2 h3)
theorem OwnG.empty (w : World) (hB : B ≤ w.heap.size) : OwnG e sz cs B (w.alloc (.cells #[] e)) (.slice (some ⟨w.heap.size, 0, none⟩) 0 0) ([] : List α) := World.ownsRow_made w #[] 0 hB (by simp [maxLen]) (by simp)
theorem OwnG.base {B' : Nat} (h : OwnG e sz cs B w v l) (hB : B' ≤ B) : OwnG e sz cs B' w v l := by
  obtain ⟨h1, h2⟩ := h
  refine ⟨h1, ?_⟩
  rcases h2 with h2 | ⟨g, cap, cur, hv, hg, r⟩
  · exact .inl h2
  · exact .inr ⟨g, cap, cur, hv, by omega, r⟩
/-- A row that another one's growing leaves alone. -/
theorem OwnG.kept {row : Option Nat} (h : OwnG e sz cs B w v l) (hg : w.grownBy w' row) (hne : ∀ g, v.ownBlock = some g → row ≠ some g) : OwnG e sz cs B w' v l := by
  refine World.ownsRow.kept h hg ?_
  cases hv : v.ownBlock with
  | none => exact .inl rfl
  | some g => exact .inr (fun e => hne g hv e.symm)
theorem Seg.kept {b off : Nat} {row : Option Nat} (h : Seg sz cs w C (some ⟨b, off, none⟩) c l) (hg : w.grownBy w' row) (hb : b < w.heap.size) (hne : row ≠ some b) : Seg sz cs w' C (some ⟨b, off, none⟩) c l := by
  obtain ⟨h1, h2, h3⟩ := h
  refine ⟨h1, h2, fun hn => ?_⟩
  obtain ⟨b', off', e, hb', hc⟩ := h3 hn
  injection e with e
  injection e with e1 e2 e3
  subst e1 e2
  exact ⟨b, off, rfl, hb', fun j hj i v hv => (hg.cell_far _ hb (fun e => hne e.symm)).trans (hc j hj i v hv)⟩
end
end Go.Proofs.YtkdhjejchdcipaaDoor
/-
  Layer 6, code: a reader's lists: list, at four types.
-/
namespace Go.Proofs.YtkdhjejchdcipaaDoor
open Go.RowKit
set_option linter.unusedVariables false
set_option linter.unusedSimpArgs false
set_option maxRecDepth 100000

/-- Two lists, pairwise. -/
def All2 {α β : Type} (R : α → β → Prop) : List α → List β → Prop
  | [], [] => True
  | x :: l, y :: m => R x y ∧ All2 R l m
  | _, _ => False
theorem All2.snoc {α β : Type} {R : α → β → Prop} {x : α} {y : β} (hx : R x y) : ∀ {l : List α} {m : List β}, All2 R l m → All2 R (l ++ [x]) (m ++ [y])
  | [], [], _ => ⟨hx, trivial⟩
  | _ :: _, _ :: _, h => ⟨h.1, All2.snoc hx h.2⟩
theorem All2.imp {α β : Type} {R S : α → β → Prop} (hi : ∀ x y, R x y → S x y) : ∀ {l : List α} {m : List β}, All2 R l m → All2 S l m
  | [], [], _ => trivial
  | _ :: _, _ :: _, h => ⟨hi _ _ h.1, All2.imp hi h.2⟩
theorem All2.impMem {α β : Type} {R S : α → β → Prop} : ∀ {l : List α} {m : List β}, (∀ x y, x ∈ l → R x y → S x y) → All2 R l m → All2 S l m
  | [], [], _, _ => trivial
  | x :: l, y :: m, hi, h => ⟨hi _ _ (List.mem_cons_self) h.1, All2.impMem (fun x y hx => hi x y (List.mem_cons_of_mem _ hx)) h.2⟩
theorem All2.len {α β : Type} {R : α → β → Prop} : ∀ {l : List α} {m : List β}, All2 R l m → l.length = m.length
  | [], [], _ => rfl
  | _ :: _, _ :: _, h => by simp [All2.len h.2]
theorem All2.eq {α : Type} : ∀ {l m : List α}, All2 (fun x y => x = y) l m → l = m
  | [], [], _ => rfl
  | _ :: _, _ :: _, h => by rw [h.1, All2.eq h.2]
section
variable {α β : Type} {e ts sz b B : Nat} {cs : α → List Value} {w w' : World} {v : Value} {l : List α}
theorem OwnG.keepb (h : OwnG e sz cs B w v l) (hb : b < B) (hk : Keep (Db b) w w') : OwnG e sz cs B w' v l :=
  World.ownsRow.kept (row := some b) h ⟨hk.os, hk.tape, hk.output, hk.size, fun k hk1 hk2 => hk.block k hk1 (fun _ e => hk2 (by rw [show k = b from e]))⟩ (by
    rcases hv : v.ownBlock with _ | g
    · exact .inl rfl
    · exact .inr (fun e => by injection e with e; have := (h.lt g hv).1; omega))
theorem Tb.count_le (r : Rd) : (Tb.count r).1 ≤ r.bs.length := by
  unfold Tb.count Tb.item
  split
  · split
    · unfold Tb.countAt
      split
      · split
        · exact Nat.zero_le _
        · rename_i h1 h2; omega
      · exact Nat.zero_le _
    · exact Nat.zero_le _
  · exact Nat.zero_le _
/-- What holds at a list's rounds. -/
structure LInv (b : Nat) (A : Option Addr) (n c N : Nat) (r0 : Rd) (one : Rd → β × Rd) (Rel : World → α → β → Prop) (Uses : α → Nat → Prop) (e sz : Nat) (cs : α → List Value) (w wr : World) (A' : Option Addr) (j c' : Nat) (xs : List α) (zs : List β) (r1 : Rd) : Prop where
  own : OwnG e sz cs w.heap.size wr (.slice A' j c') xs
  rel : All2 (Rel wr) xs zs
  rd : RdAt wr b A n c r1
  keep : Keep (Db b) w wr
  many : Tb.many one N [] r0 = Tb.many one (N - j) zs r1
  sep : ∀ x ∈ xs, ∀ g, Uses x g → w.heap.size ≤ g ∧ g < wr.heap.size ∧ (Value.slice A' j c').ownBlock ≠ some g
theorem LInv.len {A A' : Option Addr} {n c N j c' : Nat} {r0 r1 : Rd} {one : Rd → β × Rd} {Rel : World → α → β → Prop} {Uses : α → Nat → Prop} {wr : World} {xs : List α} {zs : List β} (h : LInv b A n c N r0 one Rel Uses e sz cs w wr A' j c' xs zs r1) : xs.length = j := by
  obtain ⟨A1, c1, e1⟩ := h.own.form
  injection e1 with _ e2 _
  exact e2.symm
theorem RdAt.grown {A : Option Addr} {n c : Nat} {r r1 : Rd} {w0 wr w' : World} {B : Nat} (h : RdAt wr b A n c r) (hown : OwnG e sz cs B wr v l) (hg : wr.grownBy w' v.ownBlock) (hb : b < B) (hB : B ≤ wr.heap.size) (h0 : RdAt w0 b A n c r1) (hw0 : w0.heap.size ≤ B) : RdAt w' b A n c r := by
  refine ⟨(hg.block b h.lt (fun e => ?_)).trans h.1, ?_, h.2.2⟩
  · have := (hown.lt b e.symm).1; omega
  · obtain ⟨q1, q2, q3, q4, q5⟩ := h.2.1
    refine ⟨q1, q2, q3, q4, fun hn => ?_⟩
    obtain ⟨b', off, e, hb', hc⟩ := q5 hn
    obtain ⟨b2, o2, e2, hb2, -⟩ := h0.2.1.2.2.2.2 hn
    rw [e] at e2
    injection e2 with e2
    injection e2 with e2 e3
    subst e2 e3
    have hblk := hg.block b' hb' (fun e => by have := (hown.lt b' e.symm).1; omega)
    exact ⟨b', off, e, Nat.lt_of_lt_of_le hb' hg.size, fun j hj => (World.cell?_of_block (w := wr) (a := ⟨b', off + j, none⟩) hblk).trans (hc j hj)⟩
theorem keep_grown {wr w' : World} {B : Nat} (hown : OwnG e sz cs B wr v l) (hg : wr.grownBy w' v.ownBlock) (hB : B ≤ wr.heap.size) : Below B wr w' := hown.grown hg (Nat.le_refl _) hB (Below.refl _ _)
end
/-- A slice, and a declared type's six cells. -/
structure Sl where
  a : Option Addr
  n : Nat
  c : Nat
structure Sr where
  fin : Bool
  x1 : Sl
  k : Int
  x2 : Sl
  x3 : Sl
  x4 : Sl
def Sr.cs (x : Sr) : List Value := [.bool x.fin, .slice x.x1.a x.x1.n x.x1.c, .int .i64 x.k, .slice x.x2.a x.x2.n x.x2.c, .slice x.x3.a x.x3.n x.x3.c, .slice x.x4.a x.x4.n x.x4.c]
theorem elemSub : Elem (α := Sr) 29 76 6 Sr.cs where
  info := by
    obtain ⟨i0, hi0, hz0, hz1, hz2⟩ := info_parts (show (Tryd.prog.info? 29).map (fun i => (i.zero, i.size, i.bytes)) = some (some (.agg #[.bool false, .slice none 0 0, .int .i64 0, .slice none 0 0, .slice none 0 0, .slice none 0 0]), 6, 112) by kernel_rfl)
    exact ⟨i0, _, hi0, hz0, hz1, rfl, by omega⟩
  under := Tryd.underlying76
  len _ := rfl
  pos := by decide
  one x u hu := by simp [Sr.cs] at hu; rcases hu with rfl | rfl | rfl | rfl | rfl | rfl <;> rfl
set_option maxHeartbeats 8000000 in
theorem listH_any {β : Type} {w : World} {b n c : Nat} {A : Option Addr} {r : Rd} (h : RdAt w b A n c r) (hn : n < 1000000) (one : Rd → β × Rd) (Rel : World → Hp → β → Prop) (Uses : Hp → Nat → Prop) (fid : Nat) (he : ∀ args w, (callFunc fid args).run Tryd.prog w = .ok (.enter fid args) w)
    (hRk : ∀ W W' x z, Rel W x z → W.heap.size ≤ W'.heap.size → (∀ g, Uses x g → W'.heap[g]? = W.heap[g]?) → Rel W' x z)
    (hone : ∀ (y : World) (r' : Rd), RdAt y b A n c r' → Keep (Db b) w y → Calls Tryd.prog fid #[.pointer (some ⟨b, 0, none⟩)] y fun e y' => ∃ x : Hp, e = .returned (.agg #[.int .i64 x.k, .int .i64 x.n]) ∧ Rel y' x (one r').1 ∧ (∀ g, Uses x g → y.heap.size ≤ g ∧ g < y'.heap.size) ∧ RdAt y' b A n c (one r').2 ∧ Keep (Db b) y y') :
    Calls Tryd.prog 117 #[.pointer (some ⟨b, 0, none⟩), .func (.func fid) #[.pointer (some ⟨b, 0, none⟩)] #[]] w fun e w' => ∃ v xs, e = .returned v ∧ OwnG 39 2 Hp.cs w.heap.size w' v xs ∧ All2 (Rel w') xs (Tb.list one r).1 ∧ (∀ x ∈ xs, ∀ g, Uses x g → w.heap.size ≤ g ∧ g < w'.heap.size ∧ v.ownBlock ≠ some g) ∧ RdAt w' b A n c (Tb.list one r).2 ∧ Keep (Db b) w w' := by
  obtain ⟨Q, hQ⟩ : ∃ Q : Ending → World → Prop, Q = (fun e w' => ∃ v xs, e = .returned v ∧ OwnG 39 2 Hp.cs w.heap.size w' v xs ∧ All2 (Rel w') xs (Tb.list one r).1 ∧ (∀ x ∈ xs, ∀ g, Uses x g → w.heap.size ≤ g ∧ g < w'.heap.size ∧ v.ownBlock ≠ some g) ∧ RdAt w' b A n c (Tb.list one r).2 ∧ Keep (Db b) w w') := ⟨_, rfl⟩
  rw [← hQ]
  have HC := Lib.hid (Count_rd h)
  have HN := Lib.hid (show (Tb.count r).1 < 1000000 by have := Tb.count_le r; rw [h.len] at this; omega)
  have HQ := Lib.hid hQ
  have HRk := Lib.hid hRk
  have HO := Lib.hid hone
  have Hlt := Lib.hid h.lt
  have HH := Lib.hid h
  obtain ⟨q, hq⟩ : ∃ q, Tb.count r = q := ⟨_, rfl⟩
  have hlist : Tb.list one r = Tb.many one q.1 [] q.2 := by unfold Tb.list; rw [hq]
  rw [hq] at HC HN
  have HL := Lib.hid hlist
  obtain ⟨N, hN⟩ : ∃ N, q.1 = N := ⟨_, rfl⟩
  rw [hN] at HC HN HL
  have hN2 : N < 1000000 := HN.out
  clear h hQ hRk hone hq hlist hN
  go_enter Tryd.func117, Tryd.ntmps117
  go_wp2_with (go_at_call 33; refine HC.out.mono ?_; rintro e w0 ⟨rfl, h1, h2⟩; have HR0 := Lib.hid h1; have HK0 := Lib.hid h2; clear h1 h2)
  go_loopw [5, 9] (fun out i wr => ∃ (j : Nat) (A' : Option Addr) (c' : Nat) (xs : List Hp) (zs : List β) (r1 : Rd), j ≤ N ∧ i = .int .i64 (j : Int) ∧ out = .slice A' j c' ∧ LInv b A n c N q.2 one Rel Uses 39 2 Hp.cs w wr A' j c' xs zs r1) (fun _ i _ => N - (intOf i).toNat)
  case atStart => exact ⟨0, none, 0, [], [], q.2, Nat.zero_le _, rfl, rfl, ⟨OwnG.nil _ _, trivial, HR0.out, HK0.out, rfl, fun x hx => by cases hx⟩⟩
  case round =>
    obtain ⟨j, A', c', xs, zs, r1, hj, rfl, rfl, hinv⟩ := hrel
    have HI := Lib.hid hinv
    clear hinv
    by_cases hlt : j < N
    · have HC1 := Lib.hid (HO.out wr r1 HI.out.rd HI.out.keep)
      obtain ⟨p, hp⟩ : ∃ p, one r1 = p := ⟨_, rfl⟩
      rw [hp] at HC1
      have HP := Lib.hid hp
      clear hp
      by_cases hp0 : p.2.e = 0
      · have HG : Hid (∀ y, RdAt y b A n c p.2 → Calls Tryd.prog 92 #[.pointer (some ⟨b, 0, none⟩)] y fun e w' => e = .returned (.bool true) ∧ y = w') := Lib.hid fun y hy => goes_any hy true (by simp [hp0])
        have HP0 := Lib.hid hp0
        clear hp0
        go_wp2_with (first
          | (go_at_call 92; refine (HG.out _ HR2.out).mono ?_; rintro e w3 ⟨rfl, rfl⟩)
          | (refine HC1.out.mono ?_; rintro e w1 ⟨x, rfl, hx, hu, h1, h2⟩; have HX := Lib.hid hx; have HU := Lib.hid hu; have HK1 := Lib.hid h2; have HA2 : Hid (Below w1.heap.size w1 (w1.alloc (.cells #[.int .i64 x.k, .int .i64 x.n] 39))) := Lib.hid ((Below.refl _ _).alloc (Nat.le_refl _) _); have HR2 := Lib.hid (h1.below (Nat.le_refl _) HA2.out); have HB2 : Hid ((w1.alloc (.cells #[.int .i64 x.k, .int .i64 x.n] 39)).heap[w1.heap.size]? = some (.cells #[.int .i64 x.k, .int .i64 x.n] 39 (0, 0))) := Lib.hid (World.alloc_heap_new _ _); have HOW := Lib.hid ((HI.out.own.keepb Hlt.out h2).alloc (.cells #[.int .i64 x.k, .int .i64 x.n] 39)); have HZ2 : Hid (w.heap.size ≤ (w1.alloc (.cells #[.int .i64 x.k, .int .i64 x.n] 39)).heap.size) := Lib.hid (by have := HI.out.keep.size; have := h2.size; simp; omega); clear hx hu h1 h2)
          | (refine wpList_load_row rfl 39 (.tmp 6) rfl w1.heap.size rfl _ _ _ _ HB2.out Tryd.underlying39 rfl (by kernel_rfl) ?_)
          | (at_builtin; refine push_at elemH rfl (.tmp 16) (.tmp 18) rfl (w1.alloc (.cells #[.int .i64 x.k, .int .i64 x.n] 39)) (w1.heap.size + 1) (by simp) x #[.int .i64 x.k, .int .i64 x.n] _ rfl rfl HOW.out HZ2.out (j + 1) (by omega) (by rw [HI.out.len]) rfl ?_; intro A9 c9 w9 hown9 hg9 hr9; have HO9 := Lib.hid hown9; have HR9 := Lib.hid hr9; have HG9 := Lib.hid hg9; clear hown9 hg9 hr9))
        go_roundw
        case rel =>
          have B9 := keep_grown HOW.out HG9.out HZ2.out
          have hz1 := HI.out.keep.size
          have hz2 := HK1.out.size
          have hz9 := HG9.out.size
          simp only [World.size_alloc] at hz9
          have hlt2 : ∀ g, (Value.slice A' j c').ownBlock = some g → g < wr.heap.size := fun g hg => (HI.out.own.lt g hg).2
          have stay : ∀ g, g < w1.heap.size → (Value.slice A' j c').ownBlock ≠ some g → w9.heap[g]? = w1.heap[g]? := fun g hg hne => by
            rw [HG9.out.block g (by simp; omega) (fun e => hne e.symm)]
            exact Below.heap_alloc _ _ _ hg
          refine ⟨j + 1, A9, c9, xs ++ [x], zs ++ [p.1], p.2, by omega, by go_num, rfl, ⟨HO9.out, ?_, ?_, ?_, ?_, ?_⟩⟩
          · refine All2.snoc (HRk.out _ _ _ _ HX.out (by omega) fun g hg => ?_) ?_
            · have h1 := HU.out g hg
              exact stay g h1.2 (fun e => by have := hlt2 g e; omega)
            · have hs := HI.out.sep
              have hrel := HI.out.rel
              exact All2.impMem (fun x' z' hm hR => by
                refine HRk.out _ _ _ _ hR (by omega) fun g hg => ?_
                obtain ⟨g1, g2, g3⟩ := hs x' hm g hg
                rw [stay g (by omega) g3]
                exact HK1.out.block g g2 (fun _ e => by have : g = b := e; have := Hlt.out; omega)) hrel
          · exact HR2.out.grown HOW.out HG9.out Hlt.out HZ2.out HH.out (Nat.le_refl _)
          · exact (HI.out.keep.trans (HK1.out.trans (Keep.of_below HA2.out))).lies (Nat.le_refl _) B9
          · rw [HI.out.many]
            have e : N - j = (N - (j + 1)) + 1 := by omega
            rw [e]
            show (if (one r1).2.e = 0 then Tb.many one (N - (j + 1)) (zs ++ [(one r1).1]) (one r1).2 else ([], (one r1).2)) = _
            rw [HP.out, if_pos HP0.out]
          · intro x' hm g hg
            have hnew : ∀ g, g < w1.heap.size → (Value.slice A' j c').ownBlock ≠ some g → (Value.slice A9 (j + 1) c9).ownBlock ≠ some g := fun g h1 h2 e => by
              rcases HR9.out g e with h | h
              · exact h2 h
              · simp only [World.size_alloc] at h; omega
            rcases List.mem_append.1 hm with hm | hm
            · obtain ⟨g1, g2, g3⟩ := HI.out.sep x' hm g hg
              exact ⟨g1, by omega, hnew g (by omega) g3⟩
            · obtain rfl := List.mem_singleton.1 hm
              obtain ⟨g1, g2⟩ := HU.out g hg
              exact ⟨by omega, by omega, hnew g g2 (fun e => by have := hlt2 g e; omega)⟩
        case measure => simp [intOf]; omega
      · have HG : Hid (∀ y, RdAt y b A n c p.2 → Calls Tryd.prog 92 #[.pointer (some ⟨b, 0, none⟩)] y fun e w' => e = .returned (.bool false) ∧ y = w') := Lib.hid fun y hy => goes_any hy false (by simp [hp0])
        have HP0 := Lib.hid hp0
        clear hp0
        go_wp2_with (first
          | (go_at_call 92; refine (HG.out _ HR2.out).mono ?_; rintro e w3 ⟨rfl, rfl⟩)
          | (refine HC1.out.mono ?_; rintro e w1 ⟨x, rfl, hx, hu, h1, h2⟩; have HK1 := Lib.hid h2; have HA2 : Hid (Below w1.heap.size w1 (w1.alloc (.cells #[.int .i64 x.k, .int .i64 x.n] 39))) := Lib.hid ((Below.refl _ _).alloc (Nat.le_refl _) _); have HR2 := Lib.hid (h1.below (Nat.le_refl _) HA2.out); clear hx hu h1 h2))
        rw [HQ.out]
        have hm : Tb.list one r = ([], p.2) := by
          rw [HL.out, HI.out.many]
          have e : N - j = (N - (j + 1)) + 1 := by omega
          rw [e]
          show (if (one r1).2.e = 0 then Tb.many one (N - (j + 1)) (zs ++ [(one r1).1]) (one r1).2 else ([], (one r1).2)) = _
          rw [HP.out, if_neg HP0.out]
        rw [hm]
        exact ⟨_, [], rfl, OwnG.nil _ _, trivial, (fun x hx => by cases hx), HR2.out, HI.out.keep.trans (HK1.out.trans (Keep.of_below HA2.out))⟩
    · have hjN : j = N := by omega
      go_wp2
      rw [HQ.out]
      have hm : Tb.list one r = (zs, r1) := by
        rw [HL.out, HI.out.many, hjN, Nat.sub_self]
        rfl
      rw [hm]
      exact ⟨_, xs, rfl, HI.out.own, HI.out.rel, HI.out.sep, HI.out.rd, HI.out.keep⟩
set_option maxHeartbeats 8000000 in
theorem listV_any {β : Type} {w : World} {b n c : Nat} {A : Option Addr} {r : Rd} (h : RdAt w b A n c r) (hn : n < 1000000) (one : Rd → β × Rd) (Rel : World → Vl → β → Prop) (Uses : Vl → Nat → Prop) (fid : Nat) (he : ∀ args w, (callFunc fid args).run Tryd.prog w = .ok (.enter fid args) w)
    (hRk : ∀ W W' x z, Rel W x z → W.heap.size ≤ W'.heap.size → (∀ g, Uses x g → W'.heap[g]? = W.heap[g]?) → Rel W' x z)
    (hone : ∀ (y : World) (r' : Rd), RdAt y b A n c r' → Keep (Db b) w y → Calls Tryd.prog fid #[.pointer (some ⟨b, 0, none⟩)] y fun e y' => ∃ x : Vl, e = .returned (.agg #[.int .i64 x.k, .bool x.nu, .int .i64 x.h.k, .int .i64 x.h.n]) ∧ Rel y' x (one r').1 ∧ (∀ g, Uses x g → y.heap.size ≤ g ∧ g < y'.heap.size) ∧ RdAt y' b A n c (one r').2 ∧ Keep (Db b) y y') :
    Calls Tryd.prog 89 #[.pointer (some ⟨b, 0, none⟩), .func (.func fid) #[.pointer (some ⟨b, 0, none⟩)] #[]] w fun e w' => ∃ v xs, e = .returned v ∧ OwnG 46 4 Vl.cs w.heap.size w' v xs ∧ All2 (Rel w') xs (Tb.list one r).1 ∧ (∀ x ∈ xs, ∀ g, Uses x g → w.heap.size ≤ g ∧ g < w'.heap.size ∧ v.ownBlock ≠ some g) ∧ RdAt w' b A n c (Tb.list one r).2 ∧ Keep (Db b) w w' := by
  obtain ⟨Q, hQ⟩ : ∃ Q : Ending → World → Prop, Q = (fun e w' => ∃ v xs, e = .returned v ∧ OwnG 46 4 Vl.cs w.heap.size w' v xs ∧ All2 (Rel w') xs (Tb.list one r).1 ∧ (∀ x ∈ xs, ∀ g, Uses x g → w.heap.size ≤ g ∧ g < w'.heap.size ∧ v.ownBlock ≠ some g) ∧ RdAt w' b A n c (Tb.list one r).2 ∧ Keep (Db b) w w') := ⟨_, rfl⟩
  rw [← hQ]
  have HC := Lib.hid (Count_rd h)
  have HN := Lib.hid (show (Tb.count r).1 < 1000000 by have := Tb.count_le r; rw [h.len] at this; omega)
  have HQ := Lib.hid hQ
  have HRk := Lib.hid hRk
  have HO := Lib.hid hone
  have Hlt := Lib.hid h.lt
  have HH := Lib.hid h
  obtain ⟨q, hq⟩ : ∃ q, Tb.count r = q := ⟨_, rfl⟩
  have hlist : Tb.list one r = Tb.many one q.1 [] q.2 := by unfold Tb.list; rw [hq]
  rw [hq] at HC HN
  have HL := Lib.hid hlist
  obtain ⟨N, hN⟩ : ∃ N, q.1 = N := ⟨_, rfl⟩
  rw [hN] at HC HN HL
  have hN2 : N < 1000000 := HN.out
  clear h hQ hRk hone hq hlist hN
  go_enter Tryd.func89, Tryd.ntmps89
  go_wp2_with (go_at_call 33; refine HC.out.mono ?_; rintro e w0 ⟨rfl, h1, h2⟩; have HR0 := Lib.hid h1; have HK0 := Lib.hid h2; clear h1 h2)
  go_loopw [5, 9] (fun out i wr => ∃ (j : Nat) (A' : Option Addr) (c' : Nat) (xs : List Vl) (zs : List β) (r1 : Rd), j ≤ N ∧ i = .int .i64 (j : Int) ∧ out = .slice A' j c' ∧ LInv b A n c N q.2 one Rel Uses 46 4 Vl.cs w wr A' j c' xs zs r1) (fun _ i _ => N - (intOf i).toNat)
  case atStart => exact ⟨0, none, 0, [], [], q.2, Nat.zero_le _, rfl, rfl, ⟨OwnG.nil _ _, trivial, HR0.out, HK0.out, rfl, fun x hx => by cases hx⟩⟩
  case round =>
    obtain ⟨j, A', c', xs, zs, r1, hj, rfl, rfl, hinv⟩ := hrel
    have HI := Lib.hid hinv
    clear hinv
    by_cases hlt : j < N
    · have HC1 := Lib.hid (HO.out wr r1 HI.out.rd HI.out.keep)
      obtain ⟨p, hp⟩ : ∃ p, one r1 = p := ⟨_, rfl⟩
      rw [hp] at HC1
      have HP := Lib.hid hp
      clear hp
      by_cases hp0 : p.2.e = 0
      · have HG : Hid (∀ y, RdAt y b A n c p.2 → Calls Tryd.prog 92 #[.pointer (some ⟨b, 0, none⟩)] y fun e w' => e = .returned (.bool true) ∧ y = w') := Lib.hid fun y hy => goes_any hy true (by simp [hp0])
        have HP0 := Lib.hid hp0
        clear hp0
        go_wp2_with (first
          | (go_at_call 92; refine (HG.out _ HR2.out).mono ?_; rintro e w3 ⟨rfl, rfl⟩)
          | (refine HC1.out.mono ?_; rintro e w1 ⟨x, rfl, hx, hu, h1, h2⟩; have HX := Lib.hid hx; have HU := Lib.hid hu; have HK1 := Lib.hid h2; have HA2 : Hid (Below w1.heap.size w1 (w1.alloc (.cells #[.int .i64 x.k, .bool x.nu, .int .i64 x.h.k, .int .i64 x.h.n] 46))) := Lib.hid ((Below.refl _ _).alloc (Nat.le_refl _) _); have HR2 := Lib.hid (h1.below (Nat.le_refl _) HA2.out); have HB2 : Hid ((w1.alloc (.cells #[.int .i64 x.k, .bool x.nu, .int .i64 x.h.k, .int .i64 x.h.n] 46)).heap[w1.heap.size]? = some (.cells #[.int .i64 x.k, .bool x.nu, .int .i64 x.h.k, .int .i64 x.h.n] 46 (0, 0))) := Lib.hid (World.alloc_heap_new _ _); have HOW := Lib.hid ((HI.out.own.keepb Hlt.out h2).alloc (.cells #[.int .i64 x.k, .bool x.nu, .int .i64 x.h.k, .int .i64 x.h.n] 46)); have HZ2 : Hid (w.heap.size ≤ (w1.alloc (.cells #[.int .i64 x.k, .bool x.nu, .int .i64 x.h.k, .int .i64 x.h.n] 46)).heap.size) := Lib.hid (by have := HI.out.keep.size; have := h2.size; simp; omega); clear hx hu h1 h2)
          | (refine wpList_load_row rfl 46 (.tmp 6) rfl w1.heap.size rfl _ _ _ _ HB2.out Tryd.underlying46 rfl (by kernel_rfl) ?_)
          | (at_builtin; refine push_at elemV rfl (.tmp 16) (.tmp 18) rfl (w1.alloc (.cells #[.int .i64 x.k, .bool x.nu, .int .i64 x.h.k, .int .i64 x.h.n] 46)) (w1.heap.size + 1) (by simp) x #[.int .i64 x.k, .bool x.nu, .int .i64 x.h.k, .int .i64 x.h.n] _ rfl rfl HOW.out HZ2.out (j + 1) (by omega) (by rw [HI.out.len]) rfl ?_; intro A9 c9 w9 hown9 hg9 hr9; have HO9 := Lib.hid hown9; have HR9 := Lib.hid hr9; have HG9 := Lib.hid hg9; clear hown9 hg9 hr9))
        go_roundw
        case rel =>
          have B9 := keep_grown HOW.out HG9.out HZ2.out
          have hz1 := HI.out.keep.size
          have hz2 := HK1.out.size
          have hz9 := HG9.out.size
          simp only [World.size_alloc] at hz9
          have hlt2 : ∀ g, (Value.slice A' j c').ownBlock = some g → g < wr.heap.size := fun g hg => (HI.out.own.lt g hg).2
          have stay : ∀ g, g < w1.heap.size → (Value.slice A' j c').ownBlock ≠ some g → w9.heap[g]? = w1.heap[g]? := fun g hg hne => by
            rw [HG9.out.block g (by simp; omega) (fun e => hne e.symm)]
            exact Below.heap_alloc _ _ _ hg
          refine ⟨j + 1, A9, c9, xs ++ [x], zs ++ [p.1], p.2, by omega, by go_num, rfl, ⟨HO9.out, ?_, ?_, ?_, ?_, ?_⟩⟩
          · refine All2.snoc (HRk.out _ _ _ _ HX.out (by omega) fun g hg => ?_) ?_
            · have h1 := HU.out g hg
              exact stay g h1.2 (fun e => by have := hlt2 g e; omega)
            · have hs := HI.out.sep
              have hrel := HI.out.rel
              exact All2.impMem (fun x' z' hm hR => by
                refine HRk.out _ _ _ _ hR (by omega) fun g hg => ?_
                obtain ⟨g1, g2, g3⟩ := hs x' hm g hg
                rw [stay g (by omega) g3]
                exact HK1.out.block g g2 (fun _ e => by have : g = b := e; have := Hlt.out; omega)) hrel
          · exact HR2.out.grown HOW.out HG9.out Hlt.out HZ2.out HH.out (Nat.le_refl _)
          · exact (HI.out.keep.trans (HK1.out.trans (Keep.of_below HA2.out))).lies (Nat.le_refl _) B9
          · rw [HI.out.many]
            have e : N - j = (N - (j + 1)) + 1 := by omega
            rw [e]
            show (if (one r1).2.e = 0 then Tb.many one (N - (j + 1)) (zs ++ [(one r1).1]) (one r1).2 else ([], (one r1).2)) = _
            rw [HP.out, if_pos HP0.out]
          · intro x' hm g hg
            have hnew : ∀ g, g < w1.heap.size → (Value.slice A' j c').ownBlock ≠ some g → (Value.slice A9 (j + 1) c9).ownBlock ≠ some g := fun g h1 h2 e => by
              rcases HR9.out g e with h | h
              · exact h2 h
              · simp only [World.size_alloc] at h; omega
            rcases List.mem_append.1 hm with hm | hm
            · obtain ⟨g1, g2, g3⟩ := HI.out.sep x' hm g hg
              exact ⟨g1, by omega, hnew g (by omega) g3⟩
            · obtain rfl := List.mem_singleton.1 hm
              obtain ⟨g1, g2⟩ := HU.out g hg
              exact ⟨by omega, by omega, hnew g g2 (fun e => by have := hlt2 g e; omega)⟩
        case measure => simp [intOf]; omega
      · have HG : Hid (∀ y, RdAt y b A n c p.2 → Calls Tryd.prog 92 #[.pointer (some ⟨b, 0, none⟩)] y fun e w' => e = .returned (.bool false) ∧ y = w') := Lib.hid fun y hy => goes_any hy false (by simp [hp0])
        have HP0 := Lib.hid hp0
        clear hp0
        go_wp2_with (first
          | (go_at_call 92; refine (HG.out _ HR2.out).mono ?_; rintro e w3 ⟨rfl, rfl⟩)
          | (refine HC1.out.mono ?_; rintro e w1 ⟨x, rfl, hx, hu, h1, h2⟩; have HK1 := Lib.hid h2; have HA2 : Hid (Below w1.heap.size w1 (w1.alloc (.cells #[.int .i64 x.k, .bool x.nu, .int .i64 x.h.k, .int .i64 x.h.n] 46))) := Lib.hid ((Below.refl _ _).alloc (Nat.le_refl _) _); have HR2 := Lib.hid (h1.below (Nat.le_refl _) HA2.out); clear hx hu h1 h2))
        rw [HQ.out]
        have hm : Tb.list one r = ([], p.2) := by
          rw [HL.out, HI.out.many]
          have e : N - j = (N - (j + 1)) + 1 := by omega
          rw [e]
          show (if (one r1).2.e = 0 then Tb.many one (N - (j + 1)) (zs ++ [(one r1).1]) (one r1).2 else ([], (one r1).2)) = _
          rw [HP.out, if_neg HP0.out]
        rw [hm]
        exact ⟨_, [], rfl, OwnG.nil _ _, trivial, (fun x hx => by cases hx), HR2.out, HI.out.keep.trans (HK1.out.trans (Keep.of_below HA2.out))⟩
    · have hjN : j = N := by omega
      go_wp2
      rw [HQ.out]
      have hm : Tb.list one r = (zs, r1) := by
        rw [HL.out, HI.out.many, hjN, Nat.sub_self]
        rfl
      rw [hm]
      exact ⟨_, xs, rfl, HI.out.own, HI.out.rel, HI.out.sep, HI.out.rd, HI.out.keep⟩
set_option maxHeartbeats 8000000 in
theorem listF_any {β : Type} {w : World} {b n c : Nat} {A : Option Addr} {r : Rd} (h : RdAt w b A n c r) (hn : n < 1000000) (one : Rd → β × Rd) (Rel : World → Fd → β → Prop) (Uses : Fd → Nat → Prop) (fid : Nat) (he : ∀ args w, (callFunc fid args).run Tryd.prog w = .ok (.enter fid args) w)
    (hRk : ∀ W W' x z, Rel W x z → W.heap.size ≤ W'.heap.size → (∀ g, Uses x g → W'.heap[g]? = W.heap[g]?) → Rel W' x z)
    (hone : ∀ (y : World) (r' : Rd), RdAt y b A n c r' → Keep (Db b) w y → Calls Tryd.prog fid #[.pointer (some ⟨b, 0, none⟩)] y fun e y' => ∃ x : Fd, e = .returned (.agg #[.int .i64 x.pk, .int .i64 x.v.k, .bool x.v.nu, .int .i64 x.v.h.k, .int .i64 x.v.h.n, .bool x.mu]) ∧ Rel y' x (one r').1 ∧ (∀ g, Uses x g → y.heap.size ≤ g ∧ g < y'.heap.size) ∧ RdAt y' b A n c (one r').2 ∧ Keep (Db b) y y') :
    Calls Tryd.prog 149 #[.pointer (some ⟨b, 0, none⟩), .func (.func fid) #[.pointer (some ⟨b, 0, none⟩)] #[]] w fun e w' => ∃ v xs, e = .returned v ∧ OwnG 50 6 Fd.cs w.heap.size w' v xs ∧ All2 (Rel w') xs (Tb.list one r).1 ∧ (∀ x ∈ xs, ∀ g, Uses x g → w.heap.size ≤ g ∧ g < w'.heap.size ∧ v.ownBlock ≠ some g) ∧ RdAt w' b A n c (Tb.list one r).2 ∧ Keep (Db b) w w' := by
  obtain ⟨Q, hQ⟩ : ∃ Q : Ending → World → Prop, Q = (fun e w' => ∃ v xs, e = .returned v ∧ OwnG 50 6 Fd.cs w.heap.size w' v xs ∧ All2 (Rel w') xs (Tb.list one r).1 ∧ (∀ x ∈ xs, ∀ g, Uses x g → w.heap.size ≤ g ∧ g < w'.heap.size ∧ v.ownBlock ≠ some g) ∧ RdAt w' b A n c (Tb.list one r).2 ∧ Keep (Db b) w w') := ⟨_, rfl⟩
  rw [← hQ]
  have HC := Lib.hid (Count_rd h)
  have HN := Lib.hid (show (Tb.count r).1 < 1000000 by have := Tb.count_le r; rw [h.len] at this; omega)
  have HQ := Lib.hid hQ
  have HRk := Lib.hid hRk
  have HO := Lib.hid hone
  have Hlt := Lib.hid h.lt
  have HH := Lib.hid h
  obtain ⟨q, hq⟩ : ∃ q, Tb.count r = q := ⟨_, rfl⟩
  have hlist : Tb.list one r = Tb.many one q.1 [] q.2 := by unfold Tb.list; rw [hq]
  rw [hq] at HC HN
  have HL := Lib.hid hlist
  obtain ⟨N, hN⟩ : ∃ N, q.1 = N := ⟨_, rfl⟩
  rw [hN] at HC HN HL
  have hN2 : N < 1000000 := HN.out
  clear h hQ hRk hone hq hlist hN
  go_enter Tryd.func149, Tryd.ntmps149
  go_wp2_with (go_at_call 33; refine HC.out.mono ?_; rintro e w0 ⟨rfl, h1, h2⟩; have HR0 := Lib.hid h1; have HK0 := Lib.hid h2; clear h1 h2)
  go_loopw [5, 9] (fun out i wr => ∃ (j : Nat) (A' : Option Addr) (c' : Nat) (xs : List Fd) (zs : List β) (r1 : Rd), j ≤ N ∧ i = .int .i64 (j : Int) ∧ out = .slice A' j c' ∧ LInv b A n c N q.2 one Rel Uses 50 6 Fd.cs w wr A' j c' xs zs r1) (fun _ i _ => N - (intOf i).toNat)
  case atStart => exact ⟨0, none, 0, [], [], q.2, Nat.zero_le _, rfl, rfl, ⟨OwnG.nil _ _, trivial, HR0.out, HK0.out, rfl, fun x hx => by cases hx⟩⟩
  case round =>
    obtain ⟨j, A', c', xs, zs, r1, hj, rfl, rfl, hinv⟩ := hrel
    have HI := Lib.hid hinv
    clear hinv
    by_cases hlt : j < N
    · have HC1 := Lib.hid (HO.out wr r1 HI.out.rd HI.out.keep)
      obtain ⟨p, hp⟩ : ∃ p, one r1 = p := ⟨_, rfl⟩
      rw [hp] at HC1
      have HP := Lib.hid hp
      clear hp
      by_cases hp0 : p.2.e = 0
      · have HG : Hid (∀ y, RdAt y b A n c p.2 → Calls Tryd.prog 92 #[.pointer (some ⟨b, 0, none⟩)] y fun e w' => e = .returned (.bool true) ∧ y = w') := Lib.hid fun y hy => goes_any hy true (by simp [hp0])
        have HP0 := Lib.hid hp0
        clear hp0
        go_wp2_with (first
          | (go_at_call 92; refine (HG.out _ HR2.out).mono ?_; rintro e w3 ⟨rfl, rfl⟩)
          | (refine HC1.out.mono ?_; rintro e w1 ⟨x, rfl, hx, hu, h1, h2⟩; have HX := Lib.hid hx; have HU := Lib.hid hu; have HK1 := Lib.hid h2; have HA2 : Hid (Below w1.heap.size w1 (w1.alloc (.cells #[.int .i64 x.pk, .int .i64 x.v.k, .bool x.v.nu, .int .i64 x.v.h.k, .int .i64 x.v.h.n, .bool x.mu] 50))) := Lib.hid ((Below.refl _ _).alloc (Nat.le_refl _) _); have HR2 := Lib.hid (h1.below (Nat.le_refl _) HA2.out); have HB2 : Hid ((w1.alloc (.cells #[.int .i64 x.pk, .int .i64 x.v.k, .bool x.v.nu, .int .i64 x.v.h.k, .int .i64 x.v.h.n, .bool x.mu] 50)).heap[w1.heap.size]? = some (.cells #[.int .i64 x.pk, .int .i64 x.v.k, .bool x.v.nu, .int .i64 x.v.h.k, .int .i64 x.v.h.n, .bool x.mu] 50 (0, 0))) := Lib.hid (World.alloc_heap_new _ _); have HOW := Lib.hid ((HI.out.own.keepb Hlt.out h2).alloc (.cells #[.int .i64 x.pk, .int .i64 x.v.k, .bool x.v.nu, .int .i64 x.v.h.k, .int .i64 x.v.h.n, .bool x.mu] 50)); have HZ2 : Hid (w.heap.size ≤ (w1.alloc (.cells #[.int .i64 x.pk, .int .i64 x.v.k, .bool x.v.nu, .int .i64 x.v.h.k, .int .i64 x.v.h.n, .bool x.mu] 50)).heap.size) := Lib.hid (by have := HI.out.keep.size; have := h2.size; simp; omega); clear hx hu h1 h2)
          | (refine wpList_load_row rfl 50 (.tmp 6) rfl w1.heap.size rfl _ _ _ _ HB2.out Tryd.underlying50 rfl (by kernel_rfl) ?_)
          | (at_builtin; refine push_at elemF rfl (.tmp 16) (.tmp 18) rfl (w1.alloc (.cells #[.int .i64 x.pk, .int .i64 x.v.k, .bool x.v.nu, .int .i64 x.v.h.k, .int .i64 x.v.h.n, .bool x.mu] 50)) (w1.heap.size + 1) (by simp) x #[.int .i64 x.pk, .int .i64 x.v.k, .bool x.v.nu, .int .i64 x.v.h.k, .int .i64 x.v.h.n, .bool x.mu] _ rfl rfl HOW.out HZ2.out (j + 1) (by omega) (by rw [HI.out.len]) rfl ?_; intro A9 c9 w9 hown9 hg9 hr9; have HO9 := Lib.hid hown9; have HR9 := Lib.hid hr9; have HG9 := Lib.hid hg9; clear hown9 hg9 hr9))
        go_roundw
        case rel =>
          have B9 := keep_grown HOW.out HG9.out HZ2.out
          have hz1 := HI.out.keep.size
          have hz2 := HK1.out.size
          have hz9 := HG9.out.size
          simp only [World.size_alloc] at hz9
          have hlt2 : ∀ g, (Value.slice A' j c').ownBlock = some g → g < wr.heap.size := fun g hg => (HI.out.own.lt g hg).2
          have stay : ∀ g, g < w1.heap.size → (Value.slice A' j c').ownBlock ≠ some g → w9.heap[g]? = w1.heap[g]? := fun g hg hne => by
            rw [HG9.out.block g (by simp; omega) (fun e => hne e.symm)]
            exact Below.heap_alloc _ _ _ hg
          refine ⟨j + 1, A9, c9, xs ++ [x], zs ++ [p.1], p.2, by omega, by go_num, rfl, ⟨HO9.out, ?_, ?_, ?_, ?_, ?_⟩⟩
          · refine All2.snoc (HRk.out _ _ _ _ HX.out (by omega) fun g hg => ?_) ?_
            · have h1 := HU.out g hg
              exact stay g h1.2 (fun e => by have := hlt2 g e; omega)
            · have hs := HI.out.sep
              have hrel := HI.out.rel
              exact All2.impMem (fun x' z' hm hR => by
                refine HRk.out _ _ _ _ hR (by omega) fun g hg => ?_
                obtain ⟨g1, g2, g3⟩ := hs x' hm g hg
                rw [stay g (by omega) g3]
                exact HK1.out.block g g2 (fun _ e => by have : g = b := e; have := Hlt.out; omega)) hrel
          · exact HR2.out.grown HOW.out HG9.out Hlt.out HZ2.out HH.out (Nat.le_refl _)
          · exact (HI.out.keep.trans (HK1.out.trans (Keep.of_below HA2.out))).lies (Nat.le_refl _) B9
          · rw [HI.out.many]
            have e : N - j = (N - (j + 1)) + 1 := by omega
            rw [e]
            show (if (one r1).2.e = 0 then Tb.many one (N - (j + 1)) (zs ++ [(one r1).1]) (one r1).2 else ([], (one r1).2)) = _
            rw [HP.out, if_pos HP0.out]
          · intro x' hm g hg
            have hnew : ∀ g, g < w1.heap.size → (Value.slice A' j c').ownBlock ≠ some g → (Value.slice A9 (j + 1) c9).ownBlock ≠ some g := fun g h1 h2 e => by
              rcases HR9.out g e with h | h
              · exact h2 h
              · simp only [World.size_alloc] at h; omega
            rcases List.mem_append.1 hm with hm | hm
            · obtain ⟨g1, g2, g3⟩ := HI.out.sep x' hm g hg
              exact ⟨g1, by omega, hnew g (by omega) g3⟩
            · obtain rfl := List.mem_singleton.1 hm
              obtain ⟨g1, g2⟩ := HU.out g hg
              exact ⟨by omega, by omega, hnew g g2 (fun e => by have := hlt2 g e; omega)⟩
        case measure => simp [intOf]; omega
      · have HG : Hid (∀ y, RdAt y b A n c p.2 → Calls Tryd.prog 92 #[.pointer (some ⟨b, 0, none⟩)] y fun e w' => e = .returned (.bool false) ∧ y = w') := Lib.hid fun y hy => goes_any hy false (by simp [hp0])
        have HP0 := Lib.hid hp0
        clear hp0
        go_wp2_with (first
          | (go_at_call 92; refine (HG.out _ HR2.out).mono ?_; rintro e w3 ⟨rfl, rfl⟩)
          | (refine HC1.out.mono ?_; rintro e w1 ⟨x, rfl, hx, hu, h1, h2⟩; have HK1 := Lib.hid h2; have HA2 : Hid (Below w1.heap.size w1 (w1.alloc (.cells #[.int .i64 x.pk, .int .i64 x.v.k, .bool x.v.nu, .int .i64 x.v.h.k, .int .i64 x.v.h.n, .bool x.mu] 50))) := Lib.hid ((Below.refl _ _).alloc (Nat.le_refl _) _); have HR2 := Lib.hid (h1.below (Nat.le_refl _) HA2.out); clear hx hu h1 h2))
        rw [HQ.out]
        have hm : Tb.list one r = ([], p.2) := by
          rw [HL.out, HI.out.many]
          have e : N - j = (N - (j + 1)) + 1 := by omega
          rw [e]
          show (if (one r1).2.e = 0 then Tb.many one (N - (j + 1)) (zs ++ [(one r1).1]) (one r1).2 else ([], (one r1).2)) = _
          rw [HP.out, if_neg HP0.out]
        rw [hm]
        exact ⟨_, [], rfl, OwnG.nil _ _, trivial, (fun x hx => by cases hx), HR2.out, HI.out.keep.trans (HK1.out.trans (Keep.of_below HA2.out))⟩
    · have hjN : j = N := by omega
      go_wp2
      rw [HQ.out]
      have hm : Tb.list one r = (zs, r1) := by
        rw [HL.out, HI.out.many, hjN, Nat.sub_self]
        rfl
      rw [hm]
      exact ⟨_, xs, rfl, HI.out.own, HI.out.rel, HI.out.sep, HI.out.rd, HI.out.keep⟩
set_option maxHeartbeats 8000000 in
theorem listS_any {β : Type} {w : World} {b n c : Nat} {A : Option Addr} {r : Rd} (h : RdAt w b A n c r) (hn : n < 1000000) (one : Rd → β × Rd) (Rel : World → Sr → β → Prop) (Uses : Sr → Nat → Prop) (fid : Nat) (he : ∀ args w, (callFunc fid args).run Tryd.prog w = .ok (.enter fid args) w)
    (hRk : ∀ W W' x z, Rel W x z → W.heap.size ≤ W'.heap.size → (∀ g, Uses x g → W'.heap[g]? = W.heap[g]?) → Rel W' x z)
    (hone : ∀ (y : World) (r' : Rd), RdAt y b A n c r' → Keep (Db b) w y → Calls Tryd.prog fid #[.pointer (some ⟨b, 0, none⟩)] y fun e y' => ∃ x : Sr, e = .returned (.agg #[.bool x.fin, .slice x.x1.a x.x1.n x.x1.c, .int .i64 x.k, .slice x.x2.a x.x2.n x.x2.c, .slice x.x3.a x.x3.n x.x3.c, .slice x.x4.a x.x4.n x.x4.c]) ∧ Rel y' x (one r').1 ∧ (∀ g, Uses x g → y.heap.size ≤ g ∧ g < y'.heap.size) ∧ RdAt y' b A n c (one r').2 ∧ Keep (Db b) y y') :
    Calls Tryd.prog 90 #[.pointer (some ⟨b, 0, none⟩), .func (.func fid) #[.pointer (some ⟨b, 0, none⟩)] #[]] w fun e w' => ∃ v xs, e = .returned v ∧ OwnG 29 6 Sr.cs w.heap.size w' v xs ∧ All2 (Rel w') xs (Tb.list one r).1 ∧ (∀ x ∈ xs, ∀ g, Uses x g → w.heap.size ≤ g ∧ g < w'.heap.size ∧ v.ownBlock ≠ some g) ∧ RdAt w' b A n c (Tb.list one r).2 ∧ Keep (Db b) w w' := by
  obtain ⟨Q, hQ⟩ : ∃ Q : Ending → World → Prop, Q = (fun e w' => ∃ v xs, e = .returned v ∧ OwnG 29 6 Sr.cs w.heap.size w' v xs ∧ All2 (Rel w') xs (Tb.list one r).1 ∧ (∀ x ∈ xs, ∀ g, Uses x g → w.heap.size ≤ g ∧ g < w'.heap.size ∧ v.ownBlock ≠ some g) ∧ RdAt w' b A n c (Tb.list one r).2 ∧ Keep (Db b) w w') := ⟨_, rfl⟩
  rw [← hQ]
  have HC := Lib.hid (Count_rd h)
  have HN := Lib.hid (show (Tb.count r).1 < 1000000 by have := Tb.count_le r; rw [h.len] at this; omega)
  have HQ := Lib.hid hQ
  have HRk := Lib.hid hRk
  have HO := Lib.hid hone
  have Hlt := Lib.hid h.lt
  have HH := Lib.hid h
  obtain ⟨q, hq⟩ : ∃ q, Tb.count r = q := ⟨_, rfl⟩
  have hlist : Tb.list one r = Tb.many one q.1 [] q.2 := by unfold Tb.list; rw [hq]
  rw [hq] at HC HN
  have HL := Lib.hid hlist
  obtain ⟨N, hN⟩ : ∃ N, q.1 = N := ⟨_, rfl⟩
  rw [hN] at HC HN HL
  have hN2 : N < 1000000 := HN.out
  clear h hQ hRk hone hq hlist hN
  go_enter Tryd.func90, Tryd.ntmps90
  go_wp2_with (go_at_call 33; refine HC.out.mono ?_; rintro e w0 ⟨rfl, h1, h2⟩; have HR0 := Lib.hid h1; have HK0 := Lib.hid h2; clear h1 h2)
  go_loopw [5, 9] (fun out i wr => ∃ (j : Nat) (A' : Option Addr) (c' : Nat) (xs : List Sr) (zs : List β) (r1 : Rd), j ≤ N ∧ i = .int .i64 (j : Int) ∧ out = .slice A' j c' ∧ LInv b A n c N q.2 one Rel Uses 29 6 Sr.cs w wr A' j c' xs zs r1) (fun _ i _ => N - (intOf i).toNat)
  case atStart => exact ⟨0, none, 0, [], [], q.2, Nat.zero_le _, rfl, rfl, ⟨OwnG.nil _ _, trivial, HR0.out, HK0.out, rfl, fun x hx => by cases hx⟩⟩
  case round =>
    obtain ⟨j, A', c', xs, zs, r1, hj, rfl, rfl, hinv⟩ := hrel
    have HI := Lib.hid hinv
    clear hinv
    by_cases hlt : j < N
    · have HC1 := Lib.hid (HO.out wr r1 HI.out.rd HI.out.keep)
      obtain ⟨p, hp⟩ : ∃ p, one r1 = p := ⟨_, rfl⟩
      rw [hp] at HC1
      have HP := Lib.hid hp
      clear hp
      by_cases hp0 : p.2.e = 0
      · have HG : Hid (∀ y, RdAt y b A n c p.2 → Calls Tryd.prog 92 #[.pointer (some ⟨b, 0, none⟩)] y fun e w' => e = .returned (.bool true) ∧ y = w') := Lib.hid fun y hy => goes_any hy true (by simp [hp0])
        have HP0 := Lib.hid hp0
        clear hp0
        go_wp2_with (first
          | (go_at_call 92; refine (HG.out _ HR2.out).mono ?_; rintro e w3 ⟨rfl, rfl⟩)
          | (refine HC1.out.mono ?_; rintro e w1 ⟨x, rfl, hx, hu, h1, h2⟩; have HX := Lib.hid hx; have HU := Lib.hid hu; have HK1 := Lib.hid h2; have HA2 : Hid (Below w1.heap.size w1 (w1.alloc (.cells #[.bool x.fin, .slice x.x1.a x.x1.n x.x1.c, .int .i64 x.k, .slice x.x2.a x.x2.n x.x2.c, .slice x.x3.a x.x3.n x.x3.c, .slice x.x4.a x.x4.n x.x4.c] 29))) := Lib.hid ((Below.refl _ _).alloc (Nat.le_refl _) _); have HR2 := Lib.hid (h1.below (Nat.le_refl _) HA2.out); have HB2 : Hid ((w1.alloc (.cells #[.bool x.fin, .slice x.x1.a x.x1.n x.x1.c, .int .i64 x.k, .slice x.x2.a x.x2.n x.x2.c, .slice x.x3.a x.x3.n x.x3.c, .slice x.x4.a x.x4.n x.x4.c] 29)).heap[w1.heap.size]? = some (.cells #[.bool x.fin, .slice x.x1.a x.x1.n x.x1.c, .int .i64 x.k, .slice x.x2.a x.x2.n x.x2.c, .slice x.x3.a x.x3.n x.x3.c, .slice x.x4.a x.x4.n x.x4.c] 29 (0, 0))) := Lib.hid (World.alloc_heap_new _ _); have HOW := Lib.hid ((HI.out.own.keepb Hlt.out h2).alloc (.cells #[.bool x.fin, .slice x.x1.a x.x1.n x.x1.c, .int .i64 x.k, .slice x.x2.a x.x2.n x.x2.c, .slice x.x3.a x.x3.n x.x3.c, .slice x.x4.a x.x4.n x.x4.c] 29)); have HZ2 : Hid (w.heap.size ≤ (w1.alloc (.cells #[.bool x.fin, .slice x.x1.a x.x1.n x.x1.c, .int .i64 x.k, .slice x.x2.a x.x2.n x.x2.c, .slice x.x3.a x.x3.n x.x3.c, .slice x.x4.a x.x4.n x.x4.c] 29)).heap.size) := Lib.hid (by have := HI.out.keep.size; have := h2.size; simp; omega); clear hx hu h1 h2)
          | (refine wpList_load_row rfl 29 (.tmp 6) rfl w1.heap.size rfl _ _ _ _ HB2.out Tryd.underlying29 rfl (by kernel_rfl) ?_)
          | (at_builtin; refine push_at elemSub rfl (.tmp 16) (.tmp 18) rfl (w1.alloc (.cells #[.bool x.fin, .slice x.x1.a x.x1.n x.x1.c, .int .i64 x.k, .slice x.x2.a x.x2.n x.x2.c, .slice x.x3.a x.x3.n x.x3.c, .slice x.x4.a x.x4.n x.x4.c] 29)) (w1.heap.size + 1) (by simp) x #[.bool x.fin, .slice x.x1.a x.x1.n x.x1.c, .int .i64 x.k, .slice x.x2.a x.x2.n x.x2.c, .slice x.x3.a x.x3.n x.x3.c, .slice x.x4.a x.x4.n x.x4.c] _ rfl rfl HOW.out HZ2.out (j + 1) (by omega) (by rw [HI.out.len]) rfl ?_; intro A9 c9 w9 hown9 hg9 hr9; have HO9 := Lib.hid hown9; have HR9 := Lib.hid hr9; have HG9 := Lib.hid hg9; clear hown9 hg9 hr9))
        go_roundw
        case rel =>
          have B9 := keep_grown HOW.out HG9.out HZ2.out
          have hz1 := HI.out.keep.size
          have hz2 := HK1.out.size
          have hz9 := HG9.out.size
          simp only [World.size_alloc] at hz9
          have hlt2 : ∀ g, (Value.slice A' j c').ownBlock = some g → g < wr.heap.size := fun g hg => (HI.out.own.lt g hg).2
          have stay : ∀ g, g < w1.heap.size → (Value.slice A' j c').ownBlock ≠ some g → w9.heap[g]? = w1.heap[g]? := fun g hg hne => by
            rw [HG9.out.block g (by simp; omega) (fun e => hne e.symm)]
            exact Below.heap_alloc _ _ _ hg
          refine ⟨j + 1, A9, c9, xs ++ [x], zs ++ [p.1], p.2, by omega, by go_num, rfl, ⟨HO9.out, ?_, ?_, ?_, ?_, ?_⟩⟩
          · refine All2.snoc (HRk.out _ _ _ _ HX.out (by omega) fun g hg => ?_) ?_
            · have h1 := HU.out g hg
              exact stay g h1.2 (fun e => by have := hlt2 g e; omega)
            · have hs := HI.out.sep
              have hrel := HI.out.rel
              exact All2.impMem (fun x' z' hm hR => by
                refine HRk.out _ _ _ _ hR (by omega) fun g hg => ?_
                obtain ⟨g1, g2, g3⟩ := hs x' hm g hg
                rw [stay g (by omega) g3]
                exact HK1.out.block g g2 (fun _ e => by have : g = b := e; have := Hlt.out; omega)) hrel
          · exact HR2.out.grown HOW.out HG9.out Hlt.out HZ2.out HH.out (Nat.le_refl _)
          · exact (HI.out.keep.trans (HK1.out.trans (Keep.of_below HA2.out))).lies (Nat.le_refl _) B9
          · rw [HI.out.many]
            have e : N - j = (N - (j + 1)) + 1 := by omega
            rw [e]
            show (if (one r1).2.e = 0 then Tb.many one (N - (j + 1)) (zs ++ [(one r1).1]) (one r1).2 else ([], (one r1).2)) = _
            rw [HP.out, if_pos HP0.out]
          · intro x' hm g hg
            have hnew : ∀ g, g < w1.heap.size → (Value.slice A' j c').ownBlock ≠ some g → (Value.slice A9 (j + 1) c9).ownBlock ≠ some g := fun g h1 h2 e => by
              rcases HR9.out g e with h | h
              · exact h2 h
              · simp only [World.size_alloc] at h; omega
            rcases List.mem_append.1 hm with hm | hm
            · obtain ⟨g1, g2, g3⟩ := HI.out.sep x' hm g hg
              exact ⟨g1, by omega, hnew g (by omega) g3⟩
            · obtain rfl := List.mem_singleton.1 hm
              obtain ⟨g1, g2⟩ := HU.out g hg
              exact ⟨by omega, by omega, hnew g g2 (fun e => by have := hlt2 g e; omega)⟩
        case measure => simp [intOf]; omega
      · have HG : Hid (∀ y, RdAt y b A n c p.2 → Calls Tryd.prog 92 #[.pointer (some ⟨b, 0, none⟩)] y fun e w' => e = .returned (.bool false) ∧ y = w') := Lib.hid fun y hy => goes_any hy false (by simp [hp0])
        have HP0 := Lib.hid hp0
        clear hp0
        go_wp2_with (first
          | (go_at_call 92; refine (HG.out _ HR2.out).mono ?_; rintro e w3 ⟨rfl, rfl⟩)
          | (refine HC1.out.mono ?_; rintro e w1 ⟨x, rfl, hx, hu, h1, h2⟩; have HK1 := Lib.hid h2; have HA2 : Hid (Below w1.heap.size w1 (w1.alloc (.cells #[.bool x.fin, .slice x.x1.a x.x1.n x.x1.c, .int .i64 x.k, .slice x.x2.a x.x2.n x.x2.c, .slice x.x3.a x.x3.n x.x3.c, .slice x.x4.a x.x4.n x.x4.c] 29))) := Lib.hid ((Below.refl _ _).alloc (Nat.le_refl _) _); have HR2 := Lib.hid (h1.below (Nat.le_refl _) HA2.out); clear hx hu h1 h2))
        rw [HQ.out]
        have hm : Tb.list one r = ([], p.2) := by
          rw [HL.out, HI.out.many]
          have e : N - j = (N - (j + 1)) + 1 := by omega
          rw [e]
          show (if (one r1).2.e = 0 then Tb.many one (N - (j + 1)) (zs ++ [(one r1).1]) (one r1).2 else ([], (one r1).2)) = _
          rw [HP.out, if_neg HP0.out]
        rw [hm]
        exact ⟨_, [], rfl, OwnG.nil _ _, trivial, (fun x hx => by cases hx), HR2.out, HI.out.keep.trans (HK1.out.trans (Keep.of_below HA2.out))⟩
    · have hjN : j = N := by omega
      go_wp2
      rw [HQ.out]
      have hm : Tb.list one r = (zs, r1) := by
        rw [HL.out, HI.out.many, hjN, Nat.sub_self]
        rfl
      rw [hm]
      exact ⟨_, xs, rfl, HI.out.own, HI.out.rel, HI.out.sep, HI.out.rd, HI.out.keep⟩
end Go.Proofs.YtkdhjejchdcipaaDoor

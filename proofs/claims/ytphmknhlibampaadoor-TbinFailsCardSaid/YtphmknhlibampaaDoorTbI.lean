/-
  Layer 6, code: a reader's heap types and value types: Heap, ref, Val, index.
-/
import Derived.Test.YtphmknhlibampaaDoorTbH
namespace Go.Proofs.YtphmknhlibampaaDoor
open Go.RowKit
set_option linter.unusedVariables false
set_option linter.unusedSimpArgs false
set_option maxRecDepth 100000

section
variable {w y : World} {b n c : Nat} {A : Option Addr} {r r' : Rd}
theorem RdAt.bs_eq (h : RdAt w b A n c r) (hk : Keep (Db b) w y) (hy : RdAt y b A n c r') : r'.bs = r.bs := by
  have l1 := h.len
  have l2 := hy.len
  rcases Nat.eq_zero_or_pos n with h0 | h0
  · rw [List.eq_nil_of_length_eq_zero (show r.bs.length = 0 by omega), List.eq_nil_of_length_eq_zero (show r'.bs.length = 0 by omega)]
  · obtain ⟨b1, o1, e1, -, c1⟩ := h.2.1.2.2.2.2 h0
    obtain ⟨b2, o2, e2, -, c2⟩ := hy.2.1.2.2.2.2 h0
    rw [e1] at e2
    injection e2 with e2
    injection e2 with e2 e3
    subst e2 e3
    refine List.ext_getElem (by omega) fun j hj hj' => ?_
    have h1 := hk.cells b1 _ _ (fun e => by rw [e] at c1; exact h.noByte _ _ (c1 j hj')) (c1 j hj')
    rw [c2 j hj] at h1
    injection h1 with h1
    injection h1 with _ h1
    omega
/-- The result's block, behind a reader's calls. -/
theorem res_row (h : RdAt w b A n c r) (zs : Array Value) (t : TypeId) (hy : RdAt y b A n c r') (hk : Keep (Db b) (w.alloc (.cells zs t)) y) : y.heap[w.heap.size]? = some (.cells zs t (0, 0)) ∧
    ∀ cs : Array Value, (y.setRow w.heap.size cs).heap[w.heap.size]? = some (.cells cs t (0, 0)) ∧ ∀ v, RdOut b A n c v r' w (.returned v) (y.setRow w.heap.size cs) := by
  have hlt := h.lt
  have e0 : y.heap[w.heap.size]? = some (.cells zs t (0, 0)) := (hk.block _ (by simp) (fun _ e => by omega)).trans (World.alloc_heap_new _ _)
  have hk0 : Keep (Db b) w y := (Keep.of_below ((Below.refl _ _).alloc (Nat.le_refl _) _)).trans hk
  refine ⟨e0, fun cs => ⟨setRow_heap _ _ _ _ _ _ e0, fun v => ⟨rfl, ?_, ?_⟩⟩⟩
  · have hs : Below w.heap.size y (y.setRow w.heap.size cs) := below_setRow (Below.refl _ _) (Nat.le_refl _) _
    exact h.later hk0 hs hy.1 (h.bs_eq hk0 hy) hy.2.2
  · exact hk0.lies (Nat.le_refl _) (below_setRow (Below.refl _ _) (Nat.le_refl _) _)
theorem may_yes (h : RdAt w b A n c r) (q : Int) (x : Nat) (hq : q = (x : Int)) (hm : Tb.may x r = true) :
    Calls Tryd.prog 61 #[.pointer (some ⟨b, 0, none⟩), .int .u8 q] w fun e w' => e = .returned (.bool true) ∧ RdAt w' b A n c (Tb.on r) ∧ Keep (Db b) w w' := by
  subst hq
  exact may_any h x true hm
theorem may_no (h : RdAt w b A n c r) (q : Int) (x : Nat) (hq : q = (x : Int)) (hm : Tb.may x r = false) :
    Calls Tryd.prog 61 #[.pointer (some ⟨b, 0, none⟩), .int .u8 q] w fun e w' => e = .returned (.bool false) ∧ RdAt w' b A n c r ∧ Keep (Db b) w w' := by
  subst hq
  exact may_any h x false hm
theorem Tab6.out (hT : Tab6 w) (h : RdAt w b A n c r) (hk : Keep (Db b) w y) : Tab6 y := fun j hj => by
  refine hk.cells _ _ _ (fun e => ?_) (hT j hj)
  have h1 := hT 0 (by omega)
  have h2 := h.cells.1
  have e : 0 = b := e
  subst e
  rw [h2] at h1
  cases h1
/-- A struct's item, as the reader tells it. -/
theorem item_outA {α : Type} (enc : α → Array Value) (d : α) (f : List Nat → Nat → α × Nat × Nat) (z : Array Value) (hz : enc d = z) {e : Ending} {w' : World}
    (h : e = .returned (.agg (if r.e = 0 ∧ (f r.bs r.p).2.2 = 0 then enc (f r.bs r.p).1 else z)) ∧ RdAt w' b A n c (Tb.step (f r.bs r.p).2.1 (f r.bs r.p).2.2 r) ∧ Keep (Db b) w w') :
    RdOut b A n c (.agg (enc (Tb.item d f r).1)) (Tb.item d f r).2 w e w' := by
  rw [Tb.item_eq]
  obtain ⟨h1, h2, h3⟩ := h
  refine ⟨h1.trans ?_, h2, h3⟩
  rw [← hz]
  dsimp only
  split <;> rfl
def HpA (h : Hp) : Array Value := #[.int .i64 h.k, .int .i64 h.n]
def VlA (v : Vl) : Array Value := #[.int .i64 v.k, .bool v.nu, .int .i64 v.h.k, .int .i64 v.h.n]
set_option maxHeartbeats 2000000 in
theorem Heap_rd (h : RdAt w b A n c r) (hT : Tab6 w) : Calls Tryd.prog 22 #[.pointer (some ⟨b, 0, none⟩)] w (RdOut b A n c (.agg #[.int .i64 (Tb.heap r).1.k, .int .i64 (Tb.heap r).1.n]) (Tb.heap r).2 w) := by
  obtain ⟨W0, hW0⟩ : ∃ W0, W0 = w.alloc (.cells #[.int .i64 0, .int .i64 0] 42) := ⟨_, rfl⟩
  have hB0 : Below w.heap.size w W0 := by rw [hW0]; exact (Below.refl _ _).alloc (Nat.le_refl _) _
  have h0 := h.below (Nat.le_refl _) hB0
  have hT0 := hT.below hB0
  have H := Lib.hid ((item_Heap h0 59 #[] (enters_of Tryd.func59 (by kernel_rfl) rfl) _ _ _ _ (fun e => by have := Tb.heapAt_le r.bs r.p e; rw [h.len] at this; exact this)
    (fun W hW => (heapAt_any (h0.bytes hW) (Nat.le_refl _) (hT0.below hW) h.pl).mono fun _ _ => Item.out)).mono fun _ _ => item_outA HpA ⟨0, 0⟩ Tb.heapAt _ rfl)
  obtain ⟨q, hq⟩ : ∃ q, Tb.item ⟨0, 0⟩ Tb.heapAt r = q := ⟨_, rfl⟩
  have hq2 : Tb.heap r = q := hq
  rw [hq] at H
  rw [hq2]
  have HW0 := Lib.hid hW0
  have HH := Lib.hid h
  clear h h0 hB0 hT hT0 hq hq2 hW0
  go_enter Tryd.func22, Tryd.ntmps22
  go_wp2_with fail
  rw [← HW0.out]
  go_wp2_with (first
    | (refine H.out.mono ?_; rintro e w1 ⟨rfl, h1, h2⟩; have F := res_row HH.out _ _ h1 (HW0.out ▸ h2); have F1 := Lib.hid F.1; have F2 := Lib.hid (F.2 #[.int .i64 q.1.k, .int .i64 q.1.n]); clear F h1 h2)
    | (refine wpList_store_row rfl 42 (.tmp 2) (.tmp 4) rfl w.heap.size #[.int .i64 q.1.k, .int .i64 q.1.n] rfl rfl _ _ F1.out (by kernel_rfl) rfl (by simp [Value.oneCell']) ?_))
  exact bodyPost_ret (results_cell_row rfl _ _ w.heap.size _ _ (0, 0) _ rfl F2.out.1 Tryd.underlying42 rfl (by as_aux_lemma => kernel_rfl)) rfl (F2.out.2 _)
theorem r_keep {W0 w1 w2 : World} (h : Keep (Db b) W0 w1) (h2 : Keep (Db b) w1 w2) : Keep (Db b) W0 w2 := h.trans h2
set_option maxHeartbeats 2000000 in
theorem ref_any (h : RdAt w b A n c r) (hT : Tab6 w) (nu : Bool) : Calls Tryd.prog 62 #[.pointer (some ⟨b, 0, none⟩), .bool nu] w (RdOut b A n c (Tb.ref nu r).1.val (Tb.ref nu r).2 w) := by
  obtain ⟨W0, hW0⟩ : ∃ W0, W0 = w.alloc (.cells #[.int .i64 0, .bool false, .int .i64 0, .int .i64 0] 46) := ⟨_, rfl⟩
  have hB0 : Below w.heap.size w W0 := by rw [hW0]; exact (Below.refl _ _).alloc (Nat.le_refl _) _
  have h0 := h.below (Nat.le_refl _) hB0
  have H := Lib.hid (Heap_rd h0 (hT.below hB0))
  obtain ⟨q, hq⟩ : ∃ q, Tb.heap r = q := ⟨_, rfl⟩
  have HW0 := Lib.hid hW0
  have HH := Lib.hid h
  have HR : Hid (∀ y, RdAt y b A n c q.2 → Keep (Db b) W0 y → RdAt (y.alloc (.cells #[.int .i64 q.1.k, .int .i64 q.1.n] 42)) b A n c q.2 ∧ Keep (Db b) W0 (y.alloc (.cells #[.int .i64 q.1.k, .int .i64 q.1.n] 42)) ∧ (y.alloc (.cells #[.int .i64 q.1.k, .int .i64 q.1.n] 42)).heap[y.heap.size]? = some (.cells #[.int .i64 q.1.k, .int .i64 q.1.n] 42 (0, 0))) := Lib.hid fun y h1 h2 => by
    have hb : Below y.heap.size y (y.alloc (.cells #[.int .i64 q.1.k, .int .i64 q.1.n] 42)) := (Below.refl _ _).alloc (Nat.le_refl _) _
    exact ⟨h1.below (Nat.le_refl _) hb, h2.trans (Keep.of_below hb), World.alloc_heap_new _ _⟩
  unfold Tb.ref
  rw [hq] at H ⊢
  by_cases he : q.2.e = 0
  · rw [if_pos he]
    have HG : Hid (∀ y, RdAt y b A n c q.2 → Calls Tryd.prog 69 #[.pointer (some ⟨b, 0, none⟩)] y fun e w' => e = .returned (.bool true) ∧ y = w') := Lib.hid fun y hy => goes_any hy true (by simp [he])
    clear h h0 hB0 hT hq hW0 he
    go_enter Tryd.func62, Tryd.ntmps62
    go_wp2_with fail
    rw [← HW0.out]
    go_wp2_with (first
      | (go_at_call 22; refine H.out.mono ?_; rintro e w1 ⟨rfl, h1, h2⟩; have R1 := Lib.hid (HR.out _ h1 h2); have F := res_row HH.out _ _ R1.out.1 (HW0.out ▸ R1.out.2.1); have F1 := Lib.hid F.1; have F2 := Lib.hid (F.2 #[.int .i64 3, .bool nu, .int .i64 q.1.k, .int .i64 q.1.n]); clear F h1 h2)
      | (go_at_call 69; refine (HG.out _ R1.out.1).mono ?_; rintro e w2 ⟨rfl, rfl⟩)
      | (refine wpList_load_row rfl 42 (.tmp 5) rfl w1.heap.size rfl _ _ _ _ R1.out.2.2 Tryd.underlying42 rfl (by kernel_rfl) ?_)
      | (refine wpList_store_row rfl 46 (.tmp 4) (.tmp 14) rfl w.heap.size #[.int .i64 3, .bool nu, .int .i64 q.1.k, .int .i64 q.1.n] rfl rfl _ _ F1.out (by kernel_rfl) rfl (by simp [Value.oneCell']) ?_))
    exact bodyPost_ret (results_cell_row rfl _ _ w.heap.size _ _ (0, 0) _ rfl F2.out.1 Tryd.underlying46 rfl (by as_aux_lemma => kernel_rfl)) rfl (F2.out.2 _)
  · rw [if_neg he]
    have HG : Hid (∀ y, RdAt y b A n c q.2 → Calls Tryd.prog 69 #[.pointer (some ⟨b, 0, none⟩)] y fun e w' => e = .returned (.bool false) ∧ y = w') := Lib.hid fun y hy => goes_any hy false (by simp [he])
    clear h h0 hB0 hT hq hW0 he
    go_enter Tryd.func62, Tryd.ntmps62
    go_wp2_with fail
    rw [← HW0.out]
    go_wp2_with (first
      | (go_at_call 22; refine H.out.mono ?_; rintro e w1 ⟨rfl, h1, h2⟩; have R1 := Lib.hid (HR.out _ h1 h2); have F := res_row HH.out _ _ R1.out.1 (HW0.out ▸ R1.out.2.1); have F1 := Lib.hid F.1; have F2 := Lib.hid (F.2 #[.int .i64 0, .bool false, .int .i64 0, .int .i64 0]); clear F h1 h2)
      | (go_at_call 69; refine (HG.out _ R1.out.1).mono ?_; rintro e w2 ⟨rfl, rfl⟩)
      | (refine wpList_store_row rfl 46 (.tmp 4) (.tmp 11) rfl w.heap.size #[.int .i64 0, .bool false, .int .i64 0, .int .i64 0] rfl rfl _ _ F1.out (by kernel_rfl) rfl (by simp [Value.oneCell']) ?_))
    exact bodyPost_ret (results_cell_row rfl _ _ w.heap.size _ _ (0, 0) _ rfl F2.out.1 Tryd.underlying46 rfl (by as_aux_lemma => kernel_rfl)) rfl (F2.out.2 _)
set_option maxHeartbeats 4000000 in
theorem index_any (h : RdAt w b A n c r) : Calls Tryd.prog 86 #[.pointer (some ⟨b, 0, none⟩)] w (RdOut b A n c (Tb.index r).1.val (Tb.index r).2 w) := by
  obtain ⟨W0, hW0⟩ : ∃ W0, W0 = w.alloc (.cells #[.int .i64 0, .int .i64 0] 42) := ⟨_, rfl⟩
  have hB0 : Below w.heap.size w W0 := by rw [hW0]; exact (Below.refl _ _).alloc (Nat.le_refl _) _
  have h0 := h.below (Nat.le_refl _) hB0
  have H := Lib.hid (U_rd h0 32)
  have hlt : (Tb.u 32 r).1 < 4294967296 := by
    unfold Tb.u Tb.item Tb.uAt
    split
    · split
      · exact Tb.told_lt32 _ _
      · show (0 : Nat) < 4294967296; omega
    · show (0 : Nat) < 4294967296; omega
  unfold Tb.index
  obtain ⟨q, hq⟩ : ∃ q, Tb.u 32 r = q := ⟨_, rfl⟩
  rw [hq] at H hlt ⊢
  have hw : IntKind.i64.wrap (q.1 : Int) = (q.1 : Int) := IntWalk.i64_in _ (by omega)
  have HW0 := Lib.hid hW0
  have HH := Lib.hid h
  have hq1 : (q.1 : Int) < 4294967296 := by omega
  clear h h0 hB0 hq hW0 hlt
  go_enter Tryd.func86, Tryd.ntmps86
  go_wp2_with fail
  rw [← HW0.out]
  go_wp2_with (first
    | (go_at_call 12; refine H.out.mono ?_; rintro e w1 ⟨rfl, h1, h2⟩; have F := res_row HH.out _ _ h1 (HW0.out ▸ h2); have F1 := Lib.hid F.1; have F2 := Lib.hid (F.2 #[.int .i64 13, .int .i64 q.1]); clear F h1 h2)
    | (refine wpList_store_row rfl 42 (.tmp 2) (.tmp 6) rfl w.heap.size #[.int .i64 13, .int .i64 q.1] rfl rfl _ _ F1.out (by kernel_rfl) rfl (by simp [Value.oneCell']) ?_))
  exact bodyPost_ret (results_cell_row rfl _ _ w.heap.size _ _ (0, 0) _ rfl F2.out.1 Tryd.underlying42 rfl (by as_aux_lemma => kernel_rfl)) rfl (F2.out.2 _)
end
end Go.Proofs.YtphmknhlibampaaDoor

/-
  Layer 6, code: a reader's value types, and what stands in a field: Val, store, field.
-/
import Derived.Test.YtphmknhlibampaaDoorTbI
namespace Go.Proofs.YtphmknhlibampaaDoor
open Go.RowKit
set_option linter.unusedVariables false
set_option linter.unusedSimpArgs false
set_option maxRecDepth 100000

section
variable {w y : World} {b n c : Nat} {A : Option Addr} {r r' : Rd}
theorem shortItem_any (h : RdAt w b A n c r) (hT : Tab6 w) : Calls Tryd.prog 63 #[.pointer (some ⟨b, 0, none⟩), .func (.func 64) #[] #[]] w (RdOut b A n c (Tb.item Tb.noVal Tb.shortAt r).1.val (Tb.item Tb.noVal Tb.shortAt r).2 w) :=
  (item_Val h 64 #[] (enters_of Tryd.func64 (by kernel_rfl) rfl) _ _ _ _ _ _ (fun e => by have := Tb.shortAt_le r.bs r.p e; rw [h.len] at this; exact this)
    (fun W hW => (shortAt_any (h.bytes hW) (Nat.le_refl _) (hT.below hW) h.pl).mono fun _ _ => Item.out)).mono fun _ _ => item_outA VlA Tb.noVal Tb.shortAt _ rfl
set_option maxHeartbeats 8000000 in
theorem Val_rd (h : RdAt w b A n c r) (hT : Tab6 w) : Calls Tryd.prog 24 #[.pointer (some ⟨b, 0, none⟩)] w (RdOut b A n c (Tb.val r).1.val (Tb.val r).2 w) := by
  obtain ⟨W0, hW0⟩ : ∃ W0, W0 = w.alloc (.cells #[.int .i64 0, .bool false, .int .i64 0, .int .i64 0] 46) := ⟨_, rfl⟩
  have hB0 : Below w.heap.size w W0 := by rw [hW0]; exact (Below.refl _ _).alloc (Nat.le_refl _) _
  have h0 := h.below (Nat.le_refl _) hB0
  have hT0 := hT.below hB0
  have HW0 := Lib.hid hW0
  have HH := Lib.hid h
  have hK : Hid (Keep (Db b) W0 W0) := Lib.hid (Keep.refl _)
  have hR := Lib.hid h0
  have H0 := Lib.hid h0
  have HT := Lib.hid hT0
  cases hm0 : Tb.may 127 r with
  | true =>
    have HM0 := Lib.hid hm0
    have e : Tb.val r = (⟨1, false, ⟨0, 0⟩⟩, Tb.on r) := by unfold Tb.val; simp only [hm0, if_true, if_false, Bool.false_eq_true]
    rw [e]
    clear h h0 hB0 hT hT0 hW0 e hm0
    go_enter Tryd.func24, Tryd.ntmps24
    go_wp2_with fail
    rw [← HW0.out]
    go_wp2_with (first
      | (go_at_call 61; (with_reducible refine (may_yes hR.out 127 127 rfl HM0.out).mono ?_); rintro e w0 ⟨rfl, h1, h2⟩; have hK := Lib.hid (r_keep hK.out h2); have hR := Lib.hid h1; clear h1 h2; have F := res_row HH.out _ _ hR.out (HW0.out ▸ hK.out); have F1 := Lib.hid F.1; have F2 := Lib.hid (F.2 #[.int .i64 1, .bool false, .int .i64 0, .int .i64 0]); clear F)
      | (refine wpList_store_row rfl 46 (.tmp 2) (.tmp 6) rfl w.heap.size #[.int .i64 1, .bool false, .int .i64 0, .int .i64 0] rfl rfl _ _ F1.out (by kernel_rfl) rfl (by simp [Value.oneCell']) ?_))
    exact bodyPost_ret (results_cell_row rfl _ _ w.heap.size _ _ (0, 0) _ rfl F2.out.1 Tryd.underlying46 rfl (by as_aux_lemma => kernel_rfl)) rfl (F2.out.2 _)
  | false =>
    cases hm1 : Tb.may 126 r with
    | true =>
      have HM0 := Lib.hid hm0
      have HM1 := Lib.hid hm1
      have e : Tb.val r = (⟨2, false, ⟨0, 0⟩⟩, Tb.on r) := by unfold Tb.val; simp only [hm0, hm1, if_true, if_false, Bool.false_eq_true]
      rw [e]
      clear h h0 hB0 hT hT0 hW0 e hm0 hm1
      go_enter Tryd.func24, Tryd.ntmps24
      go_wp2_with fail
      rw [← HW0.out]
      go_wp2_with (first
        | (go_at_call 61; (with_reducible refine (may_no hR.out 127 127 rfl HM0.out).mono ?_); rintro e w0 ⟨rfl, h1, h2⟩; have hK := Lib.hid (r_keep hK.out h2); have hR := Lib.hid h1; clear h1 h2)
        | (go_at_call 61; (with_reducible refine (may_yes hR.out 126 126 rfl HM1.out).mono ?_); rintro e w1 ⟨rfl, h1, h2⟩; have hK := Lib.hid (r_keep hK.out h2); have hR := Lib.hid h1; clear h1 h2; have F := res_row HH.out _ _ hR.out (HW0.out ▸ hK.out); have F1 := Lib.hid F.1; have F2 := Lib.hid (F.2 #[.int .i64 2, .bool false, .int .i64 0, .int .i64 0]); clear F)
        | (refine wpList_store_row rfl 46 (.tmp 2) (.tmp 10) rfl w.heap.size #[.int .i64 2, .bool false, .int .i64 0, .int .i64 0] rfl rfl _ _ F1.out (by kernel_rfl) rfl (by simp [Value.oneCell']) ?_))
      exact bodyPost_ret (results_cell_row rfl _ _ w.heap.size _ _ (0, 0) _ rfl F2.out.1 Tryd.underlying46 rfl (by as_aux_lemma => kernel_rfl)) rfl (F2.out.2 _)
    | false =>
      cases hm2 : Tb.may 99 r with
      | true =>
        have HM0 := Lib.hid hm0
        have HM1 := Lib.hid hm1
        have HM2 := Lib.hid hm2
        have e : Tb.val r = Tb.ref true (Tb.on r) := by unfold Tb.val; simp only [hm0, hm1, hm2, if_true, if_false, Bool.false_eq_true]
        rw [e]
        have HF : Hid (∀ y, RdAt y b A n c (Tb.on r) → Keep (Db b) W0 y → Calls Tryd.prog 62 #[.pointer (some ⟨b, 0, none⟩), .bool true] y (RdOut b A n c (Tb.ref true (Tb.on r)).1.val (Tb.ref true (Tb.on r)).2 y)) := Lib.hid fun y hy hk => ref_any hy (HT.out.out H0.out hk) true
        obtain ⟨q, hq⟩ : ∃ q, Tb.ref true (Tb.on r) = q := ⟨_, rfl⟩
        rw [hq] at HF ⊢
        clear hq
        clear h h0 hB0 hT hT0 hW0 e hm0 hm1 hm2
        go_enter Tryd.func24, Tryd.ntmps24
        go_wp2_with fail
        rw [← HW0.out]
        go_wp2_with (first
          | (go_at_call 61; (with_reducible refine (may_no hR.out 127 127 rfl HM0.out).mono ?_); rintro e w0 ⟨rfl, h1, h2⟩; have hK := Lib.hid (r_keep hK.out h2); have hR := Lib.hid h1; clear h1 h2)
          | (go_at_call 61; (with_reducible refine (may_no hR.out 126 126 rfl HM1.out).mono ?_); rintro e w1 ⟨rfl, h1, h2⟩; have hK := Lib.hid (r_keep hK.out h2); have hR := Lib.hid h1; clear h1 h2)
          | (go_at_call 61; (with_reducible refine (may_yes hR.out 99 99 rfl HM2.out).mono ?_); rintro e w2 ⟨rfl, h1, h2⟩; have hK := Lib.hid (r_keep hK.out h2); have hR := Lib.hid h1; clear h1 h2)
          | (go_at_call 62; (with_reducible refine (HF.out _ hR.out hK.out).mono ?_); rintro e w9 ⟨rfl, h1, h2⟩; have hK := Lib.hid (r_keep hK.out h2); have hR := Lib.hid h1; clear h1 h2; have F := res_row HH.out _ _ hR.out (HW0.out ▸ hK.out); have F1 := Lib.hid F.1; have F2 := Lib.hid (F.2 #[.int .i64 q.1.k, .bool q.1.nu, .int .i64 q.1.h.k, .int .i64 q.1.h.n]); clear F)
          | (refine wpList_store_row rfl 46 (.tmp 2) (.tmp 15) rfl w.heap.size #[.int .i64 q.1.k, .bool q.1.nu, .int .i64 q.1.h.k, .int .i64 q.1.h.n] rfl rfl _ _ F1.out (by kernel_rfl) rfl (by simp [Value.oneCell']) ?_))
        exact bodyPost_ret (results_cell_row rfl _ _ w.heap.size _ _ (0, 0) _ rfl F2.out.1 Tryd.underlying46 rfl (by as_aux_lemma => kernel_rfl)) rfl (F2.out.2 _)
      | false =>
        cases hm3 : Tb.may 100 r with
        | true =>
          have HM0 := Lib.hid hm0
          have HM1 := Lib.hid hm1
          have HM2 := Lib.hid hm2
          have HM3 := Lib.hid hm3
          have e : Tb.val r = Tb.ref false (Tb.on r) := by unfold Tb.val; simp only [hm0, hm1, hm2, hm3, if_true, if_false, Bool.false_eq_true]
          rw [e]
          have HF : Hid (∀ y, RdAt y b A n c (Tb.on r) → Keep (Db b) W0 y → Calls Tryd.prog 62 #[.pointer (some ⟨b, 0, none⟩), .bool false] y (RdOut b A n c (Tb.ref false (Tb.on r)).1.val (Tb.ref false (Tb.on r)).2 y)) := Lib.hid fun y hy hk => ref_any hy (HT.out.out H0.out hk) false
          obtain ⟨q, hq⟩ : ∃ q, Tb.ref false (Tb.on r) = q := ⟨_, rfl⟩
          rw [hq] at HF ⊢
          clear hq
          clear h h0 hB0 hT hT0 hW0 e hm0 hm1 hm2 hm3
          go_enter Tryd.func24, Tryd.ntmps24
          go_wp2_with fail
          rw [← HW0.out]
          go_wp2_with (first
            | (go_at_call 61; (with_reducible refine (may_no hR.out 127 127 rfl HM0.out).mono ?_); rintro e w0 ⟨rfl, h1, h2⟩; have hK := Lib.hid (r_keep hK.out h2); have hR := Lib.hid h1; clear h1 h2)
            | (go_at_call 61; (with_reducible refine (may_no hR.out 126 126 rfl HM1.out).mono ?_); rintro e w1 ⟨rfl, h1, h2⟩; have hK := Lib.hid (r_keep hK.out h2); have hR := Lib.hid h1; clear h1 h2)
            | (go_at_call 61; (with_reducible refine (may_no hR.out 99 99 rfl HM2.out).mono ?_); rintro e w2 ⟨rfl, h1, h2⟩; have hK := Lib.hid (r_keep hK.out h2); have hR := Lib.hid h1; clear h1 h2)
            | (go_at_call 61; (with_reducible refine (may_yes hR.out 100 100 rfl HM3.out).mono ?_); rintro e w3 ⟨rfl, h1, h2⟩; have hK := Lib.hid (r_keep hK.out h2); have hR := Lib.hid h1; clear h1 h2)
            | (go_at_call 62; (with_reducible refine (HF.out _ hR.out hK.out).mono ?_); rintro e w9 ⟨rfl, h1, h2⟩; have hK := Lib.hid (r_keep hK.out h2); have hR := Lib.hid h1; clear h1 h2; have F := res_row HH.out _ _ hR.out (HW0.out ▸ hK.out); have F1 := Lib.hid F.1; have F2 := Lib.hid (F.2 #[.int .i64 q.1.k, .bool q.1.nu, .int .i64 q.1.h.k, .int .i64 q.1.h.n]); clear F)
            | (refine wpList_store_row rfl 46 (.tmp 2) (.tmp 20) rfl w.heap.size #[.int .i64 q.1.k, .bool q.1.nu, .int .i64 q.1.h.k, .int .i64 q.1.h.n] rfl rfl _ _ F1.out (by kernel_rfl) rfl (by simp [Value.oneCell']) ?_))
          exact bodyPost_ret (results_cell_row rfl _ _ w.heap.size _ _ (0, 0) _ rfl F2.out.1 Tryd.underlying46 rfl (by as_aux_lemma => kernel_rfl)) rfl (F2.out.2 _)
        | false =>
          have HM0 := Lib.hid hm0
          have HM1 := Lib.hid hm1
          have HM2 := Lib.hid hm2
          have HM3 := Lib.hid hm3
          have e : Tb.val r = Tb.item Tb.noVal Tb.shortAt r := by unfold Tb.val; simp only [hm0, hm1, hm2, hm3, if_true, if_false, Bool.false_eq_true]
          rw [e]
          have HF : Hid (∀ y, RdAt y b A n c r → Keep (Db b) W0 y → Calls Tryd.prog 63 #[.pointer (some ⟨b, 0, none⟩), .func (.func 64) #[] #[]] y (RdOut b A n c (Tb.item Tb.noVal Tb.shortAt r).1.val (Tb.item Tb.noVal Tb.shortAt r).2 y)) := Lib.hid fun y hy hk => shortItem_any hy (HT.out.out H0.out hk)
          obtain ⟨q, hq⟩ : ∃ q, Tb.item Tb.noVal Tb.shortAt r = q := ⟨_, rfl⟩
          rw [hq] at HF ⊢
          clear hq
          clear h h0 hB0 hT hT0 hW0 e hm0 hm1 hm2 hm3
          go_enter Tryd.func24, Tryd.ntmps24
          go_wp2_with fail
          rw [← HW0.out]
          go_wp2_with (first
            | (go_at_call 61; (with_reducible refine (may_no hR.out 127 127 rfl HM0.out).mono ?_); rintro e w0 ⟨rfl, h1, h2⟩; have hK := Lib.hid (r_keep hK.out h2); have hR := Lib.hid h1; clear h1 h2)
            | (go_at_call 61; (with_reducible refine (may_no hR.out 126 126 rfl HM1.out).mono ?_); rintro e w1 ⟨rfl, h1, h2⟩; have hK := Lib.hid (r_keep hK.out h2); have hR := Lib.hid h1; clear h1 h2)
            | (go_at_call 61; (with_reducible refine (may_no hR.out 99 99 rfl HM2.out).mono ?_); rintro e w2 ⟨rfl, h1, h2⟩; have hK := Lib.hid (r_keep hK.out h2); have hR := Lib.hid h1; clear h1 h2)
            | (go_at_call 61; (with_reducible refine (may_no hR.out 100 100 rfl HM3.out).mono ?_); rintro e w3 ⟨rfl, h1, h2⟩; have hK := Lib.hid (r_keep hK.out h2); have hR := Lib.hid h1; clear h1 h2)
            | (go_at_call 63; (with_reducible refine (HF.out _ hR.out hK.out).mono ?_); rintro e w9 ⟨rfl, h1, h2⟩; have hK := Lib.hid (r_keep hK.out h2); have hR := Lib.hid h1; clear h1 h2; have F := res_row HH.out _ _ hR.out (HW0.out ▸ hK.out); have F1 := Lib.hid F.1; have F2 := Lib.hid (F.2 #[.int .i64 q.1.k, .bool q.1.nu, .int .i64 q.1.h.k, .int .i64 q.1.h.n]); clear F)
            | (refine wpList_store_row rfl 46 (.tmp 2) (.tmp 22) rfl w.heap.size #[.int .i64 q.1.k, .bool q.1.nu, .int .i64 q.1.h.k, .int .i64 q.1.h.n] rfl rfl _ _ F1.out (by kernel_rfl) rfl (by simp [Value.oneCell']) ?_))
          exact bodyPost_ret (results_cell_row rfl _ _ w.heap.size _ _ (0, 0) _ rfl F2.out.1 Tryd.underlying46 rfl (by as_aux_lemma => kernel_rfl)) rfl (F2.out.2 _)
set_option maxHeartbeats 8000000 in
theorem store_any (h : RdAt w b A n c r) (hT : Tab6 w) : Calls Tryd.prog 128 #[.pointer (some ⟨b, 0, none⟩)] w (RdOut b A n c (.agg #[.int .i64 (Tb.store r).1.1, .int .i64 (Tb.store r).1.2.k, .bool (Tb.store r).1.2.nu, .int .i64 (Tb.store r).1.2.h.k, .int .i64 (Tb.store r).1.2.h.n]) (Tb.store r).2 w) := by
  obtain ⟨W0, hW0⟩ : ∃ W0, W0 = w.alloc (.cells #[.int .i64 0, .int .i64 0, .bool false, .int .i64 0, .int .i64 0] 124) := ⟨_, rfl⟩
  have hB0 : Below w.heap.size w W0 := by rw [hW0]; exact (Below.refl _ _).alloc (Nat.le_refl _) _
  have h0 := h.below (Nat.le_refl _) hB0
  have hT0 := hT.below hB0
  have HW0 := Lib.hid hW0
  have HH := Lib.hid h
  have hK : Hid (Keep (Db b) W0 W0) := Lib.hid (Keep.refl _)
  have hR := Lib.hid h0
  have H0 := Lib.hid h0
  have HT := Lib.hid hT0
  cases hm0 : Tb.may 120 r with
  | true =>
    have HM0 := Lib.hid hm0
    have e : Tb.store r = ((8, ⟨1, false, ⟨0, 0⟩⟩), Tb.on r) := by unfold Tb.store; simp only [hm0, if_true, if_false, Bool.false_eq_true]
    rw [e]
    clear h h0 hB0 hT hT0 hW0 e hm0
    go_enter Tryd.func128, Tryd.ntmps128
    go_wp2_with fail
    rw [← HW0.out]
    go_wp2_with (first
      | (go_at_call 61; (with_reducible refine (may_yes hR.out 120 120 rfl HM0.out).mono ?_); rintro e w0 ⟨rfl, h1, h2⟩; have hK := Lib.hid (r_keep hK.out h2); have hR := Lib.hid h1; clear h1 h2; have F := res_row HH.out _ _ hR.out (HW0.out ▸ hK.out); have F1 := Lib.hid F.1; have F2 := Lib.hid (F.2 #[.int .i64 8, .int .i64 1, .bool false, .int .i64 0, .int .i64 0]); clear F)
      | (refine wpList_store_row rfl 124 (.tmp 2) (.tmp 7) rfl w.heap.size #[.int .i64 8, .int .i64 1, .bool false, .int .i64 0, .int .i64 0] rfl rfl _ _ F1.out (by kernel_rfl) rfl (by simp [Value.oneCell']) ?_))
    exact bodyPost_ret (results_cell_row rfl _ _ w.heap.size _ _ (0, 0) _ rfl F2.out.1 Tryd.underlying124 rfl (by as_aux_lemma => kernel_rfl)) rfl (F2.out.2 _)
  | false =>
    cases hm1 : Tb.may 119 r with
    | true =>
      have HM0 := Lib.hid hm0
      have HM1 := Lib.hid hm1
      have e : Tb.store r = ((16, ⟨1, false, ⟨0, 0⟩⟩), Tb.on r) := by unfold Tb.store; simp only [hm0, hm1, if_true, if_false, Bool.false_eq_true]
      rw [e]
      clear h h0 hB0 hT hT0 hW0 e hm0 hm1
      go_enter Tryd.func128, Tryd.ntmps128
      go_wp2_with fail
      rw [← HW0.out]
      go_wp2_with (first
        | (go_at_call 61; (with_reducible refine (may_no hR.out 120 120 rfl HM0.out).mono ?_); rintro e w0 ⟨rfl, h1, h2⟩; have hK := Lib.hid (r_keep hK.out h2); have hR := Lib.hid h1; clear h1 h2)
        | (go_at_call 61; (with_reducible refine (may_yes hR.out 119 119 rfl HM1.out).mono ?_); rintro e w1 ⟨rfl, h1, h2⟩; have hK := Lib.hid (r_keep hK.out h2); have hR := Lib.hid h1; clear h1 h2; have F := res_row HH.out _ _ hR.out (HW0.out ▸ hK.out); have F1 := Lib.hid F.1; have F2 := Lib.hid (F.2 #[.int .i64 16, .int .i64 1, .bool false, .int .i64 0, .int .i64 0]); clear F)
        | (refine wpList_store_row rfl 124 (.tmp 2) (.tmp 12) rfl w.heap.size #[.int .i64 16, .int .i64 1, .bool false, .int .i64 0, .int .i64 0] rfl rfl _ _ F1.out (by kernel_rfl) rfl (by simp [Value.oneCell']) ?_))
      exact bodyPost_ret (results_cell_row rfl _ _ w.heap.size _ _ (0, 0) _ rfl F2.out.1 Tryd.underlying124 rfl (by as_aux_lemma => kernel_rfl)) rfl (F2.out.2 _)
    | false =>
      have HM0 := Lib.hid hm0
      have HM1 := Lib.hid hm1
      have e : Tb.store r = ((0, (Tb.val r).1), (Tb.val r).2) := by unfold Tb.store; simp only [hm0, hm1, if_true, if_false, Bool.false_eq_true]
      rw [e]
      have HF : Hid (∀ y, RdAt y b A n c r → Keep (Db b) W0 y → Calls Tryd.prog 24 #[.pointer (some ⟨b, 0, none⟩)] y (RdOut b A n c (Tb.val r).1.val (Tb.val r).2 y)) := Lib.hid fun y hy hk => Val_rd hy (HT.out.out H0.out hk)
      obtain ⟨q, hq⟩ : ∃ q, Tb.val r = q := ⟨_, rfl⟩
      rw [hq] at HF ⊢
      clear hq
      clear h h0 hB0 hT hT0 hW0 e hm0 hm1
      go_enter Tryd.func128, Tryd.ntmps128
      go_wp2_with fail
      rw [← HW0.out]
      go_wp2_with (first
        | (go_at_call 61; (with_reducible refine (may_no hR.out 120 120 rfl HM0.out).mono ?_); rintro e w0 ⟨rfl, h1, h2⟩; have hK := Lib.hid (r_keep hK.out h2); have hR := Lib.hid h1; clear h1 h2)
        | (go_at_call 61; (with_reducible refine (may_no hR.out 119 119 rfl HM1.out).mono ?_); rintro e w1 ⟨rfl, h1, h2⟩; have hK := Lib.hid (r_keep hK.out h2); have hR := Lib.hid h1; clear h1 h2)
        | (go_at_call 24; (with_reducible refine (HF.out _ hR.out hK.out).mono ?_); rintro e w9 ⟨rfl, h1, h2⟩; have hK := Lib.hid (r_keep hK.out h2); have hR := Lib.hid h1; clear h1 h2; have F := res_row HH.out _ _ hR.out (HW0.out ▸ hK.out); have F1 := Lib.hid F.1; have F2 := Lib.hid (F.2 #[.int .i64 0, .int .i64 q.1.k, .bool q.1.nu, .int .i64 q.1.h.k, .int .i64 q.1.h.n]); clear F)
        | (refine wpList_store_row rfl 124 (.tmp 2) (.tmp 15) rfl w.heap.size #[.int .i64 0, .int .i64 q.1.k, .bool q.1.nu, .int .i64 q.1.h.k, .int .i64 q.1.h.n] rfl rfl _ _ F1.out (by kernel_rfl) rfl (by simp [Value.oneCell']) ?_))
      exact bodyPost_ret (results_cell_row rfl _ _ w.heap.size _ _ (0, 0) _ rfl F2.out.1 Tryd.underlying124 rfl (by as_aux_lemma => kernel_rfl)) rfl (F2.out.2 _)
theorem mutItem_any (h : RdAt w b A n c r) : Calls Tryd.prog 129 #[.pointer (some ⟨b, 0, none⟩), .func (.func 130) #[] #[]] w (RdOut b A n c (.bool (Tb.item false Tb.mutAt r).1) (Tb.item false Tb.mutAt r).2 w) :=
  (item_bool h 130 #[] (enters_of Tryd.func130 (by kernel_rfl) rfl) _ _ _ (fun e => by have := Tb.mutAt_le r.bs r.p e; rw [h.len] at this; exact this)
    (fun W hW => (mutAt_any (h.bytes hW) h.pl).mono fun _ _ => Item.out)).mono fun _ _ => item_out (fun x : Bool => .bool x) false Tb.mutAt _ rfl
set_option maxHeartbeats 4000000 in
theorem field_any (h : RdAt w b A n c r) (hT : Tab6 w) : Calls Tryd.prog 108 #[.pointer (some ⟨b, 0, none⟩)] w (RdOut b A n c (Tb.field r).1.val (Tb.field r).2 w) := by
  obtain ⟨W0, hW0⟩ : ∃ W0, W0 = w.alloc (.cells #[.int .i64 0, .int .i64 0, .bool false, .int .i64 0, .int .i64 0, .bool false] 126) := ⟨_, rfl⟩
  have hB0 : Below w.heap.size w W0 := by rw [hW0]; exact (Below.refl _ _).alloc (Nat.le_refl _) _
  have h0 := h.below (Nat.le_refl _) hB0
  have hT0 := hT.below hB0
  have HW0 := Lib.hid hW0
  have HH := Lib.hid h
  have HS := Lib.hid (store_any h0 hT0)
  unfold Tb.field
  obtain ⟨q, hq⟩ : ∃ q, Tb.store r = q := ⟨_, rfl⟩
  rw [hq] at HS ⊢
  have HM : Hid (∀ y, RdAt y b A n c q.2 → Calls Tryd.prog 129 #[.pointer (some ⟨b, 0, none⟩), .func (.func 130) #[] #[]] y (RdOut b A n c (.bool (Tb.item false Tb.mutAt q.2).1) (Tb.item false Tb.mutAt q.2).2 y)) := Lib.hid fun y hy => mutItem_any hy
  obtain ⟨m, hm⟩ : ∃ m, Tb.item false Tb.mutAt q.2 = m := ⟨_, rfl⟩
  rw [hm] at HM ⊢
  clear h h0 hB0 hT hT0 hq hm hW0
  go_enter Tryd.func108, Tryd.ntmps108
  go_wp2_with fail
  rw [← HW0.out]
  go_wp2_with (first
    | (go_at_call 128; refine HS.out.mono ?_; rintro e w1 ⟨rfl, h1, h2⟩; have hR := Lib.hid h1; have hK := Lib.hid h2; clear h1 h2)
    | (go_at_call 129; refine (HM.out _ hR.out).mono ?_; rintro e w2 ⟨rfl, h1, h2⟩; have F := res_row HH.out _ _ h1 (HW0.out ▸ hK.out.trans h2); have F1 := Lib.hid F.1; have F2 := Lib.hid (F.2 #[.int .i64 q.1.1, .int .i64 q.1.2.k, .bool q.1.2.nu, .int .i64 q.1.2.h.k, .int .i64 q.1.2.h.n, .bool m.1]); clear F h1 h2)
    | (refine wpList_store_row rfl 126 (.tmp 2) (.tmp 7) rfl w.heap.size #[.int .i64 q.1.1, .int .i64 q.1.2.k, .bool q.1.2.nu, .int .i64 q.1.2.h.k, .int .i64 q.1.2.h.n, .bool m.1] rfl rfl _ _ F1.out (by kernel_rfl) rfl (by simp [Value.oneCell']) ?_))
  exact bodyPost_ret (results_cell_row rfl _ _ w.heap.size _ _ (0, 0) _ rfl F2.out.1 Tryd.underlying126 rfl (by as_aux_lemma => kernel_rfl)) rfl (F2.out.2 _)
end
end Go.Proofs.YtphmknhlibampaaDoor

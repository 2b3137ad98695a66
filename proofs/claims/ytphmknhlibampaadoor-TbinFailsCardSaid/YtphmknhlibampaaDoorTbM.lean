/-
  Layer 6, code: comp.
-/
import Derived.Test.YtphmknhlibampaaDoorTbL
namespace Go.Proofs.YtphmknhlibampaaDoor
open Go.RowKit
set_option linter.unusedVariables false
set_option linter.unusedSimpArgs false
set_option maxRecDepth 100000

abbrev Sl.val (x : Sl) : Value := .slice x.a x.n x.c
def Sl.no : Sl := ⟨none, 0, 0⟩
/-- A composite type whose lists lie in blocks from B on. -/
structure OwnC (B : Nat) (W : World) (k : Int) (x2 x3 x4 : Sl) (c : Cp) : Prop where
  k : k = c.k
  ps : OwnG 46 4 Vl.cs B W (.slice x2.a x2.n x2.c) c.ps
  rs : OwnG 46 4 Vl.cs B W (.slice x3.a x3.n x3.c) c.rs
  fs : OwnG 126 6 Fd.cs B W (.slice x4.a x4.n x4.c) c.fs
def CompOut (b : Nat) (A : Option Addr) (n c : Nat) (q : Cp × Rd) (w : World) (en : Ending) (w' : World) : Prop :=
  ∃ (k : Int) (x2 x3 x4 : Sl), en = .returned (.agg #[.int .i64 k, .slice x2.a x2.n x2.c, .slice x3.a x3.n x3.c, .slice x4.a x4.n x4.c]) ∧ OwnC w.heap.size w' k x2 x3 x4 q.1 ∧ RdAt w' b A n c q.2 ∧ Keep (Db b) w w'
section
variable {w y : World} {b n c : Nat} {A : Option Addr} {r r' : Rd}
theorem item_noComp (r : Rd) : (Tb.item Tb.noComp (Tb.noneAt Tb.noComp) r).1 = Tb.noComp := by
  unfold Tb.item
  split
  · rw [if_neg (Tb.noneAt_no _ _ _)]
  · rfl
theorem noComp_any (h : RdAt w b A n c r) : Calls Tryd.prog 109 #[.pointer (some ⟨b, 0, none⟩), .func (.func 110) #[] #[]] w (RdOut b A n c (.agg #[.int .i64 0, .slice none 0 0, .slice none 0 0, .slice none 0 0]) (Tb.item Tb.noComp (Tb.noneAt Tb.noComp) r).2 w) := by
  have e : ∀ l p, (Tb.noneAt Tb.noComp l p).2 = (0, if p = l.length then 10 else 60) := fun l p => by unfold Tb.noneAt; split <;> rfl
  have hne := Tb.noneAt_no Tb.noComp r.bs r.p
  refine (item_Comp h 110 #[] (enters_of Tryd.func110 (by kernel_rfl) rfl) 0 (Tb.noneAt Tb.noComp r.bs r.p).2.1 (Tb.noneAt Tb.noComp r.bs r.p).2.2 (fun e => absurd e hne)
    (fun W hW => (noneC_any (h.bytes hW) r.p).mono fun _ _ h1 => ?_)).mono fun en w' ⟨h1, h2, h3⟩ => ⟨?_, ?_, h3⟩
  · rw [e r.bs r.p, h.len]
    exact h1
  · rw [h1]; split <;> rfl
  · rw [Tb.item_eq]; exact h2
theorem own_base {α : Type} {e sz B B' : Nat} {cs : α → List Value} {v : Value} {l : List α} (h : OwnG e sz cs B w v l) (hB : B' ≤ B) : OwnG e sz cs B' w v l := h.base hB
set_option maxHeartbeats 8000000 in
theorem comp_any (h : RdAt w b A n c r) (hn : n < 1000000) (hT : Tab6 w) : Calls Tryd.prog 87 #[.pointer (some ⟨b, 0, none⟩)] w (CompOut b A n c (Tb.comp r) w) := by
  obtain ⟨W0, hW0⟩ : ∃ W0, W0 = w.alloc (.cells #[.int .i64 0, .slice none 0 0, .slice none 0 0, .slice none 0 0] 68) := ⟨_, rfl⟩
  have hB0 : Below w.heap.size w W0 := by rw [hW0]; exact (Below.refl _ _).alloc (Nat.le_refl _) _
  have HZ : Hid (W0.heap.size = w.heap.size + 1) := Lib.hid (by rw [hW0]; simp)
  have h0 := h.below (Nat.le_refl _) hB0
  have hT0 := hT.below hB0
  have HW0 := Lib.hid hW0
  have HH := Lib.hid h
  have hK : Hid (Keep (Db b) W0 W0) := Lib.hid (Keep.refl _)
  have hR := Lib.hid h0
  have H0 := Lib.hid h0
  have HT := Lib.hid hT0
  have Hlt : Hid (b < W0.heap.size) := Lib.hid h0.lt
  cases hm0 : Tb.may 96 r with
  | true =>
    have HM0 := Lib.hid hm0
    have e : Tb.comp r = (⟨1, (Tb.vals (Tb.on r)).1, (Tb.vals (Tb.vals (Tb.on r)).2).1, []⟩, (Tb.vals (Tb.vals (Tb.on r)).2).2) := by unfold Tb.comp; simp only [hm0, if_true]
    rw [e]
    have HV1 : Hid (∀ y, RdAt y b A n c (Tb.on r) → Keep (Db b) W0 y → Calls Tryd.prog 27 #[.pointer (some ⟨b, 0, none⟩)] y (ListOut b A n c 46 4 Vl.cs (Tb.vals (Tb.on r)).1 (Tb.vals (Tb.on r)).2 y)) := Lib.hid fun y hy hk => Vals_any hy hn (HT.out.out H0.out hk)
    obtain ⟨q1, hq1⟩ : ∃ q, Tb.vals (Tb.on r) = q := ⟨_, rfl⟩
    rw [hq1] at HV1 ⊢
    have HV2 : Hid (∀ y, RdAt y b A n c q1.2 → Keep (Db b) W0 y → Calls Tryd.prog 27 #[.pointer (some ⟨b, 0, none⟩)] y (ListOut b A n c 46 4 Vl.cs (Tb.vals q1.2).1 (Tb.vals q1.2).2 y)) := Lib.hid fun y hy hk => Vals_any hy hn (HT.out.out H0.out hk)
    obtain ⟨q2, hq2⟩ : ∃ q, Tb.vals q1.2 = q := ⟨_, rfl⟩
    rw [hq2] at HV2 ⊢
    clear h h0 hB0 hT hT0 hW0 e hm0 hq1 hq2
    go_enter Tryd.func87, Tryd.ntmps87
    go_wp2_with fail
    rw [← HW0.out]
    go_wp2_with (first
      | (go_at_call 61; (with_reducible refine (may_yes hR.out 96 96 rfl HM0.out).mono ?_); rintro e w1 ⟨rfl, h1, h2⟩; have hK := Lib.hid (r_keep hK.out h2); have hR := Lib.hid h1; clear h1 h2)
      | (go_at_call 27; (with_reducible refine (HV1.out _ hR.out hK.out).mono ?_); rintro e w2 ⟨x, rfl, ho, h1, h2⟩; have HX := Lib.hid (ho.base hK.out.size); have hK := Lib.hid (r_keep hK.out h2); have hR := Lib.hid h1; clear ho h1 h2)
      | (go_at_call 27; (with_reducible refine (HV2.out _ hR.out hK.out).mono ?_); rintro e w3 ⟨z, rfl, ho, h1, h2⟩; have HXX := Lib.hid (HX.out.keepb Hlt.out h2); have HY := Lib.hid (ho.base hK.out.size); have F := res_row HH.out _ _ h1 (HW0.out ▸ r_keep hK.out h2); have F1 := Lib.hid F.1; have F2 := Lib.hid (F.2 #[.int .i64 1, .slice x.a x.n x.c, .slice z.a z.n z.c, .slice none 0 0]); clear F ho h1 h2)
      | (refine wpList_store_row rfl 68 (.tmp 2) (.tmp 10) rfl w.heap.size #[.int .i64 1, .slice x.a x.n x.c, .slice z.a z.n z.c, .slice none 0 0] rfl rfl _ _ F1.out (by kernel_rfl) rfl (by simp [Value.oneCell']) ?_))
    have hz := HZ.out
    exact bodyPost_ret (results_cell_row rfl _ _ w.heap.size _ _ (0, 0) _ rfl F2.out.1 Tryd.underlying68 rfl (by as_aux_lemma => kernel_rfl)) rfl ⟨1, x, z, Sl.no, rfl, ⟨rfl, (HXX.out.setRow_far (by omega) _).base (by omega), (HY.out.setRow_far (by omega) _).base (by omega), OwnG.nil _ _⟩, (F2.out.2 .nilFunc).2.1, (F2.out.2 .nilFunc).2.2⟩
  | false =>
    cases hm1 : Tb.may 95 r with
    | true =>
      have HM0 := Lib.hid hm0
      have HM1 := Lib.hid hm1
      have e : Tb.comp r = (⟨2, [], [], (Tb.list Tb.field (Tb.on r)).1⟩, (Tb.list Tb.field (Tb.on r)).2) := by unfold Tb.comp; simp only [hm0, hm1, if_true, if_false, Bool.false_eq_true]
      rw [e]
      have HV1 : Hid (∀ y, RdAt y b A n c (Tb.on r) → Keep (Db b) W0 y → Calls Tryd.prog 107 #[.pointer (some ⟨b, 0, none⟩), .func (.func 108) #[.pointer (some ⟨b, 0, none⟩)] #[]] y (ListOut b A n c 126 6 Fd.cs (Tb.list Tb.field (Tb.on r)).1 (Tb.list Tb.field (Tb.on r)).2 y)) := Lib.hid fun y hy hk => fields_any hy hn (HT.out.out H0.out hk)
      obtain ⟨q1, hq1⟩ : ∃ q, Tb.list Tb.field (Tb.on r) = q := ⟨_, rfl⟩
      rw [hq1] at HV1 ⊢
      clear h h0 hB0 hT hT0 hW0 e hm0 hm1 hq1
      go_enter Tryd.func87, Tryd.ntmps87
      go_wp2_with fail
      rw [← HW0.out]
      go_wp2_with (first
        | (go_at_call 61; (with_reducible refine (may_no hR.out 96 96 rfl HM0.out).mono ?_); rintro e w1 ⟨rfl, h1, h2⟩; have hK := Lib.hid (r_keep hK.out h2); have hR := Lib.hid h1; clear h1 h2)
        | (go_at_call 61; (with_reducible refine (may_yes hR.out 95 95 rfl HM1.out).mono ?_); rintro e w1 ⟨rfl, h1, h2⟩; have hK := Lib.hid (r_keep hK.out h2); have hR := Lib.hid h1; clear h1 h2)
        | (go_at_call 107; (with_reducible refine (HV1.out _ hR.out hK.out).mono ?_); rintro e w3 ⟨z, rfl, ho, h1, h2⟩; have HY := Lib.hid (ho.base hK.out.size); have F := res_row HH.out _ _ h1 (HW0.out ▸ r_keep hK.out h2); have F1 := Lib.hid F.1; have F2 := Lib.hid (F.2 #[.int .i64 2, .slice none 0 0, .slice none 0 0, .slice z.a z.n z.c]); clear F ho h1 h2)
        | (refine wpList_store_row rfl 68 (.tmp 2) (.tmp 18) rfl w.heap.size #[.int .i64 2, .slice none 0 0, .slice none 0 0, .slice z.a z.n z.c] rfl rfl _ _ F1.out (by kernel_rfl) rfl (by simp [Value.oneCell']) ?_))
      have hz := HZ.out
      exact bodyPost_ret (results_cell_row rfl _ _ w.heap.size _ _ (0, 0) _ rfl F2.out.1 Tryd.underlying68 rfl (by as_aux_lemma => kernel_rfl)) rfl ⟨2, Sl.no, Sl.no, z, rfl, ⟨rfl, OwnG.nil _ _, OwnG.nil _ _, (HY.out.setRow_far (by omega) _).base (by omega)⟩, (F2.out.2 .nilFunc).2.1, (F2.out.2 .nilFunc).2.2⟩
    | false =>
      cases hm2 : Tb.may 94 r with
      | true =>
        have HM0 := Lib.hid hm0
        have HM1 := Lib.hid hm1
        have HM2 := Lib.hid hm2
        have e : Tb.comp r = (⟨3, [], [], [(Tb.field (Tb.on r)).1]⟩, (Tb.field (Tb.on r)).2) := by unfold Tb.comp; simp only [hm0, hm1, hm2, if_true, if_false, Bool.false_eq_true]
        rw [e]
        have HV1 : Hid (∀ y, RdAt y b A n c (Tb.on r) → Keep (Db b) W0 y → Calls Tryd.prog 108 #[.pointer (some ⟨b, 0, none⟩)] y (RdOut b A n c (Tb.field (Tb.on r)).1.val (Tb.field (Tb.on r)).2 y)) := Lib.hid fun y hy hk => field_any hy (HT.out.out H0.out hk)
        obtain ⟨q1, hq1⟩ : ∃ q, Tb.field (Tb.on r) = q := ⟨_, rfl⟩
        rw [hq1] at HV1 ⊢
        have HL : Hid (∀ y, RdAt y b A n c q1.2 → Keep (Db b) W0 y → OwnG 126 6 Fd.cs W0.heap.size (y.alloc (.cells #[.int .i64 q1.1.pk, .int .i64 q1.1.v.k, .bool q1.1.v.nu, .int .i64 q1.1.v.h.k, .int .i64 q1.1.v.h.n, .bool q1.1.mu] 126)) (.slice (some ⟨y.heap.size, 0, none⟩) 1 1) [q1.1] ∧ RdAt (y.alloc (.cells #[.int .i64 q1.1.pk, .int .i64 q1.1.v.k, .bool q1.1.v.nu, .int .i64 q1.1.v.h.k, .int .i64 q1.1.v.h.n, .bool q1.1.mu] 126)) b A n c q1.2 ∧ Keep (Db b) W0 (y.alloc (.cells #[.int .i64 q1.1.pk, .int .i64 q1.1.v.k, .bool q1.1.v.nu, .int .i64 q1.1.v.h.k, .int .i64 q1.1.v.h.n, .bool q1.1.mu] 126))) := Lib.hid fun y hy hk => by
          have hb : Below y.heap.size y (y.alloc (.cells #[.int .i64 q1.1.pk, .int .i64 q1.1.v.k, .bool q1.1.v.nu, .int .i64 q1.1.v.h.k, .int .i64 q1.1.v.h.n, .bool q1.1.mu] 126)) := (Below.refl _ _).alloc (Nat.le_refl _) _
          exact ⟨OwnG.lit1 elemF y hk.size q1.1 _ rfl, hy.below (Nat.le_refl _) hb, hk.trans (Keep.of_below hb)⟩
        clear h h0 hB0 hT hT0 hW0 e hm0 hm1 hm2 hq1
        go_enter Tryd.func87, Tryd.ntmps87
        go_wp2_with fail
        rw [← HW0.out]
        go_wp2_with (first
          | (go_at_call 61; (with_reducible refine (may_no hR.out 96 96 rfl HM0.out).mono ?_); rintro e w1 ⟨rfl, h1, h2⟩; have hK := Lib.hid (r_keep hK.out h2); have hR := Lib.hid h1; clear h1 h2)
          | (go_at_call 61; (with_reducible refine (may_no hR.out 95 95 rfl HM1.out).mono ?_); rintro e w1 ⟨rfl, h1, h2⟩; have hK := Lib.hid (r_keep hK.out h2); have hR := Lib.hid h1; clear h1 h2)
          | (go_at_call 61; (with_reducible refine (may_yes hR.out 94 94 rfl HM2.out).mono ?_); rintro e w1 ⟨rfl, h1, h2⟩; have hK := Lib.hid (r_keep hK.out h2); have hR := Lib.hid h1; clear h1 h2)
          | (go_at_call 108; (with_reducible refine (HV1.out _ hR.out hK.out).mono ?_); rintro e w3 ⟨rfl, h1, h2⟩; have G := HL.out _ h1 (r_keep hK.out h2); have HY := Lib.hid G.1; have F := res_row HH.out _ _ G.2.1 (HW0.out ▸ G.2.2); have F1 := Lib.hid F.1; have F2 := Lib.hid (F.2 #[.int .i64 3, .slice none 0 0, .slice none 0 0, .slice (some ⟨w3.heap.size, 0, none⟩) 1 1]); clear F G h1 h2)
          | (refine wpList_store_row rfl 68 (.tmp 2) (.tmp 25) rfl w.heap.size #[.int .i64 3, .slice none 0 0, .slice none 0 0, .slice (some ⟨w3.heap.size, 0, none⟩) 1 1] rfl rfl _ _ F1.out (by kernel_rfl) rfl (by simp [Value.oneCell']) ?_))
        have hz := HZ.out
        exact bodyPost_ret (results_cell_row rfl _ _ w.heap.size _ _ (0, 0) _ rfl F2.out.1 Tryd.underlying68 rfl (by as_aux_lemma => kernel_rfl)) rfl ⟨3, Sl.no, Sl.no, ⟨some ⟨w3.heap.size, 0, none⟩, 1, 1⟩, rfl, ⟨rfl, OwnG.nil _ _, OwnG.nil _ _, (HY.out.setRow_far (by omega) _).base (by omega)⟩, (F2.out.2 .nilFunc).2.1, (F2.out.2 .nilFunc).2.2⟩
      | false =>
        have HM0 := Lib.hid hm0
        have HM1 := Lib.hid hm1
        have HM2 := Lib.hid hm2
        have e : Tb.comp r = (Tb.noComp, (Tb.item Tb.noComp (Tb.noneAt Tb.noComp) r).2) := by unfold Tb.comp; simp only [hm0, hm1, hm2, if_false, Bool.false_eq_true]; exact Prod.ext (item_noComp r) rfl
        rw [e]
        have HV1 : Hid (∀ y, RdAt y b A n c r → Keep (Db b) W0 y → Calls Tryd.prog 109 #[.pointer (some ⟨b, 0, none⟩), .func (.func 110) #[] #[]] y (RdOut b A n c (.agg #[.int .i64 0, .slice none 0 0, .slice none 0 0, .slice none 0 0]) (Tb.item Tb.noComp (Tb.noneAt Tb.noComp) r).2 y)) := Lib.hid fun y hy hk => noComp_any hy
        obtain ⟨q1, hq1⟩ : ∃ q, (Tb.item Tb.noComp (Tb.noneAt Tb.noComp) r).2 = q := ⟨_, rfl⟩
        rw [hq1] at HV1 ⊢
        clear h h0 hB0 hT hT0 hW0 e hm0 hm1 hm2 hq1
        go_enter Tryd.func87, Tryd.ntmps87
        go_wp2_with fail
        rw [← HW0.out]
        go_wp2_with (first
          | (go_at_call 61; (with_reducible refine (may_no hR.out 96 96 rfl HM0.out).mono ?_); rintro e w1 ⟨rfl, h1, h2⟩; have hK := Lib.hid (r_keep hK.out h2); have hR := Lib.hid h1; clear h1 h2)
          | (go_at_call 61; (with_reducible refine (may_no hR.out 95 95 rfl HM1.out).mono ?_); rintro e w1 ⟨rfl, h1, h2⟩; have hK := Lib.hid (r_keep hK.out h2); have hR := Lib.hid h1; clear h1 h2)
          | (go_at_call 61; (with_reducible refine (may_no hR.out 94 94 rfl HM2.out).mono ?_); rintro e w1 ⟨rfl, h1, h2⟩; have hK := Lib.hid (r_keep hK.out h2); have hR := Lib.hid h1; clear h1 h2)
          | (go_at_call 109; (with_reducible refine (HV1.out _ hR.out hK.out).mono ?_); rintro e w3 ⟨rfl, h1, h2⟩; have F := res_row HH.out _ _ h1 (HW0.out ▸ r_keep hK.out h2); have F1 := Lib.hid F.1; have F2 := Lib.hid (F.2 #[.int .i64 0, .slice none 0 0, .slice none 0 0, .slice none 0 0]); clear F h1 h2)
          | (refine wpList_store_row rfl 68 (.tmp 2) (.tmp 27) rfl w.heap.size #[.int .i64 0, .slice none 0 0, .slice none 0 0, .slice none 0 0] rfl rfl _ _ F1.out (by kernel_rfl) rfl (by simp [Value.oneCell']) ?_))
        exact bodyPost_ret (results_cell_row rfl _ _ w.heap.size _ _ (0, 0) _ rfl F2.out.1 Tryd.underlying68 rfl (by as_aux_lemma => kernel_rfl)) rfl ⟨0, Sl.no, Sl.no, Sl.no, rfl, ⟨rfl, OwnG.nil _ _, OwnG.nil _ _, OwnG.nil _ _⟩, (F2.out.2 .nilFunc).2.1, (F2.out.2 .nilFunc).2.2⟩
end
end Go.Proofs.YtphmknhlibampaaDoor

/-
  Texts of this claim, one behind the other: part 6.
-/
import Derived.Test.YtkdhjejchdcipaaDoorMgTbinCut5
/-
  Layer 6, code: Vals, comp.
-/
namespace Go.Proofs.YtkdhjejchdcipaaDoor
open Go.RowKit
set_option linter.unusedVariables false
set_option linter.unusedSimpArgs false
set_option maxRecDepth 100000

section
variable {α : Type} {e ts sz B g : Nat} {cs : α → List Value} {w y : World} {v : Value} {l : List α} {b n c : Nat} {A : Option Addr} {r r' : Rd}
theorem OwnG.setRow_far (h : OwnG e sz cs B w v l) (hg : g < B) (rs : Array Value) : OwnG e sz cs B (w.setRow g rs) v l :=
  World.ownsRow.kept (row := some g) h ⟨rfl, rfl, rfl, by rw [size_setRow]; exact Nat.le_refl _, fun k hk1 hk2 => setRow_other _ _ _ _ (fun e => hk2 (by rw [e]))⟩ (by
    rcases hv : v.ownBlock with _ | k
    · exact .inl rfl
    · exact .inr (fun e => by injection e with e; have := (h.lt k hv).1; omega))
theorem OwnG.setCell_far (h : OwnG e sz cs B w v l) (hg : g < B) (i : Nat) (u : Value) : OwnG e sz cs B (w.setCell ⟨g, i, none⟩ u) v l :=
  World.ownsRow.kept (row := some g) h ⟨rfl, rfl, rfl, by simp, fun k hk1 hk2 => heap_setCell_other _ _ _ _ (fun e => hk2 (by rw [e]))⟩ (by
    rcases hv : v.ownBlock with _ | k
    · exact .inl rfl
    · exact .inr (fun e => by injection e with e; have := (h.lt k hv).1; omega))
theorem OwnG.sl (h : OwnG e sz cs B w v l) : ∃ x : Sl, v = .slice x.a x.n x.c := by
  obtain ⟨A', c', e⟩ := h.form
  exact ⟨⟨A', l.length, c'⟩, e⟩
/-- A list that a reader told. -/
def ListOut (b : Nat) (A : Option Addr) (n c : Nat) {α : Type} (e sz : Nat) (cs : α → List Value) (l : List α) (r' : Rd) (w : World) (en : Ending) (w' : World) : Prop :=
  ∃ x : Sl, en = .returned (.slice x.a x.n x.c) ∧ OwnG e sz cs w.heap.size w' (.slice x.a x.n x.c) l ∧ RdAt w' b A n c r' ∧ Keep (Db b) w w'
theorem listOut_of {v : Value} {xs l : List α} {en : Ending} {w' : World} (h : ∃ v xs, en = .returned v ∧ OwnG e sz cs w.heap.size w' v xs ∧ All2 (fun x z => x = z) xs l ∧ (∀ x ∈ xs, ∀ g, (fun (_ : α) (_ : Nat) => False) x g → w.heap.size ≤ g ∧ g < w'.heap.size ∧ v.ownBlock ≠ some g) ∧ RdAt w' b A n c r' ∧ Keep (Db b) w w') :
    ListOut b A n c e sz cs l r' w en w' := by
  obtain ⟨v, xs, h1, h2, h3, -, h5, h6⟩ := h
  obtain ⟨x, rfl⟩ := h2.sl
  exact ⟨x, h1, by rw [← h3.eq]; exact h2, h5, h6⟩
set_option maxHeartbeats 2000000 in
theorem Vals_any (h : RdAt w b A n c r) (hn : n < 1000000) (hT : Tab6 w) : Calls Tryd.prog 42 #[.pointer (some ⟨b, 0, none⟩)] w (ListOut b A n c 46 4 Vl.cs (Tb.vals r).1 (Tb.vals r).2 w) := by
  have H := Lib.hid ((listV_any h hn Tb.val (fun _ x z => x = z) (fun _ _ => False) 39 (enters_of Tryd.func39 (by kernel_rfl) rfl)
    (fun _ _ _ _ h _ _ => h) (fun y r' hy hk => (Val_rd hy (hT.out h hk)).mono fun e y' ⟨h1, h2, h3⟩ => ⟨_, h1, rfl, fun _ h => h.elim, h2, h3⟩)).mono fun _ _ => listOut_of (v := .slice none 0 0) (xs := []))
  clear h hT
  go_enter Tryd.func42, Tryd.ntmps42
  go_wp2_with (refine H.out.mono ?_; rintro e w1 ⟨x, rfl, h1⟩)
  go_ret
  exact ⟨x, rfl, h1⟩
theorem sups_any (h : RdAt w b A n c r) (hn : n < 1000000) : Calls Tryd.prog 117 #[.pointer (some ⟨b, 0, none⟩), .func (.func 118) #[.pointer (some ⟨b, 0, none⟩)] #[]] w (ListOut b A n c 39 2 Hp.cs (Tb.list Tb.index r).1 (Tb.list Tb.index r).2 w) :=
  (listH_any h hn Tb.index (fun _ x z => x = z) (fun _ _ => False) 118 (enters_of Tryd.func118 (by kernel_rfl) rfl)
    (fun _ _ _ _ h _ _ => h) (fun y r' hy hk => (index_any hy).mono fun e y' ⟨h1, h2, h3⟩ => ⟨_, h1, rfl, fun _ h => h.elim, h2, h3⟩)).mono fun _ _ => listOut_of (v := .slice none 0 0) (xs := [])
theorem fields_any (h : RdAt w b A n c r) (hn : n < 1000000) (hT : Tab6 w) : Calls Tryd.prog 149 #[.pointer (some ⟨b, 0, none⟩), .func (.func 150) #[.pointer (some ⟨b, 0, none⟩)] #[]] w (ListOut b A n c 50 6 Fd.cs (Tb.list Tb.field r).1 (Tb.list Tb.field r).2 w) :=
  (listF_any h hn Tb.field (fun _ x z => x = z) (fun _ _ => False) 150 (enters_of Tryd.func150 (by kernel_rfl) rfl)
    (fun _ _ _ _ h _ _ => h) (fun y r' hy hk => (field_any hy (hT.out h hk)).mono fun e y' ⟨h1, h2, h3⟩ => ⟨_, h1, rfl, fun _ h => h.elim, h2, h3⟩)).mono fun _ _ => listOut_of (v := .slice none 0 0) (xs := [])
end
end Go.Proofs.YtkdhjejchdcipaaDoor
/-
  Layer 6, code: comp.
-/
namespace Go.Proofs.YtkdhjejchdcipaaDoor
open Go.RowKit
set_option linter.unusedVariables false
set_option linter.unusedSimpArgs false
set_option maxRecDepth 100000

abbrev Sl.val (x : Sl) : Value := .slice x.a x.n x.c
def Sl.no : Sl := ⟨none, 0, 0⟩
/-- A composite type whose lists lie in blocks from B on. -/
structure OwnC (B : Nat) (W : World) (k : Int) (x2 x3 x4 : Sl) (c : Cp) : Prop where
  k : k = c.k
  ps : OwnG 46 4 Vl.cs B W (.slice x2.a x2.n x2.c) c.ps
  rs : OwnG 46 4 Vl.cs B W (.slice x3.a x3.n x3.c) c.rs
  fs : OwnG 50 6 Fd.cs B W (.slice x4.a x4.n x4.c) c.fs
def CompOut (b : Nat) (A : Option Addr) (n c : Nat) (q : Cp × Rd) (w : World) (en : Ending) (w' : World) : Prop :=
  ∃ (k : Int) (x2 x3 x4 : Sl), en = .returned (.agg #[.int .i64 k, .slice x2.a x2.n x2.c, .slice x3.a x3.n x3.c, .slice x4.a x4.n x4.c]) ∧ OwnC w.heap.size w' k x2 x3 x4 q.1 ∧ RdAt w' b A n c q.2 ∧ Keep (Db b) w w'
section
variable {w y : World} {b n c : Nat} {A : Option Addr} {r r' : Rd}
theorem item_noComp (r : Rd) : (Tb.item Tb.noComp (Tb.noneAt Tb.noComp) r).1 = Tb.noComp := by
  unfold Tb.item
  split
  · rw [if_neg (Tb.noneAt_no _ _ _)]
  · rfl
theorem noComp_any (h : RdAt w b A n c r) : Calls Tryd.prog 151 #[.pointer (some ⟨b, 0, none⟩), .func (.func 152) #[] #[]] w (RdOut b A n c (.agg #[.int .i64 0, .slice none 0 0, .slice none 0 0, .slice none 0 0]) (Tb.item Tb.noComp (Tb.noneAt Tb.noComp) r).2 w) := by
  have e : ∀ l p, (Tb.noneAt Tb.noComp l p).2 = (0, if p = l.length then 10 else 60) := fun l p => by unfold Tb.noneAt; split <;> rfl
  have hne := Tb.noneAt_no Tb.noComp r.bs r.p
  refine (item_Comp h 152 #[] (enters_of Tryd.func152 (by kernel_rfl) rfl) 0 (Tb.noneAt Tb.noComp r.bs r.p).2.1 (Tb.noneAt Tb.noComp r.bs r.p).2.2 (fun e => absurd e hne)
    (fun W hW => (noneC_any (h.bytes hW) r.p).mono fun _ _ h1 => ?_)).mono fun en w' ⟨h1, h2, h3⟩ => ⟨?_, ?_, h3⟩
  · rw [e r.bs r.p, h.len]
    exact h1
  · rw [h1]; split <;> rfl
  · rw [Tb.item_eq]; exact h2
theorem own_base {α : Type} {e sz B B' : Nat} {cs : α → List Value} {v : Value} {l : List α} (h : OwnG e sz cs B w v l) (hB : B' ≤ B) : OwnG e sz cs B' w v l := h.base hB
set_option maxHeartbeats 8000000 in
theorem comp_any (h : RdAt w b A n c r) (hn : n < 1000000) (hT : Tab6 w) : Calls Tryd.prog 119 #[.pointer (some ⟨b, 0, none⟩)] w (CompOut b A n c (Tb.comp r) w) := by
  obtain ⟨W0, hW0⟩ : ∃ W0, W0 = w.alloc (.cells #[.int .i64 0, .slice none 0 0, .slice none 0 0, .slice none 0 0] 27) := ⟨_, rfl⟩
  have hB0 : Below w.heap.size w W0 := by rw [hW0]; exact (Below.refl _ _).alloc (Nat.le_refl _) _
  have HZ : Hid (W0.heap.size = w.heap.size + 1) := Lib.hid (by rw [hW0]; simp)
  have h0 := h.below (Nat.le_refl _) hB0
  have hT0 := hT.below hB0
  have HW0 := Lib.hid hW0
  have HH := Lib.hid h
  have hK : Hid (Keep (Db b) W0 W0) := Lib.hid (Keep.refl _)
  have hR := Lib.hid h0
  have H0 := Lib.hid h0
  have HT := Lib.hid hT0
  have Hlt : Hid (b < W0.heap.size) := Lib.hid h0.lt
  cases hm0 : Tb.may 96 r with
  | true =>
    have HM0 := Lib.hid hm0
    have e : Tb.comp r = (⟨1, (Tb.vals (Tb.on r)).1, (Tb.vals (Tb.vals (Tb.on r)).2).1, []⟩, (Tb.vals (Tb.vals (Tb.on r)).2).2) := by unfold Tb.comp; simp only [hm0, if_true]
    rw [e]
    have HV1 : Hid (∀ y, RdAt y b A n c (Tb.on r) → Keep (Db b) W0 y → Calls Tryd.prog 42 #[.pointer (some ⟨b, 0, none⟩)] y (ListOut b A n c 46 4 Vl.cs (Tb.vals (Tb.on r)).1 (Tb.vals (Tb.on r)).2 y)) := Lib.hid fun y hy hk => Vals_any hy hn (HT.out.out H0.out hk)
    obtain ⟨q1, hq1⟩ : ∃ q, Tb.vals (Tb.on r) = q := ⟨_, rfl⟩
    rw [hq1] at HV1 ⊢
    have HV2 : Hid (∀ y, RdAt y b A n c q1.2 → Keep (Db b) W0 y → Calls Tryd.prog 42 #[.pointer (some ⟨b, 0, none⟩)] y (ListOut b A n c 46 4 Vl.cs (Tb.vals q1.2).1 (Tb.vals q1.2).2 y)) := Lib.hid fun y hy hk => Vals_any hy hn (HT.out.out H0.out hk)
    obtain ⟨q2, hq2⟩ : ∃ q, Tb.vals q1.2 = q := ⟨_, rfl⟩
    rw [hq2] at HV2 ⊢
    clear h h0 hB0 hT hT0 hW0 e hm0 hq1 hq2
    go_enter Tryd.func119, Tryd.ntmps119
    go_wp2_with fail
    rw [← HW0.out]
    go_wp2_with (first
      | (go_at_call 85; (with_reducible refine (may_yes hR.out 96 96 rfl HM0.out).mono ?_); rintro e w1 ⟨rfl, h1, h2⟩; have hK := Lib.hid (r_keep hK.out h2); have hR := Lib.hid h1; clear h1 h2)
      | (go_at_call 42; (with_reducible refine (HV1.out _ hR.out hK.out).mono ?_); rintro e w2 ⟨x, rfl, ho, h1, h2⟩; have HX := Lib.hid (ho.base hK.out.size); have hK := Lib.hid (r_keep hK.out h2); have hR := Lib.hid h1; clear ho h1 h2)
      | (go_at_call 42; (with_reducible refine (HV2.out _ hR.out hK.out).mono ?_); rintro e w3 ⟨z, rfl, ho, h1, h2⟩; have HXX := Lib.hid (HX.out.keepb Hlt.out h2); have HY := Lib.hid (ho.base hK.out.size); have F := res_row HH.out _ _ h1 (HW0.out ▸ r_keep hK.out h2); have F1 := Lib.hid F.1; have F2 := Lib.hid (F.2 #[.int .i64 1, .slice x.a x.n x.c, .slice z.a z.n z.c, .slice none 0 0]); clear F ho h1 h2)
      | (refine wpList_store_row rfl 27 (.tmp 2) (.tmp 10) rfl w.heap.size #[.int .i64 1, .slice x.a x.n x.c, .slice z.a z.n z.c, .slice none 0 0] rfl rfl _ _ F1.out (by kernel_rfl) rfl (by simp [Value.oneCell']) ?_))
    have hz := HZ.out
    exact bodyPost_ret (results_cell_row rfl _ _ w.heap.size _ _ (0, 0) _ rfl F2.out.1 Tryd.underlying27 rfl (by as_aux_lemma => kernel_rfl)) rfl ⟨1, x, z, Sl.no, rfl, ⟨rfl, (HXX.out.setRow_far (by omega) _).base (by omega), (HY.out.setRow_far (by omega) _).base (by omega), OwnG.nil _ _⟩, (F2.out.2 .nilFunc).2.1, (F2.out.2 .nilFunc).2.2⟩
  | false =>
    cases hm1 : Tb.may 95 r with
    | true =>
      have HM0 := Lib.hid hm0
      have HM1 := Lib.hid hm1
      have e : Tb.comp r = (⟨2, [], [], (Tb.list Tb.field (Tb.on r)).1⟩, (Tb.list Tb.field (Tb.on r)).2) := by unfold Tb.comp; simp only [hm0, hm1, if_true, if_false, Bool.false_eq_true]
      rw [e]
      have HV1 : Hid (∀ y, RdAt y b A n c (Tb.on r) → Keep (Db b) W0 y → Calls Tryd.prog 149 #[.pointer (some ⟨b, 0, none⟩), .func (.func 150) #[.pointer (some ⟨b, 0, none⟩)] #[]] y (ListOut b A n c 50 6 Fd.cs (Tb.list Tb.field (Tb.on r)).1 (Tb.list Tb.field (Tb.on r)).2 y)) := Lib.hid fun y hy hk => fields_any hy hn (HT.out.out H0.out hk)
      obtain ⟨q1, hq1⟩ : ∃ q, Tb.list Tb.field (Tb.on r) = q := ⟨_, rfl⟩
      rw [hq1] at HV1 ⊢
      clear h h0 hB0 hT hT0 hW0 e hm0 hm1 hq1
      go_enter Tryd.func119, Tryd.ntmps119
      go_wp2_with fail
      rw [← HW0.out]
      go_wp2_with (first
        | (go_at_call 85; (with_reducible refine (may_no hR.out 96 96 rfl HM0.out).mono ?_); rintro e w1 ⟨rfl, h1, h2⟩; have hK := Lib.hid (r_keep hK.out h2); have hR := Lib.hid h1; clear h1 h2)
        | (go_at_call 85; (with_reducible refine (may_yes hR.out 95 95 rfl HM1.out).mono ?_); rintro e w1 ⟨rfl, h1, h2⟩; have hK := Lib.hid (r_keep hK.out h2); have hR := Lib.hid h1; clear h1 h2)
        | (go_at_call 149; (with_reducible refine (HV1.out _ hR.out hK.out).mono ?_); rintro e w3 ⟨z, rfl, ho, h1, h2⟩; have HY := Lib.hid (ho.base hK.out.size); have F := res_row HH.out _ _ h1 (HW0.out ▸ r_keep hK.out h2); have F1 := Lib.hid F.1; have F2 := Lib.hid (F.2 #[.int .i64 2, .slice none 0 0, .slice none 0 0, .slice z.a z.n z.c]); clear F ho h1 h2)
        | (refine wpList_store_row rfl 27 (.tmp 2) (.tmp 18) rfl w.heap.size #[.int .i64 2, .slice none 0 0, .slice none 0 0, .slice z.a z.n z.c] rfl rfl _ _ F1.out (by kernel_rfl) rfl (by simp [Value.oneCell']) ?_))
      have hz := HZ.out
      exact bodyPost_ret (results_cell_row rfl _ _ w.heap.size _ _ (0, 0) _ rfl F2.out.1 Tryd.underlying27 rfl (by as_aux_lemma => kernel_rfl)) rfl ⟨2, Sl.no, Sl.no, z, rfl, ⟨rfl, OwnG.nil _ _, OwnG.nil _ _, (HY.out.setRow_far (by omega) _).base (by omega)⟩, (F2.out.2 .nilFunc).2.1, (F2.out.2 .nilFunc).2.2⟩
    | false =>
      cases hm2 : Tb.may 94 r with
      | true =>
        have HM0 := Lib.hid hm0
        have HM1 := Lib.hid hm1
        have HM2 := Lib.hid hm2
        have e : Tb.comp r = (⟨3, [], [], [(Tb.field (Tb.on r)).1]⟩, (Tb.field (Tb.on r)).2) := by unfold Tb.comp; simp only [hm0, hm1, hm2, if_true, if_false, Bool.false_eq_true]
        rw [e]
        have HV1 : Hid (∀ y, RdAt y b A n c (Tb.on r) → Keep (Db b) W0 y → Calls Tryd.prog 150 #[.pointer (some ⟨b, 0, none⟩)] y (RdOut b A n c (Tb.field (Tb.on r)).1.val (Tb.field (Tb.on r)).2 y)) := Lib.hid fun y hy hk => field_any hy (HT.out.out H0.out hk)
        obtain ⟨q1, hq1⟩ : ∃ q, Tb.field (Tb.on r) = q := ⟨_, rfl⟩
        rw [hq1] at HV1 ⊢
        have HL : Hid (∀ y, RdAt y b A n c q1.2 → Keep (Db b) W0 y → OwnG 50 6 Fd.cs W0.heap.size (y.alloc (.cells #[.int .i64 q1.1.pk, .int .i64 q1.1.v.k, .bool q1.1.v.nu, .int .i64 q1.1.v.h.k, .int .i64 q1.1.v.h.n, .bool q1.1.mu] 50)) (.slice (some ⟨y.heap.size, 0, none⟩) 1 1) [q1.1] ∧ RdAt (y.alloc (.cells #[.int .i64 q1.1.pk, .int .i64 q1.1.v.k, .bool q1.1.v.nu, .int .i64 q1.1.v.h.k, .int .i64 q1.1.v.h.n, .bool q1.1.mu] 50)) b A n c q1.2 ∧ Keep (Db b) W0 (y.alloc (.cells #[.int .i64 q1.1.pk, .int .i64 q1.1.v.k, .bool q1.1.v.nu, .int .i64 q1.1.v.h.k, .int .i64 q1.1.v.h.n, .bool q1.1.mu] 50))) := Lib.hid fun y hy hk => by
          have hb : Below y.heap.size y (y.alloc (.cells #[.int .i64 q1.1.pk, .int .i64 q1.1.v.k, .bool q1.1.v.nu, .int .i64 q1.1.v.h.k, .int .i64 q1.1.v.h.n, .bool q1.1.mu] 50)) := (Below.refl _ _).alloc (Nat.le_refl _) _
          exact ⟨OwnG.lit1 elemF y hk.size q1.1 _ rfl, hy.below (Nat.le_refl _) hb, hk.trans (Keep.of_below hb)⟩
        clear h h0 hB0 hT hT0 hW0 e hm0 hm1 hm2 hq1
        go_enter Tryd.func119, Tryd.ntmps119
        go_wp2_with fail
        rw [← HW0.out]
        go_wp2_with (first
          | (go_at_call 85; (with_reducible refine (may_no hR.out 96 96 rfl HM0.out).mono ?_); rintro e w1 ⟨rfl, h1, h2⟩; have hK := Lib.hid (r_keep hK.out h2); have hR := Lib.hid h1; clear h1 h2)
          | (go_at_call 85; (with_reducible refine (may_no hR.out 95 95 rfl HM1.out).mono ?_); rintro e w1 ⟨rfl, h1, h2⟩; have hK := Lib.hid (r_keep hK.out h2); have hR := Lib.hid h1; clear h1 h2)
          | (go_at_call 85; (with_reducible refine (may_yes hR.out 94 94 rfl HM2.out).mono ?_); rintro e w1 ⟨rfl, h1, h2⟩; have hK := Lib.hid (r_keep hK.out h2); have hR := Lib.hid h1; clear h1 h2)
          | (go_at_call 150; (with_reducible refine (HV1.out _ hR.out hK.out).mono ?_); rintro e w3 ⟨rfl, h1, h2⟩; have G := HL.out _ h1 (r_keep hK.out h2); have HY := Lib.hid G.1; have F := res_row HH.out _ _ G.2.1 (HW0.out ▸ G.2.2); have F1 := Lib.hid F.1; have F2 := Lib.hid (F.2 #[.int .i64 3, .slice none 0 0, .slice none 0 0, .slice (some ⟨w3.heap.size, 0, none⟩) 1 1]); clear F G h1 h2)
          | (refine wpList_store_row rfl 27 (.tmp 2) (.tmp 25) rfl w.heap.size #[.int .i64 3, .slice none 0 0, .slice none 0 0, .slice (some ⟨w3.heap.size, 0, none⟩) 1 1] rfl rfl _ _ F1.out (by kernel_rfl) rfl (by simp [Value.oneCell']) ?_))
        have hz := HZ.out
        exact bodyPost_ret (results_cell_row rfl _ _ w.heap.size _ _ (0, 0) _ rfl F2.out.1 Tryd.underlying27 rfl (by as_aux_lemma => kernel_rfl)) rfl ⟨3, Sl.no, Sl.no, ⟨some ⟨w3.heap.size, 0, none⟩, 1, 1⟩, rfl, ⟨rfl, OwnG.nil _ _, OwnG.nil _ _, (HY.out.setRow_far (by omega) _).base (by omega)⟩, (F2.out.2 .nilFunc).2.1, (F2.out.2 .nilFunc).2.2⟩
      | false =>
        have HM0 := Lib.hid hm0
        have HM1 := Lib.hid hm1
        have HM2 := Lib.hid hm2
        have e : Tb.comp r = (Tb.noComp, (Tb.item Tb.noComp (Tb.noneAt Tb.noComp) r).2) := by unfold Tb.comp; simp only [hm0, hm1, hm2, if_false, Bool.false_eq_true]; exact Prod.ext (item_noComp r) rfl
        rw [e]
        have HV1 : Hid (∀ y, RdAt y b A n c r → Keep (Db b) W0 y → Calls Tryd.prog 151 #[.pointer (some ⟨b, 0, none⟩), .func (.func 152) #[] #[]] y (RdOut b A n c (.agg #[.int .i64 0, .slice none 0 0, .slice none 0 0, .slice none 0 0]) (Tb.item Tb.noComp (Tb.noneAt Tb.noComp) r).2 y)) := Lib.hid fun y hy hk => noComp_any hy
        obtain ⟨q1, hq1⟩ : ∃ q, (Tb.item Tb.noComp (Tb.noneAt Tb.noComp) r).2 = q := ⟨_, rfl⟩
        rw [hq1] at HV1 ⊢
        clear h h0 hB0 hT hT0 hW0 e hm0 hm1 hm2 hq1
        go_enter Tryd.func119, Tryd.ntmps119
        go_wp2_with fail
        rw [← HW0.out]
        go_wp2_with (first
          | (go_at_call 85; (with_reducible refine (may_no hR.out 96 96 rfl HM0.out).mono ?_); rintro e w1 ⟨rfl, h1, h2⟩; have hK := Lib.hid (r_keep hK.out h2); have hR := Lib.hid h1; clear h1 h2)
          | (go_at_call 85; (with_reducible refine (may_no hR.out 95 95 rfl HM1.out).mono ?_); rintro e w1 ⟨rfl, h1, h2⟩; have hK := Lib.hid (r_keep hK.out h2); have hR := Lib.hid h1; clear h1 h2)
          | (go_at_call 85; (with_reducible refine (may_no hR.out 94 94 rfl HM2.out).mono ?_); rintro e w1 ⟨rfl, h1, h2⟩; have hK := Lib.hid (r_keep hK.out h2); have hR := Lib.hid h1; clear h1 h2)
          | (go_at_call 151; (with_reducible refine (HV1.out _ hR.out hK.out).mono ?_); rintro e w3 ⟨rfl, h1, h2⟩; have F := res_row HH.out _ _ h1 (HW0.out ▸ r_keep hK.out h2); have F1 := Lib.hid F.1; have F2 := Lib.hid (F.2 #[.int .i64 0, .slice none 0 0, .slice none 0 0, .slice none 0 0]); clear F h1 h2)
          | (refine wpList_store_row rfl 27 (.tmp 2) (.tmp 27) rfl w.heap.size #[.int .i64 0, .slice none 0 0, .slice none 0 0, .slice none 0 0] rfl rfl _ _ F1.out (by kernel_rfl) rfl (by simp [Value.oneCell']) ?_))
        exact bodyPost_ret (results_cell_row rfl _ _ w.heap.size _ _ (0, 0) _ rfl F2.out.1 Tryd.underlying27 rfl (by as_aux_lemma => kernel_rfl)) rfl ⟨0, Sl.no, Sl.no, Sl.no, rfl, ⟨rfl, OwnG.nil _ _, OwnG.nil _ _, OwnG.nil _ _⟩, (F2.out.2 .nilFunc).2.1, (F2.out.2 .nilFunc).2.2⟩
end
end Go.Proofs.YtkdhjejchdcipaaDoor
/-
  A struct variable is a block, its row of cells one fact: stores and loads at an offset of a row, each in one step.
-/
namespace Go.Proofs.YtkdhjejchdcipaaDoor
open Go.RowKit
set_option linter.unusedVariables false

section
variable {P : Program} {w : World}
/-- A row, from place o on, is others. -/
def rowPut (row : Array Value) (o : Nat) (vs : Array Value) : Array Value := (row.toList.take o ++ vs.toList ++ row.toList.drop (o + vs.size)).toArray
theorem run_storeCells_at (g : Nat) (t : TypeId) (o : Nat) : ∀ (vs : List Value) (i : Nat) (cur : Array Value) (w : World), w.heap[g]? = some (.cells cur t (0, 0)) → o + i + vs.length ≤ cur.size → (∀ v ∈ vs, v.oneCell' = true) →
    (storeCells ⟨g, o, none⟩ vs i).run P w = .ok () (w.setRow g (cur.toList.take (o + i) ++ vs ++ cur.toList.drop (o + i + vs.length)).toArray)
  | [], i, cur, w, hg, hl, _ => by
    have hlt : g < w.heap.size := (Array.getElem?_eq_some_iff.1 hg).1
    have hv : w.heap[g] = .cells cur t (0, 0) := (Array.getElem?_eq_some_iff.1 hg).2
    simp only [storeCells, List.append_nil, List.length_nil, Nat.add_zero, List.take_append_drop, Array.toArray_toList]
    show Result.ok () w = _
    congr 1
    unfold World.setRow
    cases w with
    | mk heap tape drawn os output =>
      congr 1
      apply Array.ext
      · simp
      · intro k h1 h2
        simp only [Array.getElem_modify]
        split
        · rename_i hk; subst hk; simp at hv; simp [hv]
        · rfl
  | v :: rest, i, cur, w, hg, hl, h1 => by
    have hi : o + i < cur.size := by simp at hl; omega
    have hadd : (⟨g, o, none⟩ : Addr).add i = ⟨g, o + i, none⟩ := by unfold Addr.add; split <;> simp_all
    have hcell : w.cell? ⟨g, o + i, none⟩ = some cur[o + i] := by simp [World.cell?, hg, hi]
    have hfro : w.frozen? ⟨g, o + i, none⟩ = false := by simp [World.frozen?, hg]
    have hst : (store ((⟨g, o, none⟩ : Addr).add i) v).run P w = .ok () (w.setRow g (cur.setIfInBounds (o + i) v)) := by
      rw [hadd, run_store P w _ v _ (h1 v (by simp)), hcell]
      simp [hfro, setCell_eq_setRow w g (o + i) cur t (0, 0) v hg]
    have ih := run_storeCells_at g t o rest (i + 1) (cur.setIfInBounds (o + i) v) (w.setRow g (cur.setIfInBounds (o + i) v)) (setRow_heap w g cur _ t _ hg) (by simp at hl ⊢; omega) (fun x hx => h1 x (by simp [hx]))
    simp only [storeCells, Sem.run_bind, hst, Result.andThen_ok, ih, setRow_setRow]
    congr 3
    apply List.ext_getElem?
    intro k
    have hl' : o + i + (rest.length + 1) ≤ cur.size := by simpa using hl
    simp only [Array.toList_setIfInBounds, List.getElem?_append, List.length_take, List.length_set, Array.length_toList, List.length_append, List.length_cons, List.getElem?_drop, List.getElem?_take, List.getElem?_set, List.getElem?_cons]
    by_cases hk : k < o + i
    · simp [show k < o + (i + 1) by omega, show k < o + i by omega, show k < min (o + (i + 1)) cur.size + rest.length by omega, show k < min (o + (i + 1)) cur.size by omega, show k < min (o + i) cur.size + (rest.length + 1) by omega, show k < min (o + i) cur.size by omega, show o + i ≠ k by omega]
    · by_cases hk2 : k = o + i
      · subst hk2
        simp [show o + i < o + (i + 1) by omega, show min (o + (i + 1)) cur.size = o + i + 1 by omega, show min (o + i) cur.size = o + i by omega, hi, show o + i < o + i + 1 + rest.length by omega, show o + i < o + i + (rest.length + 1) by omega]
      · have e1 : min (o + (i + 1)) cur.size = o + i + 1 := by omega
        have e2 : min (o + i) cur.size = o + i := by omega
        by_cases hk3 : k < o + i + 1 + rest.length
        · simp [e1, e2, hk3, show ¬ k < o + i + 1 by omega, show ¬ k < o + i by omega, show k < o + i + (rest.length + 1) by omega, show ¬ (k - (o + i) = 0) by omega, show k - (o + i) - 1 = k - (o + i + 1) by omega]
        · simp [e1, e2, hk3, show ¬ k < o + i + (rest.length + 1) by omega, show o + (i + 1) + rest.length + (k - (o + i + 1 + rest.length)) = k by omega, show o + i + (rest.length + 1) + (k - (o + i + (rest.length + 1))) = k by omega, show o + i ≠ k by omega]
theorem wp_store_at {o : Oper} {a : Act} {K : Act → World → Prop} {Q : Exit → Act → World → Prop} (ty : TypeId) (x y : Operand) (ho : o.op = .store ty x y)
    (g off : Nat) (v : Value) (hx : a.eval x = .pointer (some ⟨g, off, none⟩)) (hy : a.eval y = v)
    (t : TypeId) (old new : Array Value) (hg : w.heap[g]? = some (.cells old t (0, 0))) (hi : (P.info? ty).map (·.size) = some v.cells.size)
    (hold : off + v.cells.size ≤ old.size) (h1 : v.cells.toList.all (·.oneCell') = true) (hnew : rowPut old off v.cells = new)
    (h : K (a.put o.dst undef) (w.setRow g new)) : o.wp P a w K Q := by
  have hrun := run_storeCells_at (P := P) g t off v.cells.toList 0 old w hg (by simp; omega) (fun u hu => (List.all_eq_true.1 h1) u hu)
  simp only [Nat.add_zero, Array.length_toList] at hrun
  have hsv : (storeVar ty ⟨g, off, none⟩ v).run P w = .ok () (w.setRow g new) := by
    cases hq : P.info? ty with
    | none => simp [hq] at hi
    | some i =>
      have hs : v.cells.size = i.size := by simp [hq] at hi; omega
      rw [← hnew]
      unfold rowPut
      simp [storeVar, sizeOf, typeInfo, hq, ← hs, hrun]
  unfold Oper.wp execOp
  simp only [ho, hx, hy, Instr.storeAt, Instr.sureAddr, Sem.run_bind, Sem.run_pure, Result.andThen_ok, hsv]
  exact h
/-- A store at an offset of a row. -/
theorem wpList_store_at {ops : Array Oper} {rest : List Oper} {o : Oper} {a : Act} {Q : Exit → Act → World → Prop} (hgd : o.guard = none) (ty : TypeId) (x y : Operand) (ho : o.op = .store ty x y)
    (g off : Nat) (v : Value) (hx : a.eval x = .pointer (some ⟨g, off, none⟩)) (hy : a.eval y = v)
    (t : TypeId) (old new : Array Value) (hg : w.heap[g]? = some (.cells old t (0, 0))) (hi : (P.info? ty).map (·.size) = some v.cells.size)
    (hold : off + v.cells.size ≤ old.size) (h1 : v.cells.toList.all (·.oneCell') = true) (hnew : rowPut old off v.cells = new)
    (h : wpList P ops Q rest (a.put o.dst undef) (w.setRow g new)) : wpList P ops Q (o :: rest) a w :=
  wpList_plain hgd fun _ hK => wp_store_at ty x y ho g off v hx hy t old new hg hi hold h1 hnew (hK _ _ h)
/-- A load of a struct at an offset of a row. -/
theorem wpList_load_at {ops : Array Oper} {rest : List Oper} {o : Oper} {a : Act} {Q : Exit → Act → World → Prop} (hgd : o.guard = none) (ty : TypeId) (x : Operand) (ho : o.op = .load ty x)
    (g off : Nat) (hx : a.eval x = .pointer (some ⟨g, off, none⟩)) (t : TypeId) (row cs : Array Value) (d : TypeDesc) (hg : w.heap[g]? = some (.cells row t (0, 0)))
    (hu : P.underlying ty = some d) (hd : (match d with | .struct _ | .array _ _ => true | _ => false) = true) (hi : (P.info? ty).map (·.size) = some cs.size) (hcs : ∀ j (v : Value), cs.toList[j]? = some v → row[off + j]? = some v)
    (h : wpList P ops Q rest (a.put o.dst (.agg cs)) w) : wpList P ops Q (o :: rest) a w := by
  have hl : (loadCells ⟨g, off, none⟩ cs.toList.length).run P w = .ok cs.toList.toArray w :=
    run_loadCells_list (P := P) w ⟨g, off, none⟩ cs.toList (fun j v hv => by
      have hadd : (⟨g, off, none⟩ : Addr).add j = ⟨g, off + j, none⟩ := by unfold Addr.add; split <;> simp_all
      rw [hadd, cell_of_row w g (off + j) row t (0, 0) hg]
      exact hcs j v hv)
  refine wpList_plain hgd fun _ hK => ?_
  have hlv : (loadVar ty ⟨g, off, none⟩).run P w = .ok (.agg cs) w := by
    cases hq : P.info? ty with
    | none => simp [hq] at hi
    | some i =>
      have hs : i.size = cs.size := by simpa [hq] using hi
      have hagg : (isAgg ty).run P w = .ok true w := by
        unfold isAgg
        rw [Sem.run_bind, run_underlying hu w]
        cases d <;> simp_all
      simp only [Array.length_toList, Array.toArray_toList] at hl
      simp [loadVar, Sem.run_bind, hagg, sizeOf, typeInfo, hq, hs, hl]
  unfold Oper.wp execOp
  simp only [ho, hx, Instr.loadAt, Instr.sureAddr, Sem.run_bind, Sem.run_pure, Result.andThen_ok, hlv]
  exact hK _ _ h
end
end Go.Proofs.YtkdhjejchdcipaaDoor
/-
  Layer 6, code: sub.
-/
namespace Go.Proofs.YtkdhjejchdcipaaDoor
open Go.RowKit
set_option linter.unusedVariables false
set_option linter.unusedSimpArgs false
set_option maxRecDepth 100000

/-- A declared type whose lists lie in blocks from B on. -/
structure OwnS (B : Nat) (W : World) (x : Sr) (s : Sb) : Prop where
  fin : x.fin = s.fin
  sups : OwnG 39 2 Hp.cs B W (.slice x.x1.a x.x1.n x.x1.c) s.sups
  comp : OwnC B W x.k x.x2 x.x3 x.x4 s.c
def SubOut (b : Nat) (A : Option Addr) (n c : Nat) (q : Sb × Rd) (w : World) (en : Ending) (w' : World) : Prop :=
  ∃ x : Sr, en = .returned (.agg #[.bool x.fin, .slice x.x1.a x.x1.n x.x1.c, .int .i64 x.k, .slice x.x2.a x.x2.n x.x2.c, .slice x.x3.a x.x3.n x.x3.c, .slice x.x4.a x.x4.n x.x4.c]) ∧ OwnS w.heap.size w' x q.1 ∧ RdAt w' b A n c q.2 ∧ Keep (Db b) w w'
abbrev noSub : Array Value := #[.bool false, .slice none 0 0, .int .i64 0, .slice none 0 0, .slice none 0 0, .slice none 0 0]
/-- How it stands within sub. -/
structure SubSt (w y : World) (b : Nat) (A : Option Addr) (n c : Nat) (r' : Rd) (row : Array Value) : Prop where
  rd : RdAt y b A n c r'
  kp : Keep (Db b) w y
  r2 : y.heap[w.heap.size]? = some (.cells noSub 29 (0, 0))
  r3 : y.heap[w.heap.size + 1]? = some (.cells row 29 (0, 0))
  sz : w.heap.size + 2 ≤ y.heap.size
section
variable {w y z : World} {b n c : Nat} {A : Option Addr} {r r' r'' : Rd} {row row' : Array Value}
theorem SubSt.call (h : SubSt w y b A n c r' row) (hr : RdAt w b A n c r) (h1 : RdAt z b A n c r'') (h2 : Keep (Db b) y z) : SubSt w z b A n c r'' row := by
  have hlt := hr.lt
  have hs := h.sz
  exact ⟨h1, h.kp.trans h2, (h2.block _ (by omega) (fun _ e => by have : w.heap.size = b := e; omega)).trans h.r2, (h2.block _ (by omega) (fun _ e => by have : w.heap.size + 1 = b := e; omega)).trans h.r3, Nat.le_trans hs h2.size⟩
theorem SubSt.set (h : SubSt w y b A n c r' row) (hr : RdAt w b A n c r) (i : Nat) (v : Value) (he : row.setIfInBounds i v = row') : SubSt w (y.setCell ⟨w.heap.size + 1, i, none⟩ v) b A n c r' row' := by
  have hs : Below w.heap.size y (y.setCell ⟨w.heap.size + 1, i, none⟩ v) := (Below.refl _ _).setCell (p := ⟨w.heap.size + 1, i, none⟩) (by dsimp only; omega) _
  refine ⟨hr.later h.kp hs h.rd.1 (hr.bs_eq h.kp h.rd) h.rd.2.2, h.kp.lies (Nat.le_refl _) hs, ?_, ?_, by simp; exact h.sz⟩
  · rw [heap_setCell_other _ _ _ _ (by dsimp only; omega)]; exact h.r2
  · rw [← he]; exact heap_setCell_same _ _ _ _ _ _ h.r3
theorem SubSt.put (h : SubSt w y b A n c r' row) (hr : RdAt w b A n c r) (row' : Array Value) : SubSt w (y.setRow (w.heap.size + 1) row') b A n c r' row' := by
  have hs : Below w.heap.size y (y.setRow (w.heap.size + 1) row') := below_setRow (Below.refl _ _) (by omega) _
  exact ⟨hr.later h.kp hs h.rd.1 (hr.bs_eq h.kp h.rd) h.rd.2.2, h.kp.lies (Nat.le_refl _) hs, (setRow_other _ _ _ _ (by omega)).trans h.r2, setRow_heap _ _ _ _ _ _ h.r3, by rw [size_setRow]; exact h.sz⟩
theorem SubSt.cell (h : SubSt w y b A n c r' row) (i : Nat) : y.cell? ⟨w.heap.size + 1, i, none⟩ = row[i]? := cell_of_row _ _ i _ _ (0, 0) h.r3
theorem SubSt.free (h : SubSt w y b A n c r' row) (i : Nat) : y.frozen? ⟨w.heap.size + 1, i, none⟩ = false := frozen_of_row _ _ _ _ _ h.r3
theorem SubSt.done (h : SubSt w y b A n c r' row) (hr : RdAt w b A n c r) : (y.setRow w.heap.size row).heap[w.heap.size]? = some (.cells row 29 (0, 0)) ∧ RdAt (y.setRow w.heap.size row) b A n c r' ∧ Keep (Db b) w (y.setRow w.heap.size row) := by
  have hs : Below w.heap.size y (y.setRow w.heap.size row) := below_setRow (Below.refl _ _) (Nat.le_refl _) _
  exact ⟨setRow_heap _ _ _ _ _ _ h.r2, hr.later h.kp hs h.rd.1 (hr.bs_eq h.kp h.rd) h.rd.2.2, h.kp.lies (Nat.le_refl _) hs⟩
theorem OwnC.imp {B : Nat} {k : Int} {x2 x3 x4 : Sl} {q : Cp} (h : OwnC B y k x2 x3 x4 q)
    (hi : ∀ {α : Type} {e sz : Nat} {cs : α → List Value} {v : Value} {l : List α}, OwnG e sz cs B y v l → OwnG e sz cs B z v l) : OwnC B z k x2 x3 x4 q := ⟨h.k, hi h.ps, hi h.rs, hi h.fs⟩
theorem OwnC.base {B B' : Nat} {k : Int} {x2 x3 x4 : Sl} {q : Cp} (h : OwnC B y k x2 x3 x4 q) (hB : B' ≤ B) : OwnC B' y k x2 x3 x4 q := ⟨h.k, h.ps.base hB, h.rs.base hB, h.fs.base hB⟩
set_option maxHeartbeats 8000000 in
theorem sub_any (h : RdAt w b A n c r) (hn : n < 1000000) (hT : Tab6 w) : Calls Tryd.prog 91 #[.pointer (some ⟨b, 0, none⟩)] w (SubOut b A n c (Tb.sub r) w) := by
  obtain ⟨W0, hW0⟩ : ∃ W0, W0 = (w.alloc (.cells noSub 29)).alloc (.cells #[.bool true, .slice none 0 0, .int .i64 0, .slice none 0 0, .slice none 0 0, .slice none 0 0] 29) := ⟨_, rfl⟩
  have HW0 := Lib.hid hW0
  have HH := Lib.hid h
  have HT := Lib.hid hT
  have Hlt := Lib.hid h.lt
  have S0 : Hid (SubSt w W0 b A n c r #[.bool true, .slice none 0 0, .int .i64 0, .slice none 0 0, .slice none 0 0, .slice none 0 0]) := Lib.hid (by
    have hB0 : Below w.heap.size w W0 := by rw [hW0]; exact ((Below.refl _ _).alloc (Nat.le_refl _) _).alloc (by simp) _
    exact ⟨h.below (Nat.le_refl _) hB0, Keep.of_below hB0, by rw [hW0]; exact heap_alloc2_old _ _ _, by rw [hW0]; exact heap_alloc2_new _ _ _, by rw [hW0]; simp⟩)
  cases hm0 : Tb.may 80 r with
  | true =>
    have HM0 := Lib.hid hm0
    have e : Tb.sub r = (⟨false, (Tb.list Tb.index (Tb.on r)).1, (Tb.comp (Tb.list Tb.index (Tb.on r)).2).1⟩, (Tb.comp (Tb.list Tb.index (Tb.on r)).2).2) := by unfold Tb.sub; simp only [hm0, if_true, if_false, Bool.false_eq_true]
    rw [e]
    have HV1 : Hid (∀ y, RdAt y b A n c (Tb.on r) → Keep (Db b) w y → Calls Tryd.prog 117 #[.pointer (some ⟨b, 0, none⟩), .func (.func 118) #[.pointer (some ⟨b, 0, none⟩)] #[]] y (ListOut b A n c 39 2 Hp.cs (Tb.list Tb.index (Tb.on r)).1 (Tb.list Tb.index (Tb.on r)).2 y)) := Lib.hid fun y hy hk => sups_any hy hn
    obtain ⟨q1, hq1⟩ : ∃ q, Tb.list Tb.index (Tb.on r) = q := ⟨_, rfl⟩
    rw [hq1] at HV1 ⊢
    have HC : Hid (∀ y, RdAt y b A n c q1.2 → Keep (Db b) w y → Calls Tryd.prog 119 #[.pointer (some ⟨b, 0, none⟩)] y (CompOut b A n c (Tb.comp q1.2) y)) := Lib.hid fun y hy hk => comp_any hy hn (HT.out.out HH.out hk)
    obtain ⟨q2, hq2⟩ : ∃ q, Tb.comp q1.2 = q := ⟨_, rfl⟩
    rw [hq2] at HC ⊢
    clear h hT hW0 e hq2 hm0 hq1
    go_enter Tryd.func91, Tryd.ntmps91
    go_wp2_with fail
    rw [← HW0.out]
    go_wp2_with (first
      | (go_at_call 85; (with_reducible refine (may_yes S0.out.rd 80 80 rfl HM0.out).mono ?_); rintro e y0 ⟨rfl, h1, h2⟩; have S0 := Lib.hid (S0.out.call HH.out h1 h2); clear h1 h2; have p0 := S0.out.cell 0; have g0 := S0.out.free 0; have S0 := Lib.hid (S0.out.set HH.out 0 (.bool false) (row' := #[.bool false, .slice none 0 0, .int .i64 0, .slice none 0 0, .slice none 0 0, .slice none 0 0]) rfl))
      | (go_at_call 117; (with_reducible refine (HV1.out _ S0.out.rd S0.out.kp).mono ?_); rintro e v1 ⟨x1, rfl, ho, h1, h2⟩; have hz0 := S0.out.sz; have S0 := Lib.hid (S0.out.call HH.out h1 h2); have p1 := S0.out.cell 1; have g1 := S0.out.free 1; have S0 := Lib.hid (S0.out.set HH.out 1 (.slice x1.a x1.n x1.c) (row' := #[.bool false, .slice x1.a x1.n x1.c, .int .i64 0, .slice none 0 0, .slice none 0 0, .slice none 0 0]) rfl); have HX := Lib.hid ((ho.base hz0).setCell_far (g := w.heap.size + 1) (by omega) 1 (.slice x1.a x1.n x1.c)); clear ho h1 h2 hz0)
      | (go_at_call 119; (with_reducible refine (HC.out _ S0.out.rd S0.out.kp).mono ?_); rintro e v2 ⟨k, x2, x3, x4, rfl, hc, h1, h2⟩; have hz0 := S0.out.sz; have S1 := Lib.hid (S0.out.call HH.out h1 h2); have S0 := Lib.hid (S1.out.put HH.out #[.bool false, .slice x1.a x1.n x1.c, .int .i64 k, .slice x2.a x2.n x2.c, .slice x3.a x3.n x3.c, .slice x4.a x4.n x4.c]); have HCC := Lib.hid ((hc.base hz0).imp (fun ho => ho.setRow_far (g := w.heap.size + 1) (by omega) #[.bool false, .slice x1.a x1.n x1.c, .int .i64 k, .slice x2.a x2.n x2.c, .slice x3.a x3.n x3.c, .slice x4.a x4.n x4.c])); have HX := Lib.hid ((HX.out.keepb (by have := Hlt.out; omega) h2).setRow_far (g := w.heap.size + 1) (by omega) #[.bool false, .slice x1.a x1.n x1.c, .int .i64 k, .slice x2.a x2.n x2.c, .slice x3.a x3.n x3.c, .slice x4.a x4.n x4.c]); clear hc h1 h2 hz0)
      | (refine wpList_store_at rfl 27 (.tmp 24) (.tmp 23) rfl (w.heap.size + 1) 2 (.agg #[.int .i64 k, .slice x2.a x2.n x2.c, .slice x3.a x3.n x3.c, .slice x4.a x4.n x4.c]) rfl rfl _ _ #[.bool false, .slice x1.a x1.n x1.c, .int .i64 k, .slice x2.a x2.n x2.c, .slice x3.a x3.n x3.c, .slice x4.a x4.n x4.c] S1.out.r3 (by kernel_rfl) (Nat.le_refl 6) (by rfl) (by rfl) ?_)
      | (refine wpList_load_row rfl 29 (.tmp 3) rfl (w.heap.size + 1) rfl _ _ _ _ S0.out.r3 Tryd.underlying29 rfl (by kernel_rfl) ?_)
      | (refine wpList_store_row rfl 29 (.tmp 2) (.tmp 25) rfl w.heap.size #[.bool false, .slice x1.a x1.n x1.c, .int .i64 k, .slice x2.a x2.n x2.c, .slice x3.a x3.n x3.c, .slice x4.a x4.n x4.c] rfl rfl _ _ S0.out.r2 (by kernel_rfl) rfl (by simp [Value.oneCell']) ?_))
    have D := S0.out.done HH.out
    exact bodyPost_ret (results_cell_row rfl _ _ w.heap.size _ _ (0, 0) _ rfl D.1 Tryd.underlying29 rfl (by as_aux_lemma => kernel_rfl)) rfl ⟨⟨false, x1, k, x2, x3, x4⟩, rfl, ⟨rfl, (HX.out.setRow_far (by omega) _).base (by omega), (HCC.out.imp (fun ho => ho.setRow_far (by omega) _)).base (by omega)⟩, D.2.1, D.2.2⟩
  | false =>
    cases hm1 : Tb.may 79 r with
    | true =>
      have HM0 := Lib.hid hm0
      have HM1 := Lib.hid hm1
      have e : Tb.sub r = (⟨true, (Tb.list Tb.index (Tb.on r)).1, (Tb.comp (Tb.list Tb.index (Tb.on r)).2).1⟩, (Tb.comp (Tb.list Tb.index (Tb.on r)).2).2) := by unfold Tb.sub; simp only [hm0, hm1, if_true, if_false, Bool.false_eq_true]
      rw [e]
      have HV1 : Hid (∀ y, RdAt y b A n c (Tb.on r) → Keep (Db b) w y → Calls Tryd.prog 117 #[.pointer (some ⟨b, 0, none⟩), .func (.func 118) #[.pointer (some ⟨b, 0, none⟩)] #[]] y (ListOut b A n c 39 2 Hp.cs (Tb.list Tb.index (Tb.on r)).1 (Tb.list Tb.index (Tb.on r)).2 y)) := Lib.hid fun y hy hk => sups_any hy hn
      obtain ⟨q1, hq1⟩ : ∃ q, Tb.list Tb.index (Tb.on r) = q := ⟨_, rfl⟩
      rw [hq1] at HV1 ⊢
      have HC : Hid (∀ y, RdAt y b A n c q1.2 → Keep (Db b) w y → Calls Tryd.prog 119 #[.pointer (some ⟨b, 0, none⟩)] y (CompOut b A n c (Tb.comp q1.2) y)) := Lib.hid fun y hy hk => comp_any hy hn (HT.out.out HH.out hk)
      obtain ⟨q2, hq2⟩ : ∃ q, Tb.comp q1.2 = q := ⟨_, rfl⟩
      rw [hq2] at HC ⊢
      clear h hT hW0 e hq2 hm0 hm1 hq1
      go_enter Tryd.func91, Tryd.ntmps91
      go_wp2_with fail
      rw [← HW0.out]
      go_wp2_with (first
        | (go_at_call 85; (with_reducible refine (may_no S0.out.rd 80 80 rfl HM0.out).mono ?_); rintro e y0 ⟨rfl, h1, h2⟩; have S0 := Lib.hid (S0.out.call HH.out h1 h2); clear h1 h2)
        | (go_at_call 85; (with_reducible refine (may_yes S0.out.rd 79 79 rfl HM1.out).mono ?_); rintro e y1 ⟨rfl, h1, h2⟩; have S0 := Lib.hid (S0.out.call HH.out h1 h2); clear h1 h2)
        | (go_at_call 117; (with_reducible refine (HV1.out _ S0.out.rd S0.out.kp).mono ?_); rintro e v1 ⟨x1, rfl, ho, h1, h2⟩; have hz0 := S0.out.sz; have S0 := Lib.hid (S0.out.call HH.out h1 h2); have p1 := S0.out.cell 1; have g1 := S0.out.free 1; have S0 := Lib.hid (S0.out.set HH.out 1 (.slice x1.a x1.n x1.c) (row' := #[.bool true, .slice x1.a x1.n x1.c, .int .i64 0, .slice none 0 0, .slice none 0 0, .slice none 0 0]) rfl); have HX := Lib.hid ((ho.base hz0).setCell_far (g := w.heap.size + 1) (by omega) 1 (.slice x1.a x1.n x1.c)); clear ho h1 h2 hz0)
        | (go_at_call 119; (with_reducible refine (HC.out _ S0.out.rd S0.out.kp).mono ?_); rintro e v2 ⟨k, x2, x3, x4, rfl, hc, h1, h2⟩; have hz0 := S0.out.sz; have S1 := Lib.hid (S0.out.call HH.out h1 h2); have S0 := Lib.hid (S1.out.put HH.out #[.bool true, .slice x1.a x1.n x1.c, .int .i64 k, .slice x2.a x2.n x2.c, .slice x3.a x3.n x3.c, .slice x4.a x4.n x4.c]); have HCC := Lib.hid ((hc.base hz0).imp (fun ho => ho.setRow_far (g := w.heap.size + 1) (by omega) #[.bool true, .slice x1.a x1.n x1.c, .int .i64 k, .slice x2.a x2.n x2.c, .slice x3.a x3.n x3.c, .slice x4.a x4.n x4.c])); have HX := Lib.hid ((HX.out.keepb (by have := Hlt.out; omega) h2).setRow_far (g := w.heap.size + 1) (by omega) #[.bool true, .slice x1.a x1.n x1.c, .int .i64 k, .slice x2.a x2.n x2.c, .slice x3.a x3.n x3.c, .slice x4.a x4.n x4.c]); clear hc h1 h2 hz0)
        | (refine wpList_store_at rfl 27 (.tmp 24) (.tmp 23) rfl (w.heap.size + 1) 2 (.agg #[.int .i64 k, .slice x2.a x2.n x2.c, .slice x3.a x3.n x3.c, .slice x4.a x4.n x4.c]) rfl rfl _ _ #[.bool true, .slice x1.a x1.n x1.c, .int .i64 k, .slice x2.a x2.n x2.c, .slice x3.a x3.n x3.c, .slice x4.a x4.n x4.c] S1.out.r3 (by kernel_rfl) (Nat.le_refl 6) (by rfl) (by rfl) ?_)
        | (refine wpList_load_row rfl 29 (.tmp 3) rfl (w.heap.size + 1) rfl _ _ _ _ S0.out.r3 Tryd.underlying29 rfl (by kernel_rfl) ?_)
        | (refine wpList_store_row rfl 29 (.tmp 2) (.tmp 25) rfl w.heap.size #[.bool true, .slice x1.a x1.n x1.c, .int .i64 k, .slice x2.a x2.n x2.c, .slice x3.a x3.n x3.c, .slice x4.a x4.n x4.c] rfl rfl _ _ S0.out.r2 (by kernel_rfl) rfl (by simp [Value.oneCell']) ?_))
      have D := S0.out.done HH.out
      exact bodyPost_ret (results_cell_row rfl _ _ w.heap.size _ _ (0, 0) _ rfl D.1 Tryd.underlying29 rfl (by as_aux_lemma => kernel_rfl)) rfl ⟨⟨true, x1, k, x2, x3, x4⟩, rfl, ⟨rfl, (HX.out.setRow_far (by omega) _).base (by omega), (HCC.out.imp (fun ho => ho.setRow_far (by omega) _)).base (by omega)⟩, D.2.1, D.2.2⟩
    | false =>
      have HM0 := Lib.hid hm0
      have HM1 := Lib.hid hm1
      have e : Tb.sub r = (⟨true, [], (Tb.comp r).1⟩, (Tb.comp r).2) := by unfold Tb.sub; simp only [hm0, hm1, if_true, if_false, Bool.false_eq_true]
      rw [e]
      have HC : Hid (∀ y, RdAt y b A n c r → Keep (Db b) w y → Calls Tryd.prog 119 #[.pointer (some ⟨b, 0, none⟩)] y (CompOut b A n c (Tb.comp r) y)) := Lib.hid fun y hy hk => comp_any hy hn (HT.out.out HH.out hk)
      obtain ⟨q2, hq2⟩ : ∃ q, Tb.comp r = q := ⟨_, rfl⟩
      rw [hq2] at HC ⊢
      clear h hT hW0 e hq2 hm0 hm1
      go_enter Tryd.func91, Tryd.ntmps91
      go_wp2_with fail
      rw [← HW0.out]
      go_wp2_with (first
        | (go_at_call 85; (with_reducible refine (may_no S0.out.rd 80 80 rfl HM0.out).mono ?_); rintro e y0 ⟨rfl, h1, h2⟩; have S0 := Lib.hid (S0.out.call HH.out h1 h2); clear h1 h2)
        | (go_at_call 85; (with_reducible refine (may_no S0.out.rd 79 79 rfl HM1.out).mono ?_); rintro e y1 ⟨rfl, h1, h2⟩; have S0 := Lib.hid (S0.out.call HH.out h1 h2); clear h1 h2)
        | (go_at_call 119; (with_reducible refine (HC.out _ S0.out.rd S0.out.kp).mono ?_); rintro e v2 ⟨k, x2, x3, x4, rfl, hc, h1, h2⟩; have hz0 := S0.out.sz; have S1 := Lib.hid (S0.out.call HH.out h1 h2); have S0 := Lib.hid (S1.out.put HH.out #[.bool true, .slice none 0 0, .int .i64 k, .slice x2.a x2.n x2.c, .slice x3.a x3.n x3.c, .slice x4.a x4.n x4.c]); have HCC := Lib.hid ((hc.base hz0).imp (fun ho => ho.setRow_far (g := w.heap.size + 1) (by omega) #[.bool true, .slice none 0 0, .int .i64 k, .slice x2.a x2.n x2.c, .slice x3.a x3.n x3.c, .slice x4.a x4.n x4.c])); clear hc h1 h2 hz0)
        | (refine wpList_store_at rfl 27 (.tmp 24) (.tmp 23) rfl (w.heap.size + 1) 2 (.agg #[.int .i64 k, .slice x2.a x2.n x2.c, .slice x3.a x3.n x3.c, .slice x4.a x4.n x4.c]) rfl rfl _ _ #[.bool true, .slice none 0 0, .int .i64 k, .slice x2.a x2.n x2.c, .slice x3.a x3.n x3.c, .slice x4.a x4.n x4.c] S1.out.r3 (by kernel_rfl) (Nat.le_refl 6) (by rfl) (by rfl) ?_)
        | (refine wpList_load_row rfl 29 (.tmp 3) rfl (w.heap.size + 1) rfl _ _ _ _ S0.out.r3 Tryd.underlying29 rfl (by kernel_rfl) ?_)
        | (refine wpList_store_row rfl 29 (.tmp 2) (.tmp 25) rfl w.heap.size #[.bool true, .slice none 0 0, .int .i64 k, .slice x2.a x2.n x2.c, .slice x3.a x3.n x3.c, .slice x4.a x4.n x4.c] rfl rfl _ _ S0.out.r2 (by kernel_rfl) rfl (by simp [Value.oneCell']) ?_))
      have D := S0.out.done HH.out
      exact bodyPost_ret (results_cell_row rfl _ _ w.heap.size _ _ (0, 0) _ rfl D.1 Tryd.underlying29 rfl (by as_aux_lemma => kernel_rfl)) rfl ⟨⟨true, Sl.no, k, x2, x3, x4⟩, rfl, ⟨rfl, OwnG.nil _ _, (HCC.out.imp (fun ho => ho.setRow_far (by omega) _)).base (by omega)⟩, D.2.1, D.2.2⟩
end
end Go.Proofs.YtkdhjejchdcipaaDoor
/-
  Layer 6, code: Rec.
-/
namespace Go.Proofs.YtkdhjejchdcipaaDoor
open Go.RowKit
set_option linter.unusedVariables false
set_option linter.unusedSimpArgs false
set_option maxRecDepth 100000

/-- The blocks of a declared type's lists. -/
def Sr.uses (x : Sr) (g : Nat) : Prop := (Value.slice x.x1.a x.x1.n x.x1.c).ownBlock = some g ∨ (Value.slice x.x2.a x.x2.n x.x2.c).ownBlock = some g ∨ (Value.slice x.x3.a x.x3.n x.x3.c).ownBlock = some g ∨ (Value.slice x.x4.a x.x4.n x.x4.c).ownBlock = some g
section
variable {w y z : World} {b n c : Nat} {A : Option Addr} {r r' r'' : Rd}
theorem OwnG.blocks {α : Type} {e sz B : Nat} {cs : α → List Value} {v : Value} {l : List α} (h : OwnG e sz cs B y v l) (hg : ∀ g, v.ownBlock = some g → z.heap[g]? = y.heap[g]?) : OwnG e sz cs B z v l := by
  refine ⟨h.1, ?_⟩
  rcases h.2 with hn | ⟨g, cap, cur, rfl, hb, hgg, rest⟩
  · exact .inl hn
  · exact .inr ⟨g, cap, cur, rfl, hb, (hg g rfl).trans hgg, rest⟩
theorem OwnS.blocks {B : Nat} {x : Sr} {s : Sb} (h : OwnS B y x s) (hg : ∀ g, x.uses g → z.heap[g]? = y.heap[g]?) : OwnS B z x s :=
  ⟨h.fin, h.sups.blocks (fun g e => hg g (.inl e)), ⟨h.comp.k, h.comp.ps.blocks (fun g e => hg g (.inr (.inl e))), h.comp.rs.blocks (fun g e => hg g (.inr (.inr (.inl e)))), h.comp.fs.blocks (fun g e => hg g (.inr (.inr (.inr e))))⟩⟩
theorem OwnS.lt {B : Nat} {x : Sr} {s : Sb} (h : OwnS B y x s) : ∀ g, x.uses g → B ≤ g ∧ g < y.heap.size := fun g hu => by
  rcases hu with hu | hu | hu | hu
  · exact h.sups.lt g hu
  · exact h.comp.ps.lt g hu
  · exact h.comp.rs.lt g hu
  · exact h.comp.fs.lt g hu
theorem OwnS.base {B B' : Nat} {x : Sr} {s : Sb} (h : OwnS B y x s) (hB : B' ≤ B) : OwnS B' y x s := ⟨h.fin, h.sups.base hB, h.comp.base hB⟩
theorem OwnS.below {B : Nat} {x : Sr} {s : Sb} (h : OwnS B y x s) (hb : Below y.heap.size y z) : OwnS B z x s := h.blocks (fun g hu => hb.block g (h.lt g hu).2)
def RecOut (b : Nat) (A : Option Addr) (n c : Nat) (q : List Sb × Rd) (w : World) (en : Ending) (w' : World) : Prop :=
  ∃ (x : Sl) (xs : List Sr), en = .returned (.slice x.a x.n x.c) ∧ OwnG 29 6 Sr.cs w.heap.size w' (.slice x.a x.n x.c) xs ∧ All2 (OwnS w.heap.size w') xs q.1 ∧ RdAt w' b A n c q.2 ∧ Keep (Db b) w w'
theorem subs_any (h : RdAt w b A n c r) (hn : n < 1000000) (hT : Tab6 w) :
    Calls Tryd.prog 90 #[.pointer (some ⟨b, 0, none⟩), .func (.func 91) #[.pointer (some ⟨b, 0, none⟩)] #[]] w (RecOut b A n c (Tb.list Tb.sub r) w) :=
  (listS_any h hn Tb.sub (OwnS w.heap.size) Sr.uses 91 (enters_of Tryd.func91 (by kernel_rfl) rfl)
    (fun _ _ _ _ h _ hg => h.blocks hg) (fun y r' hy hk => (sub_any hy hn (hT.out h hk)).mono fun e y' ⟨x, h1, h2, h3, h4⟩ => ⟨x, h1, h2.base hk.size, h2.lt, h3, h4⟩)).mono
    fun e w' ⟨v, xs, h1, h2, h3, _, h5, h6⟩ => by
      obtain ⟨x, rfl⟩ := h2.sl
      exact ⟨x, xs, h1, h2, h3, h5, h6⟩
set_option maxHeartbeats 4000000 in
theorem Rec_any (h : RdAt w b A n c r) (hn : n < 1000000) (hT : Tab6 w) : Calls Tryd.prog 45 #[.pointer (some ⟨b, 0, none⟩)] w (RecOut b A n c (Tb.rec_ r) w) := by
  have HH := Lib.hid h
  have HT := Lib.hid hT
  cases hm0 : Tb.may 78 r with
  | true =>
    have HM0 := Lib.hid hm0
    have e : Tb.rec_ r = Tb.list Tb.sub (Tb.on r) := by unfold Tb.rec_; rw [if_pos hm0]
    rw [e]
    have HV1 : Hid (∀ y, RdAt y b A n c (Tb.on r) → Keep (Db b) w y → Calls Tryd.prog 90 #[.pointer (some ⟨b, 0, none⟩), .func (.func 91) #[.pointer (some ⟨b, 0, none⟩)] #[]] y (RecOut b A n c (Tb.list Tb.sub (Tb.on r)) y)) := Lib.hid fun y hy hk => subs_any hy hn (HT.out.out HH.out hk)
    obtain ⟨q, hq⟩ : ∃ q, Tb.list Tb.sub (Tb.on r) = q := ⟨_, rfl⟩
    rw [hq] at HV1 ⊢
    clear h hT e hm0 hq
    go_enter Tryd.func45, Tryd.ntmps45
    go_wp2_with (first
      | (go_at_call 85; (with_reducible refine (may_yes HH.out 78 78 rfl HM0.out).mono ?_); rintro e w1 ⟨rfl, h1, h2⟩; have hR := Lib.hid h1; have hK := Lib.hid h2; clear h1 h2)
      | (go_at_call 90; (with_reducible refine (HV1.out _ hR.out hK.out).mono ?_); rintro e w2 ⟨x, xs, rfl, h1, h2, h3, h4⟩; have G1 := Lib.hid h1; have G2 := Lib.hid h2; have G3 := Lib.hid h3; have G4 := Lib.hid h4; clear h1 h2 h3 h4))
    go_ret
    exact ⟨x, xs, rfl, G1.out.base hK.out.size, All2.imp (fun _ _ h => h.base hK.out.size) G2.out, G3.out, hK.out.trans G4.out⟩
  | false =>
    have HM0 := Lib.hid hm0
    have HV1 : Hid (∀ y, RdAt y b A n c r → Keep (Db b) w y → Calls Tryd.prog 91 #[.pointer (some ⟨b, 0, none⟩)] y (SubOut b A n c (Tb.sub r) y)) := Lib.hid fun y hy hk => sub_any hy hn (HT.out.out HH.out hk)
    have e : Tb.rec_ r = if (Tb.sub r).2.e = 0 then ([(Tb.sub r).1], (Tb.sub r).2) else ([], (Tb.sub r).2) := by unfold Tb.rec_; rw [if_neg (by simp [hm0])]
    rw [e]
    obtain ⟨q, hq⟩ : ∃ q, Tb.sub r = q := ⟨_, rfl⟩
    rw [hq] at HV1 ⊢
    by_cases he : q.2.e = 0
    · rw [if_pos he]
      have HG : Hid (∀ y, RdAt y b A n c q.2 → Calls Tryd.prog 92 #[.pointer (some ⟨b, 0, none⟩)] y fun e w' => e = .returned (.bool true) ∧ y = w') := Lib.hid fun y hy => goes_any hy true (by simp [he])
      clear h hT e hm0 hq he
      go_enter Tryd.func45, Tryd.ntmps45
      go_wp2_with (first
        | (go_at_call 85; (with_reducible refine (may_no HH.out 78 78 rfl HM0.out).mono ?_); rintro e w1 ⟨rfl, h1, h2⟩; have hR := Lib.hid h1; have hK := Lib.hid h2; clear h1 h2)
        | (go_at_call 91; (with_reducible refine (HV1.out _ hR.out hK.out).mono ?_); rintro e w2 ⟨x, rfl, h1, h3, h4⟩; have hB2 : Hid (Below w2.heap.size w2 (w2.alloc (.cells #[.bool x.fin, .slice x.x1.a x.x1.n x.x1.c, .int .i64 x.k, .slice x.x2.a x.x2.n x.x2.c, .slice x.x3.a x.x3.n x.x3.c, .slice x.x4.a x.x4.n x.x4.c] 29))) := Lib.hid ((Below.refl _ _).alloc (Nat.le_refl _) _); have hr3 : Hid ((w2.alloc (.cells #[.bool x.fin, .slice x.x1.a x.x1.n x.x1.c, .int .i64 x.k, .slice x.x2.a x.x2.n x.x2.c, .slice x.x3.a x.x3.n x.x3.c, .slice x.x4.a x.x4.n x.x4.c] 29)).heap[w2.heap.size]? = some (.cells #[.bool x.fin, .slice x.x1.a x.x1.n x.x1.c, .int .i64 x.k, .slice x.x2.a x.x2.n x.x2.c, .slice x.x3.a x.x3.n x.x3.c, .slice x.x4.a x.x4.n x.x4.c] 29 (0, 0))) := Lib.hid (World.alloc_heap_new _ _); have hS := Lib.hid (h1.below hB2.out); have hR := Lib.hid (h3.below (Nat.le_refl _) hB2.out); have hK1 := Lib.hid hK.out.size; have hK := Lib.hid ((hK.out.trans h4).trans (Keep.of_below hB2.out)); clear h1 h3 h4)
        | (go_at_call 92; (with_reducible refine (HG.out _ hR.out).mono ?_); rintro e w3 ⟨rfl, rfl⟩)
        | (refine wpList_load_row rfl 29 (.tmp 3) rfl w2.heap.size rfl _ _ _ _ hr3.out Tryd.underlying29 rfl (by kernel_rfl) ?_))
      go_ret
      have hb3 : Below (w2.alloc (.cells #[.bool x.fin, .slice x.x1.a x.x1.n x.x1.c, .int .i64 x.k, .slice x.x2.a x.x2.n x.x2.c, .slice x.x3.a x.x3.n x.x3.c, .slice x.x4.a x.x4.n x.x4.c] 29)).heap.size (w2.alloc (.cells #[.bool x.fin, .slice x.x1.a x.x1.n x.x1.c, .int .i64 x.k, .slice x.x2.a x.x2.n x.x2.c, .slice x.x3.a x.x3.n x.x3.c, .slice x.x4.a x.x4.n x.x4.c] 29)) _ := (Below.refl _ _).alloc (Nat.le_refl _) (.cells #[.bool x.fin, .slice x.x1.a x.x1.n x.x1.c, .int .i64 x.k, .slice x.x2.a x.x2.n x.x2.c, .slice x.x3.a x.x3.n x.x3.c, .slice x.x4.a x.x4.n x.x4.c] 29)
      refine ⟨⟨some ⟨(w2.alloc (.cells #[.bool x.fin, .slice x.x1.a x.x1.n x.x1.c, .int .i64 x.k, .slice x.x2.a x.x2.n x.x2.c, .slice x.x3.a x.x3.n x.x3.c, .slice x.x4.a x.x4.n x.x4.c] 29)).heap.size, 0, none⟩, 1, 1⟩, [x], ?_, OwnG.lit1 elemSub _ hK.out.size x _ rfl, ⟨(hS.out.base hK1.out).below hb3, trivial⟩, hR.out.below (Nat.le_refl _) hb3, hK.out.trans (Keep.of_below hb3)⟩
      simp
    · rw [if_neg he]
      have HG : Hid (∀ y, RdAt y b A n c q.2 → Calls Tryd.prog 92 #[.pointer (some ⟨b, 0, none⟩)] y fun e w' => e = .returned (.bool false) ∧ y = w') := Lib.hid fun y hy => goes_any hy false (by simp [he])
      clear h hT e hm0 hq he
      go_enter Tryd.func45, Tryd.ntmps45
      go_wp2_with (first
        | (go_at_call 85; (with_reducible refine (may_no HH.out 78 78 rfl HM0.out).mono ?_); rintro e w1 ⟨rfl, h1, h2⟩; have hR := Lib.hid h1; have hK := Lib.hid h2; clear h1 h2)
        | (go_at_call 91; (with_reducible refine (HV1.out _ hR.out hK.out).mono ?_); rintro e w2 ⟨x, rfl, h1, h3, h4⟩; have hB2 : Hid (Below w2.heap.size w2 (w2.alloc (.cells #[.bool x.fin, .slice x.x1.a x.x1.n x.x1.c, .int .i64 x.k, .slice x.x2.a x.x2.n x.x2.c, .slice x.x3.a x.x3.n x.x3.c, .slice x.x4.a x.x4.n x.x4.c] 29))) := Lib.hid ((Below.refl _ _).alloc (Nat.le_refl _) _); have hR := Lib.hid (h3.below (Nat.le_refl _) hB2.out); have hK := Lib.hid ((hK.out.trans h4).trans (Keep.of_below hB2.out)); clear h1 h3 h4)
        | (go_at_call 92; (with_reducible refine (HG.out _ hR.out).mono ?_); rintro e w3 ⟨rfl, rfl⟩))
      go_ret
      exact ⟨Sl.no, [], rfl, OwnG.nil _ _, trivial, hR.out, hK.out⟩
end
end Go.Proofs.YtkdhjejchdcipaaDoor
/-
  Layer 6: what the statements ask first ('known').
-/
namespace Go.Proofs.YtkdhjejchdcipaaDoor
open Go.RowKit
set_option linter.unusedVariables false
set_option linter.unusedSimpArgs false
set_option maxRecDepth 100000

section
variable {w y z : World} {b b2 n n2 c c2 : Nat} {A A2 : Option Addr} {r r2 r' r'' : Rd}
/-- Another reader reads. -/
theorem RdAt.other (h : RdAt y b A n c r) (h2 : RdAt y b2 A2 n2 c2 r2) (hne : b ≠ b2) (hk : Keep (Db b2) y z) : RdAt z b A n c r := by
  refine ⟨(hk.block b h.lt (fun _ e => hne e)).trans h.1, h.2.1.kept hk.size h2.noByte hk, h.2.2⟩
theorem Open_lit (w : World) (l : List Nat) (zs : Array Value) (hz : zs = (l.map U8).toArray) (hl : ∀ x ∈ l, x < 256) (hn : l.length < 1000000) :
    Calls Tryd.prog 24 #[.slice (some ⟨w.heap.size, 0, none⟩) l.length l.length] (w.alloc (.cells zs 5)) fun e w' => ∃ b A' c', e = .returned (.pointer (some ⟨b, 0, none⟩)) ∧ w.heap.size ≤ b ∧ RdAt w' b A' l.length c' (Tb.opened l) ∧ Below w.heap.size w w' := by
  subst hz
  have hb : Below w.heap.size w (w.alloc (.cells (l.map U8).toArray 5)) := (Below.refl _ _).alloc (Nat.le_refl _) _
  refine (Open_any ((bytes_new w l hl hn).more (by simp)) hn).mono ?_
  rintro e w' ⟨b, A', c', h1, h2, h3, h4⟩
  simp only [World.size_alloc] at h2
  exact ⟨b, A', c', h1, by omega, h3, hb.trans (h4.mono (by simp))⟩
/-- How it stands within known: a reader, a variable, the table. -/
structure KSt (w y : World) (b : Nat) (A : Option Addr) (n c : Nat) (r : Rd) (bv : Nat) : Prop where
  rd : RdAt y b A n c r
  row : y.heap[bv]? = some (.cells #[.int .i64 3, .bool false, .int .i64 13, .int .i64 5] 46 (0, 0))
  tab : Tab6 y
  below : Below w.heap.size w y
theorem KSt.lt {bv : Nat} (h : KSt w y b A n c r bv) : bv < y.heap.size := (Array.getElem?_eq_some_iff.1 h.row).1
theorem KSt.step {bv : Nat} (h : KSt w y b A n c r bv) {B : Nat} (hB : y.heap.size ≤ B) (hb : Below B y z) : KSt w z b A n c r bv :=
  have hb' := hb.mono hB
  ⟨h.rd.below (Nat.le_refl _) hb', (hb'.block bv (Array.getElem?_eq_some_iff.1 h.row).1).trans h.row, h.tab.below hb', h.below.trans (hb'.mono h.below.size)⟩
theorem KSt.call {bv : Nat} (h : KSt w y b A n c r bv) (h2 : RdAt y b2 A2 n2 c2 r2) (hne : b ≠ b2) (hv : bv ≠ b2) (hw : w.heap.size ≤ b2) (hk : Keep (Db b2) y z) : KSt w z b A n c r bv :=
  ⟨h.rd.other h2 hne hk, (hk.block bv (Array.getElem?_eq_some_iff.1 h.row).1 (fun _ e => hv e)).trans h.row, h.tab.out h2 hk, h.below.trans (hk.below h.below.size (fun k o hk' e => by have : k = b2 := e; omega))⟩
theorem val_is (h : RdAt w b A n c r) (hT : Tab6 w) (v : Vl) (r1 : Rd) (hv : Tb.val r = (v, r1)) : Calls Tryd.prog 39 #[.pointer (some ⟨b, 0, none⟩)] w (RdOut b A n c v.val r1 w) := by
  have := Val_rd h hT
  rw [hv] at this
  exact this
theorem rec_is (h : RdAt w b A n c r) (hn : n < 1000000) (hT : Tab6 w) (q : List Sb × Rd) (hv : Tb.rec_ r = q) : Calls Tryd.prog 45 #[.pointer (some ⟨b, 0, none⟩)] w (RecOut b A n c q w) := by
  have := Rec_any h hn hT
  rw [hv] at this
  exact this
set_option maxHeartbeats 8000000 in
theorem known6_any (w : World) (hT : Tab6 w) : Calls Tryd.prog 23 #[] w fun e w' => e = .returned (.bool true) ∧ Below w.heap.size w w' := by
  obtain ⟨Q, hQ⟩ : ∃ Q : Ending → World → Prop, Q = (fun e w' => e = .returned (.bool true) ∧ Below w.heap.size w w') := ⟨_, rfl⟩
  rw [← hQ]
  have HQ := Lib.hid hQ
  have HT := Lib.hid hT
  have v1 : Hid (Tb.val (Tb.opened [100, 133, 0]) = (⟨3, false, ⟨13, 5⟩⟩, ⟨[100, 133, 0], 3, 0, 0⟩)) := Lib.hid (by decide +kernel)
  have v2 : Hid (Tb.val (Tb.opened [100, 127]) = (Tb.noVal, ⟨[100, 127], 1, 60, 1⟩)) := Lib.hid (by decide +kernel)
  have v3 : Hid (Tb.val (Tb.opened [125]) = (Tb.noVal, ⟨[125], 0, 61, 0⟩)) := Lib.hid (by decide +kernel)
  have v4 : Hid (Tb.rec_ (Tb.opened [96, 1, 127, 0]) = ([⟨true, [], ⟨1, [⟨1, false, ⟨0, 0⟩⟩], [], []⟩⟩], ⟨[96, 1, 127, 0], 4, 0, 0⟩)) := Lib.hid (by decide +kernel)
  clear hT hQ
  go_enter Tryd.func23, Tryd.ntmps23
  go_wp2_with fail
  refine (Open_lit w [100, 133, 0] _ rfl (by decide) (by decide)).mono ?_
  rintro e w1 ⟨b1, A1, c1, rfl, hz1, h1, hb1⟩
  have HT1 := Lib.hid (HT.out.below hb1)
  go_wp2_with fail
  refine (val_is h1 HT1.out _ _ v1.out).mono ?_
  rintro e w2 ⟨rfl, h2, k2⟩
  have S0 : KSt w (w2.alloc (.cells #[.int .i64 3, .bool false, .int .i64 13, .int .i64 5] 46)) b1 A1 3 c1 ⟨[100, 133, 0], 3, 0, 0⟩ w2.heap.size := by
    have hb : Below w2.heap.size w2 (w2.alloc (.cells #[.int .i64 3, .bool false, .int .i64 13, .int .i64 5] 46)) := (Below.refl _ _).alloc (Nat.le_refl _) _
    have hw2 : Below w.heap.size w w2 := hb1.trans (k2.below hb1.size (fun k o hk' e => by have : k = b1 := e; omega))
    exact ⟨h2.below (Nat.le_refl _) hb, World.alloc_heap_new _ _, (HT1.out.out h1 k2).below hb, hw2.trans (hb.mono hw2.size)⟩
  have S := Lib.hid S0
  have hz2 : b1 < w2.heap.size := h2.lt
  clear h1 h2 k2 hb1 S0
  -- r.Err()
  have E1 := Lib.hid (Err_any S.out.rd)
  go_wp2_with fail
  refine E1.out.mono ?_
  rintro e w3 ⟨rfl, m, hwm⟩
  have S := Lib.hid (S.out.step (z := w3) (Nat.le_refl _) (by rw [hwm]; exact below_drewN (Below.refl _ _) m))
  have hlm := S.out.rd.lt
  have hvm := S.out.lt
  clear hwm
  have HWs := Lib.hid S.out.below.size
  go_wp2_with fail
  refine (Open_lit _ [100, 127] _ rfl (by decide) (by decide)).mono ?_
  rintro e w4 ⟨b2, A2, c2, rfl, hz3, h1, hb1⟩
  have S := Lib.hid (S.out.step (Nat.le_refl _) hb1)
  go_wp2_with fail
  refine (val_is h1 S.out.tab _ _ v2.out).mono ?_
  rintro e w5 ⟨rfl, h2, k2⟩
  have S := Lib.hid (S.out.call h1 (by omega) (by omega) (by have := HWs.out; omega) k2)
  have E2 := Lib.hid (Err_any h2)
  have hz5 : b2 < w5.heap.size := h2.lt
  clear h1 h2 k2 hb1
  go_wp2_with fail
  refine E2.out.mono ?_
  rintro e w6 ⟨rfl, m2, hwm2⟩
  have S := Lib.hid (S.out.step (z := w6) (Nat.le_refl _) (by rw [hwm2]; exact below_drewN (Below.refl _ _) m2))
  have hlm2 := S.out.rd.lt
  have hvm2 := S.out.lt
  clear hwm2
  have HWs := Lib.hid S.out.below.size
  go_wp2_with fail
  refine (Open_lit _ [125] _ rfl (by decide) (by decide)).mono ?_
  rintro e w7 ⟨b3, A3, c3, rfl, hz6, h1, hb1⟩
  have S := Lib.hid (S.out.step (Nat.le_refl _) hb1)
  go_wp2_with fail
  refine (val_is h1 S.out.tab _ _ v3.out).mono ?_
  rintro e w8 ⟨rfl, h2, k2⟩
  have S := Lib.hid (S.out.call h1 (by omega) (by omega) (by have := HWs.out; omega) k2)
  have E3 := Lib.hid (Err_any h2)
  have hz8 : b3 < w8.heap.size := h2.lt
  clear h1 h2 k2 hb1
  go_wp2_with fail
  refine E3.out.mono ?_
  rintro e w9 ⟨rfl, m3, hwm3⟩
  have S := Lib.hid (S.out.step (z := w9) (Nat.le_refl _) (by rw [hwm3]; exact below_drewN (Below.refl _ _) m3))
  have hlm3 := S.out.rd.lt
  have hvm3 := S.out.lt
  clear hwm3
  have HWs := Lib.hid S.out.below.size
  go_wp2_with fail
  refine (Open_lit _ [96, 1, 127, 0] _ rfl (by decide) (by decide)).mono ?_
  rintro e w10 ⟨b4, A4, c4, rfl, hz9, h1, hb1⟩
  have S := Lib.hid (S.out.step (Nat.le_refl _) hb1)
  go_wp2_with fail
  refine (rec_is h1 (by decide) S.out.tab _ v4.out).mono ?_
  rintro e w11 ⟨x, xs, rfl, ho, ha, h2, k2⟩
  have S := Lib.hid (S.out.call h1 (by omega) (by omega) (by have := HWs.out; omega) k2)
  clear h1 hb1 h2 k2
  obtain ⟨x0, rfl, hx0⟩ : ∃ x0, xs = [x0] ∧ OwnS w10.heap.size w11 x0 ⟨true, [], ⟨1, [⟨1, false, ⟨0, 0⟩⟩], [], []⟩⟩ := by
    match xs, ha with
    | [x0], h => exact ⟨x0, rfl, h.1⟩
  obtain ⟨A5, c5, e5, hs⟩ := ho.seg elemSub
  obtain ⟨xa, xn, xc⟩ := x
  dsimp only at e5 ho ⊢
  injection e5 with e5 e6 e7
  subst e5 e6 e7
  obtain ⟨gb, off, rfl, hgb, hcell⟩ := hs.2.2 Nat.zero_lt_one
  have p0 : w11.cell? ⟨gb, off, none⟩ = some (.bool true) := by
    have := hcell 0 Nat.zero_lt_one 0 (.bool x0.fin) rfl
    rw [hx0.fin] at this
    exact this
  have hl : x0.x2.n = 1 := by
    obtain ⟨A6, c6, e6⟩ := hx0.comp.ps.form
    injection e6 with _ e6 _
  have p3 : w11.cell? ⟨gb, off + 2 + 1, none⟩ = some (.slice x0.x2.a 1 x0.x2.c) := by
    have := hcell 0 Nat.zero_lt_one 3 (.slice x0.x2.a x0.x2.n x0.x2.c) rfl
    rw [hl] at this
    exact this
  have p3' : w11.cell? ⟨gb, off + 3, none⟩ = some (.slice x0.x2.a 1 x0.x2.c) := p3
  have HLf := Lib.hid (Left_any S.out.rd)
  have HP0 : Hid (∀ k, (w11.drewN k).cell? ⟨gb, off, none⟩ = some (.bool true) ∧ (w11.drewN k).cell? ⟨gb, off + 2 + 1, none⟩ = some (.slice x0.x2.a 1 x0.x2.c) ∧ (w11.drewN k).cell? ⟨gb, off + 3, none⟩ = some (.slice x0.x2.a 1 x0.x2.c)) := Lib.hid fun k => ⟨p0, p3, p3'⟩
  clear ha ho hx0 hs hcell hl p0 p3 p3' hgb
  go_wp2_with (first
    | (go_at_call 51; refine HLf.out.mono ?_; rintro e w12 ⟨rfl, m4, hw4⟩; obtain ⟨p0, p3, p3'⟩ := HP0.out m4; rw [← hw4] at p0 p3 p3'; have S := Lib.hid (S.out.step (z := w12) (Nat.le_refl _) (by rw [hw4]; exact below_drewN (Below.refl _ _) m4)); clear hw4)
    | (refine wpList_load_row rfl 46 (.tmp 2) rfl w2.heap.size rfl _ _ _ _ S.out.row Tryd.underlying46 rfl (by kernel_rfl) ?_))
  rw [HQ.out]
  exact ⟨rfl, S.out.below⟩
end
end Go.Proofs.YtkdhjejchdcipaaDoor
/-
  Layer 6, code: a heap type's bytes, a value type's, an index's, a field's.
-/
namespace Go.Proofs.YtkdhjejchdcipaaDoor
open Go.RowKit
set_option linter.unusedVariables false
set_option linter.unusedSimpArgs false
set_option maxRecDepth 100000

section
variable {P : Program}
/-- A load of an array, its cells known. -/
theorem run_loadVar_cells (w : World) (g : Nat) (ty : TypeId) (cs : List Value) (d : TypeDesc) (hc : ∀ (j : Nat) v, cs[j]? = some v → w.cell? ⟨g, j, none⟩ = some v)
    (hu : P.underlying ty = some d) (hd : (match d with | .struct _ | .array _ _ => true | _ => false) = true) (hi : (P.info? ty).map (·.size) = some cs.length) :
    (loadVar ty ⟨g, 0, none⟩).run P w = .ok (.agg cs.toArray) w := by
  have hl := run_loadCells_list (P := P) w ⟨g, 0, none⟩ cs (fun j v hv => by rw [Addr.add_lit, Nat.zero_add]; exact hc j v hv)
  cases hq : P.info? ty with
  | none => simp [hq] at hi
  | some i =>
    have hs : i.size = cs.length := by simpa [hq] using hi
    have hagg : (isAgg ty).run P w = .ok true w := by
      unfold isAgg
      rw [Sem.run_bind, run_underlying hu w]
      cases d <;> simp_all
    simp [loadVar, Sem.run_bind, hagg, sizeOf, typeInfo, hq, hs, hl]
theorem wpList_load_cells {ops : Array Oper} {rest : List Oper} {o : Oper} {a : Act} {w : World} {Q : Exit → Act → World → Prop} (hgd : o.guard = none) (ty : TypeId) (x : Operand) (ho : o.op = .load ty x)
    (g : Nat) (hx : a.eval x = .pointer (some ⟨g, 0, none⟩)) (cs : List Value) (d : TypeDesc) (hc : ∀ (j : Nat) v, cs[j]? = some v → w.cell? ⟨g, j, none⟩ = some v)
    (hu : P.underlying ty = some d) (hd : (match d with | .struct _ | .array _ _ => true | _ => false) = true) (hi : (P.info? ty).map (·.size) = some cs.length)
    (h : wpList P ops Q rest (a.put o.dst (.agg cs.toArray)) w) : wpList P ops Q (o :: rest) a w := by
  refine wpList_plain hgd fun K hK => ?_
  unfold Oper.wp execOp
  simp only [ho, hx, Instr.loadAt, Instr.sureAddr, Sem.run_bind, Sem.run_pure, Result.andThen_ok, run_loadVar_cells w g ty cs d hc hu hd hi]
  exact hK _ _ h
end
/-- The table, as it is loaded. -/
abbrev kindVals : List Value := [.int .i64 11, .int .i64 5, .int .i64 4, .int .i64 3, .int .i64 2, .int .i64 1, .int .i64 9, .int .i64 7, .int .i64 6, .int .i64 10, .int .i64 8, .int .i64 12]
theorem Tab6.vals {W : World} (h : Tab6 W) : ∀ (j : Nat) v, kindVals[j]? = some v → W.cell? ⟨1, j, none⟩ = some v := by
  intro j v hv
  have hj : j < 12 := by have := (List.getElem?_eq_some_iff.1 hv).1; simpa using this
  rw [h j hj]
  have e : ∀ j < 12, kindVals[j]? = some (.int .i64 (Tb.kinds.getD j 0)) := by
    intro j hj
    rcases j with _ | _ | _ | _ | _ | _ | _ | _ | _ | _ | _ | _ | j
    all_goals first | rfl | omega
  rw [e j hj] at hv
  exact hv
theorem kind_at0 (W : World) : (Instr.index 181 (.agg kindVals.toArray) (.int .i64 0)).run Tryd.prog W = .ok (.int .i64 11) W := by kernel_rfl
theorem kind_at1 (W : World) : (Instr.index 181 (.agg kindVals.toArray) (.int .i64 1)).run Tryd.prog W = .ok (.int .i64 5) W := by kernel_rfl
theorem kind_at2 (W : World) : (Instr.index 181 (.agg kindVals.toArray) (.int .i64 2)).run Tryd.prog W = .ok (.int .i64 4) W := by kernel_rfl
theorem kind_at3 (W : World) : (Instr.index 181 (.agg kindVals.toArray) (.int .i64 3)).run Tryd.prog W = .ok (.int .i64 3) W := by kernel_rfl
theorem kind_at4 (W : World) : (Instr.index 181 (.agg kindVals.toArray) (.int .i64 4)).run Tryd.prog W = .ok (.int .i64 2) W := by kernel_rfl
theorem kind_at5 (W : World) : (Instr.index 181 (.agg kindVals.toArray) (.int .i64 5)).run Tryd.prog W = .ok (.int .i64 1) W := by kernel_rfl
theorem kind_at6 (W : World) : (Instr.index 181 (.agg kindVals.toArray) (.int .i64 6)).run Tryd.prog W = .ok (.int .i64 9) W := by kernel_rfl
theorem kind_at7 (W : World) : (Instr.index 181 (.agg kindVals.toArray) (.int .i64 7)).run Tryd.prog W = .ok (.int .i64 7) W := by kernel_rfl
theorem kind_at8 (W : World) : (Instr.index 181 (.agg kindVals.toArray) (.int .i64 8)).run Tryd.prog W = .ok (.int .i64 6) W := by kernel_rfl
theorem kind_at9 (W : World) : (Instr.index 181 (.agg kindVals.toArray) (.int .i64 9)).run Tryd.prog W = .ok (.int .i64 10) W := by kernel_rfl
theorem kind_at10 (W : World) : (Instr.index 181 (.agg kindVals.toArray) (.int .i64 10)).run Tryd.prog W = .ok (.int .i64 8) W := by kernel_rfl
theorem kind_at11 (W : World) : (Instr.index 181 (.agg kindVals.toArray) (.int .i64 11)).run Tryd.prog W = .ok (.int .i64 12) W := by kernel_rfl
/-- Bytes that the call made. -/
abbrev Made (l : List Nat) (w : World) (e : Ending) (w' : World) : Prop := ∃ v, e = .returned v ∧ Own w.heap.size w' v l ∧ Below w.heap.size w w'
theorem Made.lit (w0 w : World) (hb : Below w0.heap.size w0 w) (y : Nat) : Own w0.heap.size (w.alloc (.cells #[.int .u8 (y : Int)] 5)) (.slice (some ⟨w.heap.size, 0, none⟩) 1 1) [y] ∧ Below w0.heap.size w0 (w.alloc (.cells #[.int .u8 (y : Int)] 5)) :=
  ⟨Own.lit1 w hb.size y, hb.alloc hb.size _⟩
set_option maxHeartbeats 4000000 in
theorem putHeap_any (h : Hp) (hp : Kd.pHeap h = true) (w : World) (hT : Tab6 w) : Calls Tryd.prog 128 #[h.val] w (Made (Tb.putHeap h) w) := by
  obtain ⟨Q, hQ⟩ : ∃ Q : Ending → World → Prop, Q = Made (Tb.putHeap h) w := ⟨_, rfl⟩
  rw [← hQ]
  have HQ := Lib.hid hQ
  obtain ⟨k, n⟩ := h
  have hn : -9223372036854775808 ≤ n ∧ n < 9223372036854775808 := by
    unfold Kd.pHeap Kd.pIdx at hp
    dsimp only at hp
    split at hp
    · have := of_decide_eq_true hp; omega
    · simp only [Bool.and_eq_true, decide_eq_true_eq] at hp; omega
  obtain ⟨W0, hW0⟩ : ∃ W0, W0 = w.alloc (.cells #[.int .i64 k, .int .i64 n] 39) := ⟨_, rfl⟩
  have hB0 : Below w.heap.size w W0 := by rw [hW0]; exact (Below.refl _ _).alloc (Nat.le_refl _) _
  have hT0 := hT.below hB0
  have HV := Lib.hid hT0.vals
  rw [hW0] at HV
  have d0 : W0.cell? ⟨w.heap.size, 0, none⟩ = some (.int .i64 k) := by rw [hW0]; go_simp
  have d1 : W0.cell? ⟨w.heap.size, 1, none⟩ = some (.int .i64 n) := by rw [hW0]; go_simp
  have HB0 := Lib.hid hB0
  have HW0 := Lib.hid hW0
  have HN := Lib.hid hn
  clear hW0 hB0 hT0 hT hp hQ hn
  go_enter Tryd.func128, Tryd.ntmps128
  go_wp2_with (refine wpList_load_cells rfl 181 _ rfl 1 rfl kindVals _ HV.out Tryd.underlying181 rfl (by kernel_rfl) ?_)
  rw [← HW0.out]
  go_loopw [3, 4, 6] (fun _ _ i wr => wr = W0 ∧ ∃ j : Nat, j ≤ 12 ∧ i = .int .i64 (j : Int) ∧ Hid (∀ x < j, Tb.kinds.getD x 0 ≠ k)) (fun _ _ i _ => 12 - (intOf i).toNat)
  case atStart => exact ⟨rfl, 0, by omega, rfl, fun x hx => absurd hx (by omega)⟩
  case round =>
    obtain ⟨rfl, j, hj, rfl, H⟩ := hrel
    have hj2 : j = 12 ∨ j < 12 := by omega
    rcases hj2 with rfl | hj2
    · have HI : Hid (Tb.putHeap ⟨k, n⟩ = Leb.putS n) := Lib.hid (by unfold Tb.putHeap; rw [if_neg (by rw [Tb.kindIx_no H.out]; decide)])
      rw [HI.out] at HQ
      have HP : Hid (∀ W, Calls Tryd.prog 159 #[.int .i64 n] W fun e w' => ∃ v, e = .returned v ∧ Own W.heap.size w' v (Leb.putS n) ∧ Below W.heap.size W w') := Lib.hid fun W => PutS_any n W HN.out.1 HN.out.2
      clear H hj HV
      go_wp2_with ((with_reducible refine (HP.out _).mono ?_); rintro e w2 ⟨v, rfl, ho, hb⟩; have HO := Lib.hid ho; have HB := Lib.hid hb; clear ho hb)
      rw [HQ.out]
      exact ⟨_, rfl, HO.out.base HB0.out.size, below_trans HB0.out HB.out⟩
    · by_cases he : Tb.kinds.getD j 0 = k
      · have HI : Hid (Tb.putHeap ⟨k, n⟩ = [105 + j]) := Lib.hid (by unfold Tb.putHeap; rw [if_pos (by rw [Tb.kindIx_at hj2 he H.out]; exact hj2), Tb.kindIx_at hj2 he H.out])
        rw [HI.out] at HQ
        clear H hj HV HI
        have hj3 : j = 0 ∨ j = 1 ∨ j = 2 ∨ j = 3 ∨ j = 4 ∨ j = 5 ∨ j = 6 ∨ j = 7 ∨ j = 8 ∨ j = 9 ∨ j = 10 ∨ j = 11 := by omega
        clear hj2
        rcases hj3 with rfl | rfl | rfl | rfl | rfl | rfl | rfl | rfl | rfl | rfl | rfl | rfl
        · obtain rfl : k = 11 := he.symm
          clear he
          have hi := kind_at0
          have hw : IntKind.u8.wrap 105 = 105 := rfl
          go_wp2
          rw [HQ.out]
          exact ⟨_, rfl, Made.lit w _ HB0.out _⟩
        · obtain rfl : k = 5 := he.symm
          clear he
          have hi := kind_at1
          have hw : IntKind.u8.wrap 106 = 106 := rfl
          go_wp2
          rw [HQ.out]
          exact ⟨_, rfl, Made.lit w _ HB0.out _⟩
        · obtain rfl : k = 4 := he.symm
          clear he
          have hi := kind_at2
          have hw : IntKind.u8.wrap 107 = 107 := rfl
          go_wp2
          rw [HQ.out]
          exact ⟨_, rfl, Made.lit w _ HB0.out _⟩
        · obtain rfl : k = 3 := he.symm
          clear he
          have hi := kind_at3
          have hw : IntKind.u8.wrap 108 = 108 := rfl
          go_wp2
          rw [HQ.out]
          exact ⟨_, rfl, Made.lit w _ HB0.out _⟩
        · obtain rfl : k = 2 := he.symm
          clear he
          have hi := kind_at4
          have hw : IntKind.u8.wrap 109 = 109 := rfl
          go_wp2
          rw [HQ.out]
          exact ⟨_, rfl, Made.lit w _ HB0.out _⟩
        · obtain rfl : k = 1 := he.symm
          clear he
          have hi := kind_at5
          have hw : IntKind.u8.wrap 110 = 110 := rfl
          go_wp2
          rw [HQ.out]
          exact ⟨_, rfl, Made.lit w _ HB0.out _⟩
        · obtain rfl : k = 9 := he.symm
          clear he
          have hi := kind_at6
          have hw : IntKind.u8.wrap 111 = 111 := rfl
          go_wp2
          rw [HQ.out]
          exact ⟨_, rfl, Made.lit w _ HB0.out _⟩
        · obtain rfl : k = 7 := he.symm
          clear he
          have hi := kind_at7
          have hw : IntKind.u8.wrap 112 = 112 := rfl
          go_wp2
          rw [HQ.out]
          exact ⟨_, rfl, Made.lit w _ HB0.out _⟩
        · obtain rfl : k = 6 := he.symm
          clear he
          have hi := kind_at8
          have hw : IntKind.u8.wrap 113 = 113 := rfl
          go_wp2
          rw [HQ.out]
          exact ⟨_, rfl, Made.lit w _ HB0.out _⟩
        · obtain rfl : k = 10 := he.symm
          clear he
          have hi := kind_at9
          have hw : IntKind.u8.wrap 114 = 114 := rfl
          go_wp2
          rw [HQ.out]
          exact ⟨_, rfl, Made.lit w _ HB0.out _⟩
        · obtain rfl : k = 8 := he.symm
          clear he
          have hi := kind_at10
          have hw : IntKind.u8.wrap 115 = 115 := rfl
          go_wp2
          rw [HQ.out]
          exact ⟨_, rfl, Made.lit w _ HB0.out _⟩
        · obtain rfl : k = 12 := he.symm
          clear he
          have hi := kind_at11
          have hw : IntKind.u8.wrap 116 = 116 := rfl
          go_wp2
          rw [HQ.out]
          exact ⟨_, rfl, Made.lit w _ HB0.out _⟩
      · have HN1 : Hid (∀ x < j + 1, Tb.kinds.getD x 0 ≠ k) := Lib.hid fun x hx => by
          by_cases hxj : x = j
          · rw [hxj]; exact he
          · exact H.out x (by omega)
        clear H hj HV
        have hj3 : j = 0 ∨ j = 1 ∨ j = 2 ∨ j = 3 ∨ j = 4 ∨ j = 5 ∨ j = 6 ∨ j = 7 ∨ j = 8 ∨ j = 9 ∨ j = 10 ∨ j = 11 := by omega
        clear hj2
        rcases hj3 with rfl | rfl | rfl | rfl | rfl | rfl | rfl | rfl | rfl | rfl | rfl | rfl
        · have hne : ((11 : Int) == k) = false := beq_eq_false_iff_ne.2 he
          clear he
          have hi := kind_at0
          go_wp2
          go_roundw
          case rel => exact ⟨trivial, 1, by omega, by go_num, HN1⟩
          case measure => simp [intOf]
        · have hne : ((5 : Int) == k) = false := beq_eq_false_iff_ne.2 he
          clear he
          have hi := kind_at1
          go_wp2
          go_roundw
          case rel => exact ⟨trivial, 2, by omega, by go_num, HN1⟩
          case measure => simp [intOf]
        · have hne : ((4 : Int) == k) = false := beq_eq_false_iff_ne.2 he
          clear he
          have hi := kind_at2
          go_wp2
          go_roundw
          case rel => exact ⟨trivial, 3, by omega, by go_num, HN1⟩
          case measure => simp [intOf]
        · have hne : ((3 : Int) == k) = false := beq_eq_false_iff_ne.2 he
          clear he
          have hi := kind_at3
          go_wp2
          go_roundw
          case rel => exact ⟨trivial, 4, by omega, by go_num, HN1⟩
          case measure => simp [intOf]
        · have hne : ((2 : Int) == k) = false := beq_eq_false_iff_ne.2 he
          clear he
          have hi := kind_at4
          go_wp2
          go_roundw
          case rel => exact ⟨trivial, 5, by omega, by go_num, HN1⟩
          case measure => simp [intOf]
        · have hne : ((1 : Int) == k) = false := beq_eq_false_iff_ne.2 he
          clear he
          have hi := kind_at5
          go_wp2
          go_roundw
          case rel => exact ⟨trivial, 6, by omega, by go_num, HN1⟩
          case measure => simp [intOf]
        · have hne : ((9 : Int) == k) = false := beq_eq_false_iff_ne.2 he
          clear he
          have hi := kind_at6
          go_wp2
          go_roundw
          case rel => exact ⟨trivial, 7, by omega, by go_num, HN1⟩
          case measure => simp [intOf]
        · have hne : ((7 : Int) == k) = false := beq_eq_false_iff_ne.2 he
          clear he
          have hi := kind_at7
          go_wp2
          go_roundw
          case rel => exact ⟨trivial, 8, by omega, by go_num, HN1⟩
          case measure => simp [intOf]
        · have hne : ((6 : Int) == k) = false := beq_eq_false_iff_ne.2 he
          clear he
          have hi := kind_at8
          go_wp2
          go_roundw
          case rel => exact ⟨trivial, 9, by omega, by go_num, HN1⟩
          case measure => simp [intOf]
        · have hne : ((10 : Int) == k) = false := beq_eq_false_iff_ne.2 he
          clear he
          have hi := kind_at9
          go_wp2
          go_roundw
          case rel => exact ⟨trivial, 10, by omega, by go_num, HN1⟩
          case measure => simp [intOf]
        · have hne : ((8 : Int) == k) = false := beq_eq_false_iff_ne.2 he
          clear he
          have hi := kind_at10
          go_wp2
          go_roundw
          case rel => exact ⟨trivial, 11, by omega, by go_num, HN1⟩
          case measure => simp [intOf]
        · have hne : ((12 : Int) == k) = false := beq_eq_false_iff_ne.2 he
          clear he
          have hi := kind_at11
          go_wp2
          go_roundw
          case rel => exact ⟨trivial, 12, by omega, by go_num, HN1⟩
          case measure => simp [intOf]
end Go.Proofs.YtkdhjejchdcipaaDoor
/-
  Layer 6, code: a value type's bytes, an index's, a field's.
-/
namespace Go.Proofs.YtkdhjejchdcipaaDoor
open Go.RowKit
set_option linter.unusedVariables false
set_option linter.unusedSimpArgs false
set_option maxRecDepth 100000

/-- A byte, and more behind it. -/
theorem Own.bs {B : Nat} {w : World} {v : Value} {l : List Nat} (h : Own B w v l) (hl : ∀ x ∈ l, x < 256) : ∃ A c, v = .slice A l.length c ∧ Bytes w w.heap.size A l.length c l ∧ Own B w (.slice A l.length c) l := by
  obtain ⟨A, c, rfl, hb⟩ := h.bytes hl
  exact ⟨A, c, rfl, hb, h⟩
theorem Made.lit2 (w0 w : World) (hb : Below w0.heap.size w0 w) (y : Nat) {g : Nat} (hg : w.heap.size = g) : Own w0.heap.size (w.alloc (.cells #[.int .u8 (y : Int)] 5)) (.slice (some ⟨g, 0, none⟩) 1 1) [y] ∧ Below w0.heap.size w0 (w.alloc (.cells #[.int .u8 (y : Int)] 5)) := by
  subst hg
  exact Made.lit w0 w hb y
set_option maxHeartbeats 4000000 in
theorem putVal_any (v : Vl) (hp : Kd.pVal v = true) (w : World) (hT : Tab6 w) : Calls Tryd.prog 99 #[v.val] w (Made (Tb.putVal v) w) := by
  obtain ⟨Q, hQ⟩ : ∃ Q : Ending → World → Prop, Q = Made (Tb.putVal v) w := ⟨_, rfl⟩
  rw [← hQ]
  have HQ := Lib.hid hQ
  obtain ⟨k, nu, hk, hn⟩ := v
  by_cases h1 : k = 1
  · subst h1
    have HI : Hid (Tb.putVal ⟨1, nu, ⟨hk, hn⟩⟩ = [127]) := Lib.hid rfl
    rw [HI.out] at HQ
    clear hp hT hQ HI
    go_enter Tryd.func99, Tryd.ntmps99
    go_wp2
    rw [HQ.out]
    exact ⟨.slice (some ⟨w.heap.size + 1, 0, none⟩) 1 1, rfl, Made.lit2 w _ ((Below.refl _ _).alloc (Nat.le_refl _) _) _ (by simp)⟩
  by_cases h2 : k = 2
  · subst h2
    have HI : Hid (Tb.putVal ⟨2, nu, ⟨hk, hn⟩⟩ = [126]) := Lib.hid rfl
    rw [HI.out] at HQ
    clear hp hT hQ HI
    go_enter Tryd.func99, Tryd.ntmps99
    go_wp2
    rw [HQ.out]
    exact ⟨.slice (some ⟨w.heap.size + 1, 0, none⟩) 1 1, rfl, Made.lit2 w _ ((Below.refl _ _).alloc (Nat.le_refl _) _) _ (by simp)⟩
  have h3 : k = 3 := Classical.byContradiction fun h3 => by
    unfold Kd.pVal at hp
    dsimp only at hp
    rw [if_neg h1, if_neg h2, if_neg h3] at hp
    cases hp
  subst h3
  have hph : Kd.pHeap ⟨hk, hn⟩ = true := by unfold Kd.pVal at hp; dsimp only at hp; rw [if_neg h1, if_neg h2, if_pos rfl] at hp; exact hp
  have hn2 : -9223372036854775808 ≤ hn ∧ hn < 9223372036854775808 := by
    unfold Kd.pHeap Kd.pIdx at hph
    dsimp only at hph
    split at hph
    · have := of_decide_eq_true hph; omega
    · simp only [Bool.and_eq_true, decide_eq_true_eq] at hph; omega
  have HH : Hid (∀ W, Below w.heap.size w W → Calls Tryd.prog 128 #[.agg #[.int .i64 hk, .int .i64 hn]] W (Made (Tb.putHeap ⟨hk, hn⟩) W)) := Lib.hid fun W hW => putHeap_any ⟨hk, hn⟩ hph W (hT.below hW)
  have hlen := Tb.putHeap_len ⟨hk, hn⟩ hn2.1 hn2.2
  have HLT := Lib.hid (Tb.putHeap_lt ⟨hk, hn⟩)
  obtain ⟨W0, hW0⟩ : ∃ W0, W0 = w.alloc (.cells #[.int .i64 3, .bool nu, .int .i64 hk, .int .i64 hn] 46) := ⟨_, rfl⟩
  have hB0 : Below w.heap.size w W0 := by rw [hW0]; exact (Below.refl _ _).alloc (Nat.le_refl _) _
  have d1 : W0.cell? ⟨w.heap.size, 1, none⟩ = some (.bool nu) := by rw [hW0]; go_simp
  have d2 : W0.cell? ⟨w.heap.size, 2, none⟩ = some (.int .i64 hk) := by rw [hW0]; go_simp
  have hz : w.heap.size < W0.heap.size := by rw [hW0]; simp
  have HB0 := Lib.hid hB0
  have HW0 := Lib.hid hW0
  clear hW0 hB0
  have hI : Tb.putVal ⟨3, nu, ⟨hk, hn⟩⟩ = if nu = false then 100 :: Tb.putHeap ⟨hk, hn⟩ else if hk = 13 then 99 :: Tb.putHeap ⟨hk, hn⟩ else Tb.putHeap ⟨hk, hn⟩ := rfl
  rw [hI] at HQ
  generalize Tb.putHeap ⟨hk, hn⟩ = l at HH HLT HQ hlen
  have HLN := Lib.hid hlen
  clear hI hp hT hQ h1 h2 hph hn2 hlen
  cases nu with
  | false =>
    rw [if_pos rfl] at HQ
    go_enter Tryd.func99, Tryd.ntmps99
    go_wp2_with fail
    rw [← HW0.out]
    go_wp2_with (first
      | ((with_reducible refine (HH.out _ HB0.out).mono ?_); rintro e w2 ⟨v2, rfl, ho, hb⟩; have q1 := (hb.cell (p := ⟨w.heap.size, 1, none⟩) hz).trans d1; have q2 := (hb.cell (p := ⟨w.heap.size, 2, none⟩) hz).trans d2; obtain ⟨A2, c2, rfl, hy, -⟩ := ho.bs HLT.out; have HY := Lib.hid hy; have HB := Lib.hid (below_trans HB0.out hb); clear ho hb hy)
      | (at_builtin; refine cat_slice rfl _ _ rfl _ l l.length rfl rfl (Made.lit w w2 HB.out 100).1 (HY.out.below ((Below.refl _ _).alloc (Nat.le_refl _) _)) (Made.lit w w2 HB.out 100).2.size (l.length + 1) (by have := HLN.out; omega) (Nat.add_comm 1 l.length) ?_; intro A5 c5 w5 ho2 hg2; have HO5 := Lib.hid ho2; have HB5 := Lib.hid ((Made.lit w w2 HB.out 100).1.grown hg2 (Nat.le_refl _) (Made.lit w w2 HB.out 100).2.size (Made.lit w w2 HB.out 100).2); clear ho2 hg2))
    rw [HQ.out]
    exact ⟨_, rfl, HO5.out, HB5.out⟩
  | true =>
    rw [if_neg (by decide)] at HQ
    by_cases h13 : hk = 13
    · rw [if_pos h13] at HQ
      subst h13
      go_enter Tryd.func99, Tryd.ntmps99
      go_wp2_with fail
      rw [← HW0.out]
      go_wp2_with (first
        | ((with_reducible refine (HH.out _ HB0.out).mono ?_); rintro e w2 ⟨v2, rfl, ho, hb⟩; have q1 := (hb.cell (p := ⟨w.heap.size, 1, none⟩) hz).trans d1; have q2 := (hb.cell (p := ⟨w.heap.size, 2, none⟩) hz).trans d2; obtain ⟨A2, c2, rfl, hy, -⟩ := ho.bs HLT.out; have HY := Lib.hid hy; have HB := Lib.hid (below_trans HB0.out hb); clear ho hb hy)
        | (at_builtin; refine cat_slice rfl _ _ rfl _ l l.length rfl rfl (Made.lit w w2 HB.out 99).1 (HY.out.below ((Below.refl _ _).alloc (Nat.le_refl _) _)) (Made.lit w w2 HB.out 99).2.size (l.length + 1) (by have := HLN.out; omega) (Nat.add_comm 1 l.length) ?_; intro A5 c5 w5 ho2 hg2; have HO5 := Lib.hid ho2; have HB5 := Lib.hid ((Made.lit w w2 HB.out 99).1.grown hg2 (Nat.le_refl _) (Made.lit w w2 HB.out 99).2.size (Made.lit w w2 HB.out 99).2); clear ho2 hg2))
      rw [HQ.out]
      exact ⟨_, rfl, HO5.out, HB5.out⟩
    · rw [if_neg h13] at HQ
      have hne : (hk == 13) = false := beq_eq_false_iff_ne.2 h13
      clear h13
      go_enter Tryd.func99, Tryd.ntmps99
      go_wp2_with fail
      rw [← HW0.out]
      go_wp2_with ((with_reducible refine (HH.out _ HB0.out).mono ?_); rintro e w2 ⟨v2, rfl, ho, hb⟩; have q1 := (hb.cell (p := ⟨w.heap.size, 1, none⟩) hz).trans d1; have q2 := (hb.cell (p := ⟨w.heap.size, 2, none⟩) hz).trans d2; have HO := Lib.hid (ho.base HB0.out.size); have HB := Lib.hid (below_trans HB0.out hb); clear ho hb)
      rw [HQ.out]
      exact ⟨_, rfl, HO.out, HB.out⟩
set_option maxHeartbeats 1000000 in
theorem putIdx_any (h : Hp) (hp : Kd.pIdx h = true) (w : World) : Calls Tryd.prog 124 #[h.val] w (Made (Tb.putIdx h) w) := by
  obtain ⟨Q, hQ⟩ : ∃ Q : Ending → World → Prop, Q = Made (Tb.putIdx h) w := ⟨_, rfl⟩
  rw [← hQ]
  have HQ := Lib.hid hQ
  obtain ⟨k, n⟩ := h
  have hn : 0 ≤ n ∧ n ≤ 4294967295 := by
    unfold Kd.pIdx at hp
    simp only [Bool.and_eq_true, decide_eq_true_eq] at hp
    exact hp.2
  obtain ⟨m, rfl⟩ := Int.eq_ofNat_of_zero_le hn.1
  have HI : Hid (Tb.putIdx ⟨k, (m : Int)⟩ = Leb.putU m) := Lib.hid rfl
  rw [HI.out] at HQ
  have hw : IntKind.u64.wrap (m : Int) = (m : Int) := IntWalk.u64_in _ (by omega)
  have HP : Hid (∀ W, Calls Tryd.prog 126 #[.int .u64 (m : Int)] W fun e w' => ∃ v, e = .returned v ∧ Own W.heap.size w' v (Leb.putU m) ∧ Below W.heap.size W w') := Lib.hid fun W => PutU_any m W (by omega)
  have HB0 : Hid (∀ o, Below w.heap.size w (w.alloc o)) := Lib.hid fun o => (Below.refl _ _).alloc (Nat.le_refl _) _
  clear hp hQ hn HI
  go_enter Tryd.func124, Tryd.ntmps124
  go_wp2_with ((with_reducible refine (HP.out _).mono ?_); rintro e w2 ⟨v, rfl, ho, hb⟩; have HO := Lib.hid ho; have HB := Lib.hid hb; clear ho hb)
  rw [HQ.out]
  exact ⟨_, rfl, HO.out.base (HB0.out _).size, below_trans (HB0.out _) HB.out⟩
end Go.Proofs.YtkdhjejchdcipaaDoor
/-
  Layer 6, code: a field's bytes.
-/
namespace Go.Proofs.YtkdhjejchdcipaaDoor
open Go.RowKit
set_option linter.unusedVariables false
set_option linter.unusedSimpArgs false
set_option maxRecDepth 100000

theorem Kd.pVal_n {v : Vl} (h : Kd.pVal v = true) : -9223372036854775808 ≤ v.h.n ∧ v.h.n < 9223372036854775808 := by
  unfold Kd.pVal at h
  split at h
  · have := of_decide_eq_true h; rw [this]; decide
  · split at h
    · have := of_decide_eq_true h; rw [this]; decide
    · split at h
      · unfold Kd.pHeap Kd.pIdx at h
        split at h
        · have := of_decide_eq_true h; omega
        · simp only [Bool.and_eq_true, decide_eq_true_eq] at h; omega
      · cases h
theorem Tb.putVal_len11 {v : Vl} (h : Kd.pVal v = true) : (Tb.putVal v).length ≤ 11 := Tb.putVal_len v (Kd.pVal_n h).1 (Kd.pVal_n h).2
theorem Kd.pField_v {f : Fd} (h : Kd.pField f = true) : Kd.pVal f.v = true := by
  unfold Kd.pField at h
  split at h
  · exact h
  · split at h
    · have := of_decide_eq_true h; rw [this]; rfl
    · cases h
theorem Tb.putStore_lt (pk : Int) (v : Vl) : ∀ x ∈ Tb.putStore pk v, x < 256 := by
  unfold Tb.putStore
  split
  · intro x hx; simp only [List.mem_cons, List.not_mem_nil, or_false] at hx; omega
  · split
    · intro x hx; simp only [List.mem_cons, List.not_mem_nil, or_false] at hx; omega
    · exact Tb.putVal_lt v
theorem Tb.putStore_len {pk : Int} {v : Vl} (h : Kd.pVal v = true) : (Tb.putStore pk v).length ≤ 11 := by
  unfold Tb.putStore
  split
  · simp
  · split
    · simp
    · exact Tb.putVal_len11 h
theorem Tb.putField_lt (f : Fd) : ∀ x ∈ Tb.putField f, x < 256 := by
  unfold Tb.putField
  intro x hx
  rcases List.mem_append.1 hx with hx | hx
  · exact Tb.putStore_lt _ _ x hx
  · split at hx <;> (simp only [List.mem_cons, List.not_mem_nil, or_false] at hx; omega)
theorem Tb.putField_len {f : Fd} (h : Kd.pField f = true) : (Tb.putField f).length ≤ 12 := by
  unfold Tb.putField
  have := Tb.putStore_len (pk := f.pk) (Kd.pField_v h)
  rw [List.length_append, List.length_singleton]
  omega
theorem Tb.putIdx_len {h : Hp} (hp : Kd.pIdx h = true) : (Tb.putIdx h).length ≤ 10 := by
  unfold Kd.pIdx at hp
  simp only [Bool.and_eq_true, decide_eq_true_eq] at hp
  exact Leb.putU_len10 _ (by omega)
set_option maxHeartbeats 2000000 in
theorem putStore_any (pk : Int) (v : Vl) (hp : Kd.pVal v = true) (w : World) (hT : Tab6 w) : Calls Tryd.prog 175 #[.agg #[.int .i64 pk, .int .i64 v.k, .bool v.nu, .int .i64 v.h.k, .int .i64 v.h.n]] w (Made (Tb.putStore pk v) w) := by
  obtain ⟨Q, hQ⟩ : ∃ Q : Ending → World → Prop, Q = Made (Tb.putStore pk v) w := ⟨_, rfl⟩
  rw [← hQ]
  have HQ := Lib.hid hQ
  obtain ⟨k, nu, hk, hn⟩ := v
  dsimp only
  have HB0 : Hid (∀ o, Below w.heap.size w (w.alloc o)) := Lib.hid fun o => (Below.refl _ _).alloc (Nat.le_refl _) _
  by_cases h1 : pk = 8
  · subst h1
    have HI : Hid (Tb.putStore 8 ⟨k, nu, ⟨hk, hn⟩⟩ = [120]) := Lib.hid rfl
    rw [HI.out] at HQ
    clear hp hT hQ HI
    go_enter Tryd.func175, Tryd.ntmps175
    go_wp2
    rw [HQ.out]
    exact ⟨.slice (some ⟨w.heap.size + 1, 0, none⟩) 1 1, rfl, Made.lit2 w _ (HB0.out _) _ (by simp)⟩
  by_cases h2 : pk = 16
  · subst h2
    have HI : Hid (Tb.putStore 16 ⟨k, nu, ⟨hk, hn⟩⟩ = [119]) := Lib.hid rfl
    rw [HI.out] at HQ
    clear hp hT hQ HI
    go_enter Tryd.func175, Tryd.ntmps175
    go_wp2
    rw [HQ.out]
    exact ⟨.slice (some ⟨w.heap.size + 1, 0, none⟩) 1 1, rfl, Made.lit2 w _ (HB0.out _) _ (by simp)⟩
  have HI : Hid (Tb.putStore pk ⟨k, nu, ⟨hk, hn⟩⟩ = Tb.putVal ⟨k, nu, ⟨hk, hn⟩⟩) := Lib.hid (by unfold Tb.putStore; rw [if_neg h1, if_neg h2])
  rw [HI.out] at HQ
  have n1 : (pk == 8) = false := beq_eq_false_iff_ne.2 h1
  have n2 : (pk == 16) = false := beq_eq_false_iff_ne.2 h2
  have HV : Hid (∀ W, Below w.heap.size w W → Calls Tryd.prog 99 #[.agg #[.int .i64 k, .bool nu, .int .i64 hk, .int .i64 hn]] W (Made (Tb.putVal ⟨k, nu, ⟨hk, hn⟩⟩) W)) := Lib.hid fun W hW => putVal_any ⟨k, nu, ⟨hk, hn⟩⟩ hp W (hT.below hW)
  clear hp hT hQ HI h1 h2
  go_enter Tryd.func175, Tryd.ntmps175
  go_wp2_with ((with_reducible refine (HV.out _ (HB0.out _)).mono ?_); rintro e w2 ⟨v2, rfl, ho, hb⟩; have HO := Lib.hid ho; have HB := Lib.hid hb; clear ho hb)
  rw [HQ.out]
  exact ⟨_, rfl, HO.out.base (HB0.out _).size, below_trans (HB0.out _) HB.out⟩
set_option maxHeartbeats 4000000 in
theorem putField_any (f : Fd) (hp : Kd.pField f = true) (w : World) (hT : Tab6 w) : Calls Tryd.prog 157 #[f.val] w (Made (Tb.putField f) w) := by
  obtain ⟨Q, hQ⟩ : ∃ Q : Ending → World → Prop, Q = Made (Tb.putField f) w := ⟨_, rfl⟩
  rw [← hQ]
  have HQ := Lib.hid hQ
  have hpv := Kd.pField_v hp
  obtain ⟨pk, ⟨k, nu, hk, hn⟩, mu⟩ := f
  dsimp only at hpv
  have HB0 : Hid (∀ o, Below w.heap.size w (w.alloc o)) := Lib.hid fun o => (Below.refl _ _).alloc (Nat.le_refl _) _
  have HV : Hid (∀ W, Below w.heap.size w W → Calls Tryd.prog 175 #[.agg #[.int .i64 pk, .int .i64 k, .bool nu, .int .i64 hk, .int .i64 hn]] W (Made (Tb.putStore pk ⟨k, nu, ⟨hk, hn⟩⟩) W)) := Lib.hid fun W hW => putStore_any pk ⟨k, nu, ⟨hk, hn⟩⟩ hpv W (hT.below hW)
  have hlen := Tb.putStore_len (pk := pk) hpv
  have HLT := Lib.hid (Tb.putStore_lt pk ⟨k, nu, ⟨hk, hn⟩⟩)
  have hI : Tb.putField ⟨pk, ⟨k, nu, ⟨hk, hn⟩⟩, mu⟩ = Tb.putStore pk ⟨k, nu, ⟨hk, hn⟩⟩ ++ [if mu then 1 else 0] := rfl
  rw [hI] at HQ
  generalize Tb.putStore pk ⟨k, nu, ⟨hk, hn⟩⟩ = l at HV HLT HQ hlen
  have HLN := Lib.hid hlen
  have HL1 : Hid (∀ (W : World) (y : Nat), y < 256 → Bytes (W.alloc (.cells #[.int .u8 (y : Int)] 5)) (W.heap.size + 1) (some ⟨W.heap.size, 0, none⟩) 1 1 [y]) := Lib.hid fun W y hy => bytes_new W [y] (fun x hx => by simp only [List.mem_cons, List.not_mem_nil, or_false] at hx; omega) (by simp)
  clear hI hp hT hQ hlen hpv
  cases mu with
  | true =>
    go_enter Tryd.func157, Tryd.ntmps157
    go_wp2_with (first
      | ((with_reducible refine (HV.out _ (HB0.out _)).mono ?_); rintro e w2 ⟨v2, rfl, ho, hb⟩; obtain ⟨A2, c2, rfl, -, ho2⟩ := (ho.base (HB0.out _).size).bs HLT.out; have HO := Lib.hid ho2; have HB := Lib.hid (below_trans (HB0.out _) hb); clear ho hb ho2)
      | (at_builtin; refine cat_slice rfl _ _ rfl _ [1] 1 rfl rfl (HO.out.alloc _) (HL1.out w2 1 (by decide)) (HB.out.alloc HB.out.size _).size (l.length + 1) (by have := HLN.out; omega) rfl ?_; intro A5 c5 w5 ho2 hg2; have HO5 := Lib.hid ho2; have HB5 := Lib.hid ((HO.out.alloc _).grown hg2 (Nat.le_refl _) (HB.out.alloc HB.out.size _).size (HB.out.alloc HB.out.size _)); clear ho2 hg2))
    rw [HQ.out]
    exact ⟨_, rfl, HO5.out, HB5.out⟩
  | false =>
    go_enter Tryd.func157, Tryd.ntmps157
    go_wp2_with (first
      | ((with_reducible refine (HV.out _ (HB0.out _)).mono ?_); rintro e w2 ⟨v2, rfl, ho, hb⟩; obtain ⟨A2, c2, rfl, -, ho2⟩ := (ho.base (HB0.out _).size).bs HLT.out; have HO := Lib.hid ho2; have HB := Lib.hid (below_trans (HB0.out _) hb); clear ho hb ho2)
      | (at_builtin; refine cat_slice rfl _ _ rfl _ [0] 1 rfl rfl (HO.out.alloc _) (HL1.out w2 0 (by decide)) (HB.out.alloc HB.out.size _).size (l.length + 1) (by have := HLN.out; omega) rfl ?_; intro A5 c5 w5 ho2 hg2; have HO5 := Lib.hid ho2; have HB5 := Lib.hid ((HO.out.alloc _).grown hg2 (Nat.le_refl _) (HB.out.alloc HB.out.size _).size (HB.out.alloc HB.out.size _)); clear ho2 hg2))
    rw [HQ.out]
    exact ⟨_, rfl, HO5.out, HB5.out⟩
end Go.Proofs.YtkdhjejchdcipaaDoor
/-
  PLAIN: layer 6: heap types, value types, fields are read back.
-/
namespace Go.Proofs.YtkdhjejchdcipaaDoor
open Go.RowKit
set_option linter.unusedVariables false

namespace Tb
theorem given_ix {k : Int} (h : Kd.given k = true) : kindIx k < 12 := by
  unfold Kd.given at h
  simp only [Bool.and_eq_true, decide_eq_true_eq] at h
  have hk : k = 1 ∨ k = 2 ∨ k = 3 ∨ k = 4 ∨ k = 5 ∨ k = 6 ∨ k = 7 ∨ k = 8 ∨ k = 9 ∨ k = 10 ∨ k = 11 ∨ k = 12 := by omega
  rcases hk with rfl | rfl | rfl | rfl | rfl | rfl | rfl | rfl | rfl | rfl | rfl | rfl <;> decide
theorem ix_13 : kindIx 13 = 12 := by decide
theorem heap_cases {h : Hp} (hp : Kd.pHeap h = true) : (kindIx h.k < 12 ∧ h.n = 0) ∨ (kindIx h.k = 12 ∧ h.k = 13 ∧ 0 ≤ h.n ∧ h.n ≤ 4294967295) := by
  unfold Kd.pHeap at hp
  split at hp
  · rename_i hg
    exact .inl ⟨given_ix hg, of_decide_eq_true hp⟩
  · unfold Kd.pIdx at hp
    simp only [Bool.and_eq_true, decide_eq_true_eq] at hp
    exact .inr ⟨by rw [hp.1]; exact ix_13, hp⟩
theorem putHeap_short {h : Hp} (hx : kindIx h.k < 12) : putHeap h = [105 + kindIx h.k] := if_pos hx
theorem putHeap_long {h : Hp} (hx : kindIx h.k = 12) : putHeap h = Leb.putS h.n := if_neg (by omega)
theorem given_back {r : Rd} {t : List Nat} {h : Hp} (hx : kindIx h.k < 12) (hn : h.n = 0) (hs : Sees r (putHeap h ++ t)) : isGiven r.bs r.p = true ∧ given r.bs r.p = h := by
  rw [putHeap_short hx] at hs
  have hg := Sees.get (s := t) hs
  have h1 : isGiven r.bs r.p = true := by
    unfold isGiven
    rw [hg.2, decide_eq_true hg.1, decide_eq_true (by omega), decide_eq_true (by omega)]
    rfl
  refine ⟨h1, ?_⟩
  unfold given
  rw [if_pos h1, hg.2, Nat.add_sub_cancel_left, kinds_ix hx]
  obtain ⟨k, n⟩ := h
  dsimp only at hn ⊢
  rw [hn]
theorem putS_first {n : Int} (h0 : 0 ≤ n) : ∃ y u, Leb.putS n = y :: u ∧ (y < 64 ∨ 128 ≤ y) := by
  by_cases h : n < 64
  · exact ⟨(n % 128).toNat, [], Leb.putS_lo ⟨by omega, h⟩, .inl (by omega)⟩
  · exact ⟨(n % 128).toNat + 128, _, Leb.putS_hi (by omega), .inr (by omega)⟩
theorem heap_back {r : Rd} {t : List Nat} {h : Hp} (hp : Kd.pHeap h = true) (hs : Sees r (putHeap h ++ t)) : heap r = (h, r.go (putHeap h).length) := by
  rcases heap_cases hp with ⟨hx, hn⟩ | ⟨hx, hk, h0, h1⟩
  · have hg := given_back hx hn hs
    rw [putHeap_short hx] at hs ⊢
    refine hs.item _ _ _ _ ?_
    unfold heapAt
    rw [if_pos hg.1, hg.2]
    rfl
  · rw [putHeap_long hx] at hs ⊢
    refine hs.item _ _ _ _ ?_
    obtain ⟨y, u, hy, hr⟩ := putS_first h0
    have hg := Sees.get (x := y) (s := u ++ t) (by rw [hy] at hs; exact hs)
    have hng : isGiven r.bs r.p = false := by
      unfold isGiven
      rw [hg.2]
      simp only [Bool.and_eq_false_iff, decide_eq_false_iff_not]
      omega
    have ht : told true r.bs r.p 33 = (Leb.wordOf h.n, r.p + (Leb.putS h.n).length, 0) := by
      unfold told
      have hpl := hs.p
      rw [if_neg (by omega)]
      show Leb.rd 33 true (r.bs.drop (r.p : Int).toNat) (r.p : Int).toNat 0 0 = _
      rw [Int.toNat_natCast, hs.d]
      exact Leb.rd_putS 33 h.n t r.p (by omega) (by omega) (by omega) (by omega)
    have hw : Leb.sOf (Leb.wordOf h.n) = h.n := Leb.sOf_word h.n (by omega) (by omega)
    unfold heapAt
    rw [hng, ht]
    dsimp only
    rw [hw, if_neg (by decide), if_pos rfl, if_neg (by omega)]
    obtain ⟨k, n⟩ := h
    dsimp only at hk ⊢
    rw [hk]
theorem may_of {r : Rd} {s t : List Nat} (h : Sees r (s ++ t)) {x : Nat} {u : List Nat} (hs : s = x :: u) (b : Nat) : may b r = decide (x = b) := by
  subst hs
  exact Sees.may (s := u ++ t) h b
theorem ref_back {r : Rd} {t : List Nat} {h : Hp} (nu : Bool) (hp : Kd.pHeap h = true) (hs : Sees r (putHeap h ++ t)) : ref nu r = (⟨3, nu, h⟩, r.go (putHeap h).length) := by
  unfold ref
  rw [heap_back hp hs]
  dsimp only
  rw [if_pos (show (r.go (putHeap h).length).e = 0 from hs.e)]
theorem val_back {r : Rd} {t : List Nat} {v : Vl} (hp : Kd.pVal v = true) (hs : Sees r (putVal v ++ t)) : val r = (v, r.go (putVal v).length) := by
  unfold Kd.pVal at hp
  by_cases h1 : v.k = 1
  · rw [if_pos h1] at hp
    have hv := of_decide_eq_true hp
    have e : putVal v = [127] := by unfold putVal; rw [if_pos h1]
    rw [e] at hs ⊢
    have m := fun b => may_of hs rfl b
    unfold val
    rw [m, if_pos (by decide), hv]
    rfl
  rw [if_neg h1] at hp
  by_cases h2 : v.k = 2
  · rw [if_pos h2] at hp
    have hv := of_decide_eq_true hp
    have e : putVal v = [126] := by unfold putVal; rw [if_neg h1, if_pos h2]
    rw [e] at hs ⊢
    have m := fun b => may_of hs rfl b
    unfold val
    rw [m, if_neg (by decide), m, if_pos (by decide), hv]
    rfl
  rw [if_neg h2] at hp
  split at hp
  · rename_i h3
    obtain ⟨k, nu, h⟩ := v
    dsimp only at h1 h2 h3 hp
    subst h3
    cases nu with
    | false =>
      have e : putVal ⟨3, false, h⟩ = 100 :: putHeap h := rfl
      rw [e] at hs ⊢
      have m := fun b => may_of hs rfl b
      unfold val
      rw [m, if_neg (by decide), m, if_neg (by decide), m, if_neg (by decide), m, if_pos (by decide), ref_back false hp (Sees.next hs), on_go]
      rfl
    | true =>
      by_cases hk : h.k = 13
      · have e : putVal ⟨3, true, h⟩ = 99 :: putHeap h := by unfold putVal; simp [hk]
        rw [e] at hs ⊢
        have m := fun b => may_of hs rfl b
        unfold val
        rw [m, if_neg (by decide), m, if_neg (by decide), m, if_pos (by decide), ref_back true hp (Sees.next hs), on_go]
        rfl
      · have e : putVal ⟨3, true, h⟩ = putHeap h := by unfold putVal; simp [hk]
        rcases heap_cases hp with ⟨hx, hn⟩ | ⟨hx, hk2, -⟩
        · rw [e] at hs ⊢
          have hg := given_back hx hn hs
          rw [putHeap_short hx] at hs ⊢
          have m := fun b => may_of hs rfl b
          unfold val
          rw [m, if_neg (by simp; omega), m, if_neg (by simp; omega), m, if_neg (by simp; omega), m, if_neg (by simp; omega)]
          refine hs.item _ _ _ _ ?_
          unfold shortAt
          rw [if_pos hg.1, hg.2]
          rfl
        · exact absurd hk2 hk
  · cases hp
theorem store_back {r : Rd} {t : List Nat} {f : Fd} (hp : Kd.pField f = true) (hs : Sees r (putStore f.pk f.v ++ t)) : store r = ((f.pk, f.v), r.go (putStore f.pk f.v).length) := by
  unfold Kd.pField at hp
  by_cases h8 : f.pk = 8
  · have hv := of_decide_eq_true (by rw [if_neg (by omega), if_pos (.inl h8)] at hp; exact hp)
    have e : putStore f.pk f.v = [120] := by unfold putStore; rw [if_pos h8]
    rw [e] at hs ⊢
    unfold store
    rw [may_of hs rfl, if_pos (by decide), hv, h8]
    rfl
  by_cases h16 : f.pk = 16
  · have hv := of_decide_eq_true (by rw [if_neg (by omega), if_pos (.inr h16)] at hp; exact hp)
    have e : putStore f.pk f.v = [119] := by unfold putStore; rw [if_neg h8, if_pos h16]
    rw [e] at hs ⊢
    unfold store
    rw [may_of hs rfl, if_neg (by decide), may_of hs rfl, if_pos (by decide), hv, h16]
    rfl
  by_cases h0 : f.pk = 0
  · rw [if_pos h0] at hp
    have e : putStore f.pk f.v = putVal f.v := by unfold putStore; rw [if_neg h8, if_neg h16]
    rw [e] at hs ⊢
    have hb := val_back hp hs
    -- the first byte is none of the two
    obtain ⟨x, u, hx, h119, h120⟩ : ∃ x u, putVal f.v = x :: u ∧ x ≠ 119 ∧ x ≠ 120 := by
      unfold putVal
      split
      · exact ⟨127, [], rfl, by decide, by decide⟩
      · split
        · exact ⟨126, [], rfl, by decide, by decide⟩
        · split
          · exact ⟨100, _, rfl, by decide, by decide⟩
          · split
            · exact ⟨99, _, rfl, by decide, by decide⟩
            · rename_i h1 h2 h3 h4
              have hph : Kd.pHeap f.v.h = true := by
                unfold Kd.pVal at hp
                rw [if_neg h1, if_neg h2] at hp
                split at hp
                · exact hp
                · cases hp
              rcases heap_cases hph with ⟨hx, -⟩ | ⟨hx, hk2, -⟩
              · exact ⟨_, [], putHeap_short hx, by omega, by omega⟩
              · exact absurd hk2 h4
    unfold store
    rw [may_of hs hx, if_neg (by simp [h120]), may_of hs hx, if_neg (by simp [h119]), hb, h0]
  · rw [if_neg h0, if_neg (by omega)] at hp
    cases hp
theorem field_back {r : Rd} {t : List Nat} {f : Fd} (hp : Kd.pField f = true) (hs : Sees r (putField f ++ t)) : field r = (f, r.go (putField f).length) := by
  have e : putField f = putStore f.pk f.v ++ [if f.mu then 1 else 0] := rfl
  rw [e, List.append_assoc] at hs
  have h1 := store_back hp hs
  have h2 := hs.go
  have hg := Sees.get (s := t) h2
  have h3 : Tb.item false mutAt (r.go (putStore f.pk f.v).length) = (f.mu, (r.go (putStore f.pk f.v).length).go 1) := by
    refine h2.item _ _ _ _ ?_
    unfold mutAt
    rw [hg.2]
    cases f.mu
    · rw [if_pos ⟨hg.1, by decide⟩]; rfl
    · rw [if_pos ⟨hg.1, by decide⟩]; rfl
  unfold field
  rw [h1]
  dsimp only
  rw [h3, Rd.go_go, e, List.length_append, List.length_singleton]
end Tb
end Go.Proofs.YtkdhjejchdcipaaDoor

/-
  Layer 6, code: Rec.
-/
import Derived.Test.YtphmknhlibampaaDoorTbO
namespace Go.Proofs.YtphmknhlibampaaDoor
open Go.RowKit
set_option linter.unusedVariables false
set_option linter.unusedSimpArgs false
set_option maxRecDepth 100000

/-- The blocks of a declared type's lists. -/
def Sr.uses (x : Sr) (g : Nat) : Prop := (Value.slice x.x1.a x.x1.n x.x1.c).ownBlock = some g ∨ (Value.slice x.x2.a x.x2.n x.x2.c).ownBlock = some g ∨ (Value.slice x.x3.a x.x3.n x.x3.c).ownBlock = some g ∨ (Value.slice x.x4.a x.x4.n x.x4.c).ownBlock = some g
section
variable {w y z : World} {b n c : Nat} {A : Option Addr} {r r' r'' : Rd}
theorem OwnG.blocks {α : Type} {e sz B : Nat} {cs : α → List Value} {v : Value} {l : List α} (h : OwnG e sz cs B y v l) (hg : ∀ g, v.ownBlock = some g → z.heap[g]? = y.heap[g]?) : OwnG e sz cs B z v l := by
  refine ⟨h.1, ?_⟩
  rcases h.2 with hn | ⟨g, cap, cur, rfl, hb, hgg, rest⟩
  · exact .inl hn
  · exact .inr ⟨g, cap, cur, rfl, hb, (hg g rfl).trans hgg, rest⟩
theorem OwnS.blocks {B : Nat} {x : Sr} {s : Sb} (h : OwnS B y x s) (hg : ∀ g, x.uses g → z.heap[g]? = y.heap[g]?) : OwnS B z x s :=
  ⟨h.fin, h.sups.blocks (fun g e => hg g (.inl e)), ⟨h.comp.k, h.comp.ps.blocks (fun g e => hg g (.inr (.inl e))), h.comp.rs.blocks (fun g e => hg g (.inr (.inr (.inl e)))), h.comp.fs.blocks (fun g e => hg g (.inr (.inr (.inr e))))⟩⟩
theorem OwnS.lt {B : Nat} {x : Sr} {s : Sb} (h : OwnS B y x s) : ∀ g, x.uses g → B ≤ g ∧ g < y.heap.size := fun g hu => by
  rcases hu with hu | hu | hu | hu
  · exact h.sups.lt g hu
  · exact h.comp.ps.lt g hu
  · exact h.comp.rs.lt g hu
  · exact h.comp.fs.lt g hu
theorem OwnS.base {B B' : Nat} {x : Sr} {s : Sb} (h : OwnS B y x s) (hB : B' ≤ B) : OwnS B' y x s := ⟨h.fin, h.sups.base hB, h.comp.base hB⟩
theorem OwnS.below {B : Nat} {x : Sr} {s : Sb} (h : OwnS B y x s) (hb : Below y.heap.size y z) : OwnS B z x s := h.blocks (fun g hu => hb.block g (h.lt g hu).2)
def RecOut (b : Nat) (A : Option Addr) (n c : Nat) (q : List Sb × Rd) (w : World) (en : Ending) (w' : World) : Prop :=
  ∃ (x : Sl) (xs : List Sr), en = .returned (.slice x.a x.n x.c) ∧ OwnG 70 6 Sr.cs w.heap.size w' (.slice x.a x.n x.c) xs ∧ All2 (OwnS w.heap.size w') xs q.1 ∧ RdAt w' b A n c q.2 ∧ Keep (Db b) w w'
theorem subs_any (h : RdAt w b A n c r) (hn : n < 1000000) (hT : Tab6 w) :
    Calls Tryd.prog 67 #[.pointer (some ⟨b, 0, none⟩), .func (.func 68) #[.pointer (some ⟨b, 0, none⟩)] #[]] w (RecOut b A n c (Tb.list Tb.sub r) w) :=
  (listS_any h hn Tb.sub (OwnS w.heap.size) Sr.uses 68 (enters_of Tryd.func68 (by kernel_rfl) rfl)
    (fun _ _ _ _ h _ hg => h.blocks hg) (fun y r' hy hk => (sub_any hy hn (hT.out h hk)).mono fun e y' ⟨x, h1, h2, h3, h4⟩ => ⟨x, h1, h2.base hk.size, h2.lt, h3, h4⟩)).mono
    fun e w' ⟨v, xs, h1, h2, h3, _, h5, h6⟩ => by
      obtain ⟨x, rfl⟩ := h2.sl
      exact ⟨x, xs, h1, h2, h3, h5, h6⟩
set_option maxHeartbeats 4000000 in
theorem Rec_any (h : RdAt w b A n c r) (hn : n < 1000000) (hT : Tab6 w) : Calls Tryd.prog 30 #[.pointer (some ⟨b, 0, none⟩)] w (RecOut b A n c (Tb.rec_ r) w) := by
  have HH := Lib.hid h
  have HT := Lib.hid hT
  cases hm0 : Tb.may 78 r with
  | true =>
    have HM0 := Lib.hid hm0
    have e : Tb.rec_ r = Tb.list Tb.sub (Tb.on r) := by unfold Tb.rec_; rw [if_pos hm0]
    rw [e]
    have HV1 : Hid (∀ y, RdAt y b A n c (Tb.on r) → Keep (Db b) w y → Calls Tryd.prog 67 #[.pointer (some ⟨b, 0, none⟩), .func (.func 68) #[.pointer (some ⟨b, 0, none⟩)] #[]] y (RecOut b A n c (Tb.list Tb.sub (Tb.on r)) y)) := Lib.hid fun y hy hk => subs_any hy hn (HT.out.out HH.out hk)
    obtain ⟨q, hq⟩ : ∃ q, Tb.list Tb.sub (Tb.on r) = q := ⟨_, rfl⟩
    rw [hq] at HV1 ⊢
    clear h hT e hm0 hq
    go_enter Tryd.func30, Tryd.ntmps30
    go_wp2_with (first
      | (go_at_call 61; (with_reducible refine (may_yes HH.out 78 78 rfl HM0.out).mono ?_); rintro e w1 ⟨rfl, h1, h2⟩; have hR := Lib.hid h1; have hK := Lib.hid h2; clear h1 h2)
      | (go_at_call 67; (with_reducible refine (HV1.out _ hR.out hK.out).mono ?_); rintro e w2 ⟨x, xs, rfl, h1, h2, h3, h4⟩; have G1 := Lib.hid h1; have G2 := Lib.hid h2; have G3 := Lib.hid h3; have G4 := Lib.hid h4; clear h1 h2 h3 h4))
    go_ret
    exact ⟨x, xs, rfl, G1.out.base hK.out.size, All2.imp (fun _ _ h => h.base hK.out.size) G2.out, G3.out, hK.out.trans G4.out⟩
  | false =>
    have HM0 := Lib.hid hm0
    have HV1 : Hid (∀ y, RdAt y b A n c r → Keep (Db b) w y → Calls Tryd.prog 68 #[.pointer (some ⟨b, 0, none⟩)] y (SubOut b A n c (Tb.sub r) y)) := Lib.hid fun y hy hk => sub_any hy hn (HT.out.out HH.out hk)
    have e : Tb.rec_ r = if (Tb.sub r).2.e = 0 then ([(Tb.sub r).1], (Tb.sub r).2) else ([], (Tb.sub r).2) := by unfold Tb.rec_; rw [if_neg (by simp [hm0])]
    rw [e]
    obtain ⟨q, hq⟩ : ∃ q, Tb.sub r = q := ⟨_, rfl⟩
    rw [hq] at HV1 ⊢
    by_cases he : q.2.e = 0
    · rw [if_pos he]
      have HG : Hid (∀ y, RdAt y b A n c q.2 → Calls Tryd.prog 69 #[.pointer (some ⟨b, 0, none⟩)] y fun e w' => e = .returned (.bool true) ∧ y = w') := Lib.hid fun y hy => goes_any hy true (by simp [he])
      clear h hT e hm0 hq he
      go_enter Tryd.func30, Tryd.ntmps30
      go_wp2_with (first
        | (go_at_call 61; (with_reducible refine (may_no HH.out 78 78 rfl HM0.out).mono ?_); rintro e w1 ⟨rfl, h1, h2⟩; have hR := Lib.hid h1; have hK := Lib.hid h2; clear h1 h2)
        | (go_at_call 68; (with_reducible refine (HV1.out _ hR.out hK.out).mono ?_); rintro e w2 ⟨x, rfl, h1, h3, h4⟩; have hB2 : Hid (Below w2.heap.size w2 (w2.alloc (.cells #[.bool x.fin, .slice x.x1.a x.x1.n x.x1.c, .int .i64 x.k, .slice x.x2.a x.x2.n x.x2.c, .slice x.x3.a x.x3.n x.x3.c, .slice x.x4.a x.x4.n x.x4.c] 70))) := Lib.hid ((Below.refl _ _).alloc (Nat.le_refl _) _); have hr3 : Hid ((w2.alloc (.cells #[.bool x.fin, .slice x.x1.a x.x1.n x.x1.c, .int .i64 x.k, .slice x.x2.a x.x2.n x.x2.c, .slice x.x3.a x.x3.n x.x3.c, .slice x.x4.a x.x4.n x.x4.c] 70)).heap[w2.heap.size]? = some (.cells #[.bool x.fin, .slice x.x1.a x.x1.n x.x1.c, .int .i64 x.k, .slice x.x2.a x.x2.n x.x2.c, .slice x.x3.a x.x3.n x.x3.c, .slice x.x4.a x.x4.n x.x4.c] 70 (0, 0))) := Lib.hid (World.alloc_heap_new _ _); have hS := Lib.hid (h1.below hB2.out); have hR := Lib.hid (h3.below (Nat.le_refl _) hB2.out); have hK1 := Lib.hid hK.out.size; have hK := Lib.hid ((hK.out.trans h4).trans (Keep.of_below hB2.out)); clear h1 h3 h4)
        | (go_at_call 69; (with_reducible refine (HG.out _ hR.out).mono ?_); rintro e w3 ⟨rfl, rfl⟩)
        | (refine wpList_load_row rfl 70 (.tmp 3) rfl w2.heap.size rfl _ _ _ _ hr3.out Tryd.underlying70 rfl (by kernel_rfl) ?_))
      go_ret
      have hb3 : Below (w2.alloc (.cells #[.bool x.fin, .slice x.x1.a x.x1.n x.x1.c, .int .i64 x.k, .slice x.x2.a x.x2.n x.x2.c, .slice x.x3.a x.x3.n x.x3.c, .slice x.x4.a x.x4.n x.x4.c] 70)).heap.size (w2.alloc (.cells #[.bool x.fin, .slice x.x1.a x.x1.n x.x1.c, .int .i64 x.k, .slice x.x2.a x.x2.n x.x2.c, .slice x.x3.a x.x3.n x.x3.c, .slice x.x4.a x.x4.n x.x4.c] 70)) _ := (Below.refl _ _).alloc (Nat.le_refl _) (.cells #[.bool x.fin, .slice x.x1.a x.x1.n x.x1.c, .int .i64 x.k, .slice x.x2.a x.x2.n x.x2.c, .slice x.x3.a x.x3.n x.x3.c, .slice x.x4.a x.x4.n x.x4.c] 70)
      refine ⟨⟨some ⟨(w2.alloc (.cells #[.bool x.fin, .slice x.x1.a x.x1.n x.x1.c, .int .i64 x.k, .slice x.x2.a x.x2.n x.x2.c, .slice x.x3.a x.x3.n x.x3.c, .slice x.x4.a x.x4.n x.x4.c] 70)).heap.size, 0, none⟩, 1, 1⟩, [x], ?_, OwnG.lit1 elemSub _ hK.out.size x _ rfl, ⟨(hS.out.base hK1.out).below hb3, trivial⟩, hR.out.below (Nat.le_refl _) hb3, hK.out.trans (Keep.of_below hb3)⟩
      simp
    · rw [if_neg he]
      have HG : Hid (∀ y, RdAt y b A n c q.2 → Calls Tryd.prog 69 #[.pointer (some ⟨b, 0, none⟩)] y fun e w' => e = .returned (.bool false) ∧ y = w') := Lib.hid fun y hy => goes_any hy false (by simp [he])
      clear h hT e hm0 hq he
      go_enter Tryd.func30, Tryd.ntmps30
      go_wp2_with (first
        | (go_at_call 61; (with_reducible refine (may_no HH.out 78 78 rfl HM0.out).mono ?_); rintro e w1 ⟨rfl, h1, h2⟩; have hR := Lib.hid h1; have hK := Lib.hid h2; clear h1 h2)
        | (go_at_call 68; (with_reducible refine (HV1.out _ hR.out hK.out).mono ?_); rintro e w2 ⟨x, rfl, h1, h3, h4⟩; have hB2 : Hid (Below w2.heap.size w2 (w2.alloc (.cells #[.bool x.fin, .slice x.x1.a x.x1.n x.x1.c, .int .i64 x.k, .slice x.x2.a x.x2.n x.x2.c, .slice x.x3.a x.x3.n x.x3.c, .slice x.x4.a x.x4.n x.x4.c] 70))) := Lib.hid ((Below.refl _ _).alloc (Nat.le_refl _) _); have hR := Lib.hid (h3.below (Nat.le_refl _) hB2.out); have hK := Lib.hid ((hK.out.trans h4).trans (Keep.of_below hB2.out)); clear h1 h3 h4)
        | (go_at_call 69; (with_reducible refine (HG.out _ hR.out).mono ?_); rintro e w3 ⟨rfl, rfl⟩))
      go_ret
      exact ⟨Sl.no, [], rfl, OwnG.nil _ _, trivial, hR.out, hK.out⟩
end
end Go.Proofs.YtphmknhlibampaaDoor

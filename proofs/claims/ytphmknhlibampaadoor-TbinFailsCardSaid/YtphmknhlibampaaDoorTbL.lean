/-
  Layer 6, code: Vals, comp.
-/
import Derived.Test.YtphmknhlibampaaDoorTbK
namespace Go.Proofs.YtphmknhlibampaaDoor
open Go.RowKit
set_option linter.unusedVariables false
set_option linter.unusedSimpArgs false
set_option maxRecDepth 100000

section
variable {α : Type} {e ts sz B g : Nat} {cs : α → List Value} {w y : World} {v : Value} {l : List α} {b n c : Nat} {A : Option Addr} {r r' : Rd}
theorem OwnG.setRow_far (h : OwnG e sz cs B w v l) (hg : g < B) (rs : Array Value) : OwnG e sz cs B (w.setRow g rs) v l :=
  World.ownsRow.kept (row := some g) h ⟨rfl, rfl, rfl, by rw [size_setRow]; exact Nat.le_refl _, fun k hk1 hk2 => setRow_other _ _ _ _ (fun e => hk2 (by rw [e]))⟩ (by
    rcases hv : v.ownBlock with _ | k
    · exact .inl rfl
    · exact .inr (fun e => by injection e with e; have := (h.lt k hv).1; omega))
theorem OwnG.setCell_far (h : OwnG e sz cs B w v l) (hg : g < B) (i : Nat) (u : Value) : OwnG e sz cs B (w.setCell ⟨g, i, none⟩ u) v l :=
  World.ownsRow.kept (row := some g) h ⟨rfl, rfl, rfl, by simp, fun k hk1 hk2 => heap_setCell_other _ _ _ _ (fun e => hk2 (by rw [e]))⟩ (by
    rcases hv : v.ownBlock with _ | k
    · exact .inl rfl
    · exact .inr (fun e => by injection e with e; have := (h.lt k hv).1; omega))
theorem OwnG.sl (h : OwnG e sz cs B w v l) : ∃ x : Sl, v = .slice x.a x.n x.c := by
  obtain ⟨A', c', e⟩ := h.form
  exact ⟨⟨A', l.length, c'⟩, e⟩
/-- A list that a reader told. -/
def ListOut (b : Nat) (A : Option Addr) (n c : Nat) {α : Type} (e sz : Nat) (cs : α → List Value) (l : List α) (r' : Rd) (w : World) (en : Ending) (w' : World) : Prop :=
  ∃ x : Sl, en = .returned (.slice x.a x.n x.c) ∧ OwnG e sz cs w.heap.size w' (.slice x.a x.n x.c) l ∧ RdAt w' b A n c r' ∧ Keep (Db b) w w'
theorem listOut_of {v : Value} {xs l : List α} {en : Ending} {w' : World} (h : ∃ v xs, en = .returned v ∧ OwnG e sz cs w.heap.size w' v xs ∧ All2 (fun x z => x = z) xs l ∧ (∀ x ∈ xs, ∀ g, (fun (_ : α) (_ : Nat) => False) x g → w.heap.size ≤ g ∧ g < w'.heap.size ∧ v.ownBlock ≠ some g) ∧ RdAt w' b A n c r' ∧ Keep (Db b) w w') :
    ListOut b A n c e sz cs l r' w en w' := by
  obtain ⟨v, xs, h1, h2, h3, -, h5, h6⟩ := h
  obtain ⟨x, rfl⟩ := h2.sl
  exact ⟨x, h1, by rw [← h3.eq]; exact h2, h5, h6⟩
set_option maxHeartbeats 2000000 in
theorem Vals_any (h : RdAt w b A n c r) (hn : n < 1000000) (hT : Tab6 w) : Calls Tryd.prog 27 #[.pointer (some ⟨b, 0, none⟩)] w (ListOut b A n c 46 4 Vl.cs (Tb.vals r).1 (Tb.vals r).2 w) := by
  have H := Lib.hid ((listV_any h hn Tb.val (fun _ x z => x = z) (fun _ _ => False) 24 (enters_of Tryd.func24 (by kernel_rfl) rfl)
    (fun _ _ _ _ h _ _ => h) (fun y r' hy hk => (Val_rd hy (hT.out h hk)).mono fun e y' ⟨h1, h2, h3⟩ => ⟨_, h1, rfl, fun _ h => h.elim, h2, h3⟩)).mono fun _ _ => listOut_of (v := .slice none 0 0) (xs := []))
  clear h hT
  go_enter Tryd.func27, Tryd.ntmps27
  go_wp2_with (refine H.out.mono ?_; rintro e w1 ⟨x, rfl, h1⟩)
  go_ret
  exact ⟨x, rfl, h1⟩
theorem sups_any (h : RdAt w b A n c r) (hn : n < 1000000) : Calls Tryd.prog 85 #[.pointer (some ⟨b, 0, none⟩), .func (.func 86) #[.pointer (some ⟨b, 0, none⟩)] #[]] w (ListOut b A n c 42 2 Hp.cs (Tb.list Tb.index r).1 (Tb.list Tb.index r).2 w) :=
  (listH_any h hn Tb.index (fun _ x z => x = z) (fun _ _ => False) 86 (enters_of Tryd.func86 (by kernel_rfl) rfl)
    (fun _ _ _ _ h _ _ => h) (fun y r' hy hk => (index_any hy).mono fun e y' ⟨h1, h2, h3⟩ => ⟨_, h1, rfl, fun _ h => h.elim, h2, h3⟩)).mono fun _ _ => listOut_of (v := .slice none 0 0) (xs := [])
theorem fields_any (h : RdAt w b A n c r) (hn : n < 1000000) (hT : Tab6 w) : Calls Tryd.prog 107 #[.pointer (some ⟨b, 0, none⟩), .func (.func 108) #[.pointer (some ⟨b, 0, none⟩)] #[]] w (ListOut b A n c 126 6 Fd.cs (Tb.list Tb.field r).1 (Tb.list Tb.field r).2 w) :=
  (listF_any h hn Tb.field (fun _ x z => x = z) (fun _ _ => False) 108 (enters_of Tryd.func108 (by kernel_rfl) rfl)
    (fun _ _ _ _ h _ _ => h) (fun y r' hy hk => (field_any hy (hT.out h hk)).mono fun e y' ⟨h1, h2, h3⟩ => ⟨_, h1, rfl, fun _ h => h.elim, h2, h3⟩)).mono fun _ _ => listOut_of (v := .slice none 0 0) (xs := [])
end
end Go.Proofs.YtphmknhlibampaaDoor

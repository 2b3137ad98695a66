/-
  Words for slices of ints that the call made.
-/
import Derived.Test.YtphmknhlibampaaDoorKit
namespace Go.Proofs.YtphmknhlibampaaDoor
open Go.RowKit
set_option linter.unusedVariables false

theorem int_info : (Tryd.prog.info? 3).map (fun i => (i.zero, i.size, i.bytes)) = some (some (.int .i64 0), 1, 8) := by kernel_rfl
theorem info_int : ∃ i, Tryd.prog.info? 3 = some i ∧ i.zero = some (.int .i64 0) ∧ i.size = 1 ∧ i.bytes = 8 := by
  obtain ⟨i0, hi0, hz0, hz1, hz2⟩ := info_parts int_info
  exact ⟨i0, hi0, hz0, hz1, hz2⟩
def I64 (x : Nat) : Value := .int .i64 (x : Int)
def OwnI (B : Nat) (w : World) (v : Value) (l : List Nat) : Prop := w.ownsRow B 3 1 v l.length (l.map I64)
section
variable {w w' : World} {B C n c : Nat} {A : Option Addr} {v : Value} {l : List Nat}
theorem OwnI.nil (w : World) (B : Nat) : OwnI B w (.slice none 0 0) [] := World.ownsRow_nil w B _ _
theorem OwnI.below (h : OwnI B w v l) (hb : Below w.heap.size w w') : OwnI B w' v l :=
  World.ownsRow.kept (row := none) h ⟨hb.os, hb.tape, hb.output, hb.size, fun k hk _ => hb.block k hk⟩ (by cases v.ownBlock <;> simp)
theorem OwnI.form (h : OwnI B w v l) : ∃ A c, v = .slice A l.length c := by
  obtain ⟨h1, h2⟩ := h
  rcases h2 with ⟨rfl, h0⟩ | ⟨g, cap, cur, rfl, _⟩
  · exact ⟨none, 0, by rw [h0]⟩
  · exact ⟨_, cap, rfl⟩
theorem OwnI.open_ (h : OwnI B w (.slice A n c) l) (hn : 0 < n) : n = l.length ∧ ∃ g, A = some ⟨g, 0, none⟩ ∧ B ≤ g ∧ g < w.heap.size ∧
    ∀ j (hj : j < l.length), w.cell? ⟨g, j, none⟩ = some (.int .i64 (l[j] : Int)) := by
  obtain ⟨A', c', e⟩ := h.form
  injection e with e1 e2 e3
  subst e2
  have h' := h
  obtain ⟨h1, h2⟩ := h
  rcases h2 with ⟨he, h0⟩ | ⟨g, cap, cur, he, hg, hh, r⟩
  · omega
  · injection he with e1 _ e3
    subst e1 e3
    refine ⟨rfl, g, rfl, hg, (Array.getElem?_eq_some_iff.1 hh).1, fun j hj => ?_⟩
    rw [World.ownsRow.cellAt h' j (by omega)]
    simp [hj, I64]
theorem OwnI.grown {W wr w' : World} (hown : OwnI B wr v l) (hg : wr.grownBy w' v.ownBlock) (hC : C ≤ B) (hC' : C ≤ wr.heap.size) (hb : Below C W wr) : Below C W w' :=
  hb.grown hg hC' (fun k hk => by have := (World.ownsRow.lt hown k hk).1; omega)
theorem push_int {ops : Array Oper} {rest : List Oper} {o : Oper} {a : Act} {Q : Exit → Act → World → Prop} (hgd : o.guard = none) (s x : Operand)
    (ho : o.op = .call { callee := .builtin .append, args := #[s, x], argTypes := #[112, 112] }) (wr : World) (z : Nat) (hz : z = wr.heap.size) (y : Nat) (yv : Int)
    (hs : a.eval s = v) (hx : a.eval x = .slice (some ⟨z, 0, none⟩) 1 1) (hown : OwnI B wr v l) (hB : B ≤ wr.heap.size) (hl : l.length < 1000000) (k : Nat) (hk : l.length + 1 = k)
    (h : ∀ A' c' w', OwnI B w' (.slice A' k c') (l ++ [y]) → wr.grownBy w' v.ownBlock → wpList Tryd.prog ops Q rest (a.put o.dst (.slice A' k c')) w') (hy : yv = (y : Int)) :
    wpList Tryd.prog ops Q (o :: rest) a (wr.alloc (.cells #[.int .i64 yv] 3)) := by
  obtain ⟨i0, hi0, hz0, hz1, hz2⟩ := info_int
  subst hy hz hk
  refine wpList_append_own _ hgd s x 112 ho B 3 i0 (.int .i64 0) 1 8 Tryd.underlying112 hi0 hz0 hz1 hz2 rfl (by decide) v l.length (l.map I64) hs (World.ownsRow.alloc hown _) ⟨wr.heap.size, 0, none⟩ 1 1 [I64 y] hx rfl ?_ ?_ (by simp only [maxLen]; omega) (by omega) (by simp; omega) ?_
  · intro j u hu
    cases j with
    | succ j => simp at hu
    | zero =>
      simp at hu
      subst hu
      rw [show ((⟨wr.heap.size, 0, none⟩ : Addr).add 0) = ⟨wr.heap.size, 0, none⟩ from rfl, World.cell?_alloc_at _ _ _ _ rfl]; rfl
  · intro u hu; simp at hu; subst hu; rfl
  · intro v' w' hown' hg _
    have h1 : OwnI B w' v' (l ++ [y]) := by simpa [OwnI, I64] using hown'
    obtain ⟨A', c', rfl⟩ := h1.form
    rw [List.length_append, List.length_singleton] at *
    refine h A' c' w' h1 ⟨hg.os, hg.tape, hg.output, Nat.le_trans (by simp) hg.size, fun k hk hne => ?_⟩
    rw [hg.block k (by simp; omega) hne]
    exact Below.heap_alloc wr _ k hk
end
end Go.Proofs.YtphmknhlibampaaDoor

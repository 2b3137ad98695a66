/-
  Appends onto slices that the call made, where the new row lies; for plain regions (cat_at, push_at) and for a step of one that draws (step_cat, step_push).
-/
import Derived.Test.YtphmknhlibampaaDoorKitG
import Derived.Maps.AppendAt
import Derived.Deep.AppendLies
namespace Go.Proofs.YtphmknhlibampaaDoor
open Go.RowKit
set_option linter.unusedVariables false
set_option maxRecDepth 100000

section
variable {α : Type} {e ts sz : Nat} {cs : α → List Value} {w w' : World} {B C n c : Nat} {A : Option Addr} {v : Value} {l m : List α}
/-- The row of v' is v's, or a new one. -/
def Rowed (wr : World) (v v' : Value) : Prop := ∀ g, v'.ownBlock = some g → v.ownBlock = some g ∨ wr.heap.size ≤ g
theorem run_cat (hE : Elem e ts sz cs) (ty : Nat) (wr : World) (n2 : Nat) (hown : OwnG e sz cs B wr v l) (hn2 : m.length = n2) (hb : Seg sz cs wr C A c m) (hB : B ≤ wr.heap.size) (k : Nat) (hl : k < 1000000) (hk : l.length + n2 = k) :
    ∃ A' c' w', (Builtin.append_ #[ts, ts] ty #[v, .slice A n2 c]).run Tryd.prog wr = .ok (.slice A' k c') w' ∧ OwnG e sz cs B w' (.slice A' k c') (l ++ m) ∧ wr.grownBy w' v.ownBlock ∧ Rowed wr v (.slice A' k c') := by
  obtain ⟨i0, z, hi0, hz0, hz1, hz2, hz3⟩ := hE.info
  obtain ⟨hmc, hcm, hcell⟩ := hb
  subst hn2
  subst hk
  rcases A with _ | ad
  · have hl2 : m = [] := by
      rcases Nat.eq_zero_or_pos m.length with h0 | h0
      · exact List.eq_nil_of_length_eq_zero h0
      · obtain ⟨b, off, e, _⟩ := hcell h0; cases e
    subst hl2
    have hrun : (Builtin.append_ #[ts, ts] ty #[v, .slice none 0 c]).run Tryd.prog wr = .ok v wr := by
      rcases hown.2 with ⟨rfl, h0⟩ | ⟨g, cap, cur, rfl, _, _, hnc, _⟩
      · simp [Builtin.append_, run_underlying hE.under, sizeOf, typeInfo, hi0, Builtin.lenOf, Builtin.firstCells]
      · simp [Builtin.append_, run_underlying hE.under, sizeOf, typeInfo, hi0, Builtin.lenOf, Builtin.firstCells, hnc, storeCells]
    obtain ⟨A', c', e⟩ := hown.form
    refine ⟨A', c', wr, by simpa [← e] using hrun, by simpa [← e] using hown, ⟨rfl, rfl, rfl, Nat.le_refl _, fun _ _ _ => rfl⟩, fun g hg => .inl ?_⟩
    simp only [List.length_nil, Nat.add_zero, ← e] at hg
    exact hg
  · obtain ⟨v', w', hr, h2, h3, _, h5⟩ := run_append_own_at (P := Tryd.prog) wr B ts ty e i0 z sz i0.bytes hE.under hi0 hz0 hz1 rfl hz2 hE.pos v l.length (l.flatMap cs) hown ad m.length c (m.flatMap cs) (flat_len hE.len m) (by
        intro p u hu
        obtain ⟨j, i, hj, rfl, hu'⟩ := flat_of hE.len hE.pos m p u hu
        obtain ⟨b, off, e, hbC, hc⟩ := hcell (by omega)
        injection e with e
        subst e
        rw [Addr.add_lit, ← Nat.add_assoc, hc j hj i u hu']) (by
        intro u hu
        obtain ⟨y, _, hy⟩ := List.mem_flatMap.1 hu
        exact hE.one y u hy) (by simp only [maxLen]; omega) (by
        have := Nat.mul_le_mul (Nat.le_of_lt hl) hz3
        omega) hB
    have h1 : OwnG e sz cs B w' v' (l ++ m) := by simpa [OwnG] using h2
    obtain ⟨A', c', rfl⟩ := h1.form
    rw [List.length_append] at *
    refine ⟨A', c', w', hr, h1, h3, fun g hg => ?_⟩
    rcases h5 with h5 | h5
    · exact .inl (by rw [← h5]; exact hg)
    · rw [h5] at hg
      injection hg with hg
      exact .inr (Nat.le_of_eq hg)
theorem seg_new (hE : Elem e ts sz cs) (wr : World) (y : α) (ys : Array Value) (t : Nat) (hy : ys.toList = cs y) : Seg sz cs (wr.alloc (.cells ys t)) (wr.heap.size + 1) (some ⟨wr.heap.size, 0, none⟩) 1 [y] := by
  have hys : ys = (cs y).toArray := by rw [← hy]
  refine ⟨by simp, by simp [maxLen], fun _ => ⟨wr.heap.size, 0, rfl, by omega, fun j hj i u hu => ?_⟩⟩
  have h0 : j = 0 := by simp at hj; omega
  subst h0
  rw [Nat.zero_add, Nat.zero_mul, Nat.zero_add, World.cell?_alloc_at _ _ _ _ rfl, hys]
  simpa using hu
theorem run_push (hE : Elem e ts sz cs) (ty : Nat) (wr : World) (y : α) (ys : Array Value) (t : Nat) (hy : ys.toList = cs y) (hown : OwnG e sz cs B wr v l) (hB : B ≤ wr.heap.size) (k : Nat) (hl : k < 1000000) (hk : l.length + 1 = k) :
    ∃ A' c' w', (Builtin.append_ #[ts, ts] ty #[v, .slice (some ⟨wr.heap.size, 0, none⟩) 1 1]).run Tryd.prog (wr.alloc (.cells ys t)) = .ok (.slice A' k c') w' ∧ OwnG e sz cs B w' (.slice A' k c') (l ++ [y]) ∧ wr.grownBy w' v.ownBlock ∧ Rowed wr v (.slice A' k c') := by
  obtain ⟨A', c', w', h1, h2, h3, h4⟩ := run_cat hE ty (wr.alloc (.cells ys t)) 1 (hown.alloc _) (m := [y]) rfl (seg_new hE wr y ys t hy) (by simp; omega) k hl hk
  refine ⟨A', c', w', h1, h2, ⟨h3.os, h3.tape, h3.output, Nat.le_trans (by simp) h3.size, fun k hk hne => ?_⟩, fun g hg => ?_⟩
  · rw [h3.block k (by simp; omega) hne]
    exact Below.heap_alloc wr _ k hk
  · rcases h4 g hg with h | h
    · exact .inl h
    · exact .inr (by simp at h; omega)
theorem wp_append_run {o : Oper} {a : Act} {K : Act → World → Prop} {Q : Exit → Act → World → Prop} (s x : Operand) (ho : o.op = .call { callee := .builtin .append, args := #[s, x], argTypes := #[ts, ts] }) {xv r : Value} (hs : a.eval s = v) (hx : a.eval x = xv)
    (hrun : (Builtin.append_ #[ts, ts] o.type #[v, xv]).run Tryd.prog w = .ok r w') (h : K (a.put o.dst r) w') : o.wp Tryd.prog a w K Q := by
  unfold Oper.wp execOp
  simp only [ho, resolve, invoke, builtin, Sem.run_bind, Sem.run_pure, Result.andThen_ok, List.map_toArray, List.map_cons, List.map_nil, hs, hx, hrun]
  exact h
/-- 'append(v, m...)' in a plain region. -/
theorem cat_at (hE : Elem e ts sz cs) {ops : Array Oper} {rest : List Oper} {o : Oper} {a : Act} {Q : Exit → Act → World → Prop} (hgd : o.guard = none) (s x : Operand)
    (ho : o.op = .call { callee := .builtin .append, args := #[s, x], argTypes := #[ts, ts] }) (wr : World) (n2 : Nat)
    (hs : a.eval s = v) (hx : a.eval x = .slice A n2 c) (hown : OwnG e sz cs B wr v l) (hn2 : m.length = n2) (hb : Seg sz cs wr C A c m) (hB : B ≤ wr.heap.size) (k : Nat) (hl : k < 1000000) (hk : l.length + n2 = k)
    (h : ∀ A' c' w', OwnG e sz cs B w' (.slice A' k c') (l ++ m) → wr.grownBy w' v.ownBlock → Rowed wr v (.slice A' k c') → wpList Tryd.prog ops Q rest (a.put o.dst (.slice A' k c')) w') :
    wpList Tryd.prog ops Q (o :: rest) a wr := by
  obtain ⟨A', c', w', hrun, h1, h2, h3⟩ := run_cat hE o.type wr n2 hown hn2 hb hB k hl hk
  exact wpList_plain hgd fun K hK => wp_append_run s x ho hs hx hrun (hK _ _ (h A' c' w' h1 h2 h3))
/-- 'append(v, y)' in a plain region. -/
theorem push_at (hE : Elem e ts sz cs) {ops : Array Oper} {rest : List Oper} {o : Oper} {a : Act} {Q : Exit → Act → World → Prop} (hgd : o.guard = none) (s x : Operand)
    (ho : o.op = .call { callee := .builtin .append, args := #[s, x], argTypes := #[ts, ts] }) (wr : World) (z : Nat) (hz : z = wr.heap.size) (y : α) (ys : Array Value) (t : Nat)
    (hs : a.eval s = v) (hx : a.eval x = .slice (some ⟨z, 0, none⟩) 1 1) (hown : OwnG e sz cs B wr v l) (hB : B ≤ wr.heap.size) (k : Nat) (hl : k < 1000000) (hk : l.length + 1 = k) (hy : ys.toList = cs y)
    (h : ∀ A' c' w', OwnG e sz cs B w' (.slice A' k c') (l ++ [y]) → wr.grownBy w' v.ownBlock → Rowed wr v (.slice A' k c') → wpList Tryd.prog ops Q rest (a.put o.dst (.slice A' k c')) w') :
    wpList Tryd.prog ops Q (o :: rest) a (wr.alloc (.cells ys t)) := by
  subst hz
  obtain ⟨A', c', w', hrun, h1, h2, h3⟩ := run_push hE o.type wr y ys t hy hown hB k hl hk
  exact wpList_plain hgd fun K hK => wp_append_run s x ho hs hx hrun (hK _ _ (h A' c' w' h1 h2 h3))
/-- The same as a step of a region that draws its order. -/
theorem step_cat (hE : Elem e ts sz cs) {ops : Array Oper} {o : Oper} {a : Act} {K : Act → World → Prop} {Q : Exit → Act → World → Prop} {E : Prop} (hgd : o.guard = none) (s x : Operand)
    (ho : o.op = .call { callee := .builtin .append, args := #[s, x], argTypes := #[ts, ts] }) (wr : World) (n2 : Nat)
    (hs : a.eval s = v) (hx : a.eval x = .slice A n2 c) (hown : OwnG e sz cs B wr v l) (hn2 : m.length = n2) (hb : Seg sz cs wr C A c m) (hB : B ≤ wr.heap.size) (k : Nat) (hl : k < 1000000) (hk : l.length + n2 = k)
    (h : ∀ A' c' w', OwnG e sz cs B w' (.slice A' k c') (l ++ m) → wr.grownBy w' v.ownBlock → Rowed wr v (.slice A' k c') → K (a.put o.dst (.slice A' k c')) w') :
    if Region.wanted o (yielded ops a.tmps) = true then Oper.wp Tryd.prog o a wr K Q else E := by
  have hw : Region.wanted o (yielded ops a.tmps) = true := by simp [Region.wanted, hgd]
  rw [if_pos hw]
  obtain ⟨A', c', w', hrun, h1, h2, h3⟩ := run_cat hE o.type wr n2 hown hn2 hb hB k hl hk
  exact wp_append_run s x ho hs hx hrun (h A' c' w' h1 h2 h3)
theorem step_push (hE : Elem e ts sz cs) {ops : Array Oper} {o : Oper} {a : Act} {K : Act → World → Prop} {Q : Exit → Act → World → Prop} {E : Prop} (hgd : o.guard = none) (s x : Operand)
    (ho : o.op = .call { callee := .builtin .append, args := #[s, x], argTypes := #[ts, ts] }) (wr : World) (z : Nat) (hz : z = wr.heap.size) (y : α) (ys : Array Value) (t : Nat)
    (hs : a.eval s = v) (hx : a.eval x = .slice (some ⟨z, 0, none⟩) 1 1) (hown : OwnG e sz cs B wr v l) (hB : B ≤ wr.heap.size) (k : Nat) (hl : k < 1000000) (hk : l.length + 1 = k) (hy : ys.toList = cs y)
    (h : ∀ A' c' w', OwnG e sz cs B w' (.slice A' k c') (l ++ [y]) → wr.grownBy w' v.ownBlock → Rowed wr v (.slice A' k c') → K (a.put o.dst (.slice A' k c')) w') :
    if Region.wanted o (yielded ops a.tmps) = true then Oper.wp Tryd.prog o a (wr.alloc (.cells ys t)) K Q else E := by
  subst hz
  have hw : Region.wanted o (yielded ops a.tmps) = true := by simp [Region.wanted, hgd]
  rw [if_pos hw]
  obtain ⟨A', c', w', hrun, h1, h2, h3⟩ := run_push hE o.type wr y ys t hy hown hB k hl hk
  exact wp_append_run s x ho hs hx hrun (h A' c' w' h1 h2 h3)
theorem OwnG.empty (w : World) (hB : B ≤ w.heap.size) : OwnG e sz cs B (w.alloc (.cells #[] e)) (.slice (some ⟨w.heap.size, 0, none⟩) 0 0) ([] : List α) := World.ownsRow_made w #[] 0 hB (by simp [maxLen]) (by simp)
theorem OwnG.base {B' : Nat} (h : OwnG e sz cs B w v l) (hB : B' ≤ B) : OwnG e sz cs B' w v l := by
  obtain ⟨h1, h2⟩ := h
  refine ⟨h1, ?_⟩
  rcases h2 with h2 | ⟨g, cap, cur, hv, hg, r⟩
  · exact .inl h2
  · exact .inr ⟨g, cap, cur, hv, by omega, r⟩
/-- A row that another one's growing leaves alone. -/
theorem OwnG.kept {row : Option Nat} (h : OwnG e sz cs B w v l) (hg : w.grownBy w' row) (hne : ∀ g, v.ownBlock = some g → row ≠ some g) : OwnG e sz cs B w' v l := by
  refine World.ownsRow.kept h hg ?_
  cases hv : v.ownBlock with
  | none => exact .inl rfl
  | some g => exact .inr (fun e => hne g hv e.symm)
theorem Seg.kept {b off : Nat} {row : Option Nat} (h : Seg sz cs w C (some ⟨b, off, none⟩) c l) (hg : w.grownBy w' row) (hb : b < w.heap.size) (hne : row ≠ some b) : Seg sz cs w' C (some ⟨b, off, none⟩) c l := by
  obtain ⟨h1, h2, h3⟩ := h
  refine ⟨h1, h2, fun hn => ?_⟩
  obtain ⟨b', off', e, hb', hc⟩ := h3 hn
  injection e with e
  injection e with e1 e2 e3
  subst e1 e2
  exact ⟨b, off, rfl, hb', fun j hj i v hv => (hg.cell_far _ hb (fun e => hne e.symm)).trans (hc j hj i v hv)⟩
end
end Go.Proofs.YtphmknhlibampaaDoor

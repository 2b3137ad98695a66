/-
  Words for slices of any element type that the call made (OwnG), and appends onto them.
-/
import Derived.Test.YtphmknhlibampaaDoorKdW
namespace Go.Proofs.YtphmknhlibampaaDoor
open Go.RowKit
set_option linter.unusedVariables false
set_option maxRecDepth 100000

/-- An element type e of sz cells, its slice type ts. -/
structure Elem {α : Type} (e ts sz : Nat) (cs : α → List Value) : Prop where
  info : ∃ i z, Tryd.prog.info? e = some i ∧ i.zero = some z ∧ i.size = sz ∧ z.cells.size = sz ∧ i.bytes ≤ 128
  under : Tryd.prog.underlying ts = some (.slice e)
  len : ∀ x, (cs x).length = sz
  pos : 0 < sz
  one : ∀ x u, u ∈ cs x → u.oneCell' = true
def OwnG {α : Type} (e sz : Nat) (cs : α → List Value) (B : Nat) (w : World) (v : Value) (l : List α) : Prop := w.ownsRow B e sz v l.length (l.flatMap cs)

section
variable {α : Type} {e ts sz : Nat} {cs : α → List Value} {w w' : World} {B C n c : Nat} {A : Option Addr} {v : Value} {l m : List α}
theorem flat_len (hs : ∀ x, (cs x).length = sz) : ∀ l : List α, (l.flatMap cs).length = l.length * sz
  | [] => by simp
  | x :: l => by simp [flat_len hs l, hs x, Nat.add_mul]; omega
theorem flat_at (hs : ∀ x, (cs x).length = sz) : ∀ (l : List α) (j i : Nat) (hj : j < l.length), i < sz → (l.flatMap cs)[j * sz + i]? = (cs l[j])[i]?
  | [], j, i, hj, hi => by simp at hj
  | x :: l, 0, i, hj, hi => by
    simp only [List.flatMap_cons, Nat.zero_mul, Nat.zero_add, List.getElem_cons_zero]
    rw [List.getElem?_append_left (by rw [hs x]; exact hi)]
  | x :: l, j + 1, i, hj, hi => by
    simp only [List.flatMap_cons, List.getElem_cons_succ]
    rw [List.getElem?_append_right (by rw [hs x, Nat.add_mul]; omega), hs x, show (j + 1) * sz + i - sz = j * sz + i by rw [Nat.add_mul]; omega]
    exact flat_at hs l j i (by simpa using hj) hi
theorem flat_of (hs : ∀ x, (cs x).length = sz) (hp : 0 < sz) (l : List α) (p : Nat) (u : Value) (h : (l.flatMap cs)[p]? = some u) : ∃ (j i : Nat) (hj : j < l.length), p = j * sz + i ∧ (cs l[j])[i]? = some u := by
  have hlt : p < l.length * sz := by rw [← flat_len hs l]; exact (List.getElem?_eq_some_iff.1 h).1
  have hj : p / sz < l.length := (Nat.div_lt_iff_lt_mul hp).2 hlt
  have e : p = p / sz * sz + p % sz := by rw [Nat.mul_comm]; exact (Nat.div_add_mod p sz).symm
  refine ⟨p / sz, p % sz, hj, e, ?_⟩
  rw [e, flat_at hs l _ _ hj (Nat.mod_lt _ hp)] at h
  exact h
theorem OwnG.nil (w : World) (B : Nat) : OwnG e sz cs B w (.slice none 0 0) ([] : List α) := World.ownsRow_nil w B _ _
theorem OwnG.below (h : OwnG e sz cs B w v l) (hb : Below w.heap.size w w') : OwnG e sz cs B w' v l :=
  World.ownsRow.kept (row := none) h ⟨hb.os, hb.tape, hb.output, hb.size, fun k hk _ => hb.block k hk⟩ (by cases v.ownBlock <;> simp)
theorem OwnG.alloc (h : OwnG e sz cs B w v l) (o : Obj) : OwnG e sz cs B (w.alloc o) v l := World.ownsRow.alloc h o
theorem OwnG.form (h : OwnG e sz cs B w v l) : ∃ A c, v = .slice A l.length c := by
  obtain ⟨h1, h2⟩ := h
  rcases h2 with ⟨rfl, h0⟩ | ⟨g, cap, cur, rfl, _⟩
  · exact ⟨none, 0, by rw [h0]⟩
  · exact ⟨_, cap, rfl⟩
theorem OwnG.lt (h : OwnG e sz cs B w v l) : ∀ k, v.ownBlock = some k → B ≤ k ∧ k < w.heap.size := World.ownsRow.lt h
theorem OwnG.grown {W wr w' : World} (hown : OwnG e sz cs B wr v l) (hg : wr.grownBy w' v.ownBlock) (hC : C ≤ B) (hC' : C ≤ wr.heap.size) (hb : Below C W wr) : Below C W w' :=
  hb.grown hg hC' (fun k hk => by have := (World.ownsRow.lt hown k hk).1; omega)
/-- What the call made can be read. -/
theorem OwnG.seg (hE : Elem e ts sz cs) (h : OwnG e sz cs B w v l) : ∃ A c, v = .slice A l.length c ∧ Seg sz cs w w.heap.size A c l := by
  obtain ⟨h1, h2⟩ := h
  rcases h2 with ⟨rfl, h0⟩ | ⟨g, cap, cur, rfl, hg, hh, hn, hc, hs, ht⟩
  · exact ⟨none, 0, by rw [h0], by omega, by simp [maxLen], fun h => absurd h (by omega)⟩
  · refine ⟨_, cap, rfl, hn, hc, fun _ => ⟨g, 0, rfl, (Array.getElem?_eq_some_iff.1 hh).1, fun j hj i u hu => ?_⟩⟩
    have hi : i < sz := by rw [← hE.len l[j]]; exact (List.getElem?_eq_some_iff.1 hu).1
    rw [Nat.zero_add, cell_of_row w g (j * sz + i) cur _ (0, 0) hh]
    have e := flat_at hE.len l j i hj hi
    rw [hu, ← ht, List.getElem?_take] at e
    split at e
    · simpa using e
    · cases e
/-- 'append(v, m...)' of a slice that is read. -/
theorem cat_g (hE : Elem e ts sz cs) {ops : Array Oper} {rest : List Oper} {o : Oper} {a : Act} {Q : Exit → Act → World → Prop} (hgd : o.guard = none) (s x : Operand)
    (ho : o.op = .call { callee := .builtin .append, args := #[s, x], argTypes := #[ts, ts] }) (wr : World) (n2 : Nat)
    (hs : a.eval s = v) (hx : a.eval x = .slice A n2 c) (hown : OwnG e sz cs B wr v l) (hn2 : m.length = n2) (hb : Seg sz cs wr C A c m) (hB : B ≤ wr.heap.size) (k : Nat) (hl : k < 1000000) (hk : l.length + n2 = k)
    (h : ∀ A' c' w', OwnG e sz cs B w' (.slice A' k c') (l ++ m) → wr.grownBy w' v.ownBlock → wpList Tryd.prog ops Q rest (a.put o.dst (.slice A' k c')) w') :
    wpList Tryd.prog ops Q (o :: rest) a wr := by
  obtain ⟨i0, z, hi0, hz0, hz1, hz2, hz3⟩ := hE.info
  obtain ⟨hmc, hcm, hcell⟩ := hb
  subst hn2
  subst hk
  rcases A with _ | ad
  · have hl2 : m = [] := by
      rcases Nat.eq_zero_or_pos m.length with h0 | h0
      · exact List.eq_nil_of_length_eq_zero h0
      · obtain ⟨b, off, e, _⟩ := hcell h0; cases e
    subst hl2
    refine wpList_plain hgd fun K hK => ?_
    have hrun : (Builtin.append_ #[ts, ts] o.type #[v, .slice none 0 c]).run Tryd.prog wr = .ok v wr := by
      rcases hown.2 with ⟨rfl, h0⟩ | ⟨g, cap, cur, rfl, _, _, hnc, _⟩
      · simp [Builtin.append_, run_underlying hE.under, sizeOf, typeInfo, hi0, Builtin.lenOf, Builtin.firstCells]
      · simp [Builtin.append_, run_underlying hE.under, sizeOf, typeInfo, hi0, Builtin.lenOf, Builtin.firstCells, hnc, storeCells]
    obtain ⟨A', c', e⟩ := hown.form
    have h2 := h A' c' wr (by simpa [← e] using hown) ⟨rfl, rfl, rfl, Nat.le_refl _, fun _ _ _ => rfl⟩
    simp only [List.length_nil, Nat.add_zero, ← e] at h2
    unfold Oper.wp execOp
    simp only [ho, resolve, invoke, builtin, Sem.run_bind, Sem.run_pure, Result.andThen_ok, List.map_toArray, List.map_cons, List.map_nil, hs, hx, List.length_nil, hrun]
    exact hK _ _ h2
  · refine wpList_append_own _ hgd s x ts ho B e i0 z sz i0.bytes hE.under hi0 hz0 hz1 rfl hz2 hE.pos v l.length (l.flatMap cs) hs hown ad m.length c (m.flatMap cs) hx (flat_len hE.len m) ?_ ?_ (by simp only [maxLen]; omega) ?_ hB ?_
    · intro p u hu
      obtain ⟨j, i, hj, rfl, hu'⟩ := flat_of hE.len hE.pos m p u hu
      obtain ⟨b, off, e, hbC, hc⟩ := hcell (by omega)
      injection e with e
      subst e
      rw [Addr.add_lit, ← Nat.add_assoc, hc j hj i u hu']
    · intro u hu
      obtain ⟨y, _, hy⟩ := List.mem_flatMap.1 hu
      exact hE.one y u hy
    · have := Nat.mul_le_mul (Nat.le_of_lt hl) hz3
      omega
    · intro v' w' hown' hg _
      have h1 : OwnG e sz cs B w' v' (l ++ m) := by simpa [OwnG] using hown'
      obtain ⟨A', c', rfl⟩ := h1.form
      rw [List.length_append] at *
      exact h A' c' w' h1 hg
/-- 'append(v, y)' of one element, which the walk has laid in a new block. -/
theorem push_g (hE : Elem e ts sz cs) {ops : Array Oper} {rest : List Oper} {o : Oper} {a : Act} {Q : Exit → Act → World → Prop} (hgd : o.guard = none) (s x : Operand)
    (ho : o.op = .call { callee := .builtin .append, args := #[s, x], argTypes := #[ts, ts] }) (wr : World) (z : Nat) (hz : z = wr.heap.size) (y : α) (ys : Array Value) (t : Nat)
    (hs : a.eval s = v) (hx : a.eval x = .slice (some ⟨z, 0, none⟩) 1 1) (hown : OwnG e sz cs B wr v l) (hB : B ≤ wr.heap.size) (hl : l.length < 100000) (k : Nat) (hk : l.length + 1 = k)
    (h : ∀ A' c' w', OwnG e sz cs B w' (.slice A' k c') (l ++ [y]) → wr.grownBy w' v.ownBlock → wpList Tryd.prog ops Q rest (a.put o.dst (.slice A' k c')) w') (hy : ys.toList = cs y) :
    wpList Tryd.prog ops Q (o :: rest) a (wr.alloc (.cells ys t)) := by
  obtain ⟨i0, zz, hi0, hz0, hz1, hz2, hz3⟩ := hE.info
  subst hz hk
  have hys : ys = (cs y).toArray := by rw [← hy]
  refine wpList_append_own _ hgd s x ts ho B e i0 zz sz i0.bytes hE.under hi0 hz0 hz1 rfl hz2 hE.pos v l.length (l.flatMap cs) hs (World.ownsRow.alloc hown _) ⟨wr.heap.size, 0, none⟩ 1 1 (cs y) hx (by rw [hE.len, Nat.one_mul]) ?_ (fun u hu => hE.one y u hu) (by simp only [maxLen]; omega) ?_ (by simp; omega) ?_
  · intro j u hu
    rw [Addr.add_lit, Nat.zero_add, World.cell?_alloc_at _ _ _ _ rfl, hys]
    simpa using hu
  · have := Nat.mul_le_mul (show l.length + 1 ≤ 100001 by omega) hz3
    omega
  · intro v' w' hown' hg _
    have h1 : OwnG e sz cs B w' v' (l ++ [y]) := by simpa [OwnG] using hown'
    obtain ⟨A', c', rfl⟩ := h1.form
    rw [List.length_append, List.length_singleton] at *
    refine h A' c' w' h1 ⟨hg.os, hg.tape, hg.output, Nat.le_trans (by simp) hg.size, fun k hk hne => ?_⟩
    rw [hg.block k (by simp; omega) hne]
    exact Below.heap_alloc wr _ k hk
theorem OwnG.lit1 (hE : Elem e ts sz cs) (w : World) (hB : B ≤ w.heap.size) (y : α) (ys : Array Value) (hy : ys.toList = cs y) : OwnG e sz cs B (w.alloc (.cells ys e)) (.slice (some ⟨w.heap.size, 0, none⟩) 1 1) [y] := by
  have hys : ys = (cs y).toArray := by rw [← hy]
  have := World.ownsRow_lit (e := e) (size := sz) w ys 1 hB (by simp [maxLen]) (by rw [hys]; simp [hE.len])
  unfold OwnG
  simpa [hy] using this
end

theorem elemH : Elem (α := Hp) 42 64 2 Hp.cs where
  info := by
    obtain ⟨i0, hi0, hz0, hz1, hz2⟩ := info_parts (show (Tryd.prog.info? 42).map (fun i => (i.zero, i.size, i.bytes)) = some (some (.agg #[.int .i64 0, .int .i64 0]), 2, 16) by kernel_rfl)
    exact ⟨i0, _, hi0, hz0, hz1, rfl, by omega⟩
  under := Tryd.underlying64
  len _ := rfl
  pos := by decide
  one x u hu := by simp [Hp.cs] at hu; rcases hu with rfl | rfl <;> rfl
theorem elemV : Elem (α := Vl) 46 49 4 Vl.cs where
  info := by
    obtain ⟨i0, hi0, hz0, hz1, hz2⟩ := info_parts (show (Tryd.prog.info? 46).map (fun i => (i.zero, i.size, i.bytes)) = some (some (.agg #[.int .i64 0, .bool false, .int .i64 0, .int .i64 0]), 4, 32) by kernel_rfl)
    exact ⟨i0, _, hi0, hz0, hz1, rfl, by omega⟩
  under := Tryd.underlying49
  len _ := rfl
  pos := by decide
  one x u hu := by simp [Vl.cs] at hu; rcases hu with rfl | rfl | rfl | rfl <;> rfl
theorem elemF : Elem (α := Fd) 126 66 6 Fd.cs where
  info := by
    obtain ⟨i0, hi0, hz0, hz1, hz2⟩ := info_parts (show (Tryd.prog.info? 126).map (fun i => (i.zero, i.size, i.bytes)) = some (some (.agg #[.int .i64 0, .int .i64 0, .bool false, .int .i64 0, .int .i64 0, .bool false]), 6, 48) by kernel_rfl)
    exact ⟨i0, _, hi0, hz0, hz1, rfl, by omega⟩
  under := Tryd.underlying66
  len _ := rfl
  pos := by decide
  one x u hu := by simp [Fd.cs] at hu; rcases hu with rfl | rfl | rfl | rfl | rfl | rfl <;> rfl
/-- Strings, as lists of bytes. -/
def Sx (l : List UInt8) : List Value := [.string ⟨l.toArray⟩]
theorem flat_set : ∀ (l : List (List UInt8)) (j : Nat) (y : List UInt8), (l.flatMap Sx).set j (.string ⟨y.toArray⟩) = (l.set j y).flatMap Sx
  | [], j, y => by simp
  | x :: l, 0, y => by simp [Sx]
  | x :: l, j + 1, y => by simp only [List.flatMap_cons, Sx, List.singleton_append, List.set_cons_succ]; rw [← flat_set l j y]
theorem made_strs (n : Nat) : (madeCells (Value.string ⟨#[]⟩).cells (n * 1)).toList = (List.replicate n ([] : List UInt8)).flatMap Sx := by
  rw [Nat.mul_one]
  unfold madeCells
  apply List.ext_getElem?
  intro i
  have e : (List.replicate n ([] : List UInt8)).flatMap Sx = List.replicate n (Value.string ⟨#[]⟩) := by
    induction n with
    | zero => rfl
    | succ n ih => rw [List.replicate_succ, List.flatMap_cons, ih]; rfl
  rw [e]
  by_cases hi : i < n
  · simp [hi, Value.cells, Nat.mod_one]
  · simp [hi]
/-- What a store into a slice of strings wants, and leaves. -/
theorem OwnG.openS {B g : Nat} {w : World} {n c : Nat} {l : List (List UInt8)} (h : OwnG 9 1 Sx B w (.slice (some ⟨g, 0, none⟩) n c) l) : n = l.length ∧ B ≤ g ∧ g < w.heap.size ∧
    (∀ j (hj : j < l.length), w.cell? ⟨g, j, none⟩ = some (.string ⟨l[j].toArray⟩)) ∧ (∀ j, w.frozen? ⟨g, j, none⟩ = false) ∧
    ∀ (j : Nat) (y : List UInt8), OwnG 9 1 Sx B (w.setCell ⟨g, j, none⟩ (.string ⟨y.toArray⟩)) (.slice (some ⟨g, 0, none⟩) n c) (l.set j y) := by
  obtain ⟨A', c', e⟩ := h.form
  injection e with e1 e2 e3
  subst e2
  have h' := h
  have hlt := h.lt g rfl
  refine ⟨rfl, hlt.1, hlt.2, fun j hj => ?_, fun j => World.ownsRow.frozenAt h' j, fun j y => ?_⟩
  · rw [World.ownsRow.cellAt h' j (by omega)]
    have := flat_at (cs := Sx) (sz := 1) (fun _ => rfl) l j 0 hj (by decide)
    simpa [Sx] using this
  · have := (World.ownsRow.stored h' j (.string ⟨y.toArray⟩)).1
    show World.ownsRow _ _ _ _ _ _ _
    rw [List.length_set, ← flat_set]
    exact this
theorem grownNone {W wr w' : World} {C : Nat} (hg : wr.grownBy w' none) (hC : C ≤ wr.heap.size) (hb : Below C W wr) : Below C W w' :=
  hb.grown hg hC (fun k hk => by cases hk)
end Go.Proofs.YtphmknhlibampaaDoor

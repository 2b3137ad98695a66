/-
  Layer 4: what an argument that is a declared type, a value type, a list of heap types reads as.
-/
import Derived.Test.YtlflmobaegfnaaaDoorKdE
import Derived.Deep.Slices
import Derived.ChangeSame
import Derived.OpenShut
namespace Go.Proofs.YtlflmobaegfnaaaDoor
open Go.RowKit Go.ChangeShapes Go.WideShapes Go.Deep
set_option linter.unusedVariables false
set_option maxRecDepth 100000

section
variable {H : Type} {enc : TypeId × Value → H} {w : World} {base : Nat} {sp : Nat → Bool} {held : Bool} {n : Nat} {cs : List Value} {x : DataW H × List MemPlace}
def WfH (h : Hp) : Prop := (Lit.int .i64 h.k).wf = true ∧ (Lit.int .i64 h.n).wf = true
def WfV (v : Vl) : Prop := (Lit.int .i64 v.k).wf = true ∧ WfH v.h
def WfF (f : Fd) : Prop := (Lit.int .i64 f.pk).wf = true ∧ WfV f.v
theorem c3 : Tryd.prog.cellsOf 3 = 1 := by kernel_rfl
theorem c4 : Tryd.prog.cellsOf 4 = 1 := by kernel_rfl
theorem cHK : Tryd.prog.cellsOf 37 = 1 := by kernel_rfl
theorem cVK : Tryd.prog.cellsOf 44 = 1 := by kernel_rfl
theorem cCK : Tryd.prog.cellsOf 23 = 1 := by kernel_rfl
theorem cH : Tryd.prog.cellsOf 39 = 2 := by kernel_rfl
theorem cV : Tryd.prog.cellsOf 46 = 4 := by kernel_rfl
theorem cSt : Tryd.prog.cellsOf 48 = 5 := by kernel_rfl
theorem cF : Tryd.prog.cellsOf 50 = 6 := by kernel_rfl
theorem cC : Tryd.prog.cellsOf 27 = 4 := by kernel_rfl
theorem cS : Tryd.prog.cellsOf 29 = 6 := by kernel_rfl
theorem cLH : Tryd.prog.cellsOf 22 = 1 := by kernel_rfl
theorem cLV : Tryd.prog.cellsOf 24 = 1 := by kernel_rfl
theorem cLF : Tryd.prog.cellsOf 25 = 1 := by kernel_rfl
theorem hp_of (h : DataW.trod enc Tryd.prog w base sp held n 39 cs = some x) : ∃ hh : Hp, cs = Hp.cs hh ∧ WfH hh := by
  obtain ⟨xs, n', _, _, hlen, hxl, hf⟩ := DataW.trod_struct Tryd.underlying39 h
  rw [cH] at hlen
  have h0 : DataW.trod enc Tryd.prog w base sp held n' 37 ((cs.drop 0).take (Tryd.prog.cellsOf 37)) = xs[0]? := hf 0 _ rfl
  have h1 : DataW.trod enc Tryd.prog w base sp held n' 3 ((cs.drop 1).take (Tryd.prog.cellsOf 3)) = xs[1]? := hf 1 _ rfl
  have hx : xs.length = 2 := hxl
  rw [cHK, List.getElem?_eq_getElem (by omega)] at h0
  rw [c3, List.getElem?_eq_getElem (by omega)] at h1
  obtain ⟨k, e0, _, w0⟩ := DataW.trod_int Tryd.underlying37 h0
  obtain ⟨m, e1, _, w1⟩ := DataW.trod_int Tryd.underlying3 h1
  match cs, hlen with
  | [a, b], _ =>
    simp at e0 e1
    exact ⟨⟨k, m⟩, by simp [Hp.cs, e0, e1], w0, w1⟩
theorem vl_of (h : DataW.trod enc Tryd.prog w base sp held n 46 cs = some x) : ∃ v : Vl, cs = Vl.cs v ∧ WfV v := by
  obtain ⟨xs, n', _, _, hlen, hxl, hf⟩ := DataW.trod_struct Tryd.underlying46 h
  rw [cV] at hlen
  have h0 : DataW.trod enc Tryd.prog w base sp held n' 44 ((cs.drop 0).take (Tryd.prog.cellsOf 44)) = xs[0]? := hf 0 _ rfl
  have h1 : DataW.trod enc Tryd.prog w base sp held n' 4 ((cs.drop 1).take (Tryd.prog.cellsOf 4)) = xs[1]? := hf 1 _ rfl
  have h2 : DataW.trod enc Tryd.prog w base sp held n' 39 ((cs.drop 2).take (Tryd.prog.cellsOf 39)) = xs[2]? := hf 2 _ rfl
  have hx : xs.length = 3 := hxl
  rw [cVK, List.getElem?_eq_getElem (by omega)] at h0
  rw [c4, List.getElem?_eq_getElem (by omega)] at h1
  rw [cH, List.getElem?_eq_getElem (by omega)] at h2
  obtain ⟨k, e0, _, w0⟩ := DataW.trod_int Tryd.underlying44 h0
  obtain ⟨m, e1, _⟩ := DataW.trod_bool Tryd.underlying4 h1
  obtain ⟨hh, e2, w2⟩ := hp_of h2
  match cs, hlen with
  | [a, b, c, d], _ =>
    simp [Hp.cs] at e0 e1 e2
    exact ⟨⟨k, m, hh⟩, by simp [Vl.cs, e0, e1, e2], w0, w2⟩
theorem fd_of (h : DataW.trod enc Tryd.prog w base sp held n 50 cs = some x) : ∃ f : Fd, cs = Fd.cs f ∧ WfF f := by
  obtain ⟨xs, n', _, _, hlen, hxl, hf⟩ := DataW.trod_struct Tryd.underlying50 h
  rw [cF] at hlen
  have h0 : DataW.trod enc Tryd.prog w base sp held n' 48 ((cs.drop 0).take (Tryd.prog.cellsOf 48)) = xs[0]? := hf 0 _ rfl
  have h1 : DataW.trod enc Tryd.prog w base sp held n' 4 ((cs.drop 5).take (Tryd.prog.cellsOf 4)) = xs[1]? := hf 1 _ rfl
  have hx : xs.length = 2 := hxl
  rw [cSt, List.getElem?_eq_getElem (by omega)] at h0
  rw [c4, List.getElem?_eq_getElem (by omega)] at h1
  obtain ⟨m, e1, _⟩ := DataW.trod_bool Tryd.underlying4 h1
  obtain ⟨ys, n'', _, _, hlen2, hyl, hg⟩ := DataW.trod_struct Tryd.underlying48 h0
  have g0 : DataW.trod enc Tryd.prog w base sp held n'' 3 ((((cs.drop 0).take 5).drop 0).take (Tryd.prog.cellsOf 3)) = ys[0]? := hg 0 _ rfl
  have g1 : DataW.trod enc Tryd.prog w base sp held n'' 46 ((((cs.drop 0).take 5).drop 1).take (Tryd.prog.cellsOf 46)) = ys[1]? := hg 1 _ rfl
  have hy : ys.length = 2 := hyl
  rw [c3, List.getElem?_eq_getElem (by omega)] at g0
  rw [cV, List.getElem?_eq_getElem (by omega)] at g1
  obtain ⟨k, e0, _, w0⟩ := DataW.trod_int Tryd.underlying3 g0
  obtain ⟨v, e2, w2⟩ := vl_of g1
  match cs, hlen with
  | [a, b, c, d, e, f], _ =>
    simp [Vl.cs] at e0 e1 e2
    exact ⟨⟨k, v, m⟩, by simp [Fd.cs, e0, e1, e2], w0, w2⟩
theorem seg_of {α : Type} (d : α) {e ts sz : Nat} {csf : α → List Value} {wf : α → Prop} (ht : Tryd.prog.underlying ts = some (.slice e)) (hsz : Tryd.prog.cellsOf e = sz) (hlen : ∀ a, (csf a).length = sz) (hpos : 0 < sz)
    (el : ∀ (n : Nat) (cs : List Value) (x : DataW H × List MemPlace), DataW.trod enc Tryd.prog w base sp held n e cs = some x → ∃ a, cs = csf a ∧ wf a) {v : Value}
    (h : DataW.trod enc Tryd.prog w base sp held n ts [v] = some x) : ∃ (A : Option Addr) (c : Nat) (l : List α), v = .slice A l.length c ∧ Seg sz csf w w.heap.size A c l ∧ ∀ a ∈ l, wf a := by
  rcases open_slice ht h with ⟨hcs, _⟩ | ⟨a, len, cap, m, n', D, Pl, hcs, hb, hl, hm, hmm, _, hi⟩
  · simp at hcs
    exact ⟨none, 0, [], hcs, Seg.nil _ _ _ _ (by simp [maxLen]), by simp⟩
  · simp at hcs
    have hml : len ≤ m := by rw [hmm]; split <;> omega
    have hE : ∀ i, ∃ y : α, i < len → w.cells? base (a.add (i * sz)) sz = some (csf y) ∧ wf y := fun i => by
      by_cases hi' : i < len
      · obtain ⟨cs', h1, h2⟩ := hi i (by omega)
        obtain ⟨y, rfl, hw⟩ := el _ _ _ h2
        rw [hsz] at h1
        exact ⟨y, fun _ => ⟨h1, hw⟩⟩
      · exact ⟨d, fun h => absurd h hi'⟩
    obtain ⟨f, hF⟩ : ∃ f : Nat → α, ∀ i, i < len → w.cells? base (a.add (i * sz)) sz = some (csf (f i)) ∧ wf (f i) := ⟨fun i => Classical.choose (hE i), fun i => Classical.choose_spec (hE i)⟩
    clear hE
    refine ⟨some a, cap, (List.range len).map f, by simpa using hcs, ⟨by simpa using hl, hm, fun h0 => ?_⟩, fun y hy => ?_⟩
    · have h0' : 0 < len := by simpa using h0
      obtain ⟨hbb, _, hat⟩ := World.cells?_some (hF 0 h0').1
      have hc0 := hat 0 hpos
      have hne : ∃ u, (csf (f 0))[0]? = some u := ⟨_, List.getElem?_eq_getElem (by rw [hlen]; exact hpos)⟩
      obtain ⟨u, hu⟩ := hne
      rw [hu] at hc0
      obtain ⟨bk, off, spot⟩ := a
      have hspot : spot = none := by simpa [Addr.add] using World.cell?_spot hc0
      subst hspot
      refine ⟨bk, off, rfl, ?_, fun j hj i v hv => ?_⟩
      · exact World.block_lt_of_cell? w ⟨bk, off + 0 * sz + 0, none⟩ (by rw [Addr.add_lit, Addr.add_lit] at hc0; exact hc0)
      · have hj' : j < len := by simpa using hj
        simp only [List.getElem_map, List.getElem_range] at hv
        obtain ⟨_, _, hatj⟩ := World.cells?_some (hF j hj').1
        have hi' : i < sz := by rw [← hlen (f j)]; exact (List.getElem?_eq_some_iff.1 hv).1
        have := hatj i hi'
        rw [Addr.add_lit, Addr.add_lit] at this
        rw [this]; exact hv
    · obtain ⟨i, hi', rfl⟩ := List.mem_map.1 hy
      exact (hF i (by simpa using hi')).2
def WfS (s : Sb) : Prop := (∀ x ∈ s.sups, WfH x) ∧ (Lit.int .i64 s.c.k).wf = true ∧ (∀ x ∈ s.c.ps, WfV x) ∧ (∀ x ∈ s.c.rs, WfV x) ∧ ∀ x ∈ s.c.fs, WfF x
/-- An argument that is a declared type. -/
theorem open_sub {r : Reach} {b0 : Nat} {v : Value} {d : DataW H} {p : List MemPlace} (hv : Value.okWide Tryd.prog w r b0 29 v) (h : DataW.Trod enc Tryd.prog w base sp held 29 v d p) : ∃ s : Sb, IsSub w w.heap.size v s ∧ WfS s := by
  obtain ⟨cs, rfl, hsz⟩ := okWide_struct Tryd.underlying29 hv
  obtain ⟨fuel, hf0⟩ := h
  obtain ⟨xs, n', _, _, hlen, hxl, hf⟩ := DataW.trod_struct Tryd.underlying29 hf0
  rw [cS] at hlen
  have h0 : DataW.trod enc Tryd.prog w base sp held n' 4 (((Value.cells (.agg cs)).toList.drop 0).take (Tryd.prog.cellsOf 4)) = xs[0]? := hf 0 _ rfl
  have h1 : DataW.trod enc Tryd.prog w base sp held n' 22 (((Value.cells (.agg cs)).toList.drop 1).take (Tryd.prog.cellsOf 22)) = xs[1]? := hf 1 _ rfl
  have h2 : DataW.trod enc Tryd.prog w base sp held n' 27 (((Value.cells (.agg cs)).toList.drop 2).take (Tryd.prog.cellsOf 27)) = xs[2]? := hf 2 _ rfl
  have hx : xs.length = 3 := hxl
  rw [c4, List.getElem?_eq_getElem (by omega)] at h0
  rw [cLH, List.getElem?_eq_getElem (by omega)] at h1
  rw [cC, List.getElem?_eq_getElem (by omega)] at h2
  obtain ⟨fin, e0, _⟩ := DataW.trod_bool Tryd.underlying4 h0
  obtain ⟨ys, n'', _, _, hlen2, hyl, hg⟩ := DataW.trod_struct Tryd.underlying27 h2
  have g0 : DataW.trod enc Tryd.prog w base sp held n'' 23 (((((Value.cells (.agg cs)).toList.drop 2).take 4).drop 0).take (Tryd.prog.cellsOf 23)) = ys[0]? := hg 0 _ rfl
  have g1 : DataW.trod enc Tryd.prog w base sp held n'' 24 (((((Value.cells (.agg cs)).toList.drop 2).take 4).drop 1).take (Tryd.prog.cellsOf 24)) = ys[1]? := hg 1 _ rfl
  have g2 : DataW.trod enc Tryd.prog w base sp held n'' 24 (((((Value.cells (.agg cs)).toList.drop 2).take 4).drop 2).take (Tryd.prog.cellsOf 24)) = ys[2]? := hg 2 _ rfl
  have g3 : DataW.trod enc Tryd.prog w base sp held n'' 25 (((((Value.cells (.agg cs)).toList.drop 2).take 4).drop 3).take (Tryd.prog.cellsOf 25)) = ys[3]? := hg 3 _ rfl
  have hy : ys.length = 4 := hyl
  rw [cCK, List.getElem?_eq_getElem (by omega)] at g0
  rw [cLV, List.getElem?_eq_getElem (by omega)] at g1
  rw [cLV, List.getElem?_eq_getElem (by omega)] at g2
  rw [cLF, List.getElem?_eq_getElem (by omega)] at g3
  obtain ⟨k, e1, _, wk⟩ := DataW.trod_int Tryd.underlying23 g0
  obtain ⟨cl⟩ := cs
  have hcl : Value.cells (.agg ⟨cl⟩) = ⟨cl⟩ := rfl
  rw [hcl] at *
  match cl, hlen with
  | [a, b, c, d, e, f], _ =>
    simp [Value.cells] at e0 e1 h1 g1 g2 g3
    obtain ⟨A1, c1, l1, rfl, s1, w1⟩ := seg_of (⟨0, 0⟩ : Hp) (csf := Hp.cs) (wf := WfH) Tryd.underlying22 cH (fun _ => rfl) (by decide) (fun _ _ _ h => hp_of h) h1
    obtain ⟨A2, c2, l2, rfl, s2, w2⟩ := seg_of (⟨0, false, ⟨0, 0⟩⟩ : Vl) (csf := Vl.cs) (wf := WfV) Tryd.underlying24 cV (fun _ => rfl) (by decide) (fun _ _ _ h => vl_of h) g1
    obtain ⟨A3, c3, l3, rfl, s3, w3⟩ := seg_of (⟨0, false, ⟨0, 0⟩⟩ : Vl) (csf := Vl.cs) (wf := WfV) Tryd.underlying24 cV (fun _ => rfl) (by decide) (fun _ _ _ h => vl_of h) g2
    obtain ⟨A4, c4, l4, rfl, s4, w4⟩ := seg_of (⟨0, ⟨0, false, ⟨0, 0⟩⟩, false⟩ : Fd) (csf := Fd.cs) (wf := WfF) Tryd.underlying25 cF (fun _ => rfl) (by decide) (fun _ _ _ h => fd_of h) g3
    rw [e0, e1]
    exact ⟨⟨fin, l1, k, l2, l3, l4⟩, ⟨A1, c1, A2, c2, A3, c3, A4, c4, rfl, s1, s2, s3, s4⟩, w1, wk, w2, w3, w4⟩
/-- An argument that is a value type. -/
theorem open_vl {r : Reach} {b0 : Nat} {v : Value} {d : DataW H} {p : List MemPlace} (hv : Value.okWide Tryd.prog w r b0 46 v) (h : DataW.Trod enc Tryd.prog w base sp held 46 v d p) : ∃ y : Vl, v = y.val ∧ WfV y := by
  obtain ⟨cs, rfl, hsz⟩ := okWide_struct Tryd.underlying46 hv
  obtain ⟨fuel, hf0⟩ := h
  obtain ⟨y, e, hw⟩ := vl_of hf0
  refine ⟨y, ?_, hw⟩
  have e' : cs.toList = Vl.cs y := e
  obtain ⟨cl⟩ := cs
  simp only at e'
  rw [e']; rfl
/-- An argument that is a list of heap types. -/
theorem open_hps {r : Reach} {b0 : Nat} {v : Value} {d : DataW H} {p : List MemPlace} (hv : Value.okWide Tryd.prog w r b0 22 v) (h : DataW.Trod enc Tryd.prog w base sp held 22 v d p) : ∃ (A : Option Addr) (c : Nat) (l : List Hp), v = .slice A l.length c ∧ Seg 2 Hp.cs w w.heap.size A c l ∧ ∀ a ∈ l, WfH a := by
  obtain ⟨a, len, cap, rfl⟩ := okWide_slice Tryd.underlying22 hv
  obtain ⟨fuel, hf0⟩ := h
  exact seg_of (⟨0, 0⟩ : Hp) (csf := Hp.cs) (wf := WfH) Tryd.underlying22 cH (fun _ => rfl) (by decide) (fun _ _ _ h => hp_of h) hf0
end
end Go.Proofs.YtlflmobaegfnaaaDoor

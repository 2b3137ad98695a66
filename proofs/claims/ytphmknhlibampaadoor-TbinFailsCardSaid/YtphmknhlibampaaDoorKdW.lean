/-
  Layer 4, views: a slice of structs that is read (Seg), a declared type as a value (IsSub).
-/
import Derived.Test.YtphmknhlibampaaDoorKdT
namespace Go.Proofs.YtphmknhlibampaaDoor
open Go.RowKit
set_option linter.unusedVariables false
set_option maxRecDepth 100000

def Hp.cs (h : Hp) : List Value := [.int .i64 h.k, .int .i64 h.n]
def Vl.cs (v : Vl) : List Value := [.int .i64 v.k, .bool v.nu, .int .i64 v.h.k, .int .i64 v.h.n]
def Fd.cs (f : Fd) : List Value := [.int .i64 f.pk, .int .i64 f.v.k, .bool f.v.nu, .int .i64 f.v.h.k, .int .i64 f.v.h.n, .bool f.mu]
abbrev Hp.val (h : Hp) : Value := .agg #[.int .i64 h.k, .int .i64 h.n]
abbrev Vl.val (v : Vl) : Value := .agg #[.int .i64 v.k, .bool v.nu, .int .i64 v.h.k, .int .i64 v.h.n]
abbrev Fd.val (f : Fd) : Value := .agg #[.int .i64 f.pk, .int .i64 f.v.k, .bool f.v.nu, .int .i64 f.v.h.k, .int .i64 f.v.h.n, .bool f.mu]

/-- A slice of structs of 'sz' cells that is read, below block C. -/
def Seg {α : Type} (sz : Nat) (cs : α → List Value) (w : World) (C : Nat) (A : Option Addr) (c : Nat) (l : List α) : Prop :=
  l.length ≤ c ∧ c ≤ maxLen ∧ (0 < l.length → ∃ b off, A = some ⟨b, off, none⟩ ∧ b < C ∧ ∀ j (h : j < l.length) i v, (cs l[j])[i]? = some v → w.cell? ⟨b, off + j * sz + i, none⟩ = some v)

section
variable {α : Type} {sz : Nat} {cs : α → List Value} {w w' : World} {C c : Nat} {A : Option Addr} {l : List α}
theorem Seg.below (h : Seg sz cs w C A c l) (hb : Below C w w') : Seg sz cs w' C A c l := by
  obtain ⟨h1, h2, h3⟩ := h
  refine ⟨h1, h2, fun hn => ?_⟩
  obtain ⟨b, off, e, hb', hc⟩ := h3 hn
  exact ⟨b, off, e, hb', fun j hj i v hv => (hb.cell (p := ⟨b, off + j * sz + i, none⟩) hb').trans (hc j hj i v hv)⟩
theorem Seg.more {C' : Nat} (h : Seg sz cs w C A c l) (hC : C ≤ C') : Seg sz cs w C' A c l := by
  obtain ⟨h1, h2, h3⟩ := h
  refine ⟨h1, h2, fun hn => ?_⟩
  obtain ⟨b, off, e, hb', hc⟩ := h3 hn
  exact ⟨b, off, e, by omega, hc⟩
theorem Seg.nil (w : World) (C c : Nat) (A : Option Addr) (hc : c ≤ maxLen) : Seg sz cs w C A c ([] : List α) := ⟨by simp, hc, fun h => by simp at h⟩
end

/-- A declared type as a value: its lists lie below block C. -/
def IsSub (w : World) (C : Nat) (v : Value) (s : Sb) : Prop :=
  ∃ A1 c1 A2 c2 A3 c3 A4 c4, v = .agg #[.bool s.fin, .slice A1 s.sups.length c1, .int .i64 s.c.k, .slice A2 s.c.ps.length c2, .slice A3 s.c.rs.length c3, .slice A4 s.c.fs.length c4] ∧
    Seg 2 Hp.cs w C A1 c1 s.sups ∧ Seg 4 Vl.cs w C A2 c2 s.c.ps ∧ Seg 4 Vl.cs w C A3 c3 s.c.rs ∧ Seg 6 Fd.cs w C A4 c4 s.c.fs
theorem IsSub.below {w w' : World} {C : Nat} {v : Value} {s : Sb} (h : IsSub w C v s) (hb : Below C w w') : IsSub w' C v s := by
  obtain ⟨A1, c1, A2, c2, A3, c3, A4, c4, e, h1, h2, h3, h4⟩ := h
  exact ⟨A1, c1, A2, c2, A3, c3, A4, c4, e, h1.below hb, h2.below hb, h3.below hb, h4.below hb⟩
theorem IsSub.more {w : World} {C C' : Nat} {v : Value} {s : Sb} (h : IsSub w C v s) (hb : C ≤ C') : IsSub w C' v s := by
  obtain ⟨A1, c1, A2, c2, A3, c3, A4, c4, e, h1, h2, h3, h4⟩ := h
  exact ⟨A1, c1, A2, c2, A3, c3, A4, c4, e, h1.more hb, h2.more hb, h3.more hb, h4.more hb⟩

/-- The walk's end: a bool is handed back, new blocks alone were laid. -/
theorem below_trans {w a b : World} (h : Below w.heap.size w a) (h2 : Below a.heap.size a b) : Below w.heap.size w b := h.trans (h2.mono h.size)
theorem bcell {W w1 : World} (hb : Below W.heap.size W w1) : (∀ b o, b < W.heap.size → w1.cell? ⟨b, o, none⟩ = W.cell? ⟨b, o, none⟩) ∧ (∀ b o, b < W.heap.size → w1.frozen? ⟨b, o, none⟩ = W.frozen? ⟨b, o, none⟩) :=
  ⟨fun b o h => hb.cell (p := ⟨b, o, none⟩) h, fun b o h => hb.frozen (p := ⟨b, o, none⟩) h⟩
theorem below_alloc {B : Nat} {w a : World} (h : Below B w a) (hB : B ≤ a.heap.size) (o : Obj) : Below B w (a.alloc o) := h.alloc hB o
end Go.Proofs.YtphmknhlibampaaDoor

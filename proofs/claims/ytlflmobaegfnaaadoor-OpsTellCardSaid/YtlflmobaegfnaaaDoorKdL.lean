/-
  Layer 4, the document's side: the type whose heap types are these.
-/
import Derived.Test.YtlflmobaegfnaaaDoorKdK
import Derived.Deep.RegionLaw
import Derived.Lib.BufferWrite
namespace Go.Proofs.YtlflmobaegfnaaaDoor
open Go.RowKit
attribute [local go_sem ↓] Go.wp_at_zero Go.wp_at_succ
set_option linter.unusedVariables false
set_option maxRecDepth 100000

namespace Kd
def setV (v : Vl) (l : List Hp) : Vl := if v.k = 3 then ⟨v.k, v.nu, l.headD ⟨0, 0⟩⟩ else v
def restV (v : Vl) (l : List Hp) : List Hp := if v.k = 3 then l.tail else l
def withV : List Vl → List Hp → List Vl
  | [], _ => []
  | v :: r, l => setV v l :: withV r (restV v l)
def setF (f : Fd) (l : List Hp) : Fd := ⟨f.pk, setV f.v l, f.mu⟩
def withF : List Fd → List Hp → List Fd
  | [], _ => []
  | f :: r, l => setF f l :: withF r (restV f.v l)
def withS (s : Sb) (l : List Hp) : Sb :=
  ⟨s.fin, l.take s.sups.length, s.c.k, withV s.c.ps (l.drop s.sups.length), withV s.c.rs (l.drop (s.sups.length + (refs s.c.ps).length)), withF s.c.fs (l.drop (s.sups.length + (refs s.c.ps).length + (refs s.c.rs).length))⟩
end Kd

/-- Two slices that the call made lie in two rows. -/
def Ap (v v' : Value) : Prop := ∀ g, v.ownBlock = some g → v'.ownBlock ≠ some g
theorem Ap.none_l (v : Value) : Ap (.slice none 0 0) v := fun g h => by cases h
theorem Ap.none_r (v : Value) : Ap v (.slice none 0 0) := fun g _ h => by cases h
theorem Ap.symm {v v' : Value} (h : Ap v v') : Ap v' v := fun g h1 h2 => h g h2 h1
theorem Ap.rowed {wr : World} {v v' u : Value} (h : Ap v u) (hr : Rowed wr v v') (hu : ∀ g, u.ownBlock = some g → g < wr.heap.size) : Ap v' u := fun g h1 h2 => by
  rcases hr g h1 with h3 | h3
  · exact h g h3 h2
  · have := hu g h2; omega
/-- The lists of a declared type lie from block B on. -/
def NewSub (B : Nat) (v : Value) : Prop := ∃ f x1 k x2 x3 x4, v = .agg #[f, x1, k, x2, x3, x4] ∧ (∀ g, x1.ownBlock = some g → B ≤ g) ∧ (∀ g, x2.ownBlock = some g → B ≤ g) ∧ (∀ g, x3.ownBlock = some g → B ≤ g) ∧ (∀ g, x4.ownBlock = some g → B ≤ g)
theorem NewSub.mk {B : Nat} {f x1 k x2 x3 x4 : Value} (h1 : ∀ g, x1.ownBlock = some g → B ≤ g) (h2 : ∀ g, x2.ownBlock = some g → B ≤ g) (h3 : ∀ g, x3.ownBlock = some g → B ≤ g) (h4 : ∀ g, x4.ownBlock = some g → B ≤ g) : NewSub B (.agg #[f, x1, k, x2, x3, x4]) :=
  ⟨f, x1, k, x2, x3, x4, rfl, h1, h2, h3, h4⟩
theorem NewSub.parts {B : Nat} {f x1 k x2 x3 x4 : Value} (h : NewSub B (.agg #[f, x1, k, x2, x3, x4])) : (∀ g, x1.ownBlock = some g → B ≤ g) ∧ (∀ g, x2.ownBlock = some g → B ≤ g) ∧ (∀ g, x3.ownBlock = some g → B ≤ g) ∧ (∀ g, x4.ownBlock = some g → B ≤ g) := by
  obtain ⟨f', y1, k', y2, y3, y4, e, h1, h2, h3, h4⟩ := h
  simp only [Value.agg.injEq, Array.mk.injEq, List.cons.injEq, and_true] at e
  obtain ⟨_, rfl, _, rfl, rfl, rfl⟩ := e
  exact ⟨h1, h2, h3, h4⟩
theorem NewSub.le {B B' : Nat} {v : Value} (h : NewSub B v) (hB : B' ≤ B) : NewSub B' v := by
  obtain ⟨f, x1, k, x2, x3, x4, e, h1, h2, h3, h4⟩ := h
  exact ⟨f, x1, k, x2, x3, x4, e, fun g e => Nat.le_trans hB (h1 g e), fun g e => Nat.le_trans hB (h2 g e), fun g e => Nat.le_trans hB (h3 g e), fun g e => Nat.le_trans hB (h4 g e)⟩
/-- A slice that is read stays where one block of another's is stored into. -/
theorem Seg.keptA {α : Type} {sz : Nat} {cs : α → List Value} {w w' : World} {C c : Nat} {A : Option Addr} {l : List α} {R : Nat} (h : Seg sz cs w C A c l) (hg : w.grownBy w' (some R)) (hC : C ≤ w.heap.size) (hA : ∀ b off, A = some ⟨b, off, none⟩ → b ≠ R) : Seg sz cs w' C A c l := by
  obtain ⟨h1, h2, h3⟩ := h
  refine ⟨h1, h2, fun hn => ?_⟩
  obtain ⟨b, off, e, hb, hc⟩ := h3 hn
  exact ⟨b, off, e, hb, fun j hj i v hv => (hg.cell_far ⟨b, off + j * sz + i, none⟩ (Nat.lt_of_lt_of_le hb hC) (fun e1 => hA b off e (Option.some.inj e1))).trans (hc j hj i v hv)⟩
/-- A declared type stays where a block that is none of its lists' is stored into. -/
theorem IsSub.set {w : World} {C R i : Nat} {v u : Value} {s : Sb} (h : IsSub w C v s) (hC : C ≤ w.heap.size) {B : Nat} (hn : NewSub B v) (hR : R < B) : IsSub (w.setCell ⟨R, i, none⟩ u) C v s := by
  obtain ⟨A1, c1, A2, c2, A3, c3, A4, c4, rfl, s1, s2, s3, s4⟩ := h
  obtain ⟨n1, n2, n3, n4⟩ := hn.parts
  have hg := Lib.grownBy_setCell w R i u
  refine ⟨A1, c1, A2, c2, A3, c3, A4, c4, rfl, s1.keptA hg hC ?_, s2.keptA hg hC ?_, s3.keptA hg hC ?_, s4.keptA hg hC ?_⟩
  · intro b off e; subst e; have := n1 b rfl; omega
  · intro b off e; subst e; have := n2 b rfl; omega
  · intro b off e; subst e; have := n3 b rfl; omega
  · intro b off e; subst e; have := n4 b rfl; omega
/-- 'out', while With makes it: its cells in block N, its lists in rows of their own from N + 1 on; what lay below N as in w2. -/
structure Out (N : Nat) (w2 wr : World) (fin : Bool) (k : Int) (v1 v3 v4 v5 : Value) (l1 : List Hp) (l3 l4 : List Vl) (l5 : List Fd) : Prop where
  c0 : wr.cell? ⟨N, 0, none⟩ = some (.bool fin)
  c1 : wr.cell? ⟨N, 1, none⟩ = some v1
  c2 : wr.cell? ⟨N, 2, none⟩ = some (.int .i64 k)
  c3 : wr.cell? ⟨N, 3, none⟩ = some v3
  c4 : wr.cell? ⟨N, 4, none⟩ = some v4
  c5 : wr.cell? ⟨N, 5, none⟩ = some v5
  fr : ∀ i, wr.frozen? ⟨N, i, none⟩ = false
  b : Below N w2 wr
  o1 : OwnG 39 2 Hp.cs (N + 1) wr v1 l1
  o3 : OwnG 46 4 Vl.cs (N + 1) wr v3 l3
  o4 : OwnG 46 4 Vl.cs (N + 1) wr v4 l4
  o5 : OwnG 50 6 Fd.cs (N + 1) wr v5 l5
  a13 : Ap v1 v3
  a14 : Ap v1 v4
  a15 : Ap v1 v5
  a34 : Ap v3 v4
  a35 : Ap v3 v5
  a45 : Ap v4 v5
section
variable {N : Nat} {w2 wr w4 : World} {fin : Bool} {k : Int} {v1 v3 v4 v5 v' : Value} {l1 l1' : List Hp} {l3 l4 l3' l4' : List Vl} {l5 l5' : List Fd}
theorem Out.size (h : Out N w2 wr fin k v1 v3 v4 v5 l1 l3 l4 l5) : N + 1 ≤ wr.heap.size := World.block_lt_of_cell? wr ⟨N, 0, none⟩ h.c0
theorem Out.drew (h : Out N w2 wr fin k v1 v3 v4 v5 l1 l3 l4 l5) : Out N w2 wr.drew fin k v1 v3 v4 v5 l1 l3 l4 l5 :=
  ⟨h.c0, h.c1, h.c2, h.c3, h.c4, h.c5, h.fr, h.b.drew, h.o1, h.o3, h.o4, h.o5, h.a13, h.a14, h.a15, h.a34, h.a35, h.a45⟩
theorem Out.alloc (h : Out N w2 wr fin k v1 v3 v4 v5 l1 l3 l4 l5) (o : Obj) : Out N w2 (wr.alloc o) fin k v1 v3 v4 v5 l1 l3 l4 l5 := by
  have hb : Below wr.heap.size wr (wr.alloc o) := (Below.refl _ _).alloc (Nat.le_refl _) _
  have hs := h.size
  exact ⟨(hb.cell (p := ⟨N, 0, none⟩) hs).trans h.c0, (hb.cell (p := ⟨N, 1, none⟩) hs).trans h.c1, (hb.cell (p := ⟨N, 2, none⟩) hs).trans h.c2, (hb.cell (p := ⟨N, 3, none⟩) hs).trans h.c3, (hb.cell (p := ⟨N, 4, none⟩) hs).trans h.c4, (hb.cell (p := ⟨N, 5, none⟩) hs).trans h.c5,
    fun i => (hb.frozen (p := ⟨N, i, none⟩) hs).trans (h.fr i), h.b.alloc (Nat.le_of_succ_le hs) _, h.o1.alloc _, h.o3.alloc _, h.o4.alloc _, h.o5.alloc _, h.a13, h.a14, h.a15, h.a34, h.a35, h.a45⟩
/-- A store into a block of the call's own beyond 'out', which is no list's. -/
theorem Out.setFar {p : Addr} (h : Out N w2 wr fin k v1 v3 v4 v5 l1 l3 l4 l5) (hp : N + 1 ≤ p.block) (hs : p.spot = none)
    (h1 : ∀ g, v1.ownBlock = some g → g ≠ p.block) (h3 : ∀ g, v3.ownBlock = some g → g ≠ p.block) (h4 : ∀ g, v4.ownBlock = some g → g ≠ p.block) (h5 : ∀ g, v5.ownBlock = some g → g ≠ p.block) (u : Value) : Out N w2 (wr.setCell p u) fin k v1 v3 v4 v5 l1 l3 l4 l5 := by
  obtain ⟨pb, po, sp⟩ := p
  dsimp only at hp hs h1 h3 h4 h5
  subst hs
  have ho : ∀ i, (wr.setCell ⟨pb, po, none⟩ u).cell? ⟨N, i, none⟩ = wr.cell? ⟨N, i, none⟩ := fun i => World.cell?_setCell_other _ _ _ _ (by intro e; injection e; omega)
  have hg := Lib.grownBy_setCell wr pb po u
  exact ⟨(ho 0).trans h.c0, (ho 1).trans h.c1, (ho 2).trans h.c2, (ho 3).trans h.c3, (ho 4).trans h.c4, (ho 5).trans h.c5, fun i => by rw [World.frozen?_setCell]; exact h.fr i, h.b.setCell (p := ⟨pb, po, none⟩) (Nat.le_of_succ_le hp) _,
    h.o1.kept hg (fun g hg e => h1 g hg (Option.some.inj e).symm), h.o3.kept hg (fun g hg e => h3 g hg (Option.some.inj e).symm), h.o4.kept hg (fun g hg e => h4 g hg (Option.some.inj e).symm), h.o5.kept hg (fun g hg e => h5 g hg (Option.some.inj e).symm), h.a13, h.a14, h.a15, h.a34, h.a35, h.a45⟩
/-- What an append onto one of the lists leaves. -/
structure Mid (N : Nat) (wr w4 : World) : Prop where
  c : ∀ i u, wr.cell? ⟨N, i, none⟩ = some u → w4.cell? ⟨N, i, none⟩ = some u
  f : ∀ i, wr.frozen? ⟨N, i, none⟩ = false → w4.frozen? ⟨N, i, none⟩ = false
theorem mid_of {v : Value} (hs : N + 1 ≤ wr.heap.size) (hg : wr.grownBy w4 v.ownBlock) (hv : ∀ g, v.ownBlock = some g → N + 1 ≤ g) : Mid N wr w4 := by
  have hne : some N ≠ v.ownBlock := fun e => by have := hv N e.symm; omega
  exact ⟨fun i u h => (hg.cell_far ⟨N, i, none⟩ hs hne).trans h, fun i h => (hg.frozen_far ⟨N, i, none⟩ hs hne).trans h⟩
theorem set_at {u v : Value} {i : Nat} (h : w4.cell? ⟨N, i, none⟩ = some u) : (w4.setCell ⟨N, i, none⟩ v).cell? ⟨N, i, none⟩ = some v := World.cell?_setCell_same _ _ _ h
theorem set_off {u v : Value} {i j : Nat} (hij : i ≠ j) (h : w4.cell? ⟨N, j, none⟩ = some u) : (w4.setCell ⟨N, i, none⟩ v).cell? ⟨N, j, none⟩ = some u := by
  rw [World.cell?_setCell_other _ _ _ _ (by intro e; injection e; contradiction)]; exact h
theorem own_set {α : Type} {e sz : Nat} {cs : α → List Value} {v u : Value} {l : List α} (h : OwnG e sz cs (N + 1) w4 v l) (i : Nat) : OwnG e sz cs (N + 1) (w4.setCell ⟨N, i, none⟩ u) v l :=
  h.kept (Lib.grownBy_setCell w4 N i u) (fun g hg e => by have := (h.lt g hg).1; have := Option.some.inj e; omega)
theorem below_set (h : Below N w2 w4) (i : Nat) (u : Value) : Below N w2 (w4.setCell ⟨N, i, none⟩ u) := h.setCell (p := ⟨N, i, none⟩) (Nat.le_refl _) u
theorem Out.push1 (h : Out N w2 wr fin k v1 v3 v4 v5 l1 l3 l4 l5) (hown : OwnG 39 2 Hp.cs (N + 1) w4 v' l1') (hg : wr.grownBy w4 v1.ownBlock) (hr : Rowed wr v1 v') :
    w4.cell? ⟨N, 1, none⟩ = some v1 ∧ w4.frozen? ⟨N, 1, none⟩ = false ∧ Out N w2 (w4.setCell ⟨N, 1, none⟩ v') fin k v' v3 v4 v5 l1' l3 l4 l5 := by
  have m := mid_of h.size hg (fun g e => (h.o1.lt g e).1)
  refine ⟨m.c _ _ h.c1, m.f _ (h.fr _), ?_⟩
  exact ⟨set_off (by decide) (m.c _ _ h.c0), set_at (m.c _ _ h.c1), set_off (by decide) (m.c _ _ h.c2), set_off (by decide) (m.c _ _ h.c3), set_off (by decide) (m.c _ _ h.c4), set_off (by decide) (m.c _ _ h.c5), fun i => by rw [World.frozen?_setCell]; exact m.f _ (h.fr i),
    below_set (h.o1.grown hg (Nat.le_succ _) (Nat.le_of_succ_le h.size) h.b) _ _, own_set hown _, own_set (h.o3.kept hg (fun g e e1 => h.a13 g e1 e)) _, own_set (h.o4.kept hg (fun g e e1 => h.a14 g e1 e)) _, own_set (h.o5.kept hg (fun g e e1 => h.a15 g e1 e)) _,
    h.a13.rowed hr (fun g e => (h.o3.lt g e).2), h.a14.rowed hr (fun g e => (h.o4.lt g e).2), h.a15.rowed hr (fun g e => (h.o5.lt g e).2), h.a34, h.a35, h.a45⟩
theorem Out.push3 (h : Out N w2 wr fin k v1 v3 v4 v5 l1 l3 l4 l5) (hown : OwnG 46 4 Vl.cs (N + 1) w4 v' l3') (hg : wr.grownBy w4 v3.ownBlock) (hr : Rowed wr v3 v') :
    w4.cell? ⟨N, 3, none⟩ = some v3 ∧ w4.frozen? ⟨N, 3, none⟩ = false ∧ Out N w2 (w4.setCell ⟨N, 3, none⟩ v') fin k v1 v' v4 v5 l1 l3' l4 l5 := by
  have m := mid_of h.size hg (fun g e => (h.o3.lt g e).1)
  refine ⟨m.c _ _ h.c3, m.f _ (h.fr _), ?_⟩
  exact ⟨set_off (by decide) (m.c _ _ h.c0), set_off (by decide) (m.c _ _ h.c1), set_off (by decide) (m.c _ _ h.c2), set_at (m.c _ _ h.c3), set_off (by decide) (m.c _ _ h.c4), set_off (by decide) (m.c _ _ h.c5), fun i => by rw [World.frozen?_setCell]; exact m.f _ (h.fr i),
    below_set (h.o3.grown hg (Nat.le_succ _) (Nat.le_of_succ_le h.size) h.b) _ _, own_set (h.o1.kept hg (fun g e e1 => h.a13.symm g e1 e)) _, own_set hown _, own_set (h.o4.kept hg (fun g e e1 => h.a34 g e1 e)) _, own_set (h.o5.kept hg (fun g e e1 => h.a35 g e1 e)) _,
    (h.a13.symm.rowed hr (fun g e => (h.o1.lt g e).2)).symm, h.a14, h.a15, h.a34.rowed hr (fun g e => (h.o4.lt g e).2), h.a35.rowed hr (fun g e => (h.o5.lt g e).2), h.a45⟩
theorem Out.push4 (h : Out N w2 wr fin k v1 v3 v4 v5 l1 l3 l4 l5) (hown : OwnG 46 4 Vl.cs (N + 1) w4 v' l4') (hg : wr.grownBy w4 v4.ownBlock) (hr : Rowed wr v4 v') :
    w4.cell? ⟨N, 4, none⟩ = some v4 ∧ w4.frozen? ⟨N, 4, none⟩ = false ∧ Out N w2 (w4.setCell ⟨N, 4, none⟩ v') fin k v1 v3 v' v5 l1 l3 l4' l5 := by
  have m := mid_of h.size hg (fun g e => (h.o4.lt g e).1)
  refine ⟨m.c _ _ h.c4, m.f _ (h.fr _), ?_⟩
  exact ⟨set_off (by decide) (m.c _ _ h.c0), set_off (by decide) (m.c _ _ h.c1), set_off (by decide) (m.c _ _ h.c2), set_off (by decide) (m.c _ _ h.c3), set_at (m.c _ _ h.c4), set_off (by decide) (m.c _ _ h.c5), fun i => by rw [World.frozen?_setCell]; exact m.f _ (h.fr i),
    below_set (h.o4.grown hg (Nat.le_succ _) (Nat.le_of_succ_le h.size) h.b) _ _, own_set (h.o1.kept hg (fun g e e1 => h.a14.symm g e1 e)) _, own_set (h.o3.kept hg (fun g e e1 => h.a34.symm g e1 e)) _, own_set hown _, own_set (h.o5.kept hg (fun g e e1 => h.a45 g e1 e)) _,
    h.a13, (h.a14.symm.rowed hr (fun g e => (h.o1.lt g e).2)).symm, h.a15, (h.a34.symm.rowed hr (fun g e => (h.o3.lt g e).2)).symm, h.a35, h.a45.rowed hr (fun g e => (h.o5.lt g e).2)⟩
theorem Out.push5 (h : Out N w2 wr fin k v1 v3 v4 v5 l1 l3 l4 l5) (hown : OwnG 50 6 Fd.cs (N + 1) w4 v' l5') (hg : wr.grownBy w4 v5.ownBlock) (hr : Rowed wr v5 v') :
    w4.cell? ⟨N, 5, none⟩ = some v5 ∧ w4.frozen? ⟨N, 5, none⟩ = false ∧ Out N w2 (w4.setCell ⟨N, 5, none⟩ v') fin k v1 v3 v4 v' l1 l3 l4 l5' := by
  have m := mid_of h.size hg (fun g e => (h.o5.lt g e).1)
  refine ⟨m.c _ _ h.c5, m.f _ (h.fr _), ?_⟩
  exact ⟨set_off (by decide) (m.c _ _ h.c0), set_off (by decide) (m.c _ _ h.c1), set_off (by decide) (m.c _ _ h.c2), set_off (by decide) (m.c _ _ h.c3), set_off (by decide) (m.c _ _ h.c4), set_at (m.c _ _ h.c5), fun i => by rw [World.frozen?_setCell]; exact m.f _ (h.fr i),
    below_set (h.o5.grown hg (Nat.le_succ _) (Nat.le_of_succ_le h.size) h.b) _ _, own_set (h.o1.kept hg (fun g e e1 => h.a15.symm g e1 e)) _, own_set (h.o3.kept hg (fun g e e1 => h.a35.symm g e1 e)) _, own_set (h.o4.kept hg (fun g e e1 => h.a45.symm g e1 e)) _, own_set hown _,
    h.a13, h.a14, (h.a15.symm.rowed hr (fun g e => (h.o1.lt g e).2)).symm, h.a34, (h.a35.symm.rowed hr (fun g e => (h.o3.lt g e).2)).symm, (h.a45.symm.rowed hr (fun g e => (h.o4.lt g e).2)).symm⟩
/-- The result's cells: six stores below 'out'. -/
theorem own_setR {α : Type} {e sz : Nat} {cs : α → List Value} {v u : Value} {l : List α} {R : Nat} (h : OwnG e sz cs (N + 1) w4 v l) (hR : R < N) (i : Nat) : OwnG e sz cs (N + 1) (w4.setCell ⟨R, i, none⟩ u) v l :=
  h.kept (Lib.grownBy_setCell w4 R i u) (fun g hg e => by have := (h.lt g hg).1; have := Option.some.inj e; omega)
/-- With's array of the two lists of value types, in block M; the list that grows lies elsewhere. -/
structure Arr (M : Nat) (wr : World) (x0 x1 v : Value) : Prop where
  c0 : wr.cell? ⟨M, 0, none⟩ = some x0
  c1 : wr.cell? ⟨M, 1, none⟩ = some x1
  f : ∀ g, v.ownBlock = some g → g ≠ M
theorem Arr.lt {M : Nat} {x0 x1 v : Value} (h : Arr M wr x0 x1 v) : M < wr.heap.size := World.block_lt_of_cell? wr ⟨M, 0, none⟩ h.c0
theorem Arr.alloc {M : Nat} {x0 x1 v : Value} (h : Arr M wr x0 x1 v) (o : Obj) : Arr M (wr.alloc o) x0 x1 v := by
  have hb : Below wr.heap.size wr (wr.alloc o) := (Below.refl _ _).alloc (Nat.le_refl _) _
  exact ⟨(hb.cell (p := ⟨M, 0, none⟩) h.lt).trans h.c0, (hb.cell (p := ⟨M, 1, none⟩) h.lt).trans h.c1, h.f⟩
theorem Arr.push {M : Nat} {x0 x1 v v' : Value} (h : Arr M wr x0 x1 v) (hg : wr.grownBy w4 v.ownBlock) (hr : Rowed wr v v') (hN : N ≠ M) (i : Nat) (u : Value) : Arr M (w4.setCell ⟨N, i, none⟩ u) x0 x1 v' := by
  have hne : some M ≠ v.ownBlock := fun e => h.f M e.symm rfl
  refine ⟨?_, ?_, fun g e => ?_⟩
  · rw [World.cell?_setCell_other _ _ _ _ (by intro e; injection e; contradiction)]; exact (hg.cell_far ⟨M, 0, none⟩ h.lt hne).trans h.c0
  · rw [World.cell?_setCell_other _ _ _ _ (by intro e; injection e; contradiction)]; exact (hg.cell_far ⟨M, 1, none⟩ h.lt hne).trans h.c1
  · rcases hr g e with h1 | h1
    · exact h.f g h1
    · have := h.lt; omega
end
namespace Kd
theorem refs_cons (v : Vl) (r : List Vl) : refs (v :: r) = (if v.k = 3 then [v.h] else []) ++ refs r := by
  unfold refs isRef
  by_cases h : v.k = 3 <;> simp [h]
theorem withV_snoc : ∀ (a : List Vl) (v : Vl) (l : List Hp), withV (a ++ [v]) l = withV a l ++ [setV v (l.drop (refs a).length)]
  | [], v, l => by simp [withV, refs]
  | x :: a, v, l => by
    rw [List.cons_append, withV, withV, withV_snoc a v, refs_cons, List.cons_append]
    congr 2
    unfold restV
    by_cases h : x.k = 3
    · simp only [h, if_true, List.length_append, List.length_cons, List.length_nil]
      rw [Nat.add_comm, ← List.drop_drop, List.drop_one]
      simp [List.drop_tail]
    · simp [h]
theorem withV_len : ∀ (a : List Vl) (l : List Hp), (withV a l).length = a.length
  | [], _ => rfl
  | x :: a, l => by rw [withV, List.length_cons, withV_len a, List.length_cons]
theorem withF_snoc : ∀ (a : List Fd) (f : Fd) (l : List Hp), withF (a ++ [f]) l = withF a l ++ [setF f (l.drop (refs (a.map Fd.v)).length)]
  | [], v, l => by simp [withF, refs]
  | x :: a, v, l => by
    rw [List.cons_append, withF, withF, withF_snoc a v, List.map_cons, refs_cons, List.cons_append]
    congr 2
    unfold restV
    by_cases h : x.v.k = 3
    · simp only [h, if_true, List.length_append, List.length_cons, List.length_nil]
      rw [Nat.add_comm, ← List.drop_drop, List.drop_one]
      simp [List.drop_tail]
    · simp [h]
theorem withF_len : ∀ (a : List Fd) (l : List Hp), (withF a l).length = a.length
  | [], _ => rfl
  | x :: a, l => by rw [withF, List.length_cons, withF_len a, List.length_cons]
theorem refs_take (l : List Vl) (j : Nat) (hj : j < l.length) : refs (l.take (j + 1)) = refs (l.take j) ++ (if l[j].k = 3 then [l[j].h] else []) := by
  rw [List.take_succ_eq_append_getElem hj, refs_append, refs_cons]
  simp [refs]
theorem refs_take_le (l : List Vl) (j : Nat) : (refs (l.take j)).length ≤ (refs l).length := by
  have h : refs l = refs (l.take j) ++ refs (l.drop j) := by rw [← refs_append, List.take_append_drop]
  rw [h, List.length_append]; omega
theorem heads (s : Sb) : (heaps s).length = s.sups.length + (refs s.c.ps).length + (refs s.c.rs).length + (refs (s.c.fs.map Fd.v)).length := by
  unfold heaps allV
  rw [refs_append, refs_append]
  simp only [List.length_append]
  omega
end Kd
end Go.Proofs.YtlflmobaegfnaaaDoor

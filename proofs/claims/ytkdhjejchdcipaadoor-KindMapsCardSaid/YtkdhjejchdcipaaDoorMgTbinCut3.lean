/-
  Texts of this claim, one behind the other: part 3.
-/
import Derived.RangeFuncNested
import Derived.RangeFuncBound
import Derived.RangeFuncCalls
import Derived.RangeFuncLeaves
import Derived.IntWalk
import Derived.WalkSpells
import Derived.Deep.QuietTactic
import Derived.BigQuiet
import Derived.Test.YtkdhjejchdcipaaDoorMgTbinCut2
/-
  A range over a function whose iterator may itself range over one: a contract and a law of my own. What a round that goes on keeps: all blocks but those of D (the caller's own) and the loop's record; J stays where all that lay when the iterator was called lies as it lay.
-/
namespace Go.Proofs.YtkdhjejchdcipaaDoor
open Go.RowKit
set_option linter.unusedVariables false

theorem size_put (w : World) (l : Nat) (o : Obj) : (w.putObj l o).heap.size = w.heap.size := by simp
structure Keep (D : Nat → Nat → Prop) (w w' : World) : Prop where
  os : w'.os = w.os
  tape : w'.tape = w.tape
  output : w'.output = w.output
  size : w.heap.size ≤ w'.heap.size
  block : ∀ k, k < w.heap.size → (∀ o, ¬ D k o) → w'.heap[k]? = w.heap[k]?
  cells : ∀ b o v, ¬ D b o → w.cell? ⟨b, o, none⟩ = some v → w'.cell? ⟨b, o, none⟩ = some v
variable {D D' : Nat → Nat → Prop} {w w' w'' : World}
theorem Keep.refl (w : World) : Keep D w w := ⟨rfl, rfl, rfl, Nat.le_refl _, fun _ _ _ => rfl, fun _ _ _ _ h => h⟩
theorem Keep.trans (h : Keep D w w') (h' : Keep D w' w'') : Keep D w w'' :=
  ⟨h'.os.trans h.os, h'.tape.trans h.tape, h'.output.trans h.output, Nat.le_trans h.size h'.size, fun k hk hd => (h'.block k (Nat.lt_of_lt_of_le hk h.size) hd).trans (h.block k hk hd), fun b o v hd hc => h'.cells b o v hd (h.cells b o v hd hc)⟩
theorem Keep.wide (h : Keep D w w') (hd : ∀ k o, D k o → D' k o) : Keep D' w w' := ⟨h.os, h.tape, h.output, h.size, fun k hk hn => h.block k hk (fun o e => hn o (hd k o e)), fun b o v hn => h.cells b o v (fun e => hn (hd b o e))⟩
theorem Keep.of_below (h : Below w.heap.size w w') : Keep D w w' := ⟨h.os, h.tape, h.output, h.size, fun k hk _ => h.block k hk, fun b o v _ hc => (h.cell (p := ⟨b, o, none⟩) (World.block_lt_of_cell? w ⟨b, o, none⟩ hc)).trans hc⟩
theorem Keep.putObj {l : Nat} (o : Obj) (hl : ∀ i, D l i) : Keep D w (w.putObj l o) :=
  ⟨rfl, rfl, rfl, by simp, fun k _ hn => World.putObj_heap_other (fun e => hn 0 (by first | rw [e]; exact hl _ | rw [← e]; exact hl _)),
    fun b i v hn hc => (World.cell?_of_block (w := w) (a := ⟨b, i, none⟩) (World.putObj_heap_other (fun e => hn (by dsimp only at e; first | (subst e; exact hl _) | (rw [e]; exact hl _))))).trans hc⟩
theorem Keep.setCell {b i : Nat} (u : Value) (hp : D b i) : Keep D w (w.setCell ⟨b, i, none⟩ u) :=
  ⟨rfl, rfl, rfl, by simp, fun k _ hn => Below.heap_setCell w ⟨b, i, none⟩ u k (fun e => hn i (by rw [e]; exact hp)),
    fun b' o v hn hc => by rw [World.cell?_setCell_other _ _ _ _ (by intro e; injection e with e1 e2; subst e1 e2; exact hn hp)]; exact hc⟩
theorem Keep.below (h : Keep D w w') {B : Nat} (hB : B ≤ w.heap.size) (hD : ∀ k o, k < B → ¬ D k o) : Below B w w' := ⟨h.os, h.tape, h.output, h.size, fun k hk => h.block k (Nat.lt_of_lt_of_le hk hB) (fun o => hD k o hk)⟩
theorem Keep.lies {B : Nat} (h : Keep D w w') (hB : w.heap.size ≤ B) (hb : Below B w' w'') : Keep D w w'' :=
  ⟨hb.os.trans h.os, hb.tape.trans h.tape, hb.output.trans h.output, Nat.le_trans h.size hb.size, fun k hk hd => (hb.block k (Nat.lt_of_lt_of_le hk hB)).trans (h.block k hk hd),
    fun b o v hd hc => (hb.cell (p := ⟨b, o, none⟩) (Nat.lt_of_lt_of_le (World.block_lt_of_cell? w ⟨b, o, none⟩ hc) hB)).trans (h.cells b o v hd hc)⟩

/-- Nothing of the world matters but what lay below B. -/
def Lies {β : Type} (B : Nat) (J : β → World → Prop) : Prop := ∀ s A C, J s A → Below B A C → J s C

def SeqX {α : Type} (F : Fence) (n : Nat) (P : Program) (g : Nat) (lb : Array Value) (encs : α → Array Value) (D : Nat → Nat → Prop) (S Sp : List α → Prop) (N : Nat) (w : World) : Prop :=
  ∀ (l : Nat) (J Jx : List α → World → Prop) (W : World), Below w.heap.size w W → w.heap.size ≤ l → l < W.heap.size → Lies W.heap.size J → Lies W.heap.size Jx →
    (∀ pre x W1, J pre W1 → pre.length < N → YieldAt F (n - 1) P l (encs x) W1 fun e W' =>
      (e = .returned (.bool true) ∧ J (pre ++ [x]) W' ∧ Keep (fun k o => D k o ∨ k = l) W1 W') ∨ (e = .returned (.bool false) ∧ Jx (pre ++ [x]) W' ∧ Keep (fun k o => D k o ∨ k = l) W1 W')) →
    J [] W →
    CallsIn F n P g (#[.func (.yield l) #[] #[]] ++ lb) W fun e W' => (∃ v, e = .returned v) ∧ ((∃ xs, S xs ∧ J xs W') ∨ (∃ pre, Sp pre ∧ Jx pre W'))

/-- What a round of the caller's ends in. -/
def postX {α : Type} (D : Nat → Nat → Prop) (I : List α → World → Prop) (Ix : Code → List α → World → Prop) (xs : List α) (W : World) : Exit → Act → World → Prop
  | .normal, _, W' => Keep D W W' ∧ I xs W'
  | .ret, _, W' => Keep D W W' ∧ Ix .ret xs W'
  | .exit id, _, W' => Keep D W W' ∧ Ix (.exit id) xs W'
  | .goto t, _, W' => Keep D W W' ∧ Ix (.goto t) xs W'
  | .panic _, _, _ => False
  | .outgrown, _, _ => False

set_option maxHeartbeats 1000000 in
theorem wpIn_range_x {F : Fence} {n : Nat} {P : Program} {α : Type} {g : Operand} {ps : Array Tmp} {assign body : Code} {Q : Exit → Act → World → Prop} {a : Act} {w : World}
    (hro : F.round = none) (h1 : 1 ≤ n) {gf : Nat} {lb : Array Value} (hg : a.eval g = .func (.func gf) #[] lb) (hFg : F.fn gf) (eg : ∀ args w, (callFunc gf args).run P w = .ok (.enter gf args) w)
    {encs : α → Array Value} {D : Nat → Nat → Prop} {S Sp : List α → Prop} {N : Nat} {w0 : World} (hseq : SeqX F (n - 1) P gf lb encs D S Sp N w0)
    (hD : ∀ k o, D k o → k < w.heap.size) (hb0 : Below w0.heap.size w0 w) (hps : ∀ x, (encs x).size = ps.size)
    (I : List α → World → Prop) (Ix : Code → List α → World → Prop) (hI : Lies w.heap.size I) (hIx : ∀ c, Lies w.heap.size (Ix c)) (h0 : I [] w) (a₁ : α → Act)
    (hassign : ∀ (l : Nat) (x : α) (W : World) (K : Act → World → Prop), K (a₁ x) W →
      assign.wpIn (F.inRound l) (n - 1 - 1) P (Exit.then K (fun _ _ _ => False)) { tmps := (ps.zip (encs x)).foldl (fun t (p, v) => t.setIfInBounds p v) a.tmps, defers := [] } W)
    (hbody : ∀ (l : Nat) (pre : List α) (x : α) (W : World), I pre W → pre.length < N → w.heap.size + 2 ≤ W.heap.size → body.wpIn (F.inRound l) (n - 1 - 1) P (postX D I Ix (pre ++ [x]) W) (a₁ x) W)
    (hdone : ∀ (K : Nat) (xs : List α) (W : World), w.heap.size ≤ K → S xs → I xs W → W.heap[K]? = some (.deferred (some [])) → Q .normal { a with defers := { target := .collected K, args := #[] } :: a.defers } W)
    (hstop : ∀ (K : Nat) (c : Code) (pre : List α) (W : World), w.heap.size ≤ K → Sp pre → Ix c pre W → W.heap[K]? = some (.deferred (some [])) → c.wpIn F n P Q { a with defers := { target := .collected K, args := #[] } :: a.defers } W) :
    (Code.rangeFunc g ps assign body).wpIn F n P Q a w := by
  refine wpIn_rangeFunc ?_
  intro fn hfn
  rw [hro]
  let R : LoopState → Option Code → Obj := fun s p => .loop { state := s, pending := p, fn, tmps := a.tmps, params := ps, assign, body, defers := w.heap.size }
  obtain ⟨V, hV⟩ : ∃ V, V = (w.alloc (.deferred (some []))).alloc (R .ready none) := ⟨_, rfl⟩
  have hVs : V.heap.size = w.heap.size + 2 := by rw [hV]; simp
  have hbV : Below w.heap.size w V := by rw [hV]; exact ((Below.refl _ w).alloc (Nat.le_refl _) _).alloc (by simp) _
  have hr1 : V.heap[w.heap.size + 1]? = some (R .ready none) := by
    rw [hV]; have := World.alloc_heap_new (w.alloc (.deferred (some []))) (R .ready none); rwa [World.size_alloc] at this
  have hd1 : V.heap[w.heap.size]? = some (.deferred (some [])) := by
    rw [hV]; exact (Below.heap_alloc _ _ _ (by simp)).trans (World.alloc_heap_new w _)
  have put : ∀ (o : Obj) (U : World), Below w.heap.size U (U.putObj (w.heap.size + 1) o) := fun o U => ⟨rfl, rfl, rfl, by simp, fun k hk => World.putObj_heap_other (by omega)⟩
  refine ⟨w.heap.size + 1, [{ target := .collected w.heap.size, args := #[] }], V, { target := .fn (.func gf) lb, args := #[.func (.yield (w.heap.size + 1)) #[] #[]] }, V, gf,
    #[.func (.yield (w.heap.size + 1)) #[] #[]] ++ lb, V, ?_, ?_, ?_, ?_, fun _ => h1, ?_⟩
  · rw [hV]; exact run_enterLoop_outer _ _ _ _ _
  · simp only [resolve, hg]
    simp [go_sem]
  · intro f' hf'; simp [Target.leads] at hf'; subst hf'; exact hFg
  · simp [invoke, go_sem, eg]
  · refine (hseq (w.heap.size + 1)
      (fun pre U => I pre U ∧ U.heap[w.heap.size + 1]? = some (R .ready none) ∧ U.heap[w.heap.size]? = some (.deferred (some [])) ∧ w.heap.size + 2 ≤ U.heap.size)
      (fun pre U => ∃ c, Ix c pre U ∧ U.heap[w.heap.size + 1]? = some (R .done (some c)) ∧ U.heap[w.heap.size]? = some (.deferred (some [])))
      V (hb0.trans (hbV.mono hb0.size)) (Nat.le_trans hb0.size (Nat.le_succ _)) (by omega) ?_ ?_ ?_ ⟨hI [] _ _ h0 hbV, hr1, hd1, by omega⟩).mono ?_
    · rintro s A C ⟨i, r, d, z⟩ hb
      exact ⟨hI s _ _ i (hb.mono (by omega)), (hb.block _ (by omega)).trans r, (hb.block _ (by omega)).trans d, Nat.le_trans z hb.size⟩
    · rintro s A C ⟨c, i, r, d⟩ hb
      exact ⟨c, hIx c s _ _ i (hb.mono (by omega)), (hb.block _ (by omega)).trans r, (hb.block _ (by omega)).trans d⟩
    · rintro pre x U ⟨i, r, d, z⟩ hlen
      have hy := run_yield (P := P) (args := encs x) r (hps x)
      refine ⟨fn, _, assign, body, hy, roundIn_of_wpIn hfn (hassign _ x U _ ⟨_, run_beginRound r rfl, ?_⟩)⟩
      refine wpIn_mono (hbody _ pre x _ (hI _ _ _ i (put _ U)) hlen (by simpa using z)) ?_
      have fin : ∀ (jump : Option Code) (U3 : World), Keep D (U.putObj (w.heap.size + 1) (R .busy none)) U3 →
          (Instr.endRound (w.heap.size + 1) jump).run P U3 = .ok (.bool jump.isNone) (U3.putObj (w.heap.size + 1) (R (if jump.isNone then .ready else .done) jump)) ∧
          (U3.putObj (w.heap.size + 1) (R (if jump.isNone then .ready else .done) jump)).heap[w.heap.size + 1]? = some (R (if jump.isNone then .ready else .done) jump) ∧
          (U3.putObj (w.heap.size + 1) (R (if jump.isNone then .ready else .done) jump)).heap[w.heap.size]? = some (.deferred (some [])) ∧ w.heap.size + 2 ≤ U3.heap.size := fun jump U3 hk => by
        have hz := hk.size
        rw [size_put] at hz
        have r3 : U3.heap[w.heap.size + 1]? = some (R .busy none) := (hk.block _ (by rw [size_put]; omega) (fun o e => by have := hD _ _ e; omega)).trans (World.putObj_heap_same (by omega))
        have d3 : U3.heap[w.heap.size]? = some (.deferred (some [])) := (hk.block _ (by rw [size_put]; omega) (fun o e => by have := hD _ _ e; omega)).trans ((World.putObj_heap_other (by omega)).trans d)
        exact ⟨run_endRound (P := P) jump r3, World.putObj_heap_same (by omega), (World.putObj_heap_other (by omega)).trans d3, by omega⟩
      have whole : ∀ (o : Obj) (U3 : World), Keep D (U.putObj (w.heap.size + 1) (R .busy none)) U3 → Keep (fun k o => D k o ∨ k = w.heap.size + 1) U (U3.putObj (w.heap.size + 1) o) := fun o U3 hk =>
        ((Keep.putObj _ (fun _ => .inr rfl)).trans (hk.wide fun k o e => .inl e)).trans (Keep.putObj _ (fun _ => .inr rfl))
      rintro e a3 U3 hp
      cases e with
      | normal =>
        obtain ⟨hk, hi⟩ := hp
        obtain ⟨hr, hl, hd, hz⟩ := fin none U3 hk
        exact ⟨_, _, hr, .inl ⟨rfl, ⟨hI _ _ _ hi (put _ U3), hl, hd, by simpa using hz⟩, whole _ U3 hk⟩⟩
      | ret =>
        obtain ⟨hk, hi⟩ := hp
        obtain ⟨hr, hl, hd, hz⟩ := fin (some .ret) U3 hk
        exact ⟨_, _, hr, .inr ⟨rfl, ⟨.ret, hIx _ _ _ _ hi (put _ U3), hl, hd⟩, whole _ U3 hk⟩⟩
      | exit id =>
        obtain ⟨hk, hi⟩ := hp
        obtain ⟨hr, hl, hd, hz⟩ := fin (some (.exit id)) U3 hk
        exact ⟨_, _, hr, .inr ⟨rfl, ⟨.exit id, hIx _ _ _ _ hi (put _ U3), hl, hd⟩, whole _ U3 hk⟩⟩
      | goto t =>
        obtain ⟨hk, hi⟩ := hp
        obtain ⟨hr, hl, hd, hz⟩ := fin (some (.goto t)) U3 hk
        exact ⟨_, _, hr, .inr ⟨rfl, ⟨.goto t, hIx _ _ _ _ hi (put _ U3), hl, hd⟩, whole _ U3 hk⟩⟩
      | panic ch => exact hp.elim
      | outgrown => exact hp.elim
    · rintro e U ⟨⟨v, rfl⟩, (⟨xs, hS, i, r, d, z⟩ | ⟨pre, hSp, c, i, r, d⟩)⟩
      · exact ⟨none, _, run_endLoop (P := P) r (by simp), hdone _ xs _ (Nat.le_refl _) hS (hI _ _ _ i (put _ U)) ((World.putObj_heap_other (by omega)).trans d)⟩
      · exact ⟨some c, _, run_endLoop (P := P) r (by simp), hstop _ c pre _ (Nat.le_refl _) hSp (hIx c _ _ _ i (put _ U)) ((World.putObj_heap_other (by omega)).trans d)⟩
end Go.Proofs.YtkdhjejchdcipaaDoor
/-
  Layer 4, views: a slice of structs that is read (Seg), a declared type as a value (IsSub).
-/
namespace Go.Proofs.YtkdhjejchdcipaaDoor
open Go.RowKit
set_option linter.unusedVariables false
set_option maxRecDepth 100000

def Hp.cs (h : Hp) : List Value := [.int .i64 h.k, .int .i64 h.n]
def Vl.cs (v : Vl) : List Value := [.int .i64 v.k, .bool v.nu, .int .i64 v.h.k, .int .i64 v.h.n]
def Fd.cs (f : Fd) : List Value := [.int .i64 f.pk, .int .i64 f.v.k, .bool f.v.nu, .int .i64 f.v.h.k, .int .i64 f.v.h.n, .bool f.mu]
abbrev Hp.val (h : Hp) : Value := .agg #[.int .i64 h.k, .int .i64 h.n]
abbrev Vl.val (v : Vl) : Value := .agg #[.int .i64 v.k, .bool v.nu, .int .i64 v.h.k, .int .i64 v.h.n]
abbrev Fd.val (f : Fd) : Value := .agg #[.int .i64 f.pk, .int .i64 f.v.k, .bool f.v.nu, .int .i64 f.v.h.k, .int .i64 f.v.h.n, .bool f.mu]

/-- A slice of structs of 'sz' cells that is read, below block C. -/
def Seg {α : Type} (sz : Nat) (cs : α → List Value) (w : World) (C : Nat) (A : Option Addr) (c : Nat) (l : List α) : Prop :=
  l.length ≤ c ∧ c ≤ maxLen ∧ (0 < l.length → ∃ b off, A = some ⟨b, off, none⟩ ∧ b < C ∧ ∀ j (h : j < l.length) i v, (cs l[j])[i]? = some v → w.cell? ⟨b, off + j * sz + i, none⟩ = some v)

section
variable {α : Type} {sz : Nat} {cs : α → List Value} {w w' : World} {C c : Nat} {A : Option Addr} {l : List α}
theorem Seg.below (h : Seg sz cs w C A c l) (hb : Below C w w') : Seg sz cs w' C A c l := by
  obtain ⟨h1, h2, h3⟩ := h
  refine ⟨h1, h2, fun hn => ?_⟩
  obtain ⟨b, off, e, hb', hc⟩ := h3 hn
  exact ⟨b, off, e, hb', fun j hj i v hv => (hb.cell (p := ⟨b, off + j * sz + i, none⟩) hb').trans (hc j hj i v hv)⟩
theorem Seg.more {C' : Nat} (h : Seg sz cs w C A c l) (hC : C ≤ C') : Seg sz cs w C' A c l := by
  obtain ⟨h1, h2, h3⟩ := h
  refine ⟨h1, h2, fun hn => ?_⟩
  obtain ⟨b, off, e, hb', hc⟩ := h3 hn
  exact ⟨b, off, e, by omega, hc⟩
theorem Seg.nil (w : World) (C c : Nat) (A : Option Addr) (hc : c ≤ maxLen) : Seg sz cs w C A c ([] : List α) := ⟨by simp, hc, fun h => by simp at h⟩
end

/-- A declared type as a value: its lists lie below block C. -/
def IsSub (w : World) (C : Nat) (v : Value) (s : Sb) : Prop :=
  ∃ A1 c1 A2 c2 A3 c3 A4 c4, v = .agg #[.bool s.fin, .slice A1 s.sups.length c1, .int .i64 s.c.k, .slice A2 s.c.ps.length c2, .slice A3 s.c.rs.length c3, .slice A4 s.c.fs.length c4] ∧
    Seg 2 Hp.cs w C A1 c1 s.sups ∧ Seg 4 Vl.cs w C A2 c2 s.c.ps ∧ Seg 4 Vl.cs w C A3 c3 s.c.rs ∧ Seg 6 Fd.cs w C A4 c4 s.c.fs
theorem IsSub.below {w w' : World} {C : Nat} {v : Value} {s : Sb} (h : IsSub w C v s) (hb : Below C w w') : IsSub w' C v s := by
  obtain ⟨A1, c1, A2, c2, A3, c3, A4, c4, e, h1, h2, h3, h4⟩ := h
  exact ⟨A1, c1, A2, c2, A3, c3, A4, c4, e, h1.below hb, h2.below hb, h3.below hb, h4.below hb⟩
theorem IsSub.more {w : World} {C C' : Nat} {v : Value} {s : Sb} (h : IsSub w C v s) (hb : C ≤ C') : IsSub w C' v s := by
  obtain ⟨A1, c1, A2, c2, A3, c3, A4, c4, e, h1, h2, h3, h4⟩ := h
  exact ⟨A1, c1, A2, c2, A3, c3, A4, c4, e, h1.more hb, h2.more hb, h3.more hb, h4.more hb⟩

/-- The walk's end: a bool is handed back, new blocks alone were laid. -/
theorem bcell {W w1 : World} (hb : Below W.heap.size W w1) : (∀ b o, b < W.heap.size → w1.cell? ⟨b, o, none⟩ = W.cell? ⟨b, o, none⟩) ∧ (∀ b o, b < W.heap.size → w1.frozen? ⟨b, o, none⟩ = W.frozen? ⟨b, o, none⟩) :=
  ⟨fun b o h => hb.cell (p := ⟨b, o, none⟩) h, fun b o h => hb.frozen (p := ⟨b, o, none⟩) h⟩
theorem below_alloc {B : Nat} {w a : World} (h : Below B w a) (hB : B ≤ a.heap.size) (o : Obj) : Below B w (a.alloc o) := h.alloc hB o
end Go.Proofs.YtkdhjejchdcipaaDoor
/-
  Layer 6, code: a reader in memory, and what only looks at it: is, goes, Err, At, Left; Fail.
-/
namespace Go.Proofs.YtkdhjejchdcipaaDoor
open Go.RowKit
set_option linter.unusedVariables false
set_option linter.unusedSimpArgs false
set_option maxRecDepth 100000

/-- A reader's cells. -/
abbrev rdCells (A : Option Addr) (n c : Nat) (r : Rd) : Array Value := #[.slice A n c, .bool true, .int .i64 (r.p : Int), .int .i64 r.e, .int .i64 r.bad]
def RdAt (w : World) (b : Nat) (A : Option Addr) (n c : Nat) (r : Rd) : Prop :=
  w.heap[b]? = some (.cells (rdCells A n c r) 102 (0, 0)) ∧ Bytes w w.heap.size A n c r.bs ∧ r.p ≤ n
section
variable {w w' : World} {b n c : Nat} {A : Option Addr} {r r' : Rd}
theorem RdAt.lt (h : RdAt w b A n c r) : b < w.heap.size := (Array.getElem?_eq_some_iff.1 h.1).1
theorem RdAt.cells (h : RdAt w b A n c r) : w.cell? ⟨b, 0, none⟩ = some (.slice A n c) ∧ w.cell? ⟨b, 1, none⟩ = some (.bool true) ∧ w.cell? ⟨b, 2, none⟩ = some (.int .i64 (r.p : Int)) ∧
    w.cell? ⟨b, 3, none⟩ = some (.int .i64 r.e) ∧ w.cell? ⟨b, 4, none⟩ = some (.int .i64 r.bad) :=
  ⟨cell_of_row w b 0 _ _ (0, 0) h.1, cell_of_row w b 1 _ _ (0, 0) h.1, cell_of_row w b 2 _ _ (0, 0) h.1, cell_of_row w b 3 _ _ (0, 0) h.1, cell_of_row w b 4 _ _ (0, 0) h.1⟩
theorem RdAt.free (h : RdAt w b A n c r) (i : Nat) : w.frozen? ⟨b, i, none⟩ = false := by simp [World.frozen?, h.1]
theorem RdAt.len (h : RdAt w b A n c r) : r.bs.length = n := h.2.1.1
theorem RdAt.below {B : Nat} (h : RdAt w b A n c r) (hB : w.heap.size ≤ B) (hb : Below B w w') : RdAt w' b A n c r :=
  ⟨(hb.block b (Nat.lt_of_lt_of_le h.lt hB)).trans h.1, (h.2.1.below (hb.mono hB)).more hb.size, h.2.2⟩
theorem RdAt.drewN (h : RdAt w b A n c r) (k : Nat) : RdAt (w.drewN k) b A n c r := h
/-- Another block is written. -/
theorem RdAt.keep {D : Nat → Nat → Prop} (h : RdAt w b A n c r) (hk : Keep D w w') (hD : ∀ o, ¬ D b o) (hB : ∀ (k : Nat), (∃ o v, (w.cell? ⟨k, o, none⟩ = some (.int .u8 v))) → ∀ o, ¬ D k o) : RdAt w' b A n c r := by
  refine ⟨(hk.block b h.lt hD).trans h.1, ?_, h.2.2⟩
  obtain ⟨h1, h2, h3, h4, h5⟩ := h.2.1
  refine ⟨h1, h2, h3, h4, fun hn => ?_⟩
  obtain ⟨b', off, e, hb', hc⟩ := h5 hn
  refine ⟨b', off, e, Nat.lt_of_lt_of_le hb' hk.size, fun j hj => hk.cells b' _ _ (hB b' ⟨_, _, hc j hj⟩ _) (hc j hj)⟩
end

theorem is_any {w : World} {b n c : Nat} {A : Option Addr} {r : Rd} (h : RdAt w b A n c r) :
    Calls Tryd.prog 94 #[.pointer (some ⟨b, 0, none⟩)] w fun e w' => e = .returned (.bool true) ∧ w = w' := by
  obtain ⟨c0, c1, c2, c3, c4⟩ := h.cells
  clear c0 c2 c3 c4 h
  go_enter Tryd.func94, Tryd.ntmps94
  go_wp2
  go_ret
  exact ⟨rfl, rfl⟩
theorem goes_any {w : World} {b n c : Nat} {A : Option Addr} {r : Rd} (h : RdAt w b A n c r) (g : Bool) (hg : decide (r.e = 0) = g) :
    Calls Tryd.prog 92 #[.pointer (some ⟨b, 0, none⟩)] w fun e w' => e = .returned (.bool g) ∧ w = w' := by
  obtain ⟨c0, c1, c2, c3, c4⟩ := h.cells
  have H := Lib.hid (is_any h)
  obtain ⟨e0, he⟩ : ∃ e0, r.e = e0 := ⟨_, rfl⟩
  rw [he] at c3 hg
  have HG := Lib.hid hg
  clear c0 c1 c2 c4 h he hg
  go_enter Tryd.func92, Tryd.ntmps92
  go_wp2_with (refine H.out.mono ?_; rintro e w' ⟨rfl, rfl⟩)
  go_ret
  exact ⟨ret_bool (by rw [← HG.out]; rfl), rfl⟩
end Go.Proofs.YtkdhjejchdcipaaDoor
/-
  Layer 6, code: Left, At, Err, Fail, may.
-/
namespace Go.Proofs.YtkdhjejchdcipaaDoor
open Go.RowKit
set_option linter.unusedVariables false
set_option linter.unusedSimpArgs false
set_option maxRecDepth 100000

/-- Block b alone. -/
abbrev Db (b : Nat) : Nat → Nat → Prop := fun k _ => k = b
section
variable {w w' : World} {b n c : Nat} {A : Option Addr} {r r' : Rd}
theorem RdAt.noByte (h : RdAt w b A n c r) (o : Nat) (v : Int) : w.cell? ⟨b, o, none⟩ ≠ some (.int .u8 v) := by
  intro e
  unfold World.cell? at e
  rw [h.1] at e
  rcases o with _ | _ | _ | _ | _ | o <;> simp at e
theorem Bytes.kept {C : Nat} {l : List Nat} (h : Bytes w C A n c l) (hC : C ≤ w'.heap.size) (hn : ∀ o v, w.cell? ⟨b, o, none⟩ ≠ some (.int .u8 v)) (hk : Keep (Db b) w w') : Bytes w' w'.heap.size A n c l := by
  obtain ⟨h1, h2, h3, h4, h5⟩ := h
  refine ⟨h1, h2, h3, h4, fun h0 => ?_⟩
  obtain ⟨b', off, e, hb', hc⟩ := h5 h0
  exact ⟨b', off, e, by omega, fun j hj => hk.cells b' _ _ (fun e => hn _ _ (by rw [← e]; exact hc j hj)) (hc j hj)⟩
theorem RdAt.put (h : RdAt w b A n c r) (hk : Keep (Db b) w w') (hr : w'.heap[b]? = some (.cells (rdCells A n c r') 102 (0, 0))) (hb : r'.bs = r.bs) (hp : r'.p ≤ n) : RdAt w' b A n c r' :=
  ⟨hr, by rw [hb]; exact h.2.1.kept hk.size h.noByte hk, hp⟩
theorem RdAt.goto (h : RdAt w b A n c r) (p : Nat) (hp : p ≤ n) (q : Int) (hq : q = (p : Int)) :
    RdAt (w.setCell ⟨b, 2, none⟩ (.int .i64 q)) b A n c { r with p := p } ∧ Keep (Db b) w (w.setCell ⟨b, 2, none⟩ (.int .i64 q)) := by
  subst hq
  have hk : Keep (Db b) w (w.setCell ⟨b, 2, none⟩ (.int .i64 (p : Int))) := Keep.setCell _ rfl
  exact ⟨h.put hk (by have := heap_setCell_same w b 2 _ _ (.int .i64 (p : Int)) h.1; simpa using this) rfl hp, hk⟩
theorem RdAt.fails (h : RdAt w b A n c r) (e bad : Int) :
    RdAt ((w.setCell ⟨b, 3, none⟩ (.int .i64 e)).setCell ⟨b, 4, none⟩ (.int .i64 bad)) b A n c { r with e := e, bad := bad } ∧ Keep (Db b) w ((w.setCell ⟨b, 3, none⟩ (.int .i64 e)).setCell ⟨b, 4, none⟩ (.int .i64 bad)) := by
  have hk : Keep (Db b) w ((w.setCell ⟨b, 3, none⟩ (.int .i64 e)).setCell ⟨b, 4, none⟩ (.int .i64 bad)) := (Keep.setCell (D := Db b) _ rfl).trans (Keep.setCell (D := Db b) _ rfl)
  refine ⟨h.put hk ?_ rfl h.2.2, hk⟩
  have h1 := heap_setCell_same w b 3 _ _ (.int .i64 e) h.1
  have h2 := heap_setCell_same _ b 4 _ _ (.int .i64 bad) h1
  simpa using h2
theorem RdAt.drewK (h : RdAt w b A n c r) (k : Nat) : RdAt (w.drewN k) b A n c r ∧ Keep (Db b) w (w.drewN k) := ⟨h, Keep.of_below (below_drewN (Below.refl _ _) k)⟩
end
theorem goes_q {w : World} {k b n c : Nat} {A : Option Addr} {r : Rd} (h : RdAt w b A n c r) (g : Bool) (hg : decide (r.e = 0) = g) :
    Calls Tryd.prog 92 #[.pointer (some ⟨b, 0, none⟩)] (w.drewN k) fun e w' => e = .returned (.bool g) ∧ ∃ m, w' = w.drewN m :=
  (goes_any (h.drewN k) g hg).mono fun _ _ ⟨he, hw⟩ => ⟨he, k, hw.symm⟩

set_option maxHeartbeats 1000000 in
theorem Left_any {w : World} {b n c : Nat} {A : Option Addr} {r : Rd} (h : RdAt w b A n c r) :
    Calls Tryd.prog 51 #[.pointer (some ⟨b, 0, none⟩)] w fun e w' => e = .returned (.int .i64 ((n - r.p : Nat) : Int)) ∧ ∃ m, w' = w.drewN m := by
  obtain ⟨c0, c1, c2, c3, c4⟩ := h.cells
  have H := Lib.hid (is_any h)
  have hp := h.2.2
  have hn : n ≤ 9223372036854775807 := by have h1 := h.2.1.2.1; have h2 := h.2.1.2.2.1; unfold maxLen at h2; omega
  obtain ⟨p, hq⟩ : ∃ p, r.p = p := ⟨_, rfl⟩
  rw [hq] at c2 hp ⊢
  have hs : IntKind.i64.wrap ((n : Int) - (p : Int)) = (n : Int) - (p : Int) := IntWalk.i64_in _ (by omega)
  have HS := Lib.hid hs
  clear c1 c3 c4 h hq hs
  go_enter Tryd.func51, Tryd.ntmps51
  go_wp2_with (refine H.out.mono ?_; rintro e w' ⟨rfl, rfl⟩)
  go_quiet (fail)
  go_wp2
  go_ret
  exact ⟨ret_int (by first | omega | (rw [HS.out]; omega)), _, rfl⟩
set_option maxHeartbeats 1000000 in
theorem At_any {w : World} {b n c : Nat} {A : Option Addr} {r : Rd} (h : RdAt w b A n c r) :
    Calls Tryd.prog 50 #[.pointer (some ⟨b, 0, none⟩)] w fun e w' => e = .returned (.int .i64 (r.p : Int)) ∧ w = w' := by
  obtain ⟨c0, c1, c2, c3, c4⟩ := h.cells
  have H := Lib.hid (is_any h)
  obtain ⟨p, hq⟩ : ∃ p, r.p = p := ⟨_, rfl⟩
  rw [hq] at c2 ⊢
  clear c0 c1 c3 c4 h hq
  go_enter Tryd.func50, Tryd.ntmps50
  go_wp2_with (refine H.out.mono ?_; rintro e w' ⟨rfl, rfl⟩)
  go_ret
  exact ⟨rfl, rfl⟩
set_option maxHeartbeats 1000000 in
theorem Err_any {w : World} {b n c : Nat} {A : Option Addr} {r : Rd} (h : RdAt w b A n c r) :
    Calls Tryd.prog 49 #[.pointer (some ⟨b, 0, none⟩)] w fun e w' => e = .returned (.tuple #[.int .i64 r.e, .int .i64 r.bad]) ∧ ∃ m, w' = w.drewN m := by
  obtain ⟨c0, c1, c2, c3, c4⟩ := h.cells
  have H := Lib.hid (is_any h)
  obtain ⟨e0, he⟩ : ∃ p, r.e = p := ⟨_, rfl⟩
  obtain ⟨b0, hb⟩ : ∃ p, r.bad = p := ⟨_, rfl⟩
  rw [he] at c3 ⊢
  rw [hb] at c4 ⊢
  clear c0 c1 c2 h he hb
  go_enter Tryd.func49, Tryd.ntmps49
  go_wp2_with (refine H.out.mono ?_; rintro e w' ⟨rfl, rfl⟩)
  go_quiet (fail)
  go_wp2
  go_ret2
  exact ⟨rfl, _, rfl⟩
set_option maxHeartbeats 1000000 in
theorem Fail_any {w : World} {b n c : Nat} {A : Option Addr} {r : Rd} (h : RdAt w b A n c r) (e at_ : Int) :
    Calls Tryd.prog 47 #[.pointer (some ⟨b, 0, none⟩), .int .i64 e, .int .i64 at_] w fun x w' => x = .returned (.tuple #[]) ∧ RdAt w' b A n c (Tb.fail e at_ r) ∧ Keep (Db b) w w' := by
  obtain ⟨c0, c1, c2, c3, c4⟩ := h.cells
  have f3 := h.free 3
  have f4 := h.free 4
  have HH := Lib.hid h
  by_cases h0 : r.e = 0
  · have H := Lib.hid (goes_any h true (by simp [h0]))
    rw [h0] at c3
    by_cases he : e = 0
    · have HE : Hid (Tb.fail e at_ r = r) := Lib.hid (by unfold Tb.fail; rw [if_neg (by simp [he])])
      subst he
      clear c0 c1 c2 c4 h h0
      go_enter Tryd.func47, Tryd.ntmps47
      go_wp2_with (refine H.out.mono ?_; rintro e w' ⟨rfl, rfl⟩)
      refine bodyPost_end (v := .tuple #[]) (by simp [results, Tryd.results47, go_sem]) rfl ?_
      rw [HE.out]
      exact ⟨rfl, HH.out, Keep.refl _⟩
    · have HE : Hid (Tb.fail e at_ r = { r with e := e, bad := at_ }) := Lib.hid (by unfold Tb.fail; rw [if_pos ⟨h0, he⟩])
      have hne : (e != 0) = true := by simp [he]
      clear c0 c1 c2 h h0 he
      go_enter Tryd.func47, Tryd.ntmps47
      go_wp2_with (refine H.out.mono ?_; rintro e w' ⟨rfl, rfl⟩)
      refine bodyPost_end (v := .tuple #[]) (by simp [results, Tryd.results47, go_sem]) rfl ?_
      rw [HE.out]
      exact ⟨rfl, HH.out.fails e at_⟩
  · have H := Lib.hid (goes_any h false (by simp [h0]))
    have HE : Hid (Tb.fail e at_ r = r) := Lib.hid (by unfold Tb.fail; rw [if_neg (by simp [h0])])
    clear c0 c1 c2 c3 c4 f3 f4 h h0
    go_enter Tryd.func47, Tryd.ntmps47
    go_wp2_with (refine H.out.mono ?_; rintro e w' ⟨rfl, rfl⟩)
    refine bodyPost_end (v := .tuple #[]) (by simp [results, Tryd.results47, go_sem]) rfl ?_
    rw [HE.out]
    exact ⟨rfl, HH.out, Keep.refl _⟩
end Go.Proofs.YtkdhjejchdcipaaDoor
/-
  Layer 6, code: bytes.Clone, Open, may.
-/
namespace Go.Proofs.YtkdhjejchdcipaaDoor
open Go.RowKit
set_option linter.unusedVariables false
set_option linter.unusedSimpArgs false
set_option maxRecDepth 100000

theorem Bytes.len0 {w : World} {C n c : Nat} {l : List Nat} (h : Bytes w C none n c l) : n = 0 ∧ l = [] := by
  have h1 := h.1
  have h5 := h.2.2.2.2
  rcases Nat.eq_zero_or_pos n with h0 | h0
  · exact ⟨h0, List.eq_nil_of_length_eq_zero (by omega)⟩
  · obtain ⟨b, off, e, _⟩ := h5 h0
    cases e
theorem Bytes.spot {w : World} {C n c : Nat} {a : Addr} {l : List Nat} (h : Bytes w C (some a) n c l) (h0 : 0 < n) : a.spot = none := by
  obtain ⟨b, off, e, _⟩ := h.2.2.2.2 h0
  injection e with e
  rw [e]
set_option maxHeartbeats 1000000 in
theorem Clone_any {w : World} {A : Option Addr} {n c : Nat} {l : List Nat} (h : Bytes w w.heap.size A n c l) (hn : n < 1000000) :
    Calls Tryd.prog 64 #[.slice A n c] w fun e w' => ∃ A' c', e = .returned (.slice A' n c') ∧ Own w.heap.size w' (.slice A' n c') l ∧ Below w.heap.size w w' := by
  rcases A with _ | a
  · obtain ⟨rfl, rfl⟩ := h.len0
    have he : ∀ w, (binOp .eql 54 (.slice none 0 c) (.slice none 0 0)).run Tryd.prog w = .ok (.bool true) w := fun w => Lib.run_eql_slice_nil w 54 5 none 0 c 0 0 Tryd.underlying54
    go_enter Tryd.func64, Tryd.ntmps64
    go_wp2
    go_ret
    exact ⟨none, 0, rfl, Own.nil _ _, Below.refl _ _⟩
  · have he : ∀ w, (binOp .eql 54 (.slice (some a) n c) (.slice none 0 0)).run Tryd.prog w = .ok (.bool false) w := fun w => Lib.run_eql_slice_nil w 54 5 (some a) n c 0 0 Tryd.underlying54
    have hb := (Below.refl w.heap.size w).alloc (Nat.le_refl _) (.cells #[] 5)
    go_enter Tryd.func64, Tryd.ntmps64
    go_wp2_with (at_builtin; refine cat_slice rfl (.tmp 5) (.tmp 6) rfl _ l n rfl rfl (Own.empty w (Nat.le_refl _)) (h.below hb) hb.size n (by omega) (by simp) ?_; intro A5 c5 w2 ho2 hg2; have hb2 := (Own.empty w (Nat.le_refl _)).grown hg2 (Nat.le_refl _) hb.size hb)
    go_ret
    exact ⟨A5, c5, rfl, by simpa using ho2, hb2⟩
set_option maxHeartbeats 1000000 in
theorem Open_any {w : World} {A : Option Addr} {n c : Nat} {l : List Nat} (h : Bytes w w.heap.size A n c l) (hn : n < 1000000) :
    Calls Tryd.prog 24 #[.slice A n c] w fun e w' => ∃ b A' c', e = .returned (.pointer (some ⟨b, 0, none⟩)) ∧ w.heap.size ≤ b ∧ RdAt w' b A' n c' (Tb.opened l) ∧ Below w.heap.size w w' := by
  have hlt := h.2.2.2.1
  have H := Lib.hid (Clone_any h hn)
  have HL := Lib.hid h.1
  clear h
  go_enter Tryd.func24, Tryd.ntmps24
  go_wp2_with (refine H.out.mono ?_; rintro e w1 ⟨A1, c1, rfl, ho1, hb1⟩; have HO := Lib.hid ho1; have HB := Lib.hid hb1; clear ho1 hb1)
  go_ret
  refine ⟨w1.heap.size, A1, c1, rfl, HB.out.size, ⟨?_, ?_, Nat.zero_le _⟩, HB.out.alloc HB.out.size _⟩
  · exact World.alloc_heap_new _ _
  · have hb := HO.out.toBytes hlt
    exact (hb.below ((Below.refl _ w1).alloc (Nat.le_refl _) _)).more (by simp)
set_option maxHeartbeats 4000000 in
theorem may_any {w : World} {b n c : Nat} {A : Option Addr} {r : Rd} (h : RdAt w b A n c r) (x : Nat) (m : Bool) (hm : Tb.may x r = m) :
    Calls Tryd.prog 85 #[.pointer (some ⟨b, 0, none⟩), .int .u8 (x : Int)] w fun e w' => e = .returned (.bool m) ∧ RdAt w' b A n c (if m then Tb.on r else r) ∧ Keep (Db b) w w' := by
  have HH := Lib.hid h
  have c0 := fun k => ((h.drewN k).cells).1
  have hle := h.2.2
  have hnn : n ≤ 9223372036854775807 := by have h1 := h.2.1.2.1; have h2 := h.2.1.2.2.1; unfold maxLen at h2; omega
  by_cases h0 : r.e = 0
  · have HG : Hid (∀ k, Calls Tryd.prog 92 #[.pointer (some ⟨b, 0, none⟩)] (w.drewN k) fun e w' => e = .returned (.bool true) ∧ ∃ m, w' = w.drewN m) := Lib.hid fun k => goes_q h true (by simp [h0])
    have HLf : Hid (∀ k, Calls Tryd.prog 51 #[.pointer (some ⟨b, 0, none⟩)] (w.drewN k) fun e w' => e = .returned (.int .i64 ((n - r.p : Nat) : Int)) ∧ ∃ m, w' = w.drewN m) := Lib.hid fun k => Calls.quiet_of (Left_any (h.drewN k))
    by_cases hp : r.p = n
    · have hm' : m = false := by rw [← hm]; unfold Tb.may; rw [h.len, hp]; simp
      subst hm'
      have hz : n - r.p = 0 := by omega
      rw [hz] at HLf
      clear hm h h0 hp hz c0
      go_enter Tryd.func85, Tryd.ntmps85
      go_wp2_with fail
      go_quiet ((first | (go_at_call 92; exact HG.out _) | (go_at_call 51; exact HLf.out _)))
      go_wp2
      go_ret
      exact ⟨rfl, HH.out.drewK _⟩
    · have hlt : r.p < n := by omega
      obtain ⟨bb, off, rfl, hbb, hc⟩ := h.2.1.2.2.2.2 (by omega)
      have hl := h.len
      have hby := hc r.p (by omega)
      have hx : r.bs[r.p]'(by omega) < 256 := h.2.1.2.2.2.1 _ (List.getElem_mem _)
      obtain ⟨y, hy⟩ : ∃ y, r.bs[r.p]'(by omega) = y := ⟨_, rfl⟩
      rw [hy] at hby hx
      have hmy : m = decide (y = x) := by
        rw [← hm]
        unfold Tb.may
        rw [hl, List.getD_eq_getElem?_getD, List.getElem?_eq_getElem (by omega), hy]
        simp [h0, hlt]
      have hz : (((n - r.p : Nat) : Int) == 0) = false := by rw [beq_eq_false_iff_ne]; omega
      have c2 := fun k => ((h.drewN k).cells).2.2.1
      have f2 := fun k => (h.drewN k).free 2
      obtain ⟨p, hpp⟩ : ∃ p, r.p = p := ⟨_, rfl⟩
      rw [hpp] at hby c2 hlt HLf hz
      have hi1 : (0 : Int) ≤ (p : Int) := by omega
      have hi2 : (p : Int) < (n : Int) := by omega
      have hs : IntKind.i64.wrap ((p : Int) + 1) = ((p + 1 : Nat) : Int) := by rw [IntWalk.i64_in _ (by omega)]; omega
      have HS := Lib.hid hs
      have hcell : ∀ k, (w.drewN k).cell? ⟨bb, off + p, none⟩ = some (.int .u8 (y : Int)) := fun k => hby
      clear hm h h0 hp hc hy hbb hl hby hle
      have HP := Lib.hid hpp
      have KEY : Hid (∀ (k : Nat) (q : Int), q = ((p + 1 : Nat) : Int) → RdAt ((w.drewN k).setCell ⟨b, 2, none⟩ (.int .i64 q)) b (some ⟨bb, off, none⟩) n c (Tb.on r) ∧ Keep (Db b) w ((w.drewN k).setCell ⟨b, 2, none⟩ (.int .i64 q))) := Lib.hid fun k q hq => by
        have h1 := HH.out.drewK k
        have h2 := h1.1.goto (p + 1) (by omega) q hq
        unfold Tb.on
        rw [hpp]
        exact ⟨h2.1, h1.2.trans h2.2⟩
      clear hpp
      cases m with
      | false =>
        have hne : ((y : Int) != (x : Int)) = true := by have := of_decide_eq_false hmy.symm; simp; omega
        clear hmy hs f2
        go_enter Tryd.func85, Tryd.ntmps85
        go_wp2_with fail
        go_quiet ((first | (go_at_call 92; exact HG.out _) | (go_at_call 51; exact HLf.out _)))
        go_wp2
        go_ret
        exact ⟨rfl, HH.out.drewK _⟩
      | true =>
        have hne : ((y : Int) != (x : Int)) = false := by have := of_decide_eq_true hmy.symm; simp; omega
        clear hmy
        go_enter Tryd.func85, Tryd.ntmps85
        go_wp2_with fail
        go_quiet ((first | (go_at_call 92; exact HG.out _) | (go_at_call 51; exact HLf.out _)))
        go_wp2
        go_ret
        exact ⟨rfl, KEY.out _ _ (by first | rfl | omega)⟩
  · have hm' : m = false := by rw [← hm]; unfold Tb.may; simp [h0]
    subst hm'
    have HG : Hid (∀ k, Calls Tryd.prog 92 #[.pointer (some ⟨b, 0, none⟩)] (w.drewN k) fun e w' => e = .returned (.bool false) ∧ ∃ m, w' = w.drewN m) := Lib.hid fun k => goes_q h false (by simp [h0])
    clear hm h h0 c0
    go_enter Tryd.func85, Tryd.ntmps85
    go_wp2_with fail
    go_quiet ((go_at_call 92; exact HG.out _))
    go_wp2
    go_ret
    exact ⟨rfl, HH.out.drewK _⟩
end Go.Proofs.YtkdhjejchdcipaaDoor
/-
  A region that draws its order and whose callees make memory, but answer the same in whatever later world: one walk of the text's order serves (the class: worlds in which what lay there still lies as it lay).
-/
namespace Go.Proofs.YtkdhjejchdcipaaDoor
open Go.RowKit
set_option linter.unusedVariables false

/-- A world behind w1: what lay in w1 lies as it lay. -/
structure Aft (w1 : World) where
  W : World
  h : Below w1.heap.size w1 W
theorem Aft.ne (w1 : World) : Nonempty (Aft w1) := ⟨⟨w1, Below.refl _ _⟩⟩
theorem Aft.cell {w1 : World} (n : Aft w1) {b o : Nat} {v : Value} (hb : b < w1.heap.size) (h : w1.cell? ⟨b, o, none⟩ = some v) : n.W.cell? ⟨b, o, none⟩ = some v := (n.h.cell (p := ⟨b, o, none⟩) hb).trans h
theorem Aft.call {w1 : World} {P : Program} {f : FuncId} {args : Array Value} {v : Value} (h : ∀ W, Below w1.heap.size w1 W → Calls P f args W fun e w' => e = .returned v ∧ Below W.heap.size W w') (n : Aft w1) :
    Calls P f args n.W fun e w'' => e = .returned v ∧ ∃ m : Aft w1, w'' = m.W :=
  (h n.W n.h).mono fun e w' ⟨he, hb⟩ => ⟨he, ⟨w', n.h.trans (hb.mono n.h.size)⟩, rfl⟩
theorem Aft.callN {w1 : World} {P : Program} {f : FuncId} {args : Array Value} {v : Value} (h : ∀ W, Below w1.heap.size w1 W → Calls P f args W fun e w' => e = .returned v ∧ ∃ k, w' = W.drewN k) (n : Aft w1) :
    Calls P f args n.W fun e w'' => e = .returned v ∧ ∃ m : Aft w1, w'' = m.W :=
  (h n.W n.h).mono fun e w' ⟨he, k, hb⟩ => ⟨he, ⟨w', by rw [hb]; exact below_drewN n.h k⟩, rfl⟩
theorem region_aft {P : Program} {id : Nat} {Q : Exit → Act → World → Prop} {a : Act} {w : World} {l : List Oper} (w1 : World) (hw : Below w1.heap.size w1 w) (hm : P.follows .mixedOrders = true) (hB : Region.lexB .any l.toArray = true)
    (h : wpQuiet P l.toArray (fun w' => ∃ n : Aft w1, w' = n.W) (fun a' => ∀ w', (∃ n : Aft w1, w' = n.W) → Q .normal a' w') l a) : (Code.region id l.toArray true).wp P Q a w :=
  wp_region_quiet (C := fun w' => ∃ n : Aft w1, w' = n.W) hm hB ⟨⟨_, hw.drew⟩, rfl⟩ (by simpa using h)
/-- '==' of two value types. -/
theorem run_eqlV (x y : Vl) (w : World) : (binOp .eql 46 x.val y.val).run Tryd.prog w = .ok (.bool (decide (x = y))) w := by
  obtain ⟨a, b, c, d⟩ := x
  obtain ⟨a', b', c', d'⟩ := y
  unfold Vl.val
  by_cases h1 : a = a' <;> by_cases h2 : b = b' <;> by_cases h3 : c = c' <;> by_cases h4 : d = d' <;> go_simp <;> simp_all
end Go.Proofs.YtkdhjejchdcipaaDoor
/-
  Layer 6, code: item, at scalar types.
-/
namespace Go.Proofs.YtkdhjejchdcipaaDoor
open Go.RowKit
set_option linter.unusedVariables false
set_option linter.unusedSimpArgs false
set_option maxRecDepth 100000

/-- What reading an item does to a reader. -/
def Tb.step (nx er : Nat) (r : Rd) : Rd := if r.e = 0 then (if er = 0 then { r with p := nx } else { r with e := er, bad := r.p }) else r
theorem Tb.item_eq {α : Type} (d : α) (f : List Nat → Nat → α × Nat × Nat) (r : Rd) : Tb.item d f r = (if r.e = 0 ∧ (f r.bs r.p).2.2 = 0 then (f r.bs r.p).1 else d, Tb.step (f r.bs r.p).2.1 (f r.bs r.p).2.2 r) := by
  unfold Tb.item Tb.step
  by_cases h0 : r.e = 0 <;> by_cases h1 : (f r.bs r.p).2.2 = 0 <;> simp [h0, h1]
set_option maxHeartbeats 4000000 in
theorem item_byte {w : World} {b n c : Nat} {A : Option Addr} {r : Rd} (h : RdAt w b A n c r) (fid : Nat) (lb : Array Value) (he : ∀ args w, (callFunc fid args).run Tryd.prog w = .ok (.enter fid args) w) (v : Value) (nx er : Nat) (hnx : er = 0 → nx ≤ n)
    (hf : ∀ W, Below w.heap.size w W → Calls Tryd.prog fid (#[.slice A n c, .int .i64 (r.p : Int)] ++ lb) W fun e W' => e = .returned (.tuple #[v, .int .i64 (nx : Int), .int .i64 (er : Int)]) ∧ Below W.heap.size W W') :
    Calls Tryd.prog 65 #[.pointer (some ⟨b, 0, none⟩), .func (.func fid) #[] lb] w fun e w' => e = .returned (if r.e = 0 ∧ er = 0 then v else .int .u8 0) ∧ RdAt w' b A n c (Tb.step nx er r) ∧ Keep (Db b) w w' := by
  have HH := Lib.hid h
  obtain ⟨Q, hQ⟩ : ∃ Q : Ending → World → Prop, Q = (fun e w' => e = .returned (if r.e = 0 ∧ er = 0 then v else .int .u8 0) ∧ RdAt w' b A n c (Tb.step nx er r) ∧ Keep (Db b) w w') := ⟨_, rfl⟩
  rw [← hQ]
  by_cases h0 : r.e = 0
  · have HG := Lib.hid (goes_any h true (by simp [h0]))
    have HF : Hid (∀ W, Below w.heap.size w W → Calls Tryd.prog fid (#[.slice A n c, .int .i64 (r.p : Int)] ++ lb) W fun e W' => e = .returned (.tuple #[v, .int .i64 (nx : Int), .int .i64 (er : Int)]) ∧ Below W.heap.size W W') := Lib.hid hf
    have c0 := fun x : Aft w => x.cell h.lt h.cells.1
    have c2 := fun x : Aft w => x.cell h.lt h.cells.2.2.1
    have HR : Hid (∀ x : Aft w, RdAt x.W b A n c r ∧ Keep (Db b) w x.W) := Lib.hid fun x => ⟨h.below (Nat.le_refl _) x.h, Keep.of_below x.h⟩
    have hbw : Below w.heap.size w w := Below.refl _ _
    have inst := Aft.ne w
    by_cases he0 : er = 0
    · subst he0
      have FIN : Hid (∀ x : Aft w, Q (.returned v) (x.W.setCell ⟨b, 2, none⟩ (.int .i64 (nx : Int)))) := Lib.hid fun x => by
        have h2 := (HR.out x).1.goto nx (hnx rfl) _ rfl
        rw [hQ]
        refine ⟨by rw [if_pos ⟨h0, rfl⟩], ?_, (HR.out x).2.trans h2.2⟩
        unfold Tb.step
        rw [if_pos h0, if_pos rfl]
        exact h2.1
      obtain ⟨p, hp⟩ : ∃ p, r.p = p := ⟨_, rfl⟩
      rw [hp] at c2 HF
      clear h h0 hf hnx hp hQ
      go_enter Tryd.func65, Tryd.ntmps65
      go_wp2_with (go_at_call 92; refine HG.out.mono ?_; rintro e w' ⟨rfl, rfl⟩)
      refine region_aft w hbw (by kernel_rfl) (by kernel_rfl) ?_
      repeat (go_big_quiet_step ((with_reducible exact Aft.call HF.out _)))
      refine wpQuiet_nil ?_
      intro _ hw'
      obtain ⟨x, rfl⟩ := hw'
      have d2 := c2 x
      have f2 := (HR.out x).1.free 2
      clear c0 c2
      go_wp2
      exact FIN.out x
    · have FIN : Hid (∀ (x : Aft w) w', RdAt w' b A n c (Tb.fail er r.p r) → Keep (Db b) x.W w' → Q (.returned (.int .u8 0)) w') := Lib.hid fun x w' h1 h2 => by
        rw [hQ]
        refine ⟨by rw [if_neg (fun e => he0 e.2)], ?_, (HR.out x).2.trans h2⟩
        unfold Tb.step
        unfold Tb.fail at h1
        rw [if_pos ⟨h0, by omega⟩] at h1
        rw [if_pos h0, if_neg he0]
        exact h1
      have hne : ((er : Int) != 0) = true := by simp; omega
      have HFail : Hid (∀ x : Aft w, Calls Tryd.prog 47 #[.pointer (some ⟨b, 0, none⟩), .int .i64 (er : Int), .int .i64 (r.p : Int)] x.W fun e w' => e = .returned (.tuple #[]) ∧ RdAt w' b A n c (Tb.fail er r.p r) ∧ Keep (Db b) x.W w') := Lib.hid fun x => Fail_any (HR.out x).1 er r.p
      obtain ⟨p, hp⟩ : ∃ p, r.p = p := ⟨_, rfl⟩
      rw [hp] at c2 HF HFail FIN
      clear h h0 hf hnx hp he0 hQ
      go_enter Tryd.func65, Tryd.ntmps65
      go_wp2_with (go_at_call 92; refine HG.out.mono ?_; rintro e w' ⟨rfl, rfl⟩)
      refine region_aft w hbw (by kernel_rfl) (by kernel_rfl) ?_
      repeat (go_big_quiet_step ((with_reducible exact Aft.call HF.out _)))
      refine wpQuiet_nil ?_
      intro _ hw'
      obtain ⟨x, rfl⟩ := hw'
      have d2 := c2 x
      clear c0 c2
      go_wp2_with (go_at_call 47; (with_reducible refine (HFail.out x).mono ?_); rintro e w' ⟨rfl, hr, hk⟩; have R1 := Lib.hid hr; have K1 := Lib.hid hk; clear hr hk)
      exact FIN.out x _ R1.out K1.out
  · have HG := Lib.hid (goes_any h false (by simp [h0]))
    have FIN : Hid (Q (.returned (.int .u8 0)) w) := Lib.hid (by
      rw [hQ]
      refine ⟨by rw [if_neg (fun e => h0 e.1)], ?_, Keep.refl _⟩
      unfold Tb.step
      rw [if_neg h0]
      exact h)
    clear h h0 hf hnx hQ
    go_enter Tryd.func65, Tryd.ntmps65
    go_wp2_with (go_at_call 92; refine HG.out.mono ?_; rintro e w' ⟨rfl, rfl⟩)
    exact FIN.out
set_option maxHeartbeats 4000000 in
theorem item_uint64 {w : World} {b n c : Nat} {A : Option Addr} {r : Rd} (h : RdAt w b A n c r) (fid : Nat) (lb : Array Value) (he : ∀ args w, (callFunc fid args).run Tryd.prog w = .ok (.enter fid args) w) (v : Value) (nx er : Nat) (hnx : er = 0 → nx ≤ n)
    (hf : ∀ W, Below w.heap.size w W → Calls Tryd.prog fid (#[.slice A n c, .int .i64 (r.p : Int)] ++ lb) W fun e W' => e = .returned (.tuple #[v, .int .i64 (nx : Int), .int .i64 (er : Int)]) ∧ Below W.heap.size W W') :
    Calls Tryd.prog 67 #[.pointer (some ⟨b, 0, none⟩), .func (.func fid) #[] lb] w fun e w' => e = .returned (if r.e = 0 ∧ er = 0 then v else .int .u64 0) ∧ RdAt w' b A n c (Tb.step nx er r) ∧ Keep (Db b) w w' := by
  have HH := Lib.hid h
  obtain ⟨Q, hQ⟩ : ∃ Q : Ending → World → Prop, Q = (fun e w' => e = .returned (if r.e = 0 ∧ er = 0 then v else .int .u64 0) ∧ RdAt w' b A n c (Tb.step nx er r) ∧ Keep (Db b) w w') := ⟨_, rfl⟩
  rw [← hQ]
  by_cases h0 : r.e = 0
  · have HG := Lib.hid (goes_any h true (by simp [h0]))
    have HF : Hid (∀ W, Below w.heap.size w W → Calls Tryd.prog fid (#[.slice A n c, .int .i64 (r.p : Int)] ++ lb) W fun e W' => e = .returned (.tuple #[v, .int .i64 (nx : Int), .int .i64 (er : Int)]) ∧ Below W.heap.size W W') := Lib.hid hf
    have c0 := fun x : Aft w => x.cell h.lt h.cells.1
    have c2 := fun x : Aft w => x.cell h.lt h.cells.2.2.1
    have HR : Hid (∀ x : Aft w, RdAt x.W b A n c r ∧ Keep (Db b) w x.W) := Lib.hid fun x => ⟨h.below (Nat.le_refl _) x.h, Keep.of_below x.h⟩
    have hbw : Below w.heap.size w w := Below.refl _ _
    have inst := Aft.ne w
    by_cases he0 : er = 0
    · subst he0
      have FIN : Hid (∀ x : Aft w, Q (.returned v) (x.W.setCell ⟨b, 2, none⟩ (.int .i64 (nx : Int)))) := Lib.hid fun x => by
        have h2 := (HR.out x).1.goto nx (hnx rfl) _ rfl
        rw [hQ]
        refine ⟨by rw [if_pos ⟨h0, rfl⟩], ?_, (HR.out x).2.trans h2.2⟩
        unfold Tb.step
        rw [if_pos h0, if_pos rfl]
        exact h2.1
      obtain ⟨p, hp⟩ : ∃ p, r.p = p := ⟨_, rfl⟩
      rw [hp] at c2 HF
      clear h h0 hf hnx hp hQ
      go_enter Tryd.func67, Tryd.ntmps67
      go_wp2_with (go_at_call 92; refine HG.out.mono ?_; rintro e w' ⟨rfl, rfl⟩)
      refine region_aft w hbw (by kernel_rfl) (by kernel_rfl) ?_
      repeat (go_big_quiet_step ((with_reducible exact Aft.call HF.out _)))
      refine wpQuiet_nil ?_
      intro _ hw'
      obtain ⟨x, rfl⟩ := hw'
      have d2 := c2 x
      have f2 := (HR.out x).1.free 2
      clear c0 c2
      go_wp2
      exact FIN.out x
    · have FIN : Hid (∀ (x : Aft w) w', RdAt w' b A n c (Tb.fail er r.p r) → Keep (Db b) x.W w' → Q (.returned (.int .u64 0)) w') := Lib.hid fun x w' h1 h2 => by
        rw [hQ]
        refine ⟨by rw [if_neg (fun e => he0 e.2)], ?_, (HR.out x).2.trans h2⟩
        unfold Tb.step
        unfold Tb.fail at h1
        rw [if_pos ⟨h0, by omega⟩] at h1
        rw [if_pos h0, if_neg he0]
        exact h1
      have hne : ((er : Int) != 0) = true := by simp; omega
      have HFail : Hid (∀ x : Aft w, Calls Tryd.prog 47 #[.pointer (some ⟨b, 0, none⟩), .int .i64 (er : Int), .int .i64 (r.p : Int)] x.W fun e w' => e = .returned (.tuple #[]) ∧ RdAt w' b A n c (Tb.fail er r.p r) ∧ Keep (Db b) x.W w') := Lib.hid fun x => Fail_any (HR.out x).1 er r.p
      obtain ⟨p, hp⟩ : ∃ p, r.p = p := ⟨_, rfl⟩
      rw [hp] at c2 HF HFail FIN
      clear h h0 hf hnx hp he0 hQ
      go_enter Tryd.func67, Tryd.ntmps67
      go_wp2_with (go_at_call 92; refine HG.out.mono ?_; rintro e w' ⟨rfl, rfl⟩)
      refine region_aft w hbw (by kernel_rfl) (by kernel_rfl) ?_
      repeat (go_big_quiet_step ((with_reducible exact Aft.call HF.out _)))
      refine wpQuiet_nil ?_
      intro _ hw'
      obtain ⟨x, rfl⟩ := hw'
      have d2 := c2 x
      clear c0 c2
      go_wp2_with (go_at_call 47; (with_reducible refine (HFail.out x).mono ?_); rintro e w' ⟨rfl, hr, hk⟩; have R1 := Lib.hid hr; have K1 := Lib.hid hk; clear hr hk)
      exact FIN.out x _ R1.out K1.out
  · have HG := Lib.hid (goes_any h false (by simp [h0]))
    have FIN : Hid (Q (.returned (.int .u64 0)) w) := Lib.hid (by
      rw [hQ]
      refine ⟨by rw [if_neg (fun e => h0 e.1)], ?_, Keep.refl _⟩
      unfold Tb.step
      rw [if_neg h0]
      exact h)
    clear h h0 hf hnx hQ
    go_enter Tryd.func67, Tryd.ntmps67
    go_wp2_with (go_at_call 92; refine HG.out.mono ?_; rintro e w' ⟨rfl, rfl⟩)
    exact FIN.out
set_option maxHeartbeats 4000000 in
theorem item_int64 {w : World} {b n c : Nat} {A : Option Addr} {r : Rd} (h : RdAt w b A n c r) (fid : Nat) (lb : Array Value) (he : ∀ args w, (callFunc fid args).run Tryd.prog w = .ok (.enter fid args) w) (v : Value) (nx er : Nat) (hnx : er = 0 → nx ≤ n)
    (hf : ∀ W, Below w.heap.size w W → Calls Tryd.prog fid (#[.slice A n c, .int .i64 (r.p : Int)] ++ lb) W fun e W' => e = .returned (.tuple #[v, .int .i64 (nx : Int), .int .i64 (er : Int)]) ∧ Below W.heap.size W W') :
    Calls Tryd.prog 71 #[.pointer (some ⟨b, 0, none⟩), .func (.func fid) #[] lb] w fun e w' => e = .returned (if r.e = 0 ∧ er = 0 then v else .int .i64 0) ∧ RdAt w' b A n c (Tb.step nx er r) ∧ Keep (Db b) w w' := by
  have HH := Lib.hid h
  obtain ⟨Q, hQ⟩ : ∃ Q : Ending → World → Prop, Q = (fun e w' => e = .returned (if r.e = 0 ∧ er = 0 then v else .int .i64 0) ∧ RdAt w' b A n c (Tb.step nx er r) ∧ Keep (Db b) w w') := ⟨_, rfl⟩
  rw [← hQ]
  by_cases h0 : r.e = 0
  · have HG := Lib.hid (goes_any h true (by simp [h0]))
    have HF : Hid (∀ W, Below w.heap.size w W → Calls Tryd.prog fid (#[.slice A n c, .int .i64 (r.p : Int)] ++ lb) W fun e W' => e = .returned (.tuple #[v, .int .i64 (nx : Int), .int .i64 (er : Int)]) ∧ Below W.heap.size W W') := Lib.hid hf
    have c0 := fun x : Aft w => x.cell h.lt h.cells.1
    have c2 := fun x : Aft w => x.cell h.lt h.cells.2.2.1
    have HR : Hid (∀ x : Aft w, RdAt x.W b A n c r ∧ Keep (Db b) w x.W) := Lib.hid fun x => ⟨h.below (Nat.le_refl _) x.h, Keep.of_below x.h⟩
    have hbw : Below w.heap.size w w := Below.refl _ _
    have inst := Aft.ne w
    by_cases he0 : er = 0
    · subst he0
      have FIN : Hid (∀ x : Aft w, Q (.returned v) (x.W.setCell ⟨b, 2, none⟩ (.int .i64 (nx : Int)))) := Lib.hid fun x => by
        have h2 := (HR.out x).1.goto nx (hnx rfl) _ rfl
        rw [hQ]
        refine ⟨by rw [if_pos ⟨h0, rfl⟩], ?_, (HR.out x).2.trans h2.2⟩
        unfold Tb.step
        rw [if_pos h0, if_pos rfl]
        exact h2.1
      obtain ⟨p, hp⟩ : ∃ p, r.p = p := ⟨_, rfl⟩
      rw [hp] at c2 HF
      clear h h0 hf hnx hp hQ
      go_enter Tryd.func71, Tryd.ntmps71
      go_wp2_with (go_at_call 92; refine HG.out.mono ?_; rintro e w' ⟨rfl, rfl⟩)
      refine region_aft w hbw (by kernel_rfl) (by kernel_rfl) ?_
      repeat (go_big_quiet_step ((with_reducible exact Aft.call HF.out _)))
      refine wpQuiet_nil ?_
      intro _ hw'
      obtain ⟨x, rfl⟩ := hw'
      have d2 := c2 x
      have f2 := (HR.out x).1.free 2
      clear c0 c2
      go_wp2
      exact FIN.out x
    · have FIN : Hid (∀ (x : Aft w) w', RdAt w' b A n c (Tb.fail er r.p r) → Keep (Db b) x.W w' → Q (.returned (.int .i64 0)) w') := Lib.hid fun x w' h1 h2 => by
        rw [hQ]
        refine ⟨by rw [if_neg (fun e => he0 e.2)], ?_, (HR.out x).2.trans h2⟩
        unfold Tb.step
        unfold Tb.fail at h1
        rw [if_pos ⟨h0, by omega⟩] at h1
        rw [if_pos h0, if_neg he0]
        exact h1
      have hne : ((er : Int) != 0) = true := by simp; omega
      have HFail : Hid (∀ x : Aft w, Calls Tryd.prog 47 #[.pointer (some ⟨b, 0, none⟩), .int .i64 (er : Int), .int .i64 (r.p : Int)] x.W fun e w' => e = .returned (.tuple #[]) ∧ RdAt w' b A n c (Tb.fail er r.p r) ∧ Keep (Db b) x.W w') := Lib.hid fun x => Fail_any (HR.out x).1 er r.p
      obtain ⟨p, hp⟩ : ∃ p, r.p = p := ⟨_, rfl⟩
      rw [hp] at c2 HF HFail FIN
      clear h h0 hf hnx hp he0 hQ
      go_enter Tryd.func71, Tryd.ntmps71
      go_wp2_with (go_at_call 92; refine HG.out.mono ?_; rintro e w' ⟨rfl, rfl⟩)
      refine region_aft w hbw (by kernel_rfl) (by kernel_rfl) ?_
      repeat (go_big_quiet_step ((with_reducible exact Aft.call HF.out _)))
      refine wpQuiet_nil ?_
      intro _ hw'
      obtain ⟨x, rfl⟩ := hw'
      have d2 := c2 x
      clear c0 c2
      go_wp2_with (go_at_call 47; (with_reducible refine (HFail.out x).mono ?_); rintro e w' ⟨rfl, hr, hk⟩; have R1 := Lib.hid hr; have K1 := Lib.hid hk; clear hr hk)
      exact FIN.out x _ R1.out K1.out
  · have HG := Lib.hid (goes_any h false (by simp [h0]))
    have FIN : Hid (Q (.returned (.int .i64 0)) w) := Lib.hid (by
      rw [hQ]
      refine ⟨by rw [if_neg (fun e => h0 e.1)], ?_, Keep.refl _⟩
      unfold Tb.step
      rw [if_neg h0]
      exact h)
    clear h h0 hf hnx hQ
    go_enter Tryd.func71, Tryd.ntmps71
    go_wp2_with (go_at_call 92; refine HG.out.mono ?_; rintro e w' ⟨rfl, rfl⟩)
    exact FIN.out
set_option maxHeartbeats 4000000 in
theorem item_string {w : World} {b n c : Nat} {A : Option Addr} {r : Rd} (h : RdAt w b A n c r) (fid : Nat) (lb : Array Value) (he : ∀ args w, (callFunc fid args).run Tryd.prog w = .ok (.enter fid args) w) (v : Value) (nx er : Nat) (hnx : er = 0 → nx ≤ n)
    (hf : ∀ W, Below w.heap.size w W → Calls Tryd.prog fid (#[.slice A n c, .int .i64 (r.p : Int)] ++ lb) W fun e W' => e = .returned (.tuple #[v, .int .i64 (nx : Int), .int .i64 (er : Int)]) ∧ Below W.heap.size W W') :
    Calls Tryd.prog 75 #[.pointer (some ⟨b, 0, none⟩), .func (.func fid) #[] lb] w fun e w' => e = .returned (if r.e = 0 ∧ er = 0 then v else .string ⟨#[]⟩) ∧ RdAt w' b A n c (Tb.step nx er r) ∧ Keep (Db b) w w' := by
  have HH := Lib.hid h
  obtain ⟨Q, hQ⟩ : ∃ Q : Ending → World → Prop, Q = (fun e w' => e = .returned (if r.e = 0 ∧ er = 0 then v else .string ⟨#[]⟩) ∧ RdAt w' b A n c (Tb.step nx er r) ∧ Keep (Db b) w w') := ⟨_, rfl⟩
  rw [← hQ]
  by_cases h0 : r.e = 0
  · have HG := Lib.hid (goes_any h true (by simp [h0]))
    have HF : Hid (∀ W, Below w.heap.size w W → Calls Tryd.prog fid (#[.slice A n c, .int .i64 (r.p : Int)] ++ lb) W fun e W' => e = .returned (.tuple #[v, .int .i64 (nx : Int), .int .i64 (er : Int)]) ∧ Below W.heap.size W W') := Lib.hid hf
    have c0 := fun x : Aft w => x.cell h.lt h.cells.1
    have c2 := fun x : Aft w => x.cell h.lt h.cells.2.2.1
    have HR : Hid (∀ x : Aft w, RdAt x.W b A n c r ∧ Keep (Db b) w x.W) := Lib.hid fun x => ⟨h.below (Nat.le_refl _) x.h, Keep.of_below x.h⟩
    have hbw : Below w.heap.size w w := Below.refl _ _
    have inst := Aft.ne w
    by_cases he0 : er = 0
    · subst he0
      have FIN : Hid (∀ x : Aft w, Q (.returned v) (x.W.setCell ⟨b, 2, none⟩ (.int .i64 (nx : Int)))) := Lib.hid fun x => by
        have h2 := (HR.out x).1.goto nx (hnx rfl) _ rfl
        rw [hQ]
        refine ⟨by rw [if_pos ⟨h0, rfl⟩], ?_, (HR.out x).2.trans h2.2⟩
        unfold Tb.step
        rw [if_pos h0, if_pos rfl]
        exact h2.1
      obtain ⟨p, hp⟩ : ∃ p, r.p = p := ⟨_, rfl⟩
      rw [hp] at c2 HF
      clear h h0 hf hnx hp hQ
      go_enter Tryd.func75, Tryd.ntmps75
      go_wp2_with (go_at_call 92; refine HG.out.mono ?_; rintro e w' ⟨rfl, rfl⟩)
      refine region_aft w hbw (by kernel_rfl) (by kernel_rfl) ?_
      repeat (go_big_quiet_step ((with_reducible exact Aft.call HF.out _)))
      refine wpQuiet_nil ?_
      intro _ hw'
      obtain ⟨x, rfl⟩ := hw'
      have d2 := c2 x
      have f2 := (HR.out x).1.free 2
      clear c0 c2
      go_wp2
      exact FIN.out x
    · have FIN : Hid (∀ (x : Aft w) w', RdAt w' b A n c (Tb.fail er r.p r) → Keep (Db b) x.W w' → Q (.returned (.string ⟨#[]⟩)) w') := Lib.hid fun x w' h1 h2 => by
        rw [hQ]
        refine ⟨by rw [if_neg (fun e => he0 e.2)], ?_, (HR.out x).2.trans h2⟩
        unfold Tb.step
        unfold Tb.fail at h1
        rw [if_pos ⟨h0, by omega⟩] at h1
        rw [if_pos h0, if_neg he0]
        exact h1
      have hne : ((er : Int) != 0) = true := by simp; omega
      have HFail : Hid (∀ x : Aft w, Calls Tryd.prog 47 #[.pointer (some ⟨b, 0, none⟩), .int .i64 (er : Int), .int .i64 (r.p : Int)] x.W fun e w' => e = .returned (.tuple #[]) ∧ RdAt w' b A n c (Tb.fail er r.p r) ∧ Keep (Db b) x.W w') := Lib.hid fun x => Fail_any (HR.out x).1 er r.p
      obtain ⟨p, hp⟩ : ∃ p, r.p = p := ⟨_, rfl⟩
      rw [hp] at c2 HF HFail FIN
      clear h h0 hf hnx hp he0 hQ
      go_enter Tryd.func75, Tryd.ntmps75
      go_wp2_with (go_at_call 92; refine HG.out.mono ?_; rintro e w' ⟨rfl, rfl⟩)
      refine region_aft w hbw (by kernel_rfl) (by kernel_rfl) ?_
      repeat (go_big_quiet_step ((with_reducible exact Aft.call HF.out _)))
      refine wpQuiet_nil ?_
      intro _ hw'
      obtain ⟨x, rfl⟩ := hw'
      have d2 := c2 x
      clear c0 c2
      go_wp2_with (go_at_call 47; (with_reducible refine (HFail.out x).mono ?_); rintro e w' ⟨rfl, hr, hk⟩; have R1 := Lib.hid hr; have K1 := Lib.hid hk; clear hr hk)
      exact FIN.out x _ R1.out K1.out
  · have HG := Lib.hid (goes_any h false (by simp [h0]))
    have FIN : Hid (Q (.returned (.string ⟨#[]⟩)) w) := Lib.hid (by
      rw [hQ]
      refine ⟨by rw [if_neg (fun e => h0 e.1)], ?_, Keep.refl _⟩
      unfold Tb.step
      rw [if_neg h0]
      exact h)
    clear h h0 hf hnx hQ
    go_enter Tryd.func75, Tryd.ntmps75
    go_wp2_with (go_at_call 92; refine HG.out.mono ?_; rintro e w' ⟨rfl, rfl⟩)
    exact FIN.out
set_option maxHeartbeats 4000000 in
theorem item_int {w : World} {b n c : Nat} {A : Option Addr} {r : Rd} (h : RdAt w b A n c r) (fid : Nat) (lb : Array Value) (he : ∀ args w, (callFunc fid args).run Tryd.prog w = .ok (.enter fid args) w) (v : Value) (nx er : Nat) (hnx : er = 0 → nx ≤ n)
    (hf : ∀ W, Below w.heap.size w W → Calls Tryd.prog fid (#[.slice A n c, .int .i64 (r.p : Int)] ++ lb) W fun e W' => e = .returned (.tuple #[v, .int .i64 (nx : Int), .int .i64 (er : Int)]) ∧ Below W.heap.size W W') :
    Calls Tryd.prog 78 #[.pointer (some ⟨b, 0, none⟩), .func (.func fid) #[] lb] w fun e w' => e = .returned (if r.e = 0 ∧ er = 0 then v else .int .i64 0) ∧ RdAt w' b A n c (Tb.step nx er r) ∧ Keep (Db b) w w' := by
  have HH := Lib.hid h
  obtain ⟨Q, hQ⟩ : ∃ Q : Ending → World → Prop, Q = (fun e w' => e = .returned (if r.e = 0 ∧ er = 0 then v else .int .i64 0) ∧ RdAt w' b A n c (Tb.step nx er r) ∧ Keep (Db b) w w') := ⟨_, rfl⟩
  rw [← hQ]
  by_cases h0 : r.e = 0
  · have HG := Lib.hid (goes_any h true (by simp [h0]))
    have HF : Hid (∀ W, Below w.heap.size w W → Calls Tryd.prog fid (#[.slice A n c, .int .i64 (r.p : Int)] ++ lb) W fun e W' => e = .returned (.tuple #[v, .int .i64 (nx : Int), .int .i64 (er : Int)]) ∧ Below W.heap.size W W') := Lib.hid hf
    have c0 := fun x : Aft w => x.cell h.lt h.cells.1
    have c2 := fun x : Aft w => x.cell h.lt h.cells.2.2.1
    have HR : Hid (∀ x : Aft w, RdAt x.W b A n c r ∧ Keep (Db b) w x.W) := Lib.hid fun x => ⟨h.below (Nat.le_refl _) x.h, Keep.of_below x.h⟩
    have hbw : Below w.heap.size w w := Below.refl _ _
    have inst := Aft.ne w
    by_cases he0 : er = 0
    · subst he0
      have FIN : Hid (∀ x : Aft w, Q (.returned v) (x.W.setCell ⟨b, 2, none⟩ (.int .i64 (nx : Int)))) := Lib.hid fun x => by
        have h2 := (HR.out x).1.goto nx (hnx rfl) _ rfl
        rw [hQ]
        refine ⟨by rw [if_pos ⟨h0, rfl⟩], ?_, (HR.out x).2.trans h2.2⟩
        unfold Tb.step
        rw [if_pos h0, if_pos rfl]
        exact h2.1
      obtain ⟨p, hp⟩ : ∃ p, r.p = p := ⟨_, rfl⟩
      rw [hp] at c2 HF
      clear h h0 hf hnx hp hQ
      go_enter Tryd.func78, Tryd.ntmps78
      go_wp2_with (go_at_call 92; refine HG.out.mono ?_; rintro e w' ⟨rfl, rfl⟩)
      refine region_aft w hbw (by kernel_rfl) (by kernel_rfl) ?_
      repeat (go_big_quiet_step ((with_reducible exact Aft.call HF.out _)))
      refine wpQuiet_nil ?_
      intro _ hw'
      obtain ⟨x, rfl⟩ := hw'
      have d2 := c2 x
      have f2 := (HR.out x).1.free 2
      clear c0 c2
      go_wp2
      exact FIN.out x
    · have FIN : Hid (∀ (x : Aft w) w', RdAt w' b A n c (Tb.fail er r.p r) → Keep (Db b) x.W w' → Q (.returned (.int .i64 0)) w') := Lib.hid fun x w' h1 h2 => by
        rw [hQ]
        refine ⟨by rw [if_neg (fun e => he0 e.2)], ?_, (HR.out x).2.trans h2⟩
        unfold Tb.step
        unfold Tb.fail at h1
        rw [if_pos ⟨h0, by omega⟩] at h1
        rw [if_pos h0, if_neg he0]
        exact h1
      have hne : ((er : Int) != 0) = true := by simp; omega
      have HFail : Hid (∀ x : Aft w, Calls Tryd.prog 47 #[.pointer (some ⟨b, 0, none⟩), .int .i64 (er : Int), .int .i64 (r.p : Int)] x.W fun e w' => e = .returned (.tuple #[]) ∧ RdAt w' b A n c (Tb.fail er r.p r) ∧ Keep (Db b) x.W w') := Lib.hid fun x => Fail_any (HR.out x).1 er r.p
      obtain ⟨p, hp⟩ : ∃ p, r.p = p := ⟨_, rfl⟩
      rw [hp] at c2 HF HFail FIN
      clear h h0 hf hnx hp he0 hQ
      go_enter Tryd.func78, Tryd.ntmps78
      go_wp2_with (go_at_call 92; refine HG.out.mono ?_; rintro e w' ⟨rfl, rfl⟩)
      refine region_aft w hbw (by kernel_rfl) (by kernel_rfl) ?_
      repeat (go_big_quiet_step ((with_reducible exact Aft.call HF.out _)))
      refine wpQuiet_nil ?_
      intro _ hw'
      obtain ⟨x, rfl⟩ := hw'
      have d2 := c2 x
      clear c0 c2
      go_wp2_with (go_at_call 47; (with_reducible refine (HFail.out x).mono ?_); rintro e w' ⟨rfl, hr, hk⟩; have R1 := Lib.hid hr; have K1 := Lib.hid hk; clear hr hk)
      exact FIN.out x _ R1.out K1.out
  · have HG := Lib.hid (goes_any h false (by simp [h0]))
    have FIN : Hid (Q (.returned (.int .i64 0)) w) := Lib.hid (by
      rw [hQ]
      refine ⟨by rw [if_neg (fun e => h0 e.1)], ?_, Keep.refl _⟩
      unfold Tb.step
      rw [if_neg h0]
      exact h)
    clear h h0 hf hnx hQ
    go_enter Tryd.func78, Tryd.ntmps78
    go_wp2_with (go_at_call 92; refine HG.out.mono ?_; rintro e w' ⟨rfl, rfl⟩)
    exact FIN.out
set_option maxHeartbeats 4000000 in
theorem item_bool {w : World} {b n c : Nat} {A : Option Addr} {r : Rd} (h : RdAt w b A n c r) (fid : Nat) (lb : Array Value) (he : ∀ args w, (callFunc fid args).run Tryd.prog w = .ok (.enter fid args) w) (v : Value) (nx er : Nat) (hnx : er = 0 → nx ≤ n)
    (hf : ∀ W, Below w.heap.size w W → Calls Tryd.prog fid (#[.slice A n c, .int .i64 (r.p : Int)] ++ lb) W fun e W' => e = .returned (.tuple #[v, .int .i64 (nx : Int), .int .i64 (er : Int)]) ∧ Below W.heap.size W W') :
    Calls Tryd.prog 173 #[.pointer (some ⟨b, 0, none⟩), .func (.func fid) #[] lb] w fun e w' => e = .returned (if r.e = 0 ∧ er = 0 then v else .bool false) ∧ RdAt w' b A n c (Tb.step nx er r) ∧ Keep (Db b) w w' := by
  have HH := Lib.hid h
  obtain ⟨Q, hQ⟩ : ∃ Q : Ending → World → Prop, Q = (fun e w' => e = .returned (if r.e = 0 ∧ er = 0 then v else .bool false) ∧ RdAt w' b A n c (Tb.step nx er r) ∧ Keep (Db b) w w') := ⟨_, rfl⟩
  rw [← hQ]
  by_cases h0 : r.e = 0
  · have HG := Lib.hid (goes_any h true (by simp [h0]))
    have HF : Hid (∀ W, Below w.heap.size w W → Calls Tryd.prog fid (#[.slice A n c, .int .i64 (r.p : Int)] ++ lb) W fun e W' => e = .returned (.tuple #[v, .int .i64 (nx : Int), .int .i64 (er : Int)]) ∧ Below W.heap.size W W') := Lib.hid hf
    have c0 := fun x : Aft w => x.cell h.lt h.cells.1
    have c2 := fun x : Aft w => x.cell h.lt h.cells.2.2.1
    have HR : Hid (∀ x : Aft w, RdAt x.W b A n c r ∧ Keep (Db b) w x.W) := Lib.hid fun x => ⟨h.below (Nat.le_refl _) x.h, Keep.of_below x.h⟩
    have hbw : Below w.heap.size w w := Below.refl _ _
    have inst := Aft.ne w
    by_cases he0 : er = 0
    · subst he0
      have FIN : Hid (∀ x : Aft w, Q (.returned v) (x.W.setCell ⟨b, 2, none⟩ (.int .i64 (nx : Int)))) := Lib.hid fun x => by
        have h2 := (HR.out x).1.goto nx (hnx rfl) _ rfl
        rw [hQ]
        refine ⟨by rw [if_pos ⟨h0, rfl⟩], ?_, (HR.out x).2.trans h2.2⟩
        unfold Tb.step
        rw [if_pos h0, if_pos rfl]
        exact h2.1
      obtain ⟨p, hp⟩ : ∃ p, r.p = p := ⟨_, rfl⟩
      rw [hp] at c2 HF
      clear h h0 hf hnx hp hQ
      go_enter Tryd.func173, Tryd.ntmps173
      go_wp2_with (go_at_call 92; refine HG.out.mono ?_; rintro e w' ⟨rfl, rfl⟩)
      refine region_aft w hbw (by kernel_rfl) (by kernel_rfl) ?_
      repeat (go_big_quiet_step ((with_reducible exact Aft.call HF.out _)))
      refine wpQuiet_nil ?_
      intro _ hw'
      obtain ⟨x, rfl⟩ := hw'
      have d2 := c2 x
      have f2 := (HR.out x).1.free 2
      clear c0 c2
      go_wp2
      exact FIN.out x
    · have FIN : Hid (∀ (x : Aft w) w', RdAt w' b A n c (Tb.fail er r.p r) → Keep (Db b) x.W w' → Q (.returned (.bool false)) w') := Lib.hid fun x w' h1 h2 => by
        rw [hQ]
        refine ⟨by rw [if_neg (fun e => he0 e.2)], ?_, (HR.out x).2.trans h2⟩
        unfold Tb.step
        unfold Tb.fail at h1
        rw [if_pos ⟨h0, by omega⟩] at h1
        rw [if_pos h0, if_neg he0]
        exact h1
      have hne : ((er : Int) != 0) = true := by simp; omega
      have HFail : Hid (∀ x : Aft w, Calls Tryd.prog 47 #[.pointer (some ⟨b, 0, none⟩), .int .i64 (er : Int), .int .i64 (r.p : Int)] x.W fun e w' => e = .returned (.tuple #[]) ∧ RdAt w' b A n c (Tb.fail er r.p r) ∧ Keep (Db b) x.W w') := Lib.hid fun x => Fail_any (HR.out x).1 er r.p
      obtain ⟨p, hp⟩ : ∃ p, r.p = p := ⟨_, rfl⟩
      rw [hp] at c2 HF HFail FIN
      clear h h0 hf hnx hp he0 hQ
      go_enter Tryd.func173, Tryd.ntmps173
      go_wp2_with (go_at_call 92; refine HG.out.mono ?_; rintro e w' ⟨rfl, rfl⟩)
      refine region_aft w hbw (by kernel_rfl) (by kernel_rfl) ?_
      repeat (go_big_quiet_step ((with_reducible exact Aft.call HF.out _)))
      refine wpQuiet_nil ?_
      intro _ hw'
      obtain ⟨x, rfl⟩ := hw'
      have d2 := c2 x
      clear c0 c2
      go_wp2_with (go_at_call 47; (with_reducible refine (HFail.out x).mono ?_); rintro e w' ⟨rfl, hr, hk⟩; have R1 := Lib.hid hr; have K1 := Lib.hid hk; clear hr hk)
      exact FIN.out x _ R1.out K1.out
  · have HG := Lib.hid (goes_any h false (by simp [h0]))
    have FIN : Hid (Q (.returned (.bool false)) w) := Lib.hid (by
      rw [hQ]
      refine ⟨by rw [if_neg (fun e => h0 e.1)], ?_, Keep.refl _⟩
      unfold Tb.step
      rw [if_neg h0]
      exact h)
    clear h h0 hf hnx hQ
    go_enter Tryd.func173, Tryd.ntmps173
    go_wp2_with (go_at_call 92; refine HG.out.mono ?_; rintro e w' ⟨rfl, rfl⟩)
    exact FIN.out
end Go.Proofs.YtkdhjejchdcipaaDoor

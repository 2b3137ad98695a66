/-
  A range over a function whose iterator may itself range over one: a contract and a law of my own. What a round that goes on keeps: all blocks but those of D (the caller's own) and the loop's record; J stays where all that lay when the iterator was called lies as it lay.
-/
import Derived.RangeFuncNested
import Derived.RangeFuncBound
import Derived.RangeFuncCalls
import Derived.RangeFuncLeaves
import Derived.Test.YtphmknhlibampaaDoorKit
namespace Go.Proofs.YtphmknhlibampaaDoor
open Go.RowKit
set_option linter.unusedVariables false

theorem size_put (w : World) (l : Nat) (o : Obj) : (w.putObj l o).heap.size = w.heap.size := by simp
structure Keep (D : Nat → Nat → Prop) (w w' : World) : Prop where
  os : w'.os = w.os
  tape : w'.tape = w.tape
  output : w'.output = w.output
  size : w.heap.size ≤ w'.heap.size
  block : ∀ k, k < w.heap.size → (∀ o, ¬ D k o) → w'.heap[k]? = w.heap[k]?
  cells : ∀ b o v, ¬ D b o → w.cell? ⟨b, o, none⟩ = some v → w'.cell? ⟨b, o, none⟩ = some v
variable {D D' : Nat → Nat → Prop} {w w' w'' : World}
theorem Keep.refl (w : World) : Keep D w w := ⟨rfl, rfl, rfl, Nat.le_refl _, fun _ _ _ => rfl, fun _ _ _ _ h => h⟩
theorem Keep.trans (h : Keep D w w') (h' : Keep D w' w'') : Keep D w w'' :=
  ⟨h'.os.trans h.os, h'.tape.trans h.tape, h'.output.trans h.output, Nat.le_trans h.size h'.size, fun k hk hd => (h'.block k (Nat.lt_of_lt_of_le hk h.size) hd).trans (h.block k hk hd), fun b o v hd hc => h'.cells b o v hd (h.cells b o v hd hc)⟩
theorem Keep.wide (h : Keep D w w') (hd : ∀ k o, D k o → D' k o) : Keep D' w w' := ⟨h.os, h.tape, h.output, h.size, fun k hk hn => h.block k hk (fun o e => hn o (hd k o e)), fun b o v hn => h.cells b o v (fun e => hn (hd b o e))⟩
theorem Keep.of_below (h : Below w.heap.size w w') : Keep D w w' := ⟨h.os, h.tape, h.output, h.size, fun k hk _ => h.block k hk, fun b o v _ hc => (h.cell (p := ⟨b, o, none⟩) (World.block_lt_of_cell? w ⟨b, o, none⟩ hc)).trans hc⟩
theorem Keep.putObj {l : Nat} (o : Obj) (hl : ∀ i, D l i) : Keep D w (w.putObj l o) :=
  ⟨rfl, rfl, rfl, by simp, fun k _ hn => World.putObj_heap_other (fun e => hn 0 (by first | rw [e]; exact hl _ | rw [← e]; exact hl _)),
    fun b i v hn hc => (World.cell?_of_block (w := w) (a := ⟨b, i, none⟩) (World.putObj_heap_other (fun e => hn (by dsimp only at e; first | (subst e; exact hl _) | (rw [e]; exact hl _))))).trans hc⟩
theorem Keep.setCell {b i : Nat} (u : Value) (hp : D b i) : Keep D w (w.setCell ⟨b, i, none⟩ u) :=
  ⟨rfl, rfl, rfl, by simp, fun k _ hn => Below.heap_setCell w ⟨b, i, none⟩ u k (fun e => hn i (by rw [e]; exact hp)),
    fun b' o v hn hc => by rw [World.cell?_setCell_other _ _ _ _ (by intro e; injection e with e1 e2; subst e1 e2; exact hn hp)]; exact hc⟩
theorem Keep.below (h : Keep D w w') {B : Nat} (hB : B ≤ w.heap.size) (hD : ∀ k o, k < B → ¬ D k o) : Below B w w' := ⟨h.os, h.tape, h.output, h.size, fun k hk => h.block k (Nat.lt_of_lt_of_le hk hB) (fun o => hD k o hk)⟩
theorem Keep.lies {B : Nat} (h : Keep D w w') (hB : w.heap.size ≤ B) (hb : Below B w' w'') : Keep D w w'' :=
  ⟨hb.os.trans h.os, hb.tape.trans h.tape, hb.output.trans h.output, Nat.le_trans h.size hb.size, fun k hk hd => (hb.block k (Nat.lt_of_lt_of_le hk hB)).trans (h.block k hk hd),
    fun b o v hd hc => (hb.cell (p := ⟨b, o, none⟩) (Nat.lt_of_lt_of_le (World.block_lt_of_cell? w ⟨b, o, none⟩ hc) hB)).trans (h.cells b o v hd hc)⟩

/-- Nothing of the world matters but what lay below B. -/
def Lies {β : Type} (B : Nat) (J : β → World → Prop) : Prop := ∀ s A C, J s A → Below B A C → J s C

def SeqX {α : Type} (F : Fence) (n : Nat) (P : Program) (g : Nat) (lb : Array Value) (encs : α → Array Value) (D : Nat → Nat → Prop) (S Sp : List α → Prop) (N : Nat) (w : World) : Prop :=
  ∀ (l : Nat) (J Jx : List α → World → Prop) (W : World), Below w.heap.size w W → w.heap.size ≤ l → l < W.heap.size → Lies W.heap.size J → Lies W.heap.size Jx →
    (∀ pre x W1, J pre W1 → pre.length < N → YieldAt F (n - 1) P l (encs x) W1 fun e W' =>
      (e = .returned (.bool true) ∧ J (pre ++ [x]) W' ∧ Keep (fun k o => D k o ∨ k = l) W1 W') ∨ (e = .returned (.bool false) ∧ Jx (pre ++ [x]) W' ∧ Keep (fun k o => D k o ∨ k = l) W1 W')) →
    J [] W →
    CallsIn F n P g (#[.func (.yield l) #[] #[]] ++ lb) W fun e W' => (∃ v, e = .returned v) ∧ ((∃ xs, S xs ∧ J xs W') ∨ (∃ pre, Sp pre ∧ Jx pre W'))

/-- What a round of the caller's ends in. -/
def postX {α : Type} (D : Nat → Nat → Prop) (I : List α → World → Prop) (Ix : Code → List α → World → Prop) (xs : List α) (W : World) : Exit → Act → World → Prop
  | .normal, _, W' => Keep D W W' ∧ I xs W'
  | .ret, _, W' => Keep D W W' ∧ Ix .ret xs W'
  | .exit id, _, W' => Keep D W W' ∧ Ix (.exit id) xs W'
  | .goto t, _, W' => Keep D W W' ∧ Ix (.goto t) xs W'
  | .panic _, _, _ => False
  | .outgrown, _, _ => False

set_option maxHeartbeats 1000000 in
theorem wpIn_range_x {F : Fence} {n : Nat} {P : Program} {α : Type} {g : Operand} {ps : Array Tmp} {assign body : Code} {Q : Exit → Act → World → Prop} {a : Act} {w : World}
    (hro : F.round = none) (h1 : 1 ≤ n) {gf : Nat} {lb : Array Value} (hg : a.eval g = .func (.func gf) #[] lb) (hFg : F.fn gf) (eg : ∀ args w, (callFunc gf args).run P w = .ok (.enter gf args) w)
    {encs : α → Array Value} {D : Nat → Nat → Prop} {S Sp : List α → Prop} {N : Nat} {w0 : World} (hseq : SeqX F (n - 1) P gf lb encs D S Sp N w0)
    (hD : ∀ k o, D k o → k < w.heap.size) (hb0 : Below w0.heap.size w0 w) (hps : ∀ x, (encs x).size = ps.size)
    (I : List α → World → Prop) (Ix : Code → List α → World → Prop) (hI : Lies w.heap.size I) (hIx : ∀ c, Lies w.heap.size (Ix c)) (h0 : I [] w) (a₁ : α → Act)
    (hassign : ∀ (l : Nat) (x : α) (W : World) (K : Act → World → Prop), K (a₁ x) W →
      assign.wpIn (F.inRound l) (n - 1 - 1) P (Exit.then K (fun _ _ _ => False)) { tmps := (ps.zip (encs x)).foldl (fun t (p, v) => t.setIfInBounds p v) a.tmps, defers := [] } W)
    (hbody : ∀ (l : Nat) (pre : List α) (x : α) (W : World), I pre W → pre.length < N → w.heap.size + 2 ≤ W.heap.size → body.wpIn (F.inRound l) (n - 1 - 1) P (postX D I Ix (pre ++ [x]) W) (a₁ x) W)
    (hdone : ∀ (K : Nat) (xs : List α) (W : World), w.heap.size ≤ K → S xs → I xs W → W.heap[K]? = some (.deferred (some [])) → Q .normal { a with defers := { target := .collected K, args := #[] } :: a.defers } W)
    (hstop : ∀ (K : Nat) (c : Code) (pre : List α) (W : World), w.heap.size ≤ K → Sp pre → Ix c pre W → W.heap[K]? = some (.deferred (some [])) → c.wpIn F n P Q { a with defers := { target := .collected K, args := #[] } :: a.defers } W) :
    (Code.rangeFunc g ps assign body).wpIn F n P Q a w := by
  refine wpIn_rangeFunc ?_
  intro fn hfn
  rw [hro]
  let R : LoopState → Option Code → Obj := fun s p => .loop { state := s, pending := p, fn, tmps := a.tmps, params := ps, assign, body, defers := w.heap.size }
  obtain ⟨V, hV⟩ : ∃ V, V = (w.alloc (.deferred (some []))).alloc (R .ready none) := ⟨_, rfl⟩
  have hVs : V.heap.size = w.heap.size + 2 := by rw [hV]; simp
  have hbV : Below w.heap.size w V := by rw [hV]; exact ((Below.refl _ w).alloc (Nat.le_refl _) _).alloc (by simp) _
  have hr1 : V.heap[w.heap.size + 1]? = some (R .ready none) := by
    rw [hV]; have := World.alloc_heap_new (w.alloc (.deferred (some []))) (R .ready none); rwa [World.size_alloc] at this
  have hd1 : V.heap[w.heap.size]? = some (.deferred (some [])) := by
    rw [hV]; exact (Below.heap_alloc _ _ _ (by simp)).trans (World.alloc_heap_new w _)
  have put : ∀ (o : Obj) (U : World), Below w.heap.size U (U.putObj (w.heap.size + 1) o) := fun o U => ⟨rfl, rfl, rfl, by simp, fun k hk => World.putObj_heap_other (by omega)⟩
  refine ⟨w.heap.size + 1, [{ target := .collected w.heap.size, args := #[] }], V, { target := .fn (.func gf) lb, args := #[.func (.yield (w.heap.size + 1)) #[] #[]] }, V, gf,
    #[.func (.yield (w.heap.size + 1)) #[] #[]] ++ lb, V, ?_, ?_, ?_, ?_, fun _ => h1, ?_⟩
  · rw [hV]; exact run_enterLoop_outer _ _ _ _ _
  · simp only [resolve, hg]
    simp [go_sem]
  · intro f' hf'; simp [Target.leads] at hf'; subst hf'; exact hFg
  · simp [invoke, go_sem, eg]
  · refine (hseq (w.heap.size + 1)
      (fun pre U => I pre U ∧ U.heap[w.heap.size + 1]? = some (R .ready none) ∧ U.heap[w.heap.size]? = some (.deferred (some [])) ∧ w.heap.size + 2 ≤ U.heap.size)
      (fun pre U => ∃ c, Ix c pre U ∧ U.heap[w.heap.size + 1]? = some (R .done (some c)) ∧ U.heap[w.heap.size]? = some (.deferred (some [])))
      V (hb0.trans (hbV.mono hb0.size)) (Nat.le_trans hb0.size (Nat.le_succ _)) (by omega) ?_ ?_ ?_ ⟨hI [] _ _ h0 hbV, hr1, hd1, by omega⟩).mono ?_
    · rintro s A C ⟨i, r, d, z⟩ hb
      exact ⟨hI s _ _ i (hb.mono (by omega)), (hb.block _ (by omega)).trans r, (hb.block _ (by omega)).trans d, Nat.le_trans z hb.size⟩
    · rintro s A C ⟨c, i, r, d⟩ hb
      exact ⟨c, hIx c s _ _ i (hb.mono (by omega)), (hb.block _ (by omega)).trans r, (hb.block _ (by omega)).trans d⟩
    · rintro pre x U ⟨i, r, d, z⟩ hlen
      have hy := run_yield (P := P) (args := encs x) r (hps x)
      refine ⟨fn, _, assign, body, hy, roundIn_of_wpIn hfn (hassign _ x U _ ⟨_, run_beginRound r rfl, ?_⟩)⟩
      refine wpIn_mono (hbody _ pre x _ (hI _ _ _ i (put _ U)) hlen (by simpa using z)) ?_
      have fin : ∀ (jump : Option Code) (U3 : World), Keep D (U.putObj (w.heap.size + 1) (R .busy none)) U3 →
          (Instr.endRound (w.heap.size + 1) jump).run P U3 = .ok (.bool jump.isNone) (U3.putObj (w.heap.size + 1) (R (if jump.isNone then .ready else .done) jump)) ∧
          (U3.putObj (w.heap.size + 1) (R (if jump.isNone then .ready else .done) jump)).heap[w.heap.size + 1]? = some (R (if jump.isNone then .ready else .done) jump) ∧
          (U3.putObj (w.heap.size + 1) (R (if jump.isNone then .ready else .done) jump)).heap[w.heap.size]? = some (.deferred (some [])) ∧ w.heap.size + 2 ≤ U3.heap.size := fun jump U3 hk => by
        have hz := hk.size
        rw [size_put] at hz
        have r3 : U3.heap[w.heap.size + 1]? = some (R .busy none) := (hk.block _ (by rw [size_put]; omega) (fun o e => by have := hD _ _ e; omega)).trans (World.putObj_heap_same (by omega))
        have d3 : U3.heap[w.heap.size]? = some (.deferred (some [])) := (hk.block _ (by rw [size_put]; omega) (fun o e => by have := hD _ _ e; omega)).trans ((World.putObj_heap_other (by omega)).trans d)
        exact ⟨run_endRound (P := P) jump r3, World.putObj_heap_same (by omega), (World.putObj_heap_other (by omega)).trans d3, by omega⟩
      have whole : ∀ (o : Obj) (U3 : World), Keep D (U.putObj (w.heap.size + 1) (R .busy none)) U3 → Keep (fun k o => D k o ∨ k = w.heap.size + 1) U (U3.putObj (w.heap.size + 1) o) := fun o U3 hk =>
        ((Keep.putObj _ (fun _ => .inr rfl)).trans (hk.wide fun k o e => .inl e)).trans (Keep.putObj _ (fun _ => .inr rfl))
      rintro e a3 U3 hp
      cases e with
      | normal =>
        obtain ⟨hk, hi⟩ := hp
        obtain ⟨hr, hl, hd, hz⟩ := fin none U3 hk
        exact ⟨_, _, hr, .inl ⟨rfl, ⟨hI _ _ _ hi (put _ U3), hl, hd, by simpa using hz⟩, whole _ U3 hk⟩⟩
      | ret =>
        obtain ⟨hk, hi⟩ := hp
        obtain ⟨hr, hl, hd, hz⟩ := fin (some .ret) U3 hk
        exact ⟨_, _, hr, .inr ⟨rfl, ⟨.ret, hIx _ _ _ _ hi (put _ U3), hl, hd⟩, whole _ U3 hk⟩⟩
      | exit id =>
        obtain ⟨hk, hi⟩ := hp
        obtain ⟨hr, hl, hd, hz⟩ := fin (some (.exit id)) U3 hk
        exact ⟨_, _, hr, .inr ⟨rfl, ⟨.exit id, hIx _ _ _ _ hi (put _ U3), hl, hd⟩, whole _ U3 hk⟩⟩
      | goto t =>
        obtain ⟨hk, hi⟩ := hp
        obtain ⟨hr, hl, hd, hz⟩ := fin (some (.goto t)) U3 hk
        exact ⟨_, _, hr, .inr ⟨rfl, ⟨.goto t, hIx _ _ _ _ hi (put _ U3), hl, hd⟩, whole _ U3 hk⟩⟩
      | panic ch => exact hp.elim
      | outgrown => exact hp.elim
    · rintro e U ⟨⟨v, rfl⟩, (⟨xs, hS, i, r, d, z⟩ | ⟨pre, hSp, c, i, r, d⟩)⟩
      · exact ⟨none, _, run_endLoop (P := P) r (by simp), hdone _ xs _ (Nat.le_refl _) hS (hI _ _ _ i (put _ U)) ((World.putObj_heap_other (by omega)).trans d)⟩
      · exact ⟨some c, _, run_endLoop (P := P) r (by simp), hstop _ c pre _ (Nat.le_refl _) hSp (hIx c _ _ _ i (put _ U)) ((World.putObj_heap_other (by omega)).trans d)⟩
end Go.Proofs.YtphmknhlibampaaDoor

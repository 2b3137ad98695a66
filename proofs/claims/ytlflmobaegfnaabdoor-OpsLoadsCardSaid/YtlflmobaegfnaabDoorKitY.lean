/-
  Words for functions that hold ranges over functions: what their bodies must achieve, the marks of the loops that ended.
-/
import Derived.Test.YtlflmobaegfnaabDoorKitX
namespace Go.Proofs.YtlflmobaegfnaabDoor
open Go.RowKit
set_option linter.unusedVariables false

/-- What the body of a function with marks must achieve: it does not panic. -/
def postM (P : Program) (fn : Func) (R : Ending → World → Prop) : Exit → Act → World → Prop
  | .normal, a, w | .ret, a, w => LeavesInM Fence.wide 20 P fn a.tmps R a.defers .returning w
  | _, _, _ => False
theorem postM_imp {P : Program} {fn : Func} {R : Ending → World → Prop} : ∀ e a w, postM P fn R e a w → bodyPostM Fence.wide 20 P fn R e a w := fun e a w h => by
  cases e <;> first | exact h | exact (h : False).elim
theorem calls_marks {P : Program} {f : FuncId} {fn : Func} {c : Code} {args : Array Value} {w : World} {R : Ending → World → Prop}
    (hf : P.funcs[f]? = some fn) (hb : fn.body = some c) (h : c.wp P (postM P fn R) { tmps := args ++ Array.replicate (fn.ntmps - args.size) undef, defers := [] } w) : Calls P f args w R :=
  callsIn_wide.1 (callsIn_of_wp_marks (n := 20) hf hb trivial (wpIn_wide.2 (Code.wp_mono postM_imp h)) rfl)
theorem below_put {B K : Nat} {w W : World} (h : Below B w W) (hK : B ≤ K) (o : Obj) : Below B w (W.putObj K o) :=
  ⟨h.os, h.tape, h.output, Nat.le_trans h.size (by simp), fun k hk => (World.putObj_heap_other (by omega)).trans (h.block k hk)⟩
def mark (K : Nat) : Deferred := { target := .collected K, args := #[] }
/-- The marks of the loops that ended, their blocks still to be shut, from block B on. -/
def Marks (B : Nat) (w : World) (Ks : List Nat) : Prop := Ks.Nodup ∧ ∀ K ∈ Ks, B ≤ K ∧ w.heap[K]? = some (.deferred (some []))
theorem Marks.nil (B : Nat) (w : World) : Marks B w [] := ⟨List.nodup_nil, fun _ h => by cases h⟩
theorem Marks.lt {B : Nat} {w : World} {Ks : List Nat} (h : Marks B w Ks) : ∀ K ∈ Ks, K < w.heap.size := fun K hK => (Array.getElem?_eq_some_iff.1 (h.2 K hK).2).1
theorem Marks.below {B C : Nat} {w w' : World} {Ks : List Nat} (h : Marks B w Ks) (hb : Below C w w') (hC : ∀ K ∈ Ks, K < C) : Marks B w' Ks :=
  ⟨h.1, fun K hK => ⟨(h.2 K hK).1, (hb.block K (hC K hK)).trans (h.2 K hK).2⟩⟩
theorem Marks.keep {D : Nat → Nat → Prop} {B : Nat} {w w' : World} {Ks : List Nat} (h : Marks B w Ks) (hk : Keep D w w') (hD : ∀ K ∈ Ks, ∀ o, ¬ D K o) : Marks B w' Ks :=
  ⟨h.1, fun K hK => ⟨(h.2 K hK).1, (hk.block K (h.lt K hK) (hD K hK)).trans (h.2 K hK).2⟩⟩
theorem Marks.cons {B K : Nat} {w : World} {Ks : List Nat} (h : Marks B w Ks) (hB : B ≤ K) (hK : w.heap[K]? = some (.deferred (some []))) (hn : K ∉ Ks) : Marks B w (K :: Ks) :=
  ⟨List.nodup_cons.2 ⟨hn, h.1⟩, fun K' h' => by
    rcases List.mem_cons.1 h' with rfl | h'
    · exact ⟨hB, hK⟩
    · exact h.2 K' h'⟩
/-- The way out: each mark's block is shut. -/
theorem leaves_marks {P : Program} {fn : Func} {tmps : Array Value} {R : Ending → World → Prop} {v : Value} {B : Nat} (hv : ∀ w, (results fn tmps).run P w = .ok v w) : ∀ (Ks : List Nat) (w : World), Marks B w Ks →
    (∀ w', Below B w w' → R (.returned v) w') → LeavesInM Fence.wide 20 P fn tmps R (Ks.map mark) .returning w
  | [], w, _, hR => ⟨v, hv w, hR w (Below.refl _ _)⟩
  | K :: Ks, w, hM, hR => by
    obtain ⟨hn, hall⟩ := hM
    obtain ⟨hB, hK⟩ := hall K (by simp)
    have hb : Below B w (w.putObj K (.deferred none)) := below_put (Below.refl _ _) hB _
    refine ⟨by simp, .inl ⟨K, _, rfl, run_takeDeferred hK, leaves_marks hv Ks _ ⟨(List.nodup_cons.1 hn).2, fun K' h' => ?_⟩ (fun w' h' => hR w' (hb.trans h'))⟩⟩
    obtain ⟨h1, h2⟩ := hall K' (by simp [h'])
    refine ⟨h1, (World.putObj_heap_other (fun e => ?_)).trans h2⟩
    first
      | (rw [e] at h'; exact (List.nodup_cons.1 hn).1 h')
      | (rw [← e] at h'; exact (List.nodup_cons.1 hn).1 h')
end Go.Proofs.YtlflmobaegfnaabDoor

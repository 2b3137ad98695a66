/-
  Layer 4: words for functions that hold a range over a function (the marks), and for a type's six cells.
-/
import Derived.Test.YtlflmobaegfnaaaDoorKdXc
import Derived.Test.YtlflmobaegfnaaaDoorKdQ
import Derived.Test.YtlflmobaegfnaaaDoorKdO
import Derived.Test.YtlflmobaegfnaaaDoorKdRd
namespace Go.Proofs.YtlflmobaegfnaaaDoor
open Go.RowKit
set_option linter.unusedVariables false
set_option linter.unusedSimpArgs false
set_option maxRecDepth 100000

/-- What the body of a function with marks must achieve: it does not panic. -/
def postM (P : Program) (fn : Func) (R : Ending → World → Prop) : Exit → Act → World → Prop
  | .normal, a, w | .ret, a, w => LeavesInM Fence.wide 20 P fn a.tmps R a.defers .returning w
  | _, _, _ => False
theorem postM_imp {P : Program} {fn : Func} {R : Ending → World → Prop} : ∀ e a w, postM P fn R e a w → bodyPostM Fence.wide 20 P fn R e a w := fun e a w h => by
  cases e <;> first | exact h | exact (h : False).elim
theorem calls_marks {P : Program} {f : FuncId} {fn : Func} {c : Code} {args : Array Value} {w : World} {R : Ending → World → Prop}
    (hf : P.funcs[f]? = some fn) (hb : fn.body = some c) (h : c.wp P (postM P fn R) { tmps := args ++ Array.replicate (fn.ntmps - args.size) undef, defers := [] } w) : Calls P f args w R :=
  callsIn_wide.1 (callsIn_of_wp_marks (n := 20) hf hb trivial (wpIn_wide.2 (Code.wp_mono postM_imp h)) rfl)
theorem ret_m {P : Program} {fn : Func} {R : Ending → World → Prop} {t : Tmp} {tmps : Array Value} {w : World} (h : fn.results = #[.tmp t]) (hR : R (.returned (tmps.getD t undef)) w) : postM P fn R .ret { tmps := tmps, defers := [] } w :=
  ⟨_, results_tmp h _ _ _, hR⟩
/-- A return behind one range over a function. -/
theorem ret_m1 {P : Program} {fn : Func} {R : Ending → World → Prop} {t : Tmp} {tmps : Array Value} {w : World} {K : Nat} (h : fn.results = #[.tmp t]) (hd : w.heap[K]? = some (.deferred (some [])))
    (hR : R (.returned (tmps.getD t undef)) (w.putObj K (.deferred none))) : postM P fn R .ret { tmps := tmps, defers := [{ target := .collected K, args := #[] }] } w :=
  ⟨by simp, .inl ⟨_, _, rfl, run_takeDeferred hd, ⟨_, results_tmp h _ _ _, hR⟩⟩⟩
theorem below_put {B K : Nat} {w W : World} (h : Below B w W) (hK : B ≤ K) (o : Obj) : Below B w (W.putObj K o) :=
  ⟨h.os, h.tape, h.output, Nat.le_trans h.size (by simp), fun k hk => (World.putObj_heap_other (by omega)).trans (h.block k hk)⟩
/-- A type's cells. -/
structure Six (W : World) (b : Nat) (v0 v1 v2 v3 v4 v5 : Value) : Prop where
  c0 : W.cell? ⟨b, 0, none⟩ = some v0
  c1 : W.cell? ⟨b, 1, none⟩ = some v1
  c2 : W.cell? ⟨b, 2, none⟩ = some v2
  c3 : W.cell? ⟨b, 3, none⟩ = some v3
  c4 : W.cell? ⟨b, 4, none⟩ = some v4
  c5 : W.cell? ⟨b, 5, none⟩ = some v5
theorem Six.below {W W' : World} {C b : Nat} {v0 v1 v2 v3 v4 v5 : Value} (h : Six W b v0 v1 v2 v3 v4 v5) (hb : Below C W W') (hlt : b < C) : Six W' b v0 v1 v2 v3 v4 v5 :=
  ⟨(hb.cell (p := ⟨b, 0, none⟩) hlt).trans h.c0, (hb.cell (p := ⟨b, 1, none⟩) hlt).trans h.c1, (hb.cell (p := ⟨b, 2, none⟩) hlt).trans h.c2, (hb.cell (p := ⟨b, 3, none⟩) hlt).trans h.c3, (hb.cell (p := ⟨b, 4, none⟩) hlt).trans h.c4, (hb.cell (p := ⟨b, 5, none⟩) hlt).trans h.c5⟩
theorem Six.drew {W : World} {b : Nat} {v0 v1 v2 v3 v4 v5 : Value} (h : Six W b v0 v1 v2 v3 v4 v5) : Six W.drew b v0 v1 v2 v3 v4 v5 := ⟨h.c0, h.c1, h.c2, h.c3, h.c4, h.c5⟩
/-- What a plain type's value types are. -/
theorem Kd.plain_all {s : Sb} (h : Kd.pSub s = true) : ∀ v ∈ Kd.allV s.c, Kd.pVal v = true := by
  obtain ⟨fin, sups, k, ps, rs, fs⟩ := s
  unfold Kd.pSub Kd.pComp Kd.takes at h
  unfold Kd.allV
  have pf : ∀ f : Fd, Kd.pField f = true → Kd.pVal f.v = true := fun f hf => by
    unfold Kd.pField at hf
    split at hf
    · exact hf
    · split at hf
      · rw [of_decide_eq_true hf]; decide
      · cases hf
  intro v hv
  simp only [Bool.and_eq_true] at h
  obtain ⟨-, h⟩ := h
  dsimp only at h hv
  split at h
  · simp only [Bool.and_eq_true, decide_eq_true_eq, List.all_eq_true] at h
    obtain ⟨h1, h2, h3⟩ := h
    rw [List.length_eq_zero_iff.1 h3] at hv
    simp only [List.map_nil, List.append_nil, List.mem_append] at hv
    rcases hv with hv | hv
    · exact h1 v hv
    · exact h2 v hv
  · split at h
    · simp only [Bool.and_eq_true, Bool.not_eq_true', decide_eq_false_iff_not, List.all_eq_true, Nat.not_lt] at h
      obtain ⟨h1, h2⟩ := h
      have e1 : ps = [] := List.length_eq_zero_iff.1 (by omega)
      have e2 : rs = [] := List.length_eq_zero_iff.1 (by omega)
      subst e1 e2
      simp only [List.append_nil, List.nil_append, List.mem_map] at hv
      obtain ⟨f, hf, rfl⟩ := hv
      exact pf f (h2 f hf)
    · split at h
      · simp only [Bool.and_eq_true, Bool.not_eq_true', decide_eq_false_iff_not, decide_eq_true_eq, List.all_eq_true, Nat.not_lt] at h
        obtain ⟨h1, -, h2⟩ := h
        have e1 : ps = [] := List.length_eq_zero_iff.1 (by omega)
        have e2 : rs = [] := List.length_eq_zero_iff.1 (by omega)
        subst e1 e2
        simp only [List.append_nil, List.nil_append, List.mem_map] at hv
        obtain ⟨f, hf, rfl⟩ := hv
        exact pf f (h2 f hf)
      · cases h
theorem Kd.plain_more {s : Sb} (hk : s.c.k = 1) (v : Vl) : Kd.pSub ⟨s.fin, s.sups, s.c.k, s.c.ps, s.c.rs ++ [v], s.c.fs⟩ = (Kd.pSub s && Kd.pVal v) := by
  obtain ⟨fin, sups, k, ps, rs, fs⟩ := s
  dsimp only at hk ⊢
  subst hk
  unfold Kd.pSub Kd.pComp
  simp only [if_true, List.all_append, List.all_cons, List.all_nil, Bool.and_true]
  cases sups.all Kd.pIdx <;> cases ps.all Kd.pVal <;> cases rs.all Kd.pVal <;> cases Kd.pVal v <;> simp
end Go.Proofs.YtlflmobaegfnaaaDoor

/-
  A walk by reckoning: code whose operations ask nothing of the world is run by the kernel, its calls by a table of contracts.
-/
import Derived.Test.YtlflmobaegfnaaaDoorKit
import Derived.LoopN
namespace Go.Proofs.YtlflmobaegfnaaaDoor
open Go.RowKit
set_option linter.unusedVariables false

section
variable (P : Program) (cl : Nat → Array Value → Option Value)
/-- One operation behind the other. -/
def runL (ops : Array Oper) : List Oper → Act → World → Option (Act × World)
  | [], a, w => some (a, w)
  | o :: rest, a, w =>
    if Region.wanted o (yielded ops a.tmps) then
      match (execOp a.eval o).run P w with
      | .ok (.value v) w' => runL ops rest (a.put o.dst v) w'
      | .ok .skip w' => runL ops rest (a.put o.dst undef) w'
      | .ok (.enter f args) w' => match cl f args with
        | some v => runL ops rest (a.put o.dst v) w'
        | none => none
      | _ => none
    else runL ops rest (a.put o.dst undef) w
/-- A piece of code; a loop goes round at most as often as there is fuel. -/
def runC : Nat → Code → Act → World → Option (Exit × Act × World)
  | 0, _, _, _ => none
  | n + 1, c, a, w => match c with
    | .skip => some (.normal, a, w)
    | .region _ ops false => (runL P cl ops ops.toList a w).map fun r => (.normal, r.1, r.2)
    | .seq x y => match runC n x a w with
      | some (.normal, a', w') => runC n y a' w'
      | r => r
    | .cond c x y => match a.eval c with
      | .bool b => if b then runC n x a w else runC n y a w
      | _ => none
    | .block id x => match runC n x a w with
      | some (.exit id', a', w') => if id' = id then some (.normal, a', w') else some (.exit id', a', w')
      | r => r
    | .loop x => match runC n x a w with
      | some (.normal, a', w') => runC n (.loop x) a' w'
      | r => r
    | .exit id => some (.exit id, a, w)
    | .ret => some (.ret, a, w)
    | _ => none
end
/-- The table of the calls is right: what it tells the callee answers, and leaves the world. -/
def Told (P : Program) (cl : Nat → Array Value → Option Value) : Prop := ∀ f args v w, cl f args = some v → Calls P f args w fun e w' => e = .returned v ∧ w' = w
section
variable {P : Program} {cl : Nat → Array Value → Option Value}
theorem runL_wp (ht : Told P cl) {ops : Array Oper} {Q : Exit → Act → World → Prop} : ∀ (l : List Oper) (a : Act) (w : World) (r : Act × World), runL P cl ops l a w = some r → Q .normal r.1 r.2 → wpList P ops Q l a w
  | [], a, w, r, h, hq => by
    cases h
    exact hq
  | o :: rest, a, w, r, h, hq => by
    refine wpList_step fun K hK => ?_
    unfold runL at h
    split at h
    · rename_i hw
      rw [if_pos hw]
      unfold Oper.wp
      split at h
      · rename_i v w' he
        rw [he]
        exact hK _ _ (runL_wp ht rest _ _ r h hq)
      · rename_i w' he
        rw [he]
        exact hK _ _ (runL_wp ht rest _ _ r h hq)
      · rename_i f args w' he
        rw [he]
        split at h
        · rename_i v hv
          refine (ht f args v w' hv).mono ?_
          rintro e w'' ⟨rfl, rfl⟩
          exact hK _ _ (runL_wp ht rest _ _ r h hq)
        · cases h
      · cases h
    · rename_i hw
      rw [if_neg hw]
      exact hK _ _ (runL_wp ht rest _ _ r h hq)
theorem runC_both (ht : Told P cl) : ∀ n : Nat, (∀ (c : Code) (Q : Exit → Act → World → Prop) (a : Act) (w : World) (r : Exit × Act × World), runC P cl n c a w = some r → Q r.1 r.2.1 r.2.2 → c.wp P Q a w) ∧
    (∀ (x : Code) (Q : Exit → Act → World → Prop) (a : Act) (w : World) (r : Exit × Act × World), runC P cl n (.loop x) a w = some r → Q r.1 r.2.1 r.2.2 → ∃ m, Code.rounds P x Q m a w)
  | 0 => ⟨fun _ _ _ _ _ h _ => by simp [runC] at h, fun _ _ _ _ _ h _ => by simp [runC] at h⟩
  | n + 1 => by
    obtain ⟨ihA, ihB⟩ := runC_both ht n
    have hB : ∀ (x : Code) (Q : Exit → Act → World → Prop) (a : Act) (w : World) (r : Exit × Act × World), runC P cl (n + 1) (.loop x) a w = some r → Q r.1 r.2.1 r.2.2 → ∃ m, Code.rounds P x Q m a w := by
      intro x Q a w r h hq
      simp only [runC] at h
      cases hx : runC P cl n x a w with
      | none => rw [hx] at h; cases h
      | some r1 =>
        obtain ⟨e1, a1, w1⟩ := r1
        rw [hx] at h
        cases e1 with
        | normal =>
          obtain ⟨m, hm⟩ := ihB x Q a1 w1 r h hq
          exact ⟨m + 1, ihA x _ a w _ hx hm⟩
        | _ =>
          cases h
          exact ⟨1, ihA x _ a w _ hx hq⟩
    refine ⟨?_, hB⟩
    intro c Q a w r h hq
    cases c with
    | skip => simp only [runC] at h; cases h; exact wp_skip hq
    | region id ops d =>
      cases d with
      | true => simp [runC] at h
      | false =>
        simp only [runC] at h
        obtain ⟨r', h1, h2⟩ := Option.map_eq_some_iff.1 h
        subst h2
        exact wp_region_list (runL_wp ht _ _ _ _ h1 hq)
    | seq x y =>
      simp only [runC] at h
      refine wp_seq ?_
      cases hx : runC P cl n x a w with
      | none => rw [hx] at h; cases h
      | some r1 =>
        obtain ⟨e1, a1, w1⟩ := r1
        refine ihA x _ a w _ hx ?_
        rw [hx] at h
        cases e1 with
        | normal => exact ihA y Q a1 w1 r h hq
        | _ => cases h; exact hq
    | cond c x y =>
      simp only [runC] at h
      split at h
      · rename_i b hb
        refine wp_cond hb ?_
        cases b
        · exact ihA y Q a w r h hq
        · exact ihA x Q a w r h hq
      · cases h
    | block id x =>
      simp only [runC] at h
      refine wp_block ?_
      cases hx : runC P cl n x a w with
      | none => rw [hx] at h; cases h
      | some r1 =>
        obtain ⟨e1, a1, w1⟩ := r1
        refine ihA x _ a w _ hx ?_
        rw [hx] at h
        cases e1 with
        | exit id' =>
          dsimp only at h
          show if id' = id then _ else _
          split at h
          · rename_i he; rw [if_pos he]; cases h; exact hq
          · rename_i he; rw [if_neg he]; cases h; exact hq
        | _ => cases h; exact hq
    | loop x =>
      obtain ⟨m, hm⟩ := hB x Q a w r h hq
      exact wp_loop_rounds m hm
    | exit id => simp only [runC] at h; cases h; exact wp_exit hq
    | ret => simp only [runC] at h; cases h; exact wp_ret hq
    | rangeFunc _ _ _ _ => simp [runC] at h
    | scope _ => simp [runC] at h
    | label _ => simp [runC] at h
    | goto _ => simp [runC] at h
    | refuse _ => simp [runC] at h
theorem runC_wp (ht : Told P cl) (n : Nat) (c : Code) (Q : Exit → Act → World → Prop) (a : Act) (w : World) (r : Exit × Act × World) (h : runC P cl n c a w = some r) (hq : Q r.1 r.2.1 r.2.2) : c.wp P Q a w := (runC_both ht n).1 c Q a w r h hq
/-- A call whose body the kernel runs: the answer stands in slot t, the world is as it was. -/
theorem calls_run (ht : Told P cl) {f : FuncId} {fn : Func} {c : Code} {args : Array Value} {w : World} {t : Tmp} {v : Value} (n : Nat) (hf : P.funcs[f]? = some fn) (hb : fn.body = some c) (hr : fn.results = #[.tmp t])
    (h : (runC P cl n c { tmps := args ++ Array.replicate (fn.ntmps - args.size) undef, defers := [] } w).map (fun r => (r.1, r.2.1.tmps.getD t undef, r.2.1.defers, r.2.2)) = some (.ret, v, [], w)) : Calls P f args w fun e w' => e = .returned v ∧ w' = w := by
  obtain ⟨r, h1, h2⟩ := Option.map_eq_some_iff.1 h
  simp only [Prod.mk.injEq] at h2
  obtain ⟨e1, e2, e3, e4⟩ := h2
  refine calls_of_wp hf hb (runC_wp ht n c _ _ w r h1 ?_)
  obtain ⟨re, ⟨ra, rd⟩, rw'⟩ := r
  dsimp only at e1 e2 e3 e4
  subst e1 e3 e4
  exact bodyPost_ret (results_tmp hr _ _ _) rfl ⟨by rw [e2], rfl⟩
theorem told_none (P : Program) : Told P (fun _ _ => none) := fun _ _ _ _ h => by cases h
end
end Go.Proofs.YtlflmobaegfnaaaDoor

/-
  A region that draws its order and whose callees make memory, but answer the same in whatever later world: one walk of the text's order serves (the class: worlds in which what lay there still lies as it lay).
-/
import Derived.Test.YtphmknhlibampaaDoorKdW
import Derived.Deep.QuietTactic
import Derived.BigQuiet
namespace Go.Proofs.YtphmknhlibampaaDoor
open Go.RowKit
set_option linter.unusedVariables false

/-- A world behind w1: what lay in w1 lies as it lay. -/
structure Aft (w1 : World) where
  W : World
  h : Below w1.heap.size w1 W
theorem Aft.ne (w1 : World) : Nonempty (Aft w1) := ⟨⟨w1, Below.refl _ _⟩⟩
theorem Aft.cell {w1 : World} (n : Aft w1) {b o : Nat} {v : Value} (hb : b < w1.heap.size) (h : w1.cell? ⟨b, o, none⟩ = some v) : n.W.cell? ⟨b, o, none⟩ = some v := (n.h.cell (p := ⟨b, o, none⟩) hb).trans h
theorem Aft.call {w1 : World} {P : Program} {f : FuncId} {args : Array Value} {v : Value} (h : ∀ W, Below w1.heap.size w1 W → Calls P f args W fun e w' => e = .returned v ∧ Below W.heap.size W w') (n : Aft w1) :
    Calls P f args n.W fun e w'' => e = .returned v ∧ ∃ m : Aft w1, w'' = m.W :=
  (h n.W n.h).mono fun e w' ⟨he, hb⟩ => ⟨he, ⟨w', n.h.trans (hb.mono n.h.size)⟩, rfl⟩
theorem Aft.callN {w1 : World} {P : Program} {f : FuncId} {args : Array Value} {v : Value} (h : ∀ W, Below w1.heap.size w1 W → Calls P f args W fun e w' => e = .returned v ∧ ∃ k, w' = W.drewN k) (n : Aft w1) :
    Calls P f args n.W fun e w'' => e = .returned v ∧ ∃ m : Aft w1, w'' = m.W :=
  (h n.W n.h).mono fun e w' ⟨he, k, hb⟩ => ⟨he, ⟨w', by rw [hb]; exact below_drewN n.h k⟩, rfl⟩
theorem region_aft {P : Program} {id : Nat} {Q : Exit → Act → World → Prop} {a : Act} {w : World} {l : List Oper} (w1 : World) (hw : Below w1.heap.size w1 w) (hm : P.follows .mixedOrders = true) (hB : Region.lexB .any l.toArray = true)
    (h : wpQuiet P l.toArray (fun w' => ∃ n : Aft w1, w' = n.W) (fun a' => ∀ w', (∃ n : Aft w1, w' = n.W) → Q .normal a' w') l a) : (Code.region id l.toArray true).wp P Q a w :=
  wp_region_quiet (C := fun w' => ∃ n : Aft w1, w' = n.W) hm hB ⟨⟨_, hw.drew⟩, rfl⟩ (by simpa using h)
/-- '==' of two value types. -/
theorem run_eqlV (x y : Vl) (w : World) : (binOp .eql 46 x.val y.val).run Tryd.prog w = .ok (.bool (decide (x = y))) w := by
  obtain ⟨a, b, c, d⟩ := x
  obtain ⟨a', b', c', d'⟩ := y
  unfold Vl.val
  by_cases h1 : a = a' <;> by_cases h2 : b = b' <;> by_cases h3 : c = c' <;> by_cases h4 : d = d' <;> go_simp <;> simp_all
end Go.Proofs.YtphmknhlibampaaDoor

/-
  Layer 4, code: the iterator over where heap types stand.
-/
import Derived.Test.YtlflmobaegfnaaaDoorKdZ
import Derived.Stop.RegionWithIn
namespace Go.Proofs.YtlflmobaegfnaaaDoor
open Go.RowKit Go.Shelf
attribute [local go_sem] Oper.semAt_some
set_option linter.unusedVariables false
set_option linter.unusedSimpArgs false
set_option maxRecDepth 100000

theorem vals_in (F : Fence) (n : Nat) (hF : F.fn 68) (hro : F.round = none) (p : Addr) (W : World) :
    CallsIn F n Tryd.prog 68 #[.pointer (some p)] W fun e w' => e = .returned (.func (.func 85) #[] #[.pointer (some ⟨W.heap.size, 0, none⟩)]) ∧ ∃ t, w' = W.alloc (.cells #[.pointer (some p)] t) := by
  refine callsIn_of_wp Tryd.func68 rfl hF ?_ hro
  simp only [Tryd.ntmps68, List.size_toArray, List.length_cons, List.length_nil, Nat.reduceAdd, Nat.reduceSub, Array.replicate_succ, Array.replicate_zero, List.push_toArray, List.append_toArray, List.nil_append, List.cons_append]
  gi_wp2
  go_ret
  exact ⟨rfl, _, rfl⟩
theorem placesF_in (F : Fence) (n : Nat) (hF : F.fn 44) (hro : F.round = none) (p : Addr) (W : World) :
    CallsIn F n Tryd.prog 44 #[.pointer (some p)] W fun e w' => e = .returned (.func (.func 67) #[] #[.pointer (some ⟨W.heap.size, 0, none⟩)]) ∧ ∃ t, w' = W.alloc (.cells #[.pointer (some p)] t) := by
  refine callsIn_of_wp Tryd.func44 rfl hF ?_ hro
  simp only [Tryd.ntmps44, List.size_toArray, List.length_cons, List.length_nil, Nat.reduceAdd, Nat.reduceSub, Array.replicate_succ, Array.replicate_zero, List.push_toArray, List.append_toArray, List.nil_append, List.cons_append]
  gi_wp2
  go_ret
  exact ⟨rfl, _, rfl⟩

theorem yield_bool {F : Fence} {m : Nat} {P : Program} {l : Nat} {args : Array Value} {W : World} {A B : World → Prop} (h : YieldAt F m P l args W fun e W' => (e = .returned (.bool true) ∧ A W') ∨ (e = .returned (.bool false) ∧ B W')) :
    YieldAt F m P l args W fun e W' => ∃ r, e = .returned (.bool r) ∧ ((r = true ∧ A W') ∨ (r = false ∧ B W')) :=
  h.mono fun e W' h => by
    rcases h with ⟨rfl, h⟩ | ⟨rfl, h⟩
    · exact ⟨true, rfl, .inl ⟨rfl, h⟩⟩
    · exact ⟨false, rfl, .inr ⟨rfl, h⟩⟩
/-- Where the heap types of a type stand, in order: kd tells the kind of the value type that stands there. -/
def shiftA (x : Addr) : Addr := ⟨x.block, x.off + 2, none⟩
def heapsAt (kd : Addr → Int) (A1 : Option Addr) (n1 : Nat) (vl : List Addr) : List Addr := ats A1 2 0 n1 ++ (vl.filter fun x => decide (kd x = 3)).map shiftA
theorem take_map_at {l : List Addr} {n : Nat} {A1 : Option Addr} (h : ats A1 2 0 n <+: l) (k : Nat) (hk : k < n) (b off : Nat) (e : A1 = some ⟨b, off, none⟩) : ∃ y : At l, y.1 = ⟨b, off + k * 2, none⟩ := by
  subst e
  have hl : k < (ats (some ⟨b, off, none⟩) 2 0 n).length := by rw [ats_len]; exact hk
  refine ⟨⟨⟨b, off + k * 2, none⟩, h.subset ?_⟩, rfl⟩
  have := List.getElem_mem hl
  rw [ats_get] at this
  exact this

end Go.Proofs.YtlflmobaegfnaaaDoor

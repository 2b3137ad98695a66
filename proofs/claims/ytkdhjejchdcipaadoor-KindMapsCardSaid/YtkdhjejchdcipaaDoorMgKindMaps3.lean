/-
  Texts of this claim, one behind the other: part 3.
-/
import Derived.Deep.RegionHeld3
import Derived.Deep.RegionLaw
import Derived.Test.YtkdhjejchdcipaaDoorRows
import Derived.LaidMore
import Derived.Lib.LaidTab
import Derived.Stop.Joined
import Derived.Stop.LaidErr
import Derived.Test.YtkdhjejchdcipaaDoorMgKindMaps2
/-
  geodelaw04.KindMaps: its closures, and MapVal.
-/
namespace Go.Proofs.YtkdhjejchdcipaaDoor
open Go.RowKit
set_option linter.unusedVariables false
set_option linter.unusedSimpArgs false
set_option maxRecDepth 100000

def Kd.phF (a : Int) (h : Hp) : Hp := ⟨h.k, bits BinOp.xor IntKind.i64 h.n a⟩
def Kd.phG (b : Int) (h : Hp) : Hp := ⟨bits BinOp.xor IntKind.i64 h.k 1, bits BinOp.xor IntKind.i64 h.n b⟩
theorem stay_any (h : Hp) (W : World) : Calls Tryd.prog 17 #[h.val] W fun e W' => e = .returned h.val ∧ Below W.heap.size W W' := by
  have hb : ∀ o1 o2, Below W.heap.size W ((W.alloc o1).alloc o2) := fun o1 o2 => ((Below.refl _ _).alloc (Nat.le_refl _) _).alloc (by simp) _
  go_enter Tryd.func17, Tryd.ntmps17
  go_wp2
  exact bodyPost_ret (results_cell_row rfl _ _ (W.heap.size + 1) 39 #[.int .i64 h.k, .int .i64 h.n] (0, 0) _ rfl (heap_alloc2_new _ _ _) Tryd.underlying39 rfl (by as_aux_lemma => kernel_rfl)) rfl ⟨rfl, hb _ _⟩
theorem f_any (h : Hp) (a : Int) (Ba : Nat) (W : World) (ha : W.cell? ⟨Ba, 0, none⟩ = some (.int .i64 a)) : Calls Tryd.prog 18 #[h.val, .pointer (some ⟨Ba, 0, none⟩)] W fun e W' => e = .returned (Kd.phF a h).val ∧ Below W.heap.size W W' := by
  have hb : ∀ o1 o2, Below W.heap.size W ((W.alloc o1).alloc o2) := fun o1 o2 => ((Below.refl _ _).alloc (Nat.le_refl _) _).alloc (by simp) _
  have hl := World.block_lt_of_cell? W ⟨Ba, 0, none⟩ ha
  dsimp only at hl
  go_enter Tryd.func18, Tryd.ntmps18
  go_wp2
  exact bodyPost_ret (results_cell_row rfl _ _ (W.heap.size + 1) 39 #[.int .i64 h.k, .int .i64 (bits BinOp.xor IntKind.i64 h.n a)] (0, 0) _ rfl (heap_alloc2_new _ _ _) Tryd.underlying39 rfl (by as_aux_lemma => kernel_rfl)) rfl ⟨rfl, hb _ _⟩
theorem g_any (h : Hp) (b : Int) (Bb : Nat) (W : World) (ha : W.cell? ⟨Bb, 0, none⟩ = some (.int .i64 b)) : Calls Tryd.prog 19 #[h.val, .pointer (some ⟨Bb, 0, none⟩)] W fun e W' => e = .returned (Kd.phG b h).val ∧ Below W.heap.size W W' := by
  have hb : ∀ o1 o2, Below W.heap.size W ((W.alloc o1).alloc o2) := fun o1 o2 => ((Below.refl _ _).alloc (Nat.le_refl _) _).alloc (by simp) _
  have hl := World.block_lt_of_cell? W ⟨Bb, 0, none⟩ ha
  dsimp only at hl
  go_enter Tryd.func19, Tryd.ntmps19
  go_wp2
  exact bodyPost_ret (results_cell_row rfl _ _ (W.heap.size + 1) 39 #[.int .i64 (bits BinOp.xor IntKind.i64 h.k 1), .int .i64 (bits BinOp.xor IntKind.i64 h.n b)] (0, 0) _ rfl (heap_alloc2_new _ _ _) Tryd.underlying39 rfl (by as_aux_lemma => kernel_rfl)) rfl ⟨rfl, hb _ _⟩
set_option maxHeartbeats 8000000 in
theorem both_any (h : Hp) (a b : Int) (Ba Bb Bf Bg : Nat) (W : World) (ha : W.cell? ⟨Ba, 0, none⟩ = some (.int .i64 a)) (hb : W.cell? ⟨Bb, 0, none⟩ = some (.int .i64 b))
    (hf : W.cell? ⟨Bf, 0, none⟩ = some (.func (.func 18) #[] #[.pointer (some ⟨Ba, 0, none⟩)])) (hg : W.cell? ⟨Bg, 0, none⟩ = some (.func (.func 19) #[] #[.pointer (some ⟨Bb, 0, none⟩)])) :
    Calls Tryd.prog 20 #[h.val, .pointer (some ⟨Bg, 0, none⟩), .pointer (some ⟨Bf, 0, none⟩)] W fun e W' => e = .returned (Kd.phG b (Kd.phF a h)).val ∧ Below W.heap.size W W' := by
  have hlf := World.block_lt_of_cell? W ⟨Bf, 0, none⟩ hf
  have hlg := World.block_lt_of_cell? W ⟨Bg, 0, none⟩ hg
  dsimp only at hlf hlg
  have HA := Lib.hid ha
  have HB := Lib.hid hb
  clear ha hb
  obtain ⟨Q, hQ⟩ : ∃ Q : Ending → World → Prop, Q = (fun e W' => e = .returned (Kd.phG b (Kd.phF a h)).val ∧ Below W.heap.size W W') := ⟨_, rfl⟩
  rw [← hQ]
  have HQ := Lib.hid hQ
  clear hQ
  have hla := World.block_lt_of_cell? W ⟨Ba, 0, none⟩ HA.out
  have hlb := World.block_lt_of_cell? W ⟨Bb, 0, none⟩ HB.out
  dsimp only at hla hlb
  have he1 : ∀ args w, (callFunc 18 args).run Tryd.prog w = .ok (.enter 18 args) w := enters_of Tryd.func18 (by kernel_rfl) rfl
  have he2 : ∀ args w, (callFunc 19 args).run Tryd.prog w = .ok (.enter 19 args) w := enters_of Tryd.func19 (by kernel_rfl) rfl
  obtain ⟨W2, hW2⟩ : ∃ W2, W2 = ((W.alloc (.cells #[.int .i64 h.k, .int .i64 h.n] 39)).alloc (.cells #[.int .i64 0, .int .i64 0] 39)) := ⟨_, rfl⟩
  have hbW : Below W.heap.size W W2 := by rw [hW2]; exact ((Below.refl _ _).alloc (Nat.le_refl _) _).alloc (by simp) _
  have hz : W2.heap.size = W.heap.size + 2 := by rw [hW2]; simp
  have x0 : W2.cell? ⟨W.heap.size, 0, none⟩ = some (.int .i64 h.k) := by rw [hW2]; go_simp
  have x1 : W2.cell? ⟨W.heap.size, 1, none⟩ = some (.int .i64 h.n) := by rw [hW2]; go_simp
  have r0 : W2.heap[W.heap.size + 1]? = some (.cells #[.int .i64 0, .int .i64 0] 39 (0, 0)) := by rw [hW2]; exact heap_alloc2_new _ _ _
  have hf2 := (hbW.cell (p := ⟨Bf, 0, none⟩) hlf).trans hf
  have hg2 := (hbW.cell (p := ⟨Bg, 0, none⟩) hlg).trans hg
  have FA : Hid (∀ X, Below W2.heap.size W2 X → Calls Tryd.prog 18 #[h.val, .pointer (some ⟨Ba, 0, none⟩)] X fun e X' => e = .returned (Kd.phF a h).val ∧ Below X.heap.size X X') := Lib.hid fun X hx =>
    f_any h a Ba X ((hx.cell (p := ⟨Ba, 0, none⟩) (by dsimp only; omega)).trans ((hbW.cell (p := ⟨Ba, 0, none⟩) hla).trans HA.out))
  have GA : Hid (∀ X, Below W2.heap.size W2 X → Calls Tryd.prog 19 #[(Kd.phF a h).val, .pointer (some ⟨Bb, 0, none⟩)] X fun e X' => e = .returned (Kd.phG b (Kd.phF a h)).val ∧ Below X.heap.size X X') := Lib.hid fun X hx =>
    g_any (Kd.phF a h) b Bb X ((hx.cell (p := ⟨Bb, 0, none⟩) (by dsimp only; omega)).trans ((hbW.cell (p := ⟨Bb, 0, none⟩) hlb).trans HB.out))
  obtain ⟨y, hy⟩ : ∃ y, Kd.phF a h = y := ⟨_, rfl⟩
  obtain ⟨z, hz'⟩ : ∃ z, Kd.phG b y = z := ⟨_, rfl⟩
  rw [hy] at FA GA HQ
  rw [hz'] at GA HQ
  have HbW := Lib.hid hbW
  have HW2 := Lib.hid hW2
  have HR0 := Lib.hid r0
  clear hbW hW2 r0 hf hg hy hz' hla hlb HA HB
  go_enter Tryd.func20, Tryd.ntmps20
  go_wp2_with fail
  rw [← HW2.out]
  have hf3 : Hid (∀ X, Below W2.heap.size W2 X → (∀ i, X.cell? ⟨W.heap.size + 1, i, none⟩ = W2.cell? ⟨W.heap.size + 1, i, none⟩) ∧ (∀ i, X.frozen? ⟨W.heap.size + 1, i, none⟩ = false)) := Lib.hid fun X hx => by
    have hb := hx.block (W.heap.size + 1) (by omega)
    exact ⟨fun i => World.cell?_of_block (w := W2) (a := ⟨W.heap.size + 1, i, none⟩) hb, fun i => by rw [World.frozen?_of_block (w := W2) (a := ⟨W.heap.size + 1, i, none⟩) hb]; exact frozen_of_row _ _ _ _ _ HR0.out⟩
  have z0 : W2.cell? ⟨W.heap.size + 1, 0, none⟩ = some (.int .i64 0) := cell_of_row W2 _ 0 _ _ (0, 0) HR0.out
  have z1 : W2.cell? ⟨W.heap.size + 1, 1, none⟩ = some (.int .i64 0) := cell_of_row W2 _ 1 _ _ (0, 0) HR0.out
  have hlg2 : Bg < W2.heap.size := by omega
  have HB0 : Hid (Below W2.heap.size W2 W2.drew) := Lib.hid (Below.refl _ _).drew
  go_region_with (first
    | (go_at_fn 18; refine (FA.out _ HB0.out).mono ?_; rintro e w3 ⟨rfl, hb3⟩; have HB3 := Lib.hid (HB0.out.trans hb3); have hg3 := (HB3.out.cell (p := ⟨Bg, 0, none⟩) hlg2).trans hg2)
    | (go_at_fn 19; refine (GA.out _ HB3.out).mono ?_; rintro e w4 ⟨rfl, hb4⟩; have HB4 := Lib.hid (HB3.out.trans (hb4.mono HB3.out.size)); have p0 := ((hf3.out _ HB4.out).1 0).trans z0; have p1 := ((hf3.out _ HB4.out).1 1).trans z1; have p2 := (hf3.out _ HB4.out).2 0; have p3 := (hf3.out _ HB4.out).2 1))
  all_goals
    have hR : Hid (w4.heap[W.heap.size + 1]? = some (.cells #[.int .i64 0, .int .i64 0] 39 (0, 0))) := Lib.hid ((HB4.out.block _ (by omega)).trans HR0.out)
    have hB5 : Hid (Below W.heap.size W ((w4.setCell ⟨W.heap.size + 1, 0, none⟩ (.int .i64 z.k)).setCell ⟨W.heap.size + 1, 1, none⟩ (.int .i64 z.n))) := Lib.hid (((HbW.out.trans (HB4.out.mono HbW.out.size)).setCell (p := ⟨W.heap.size + 1, 0, none⟩) (by dsimp only; omega) _).setCell (p := ⟨W.heap.size + 1, 1, none⟩) (by dsimp only; omega) _)
    go_wp2
    refine bodyPost_ret (results_cell_row rfl _ _ (W.heap.size + 1) 39 #[.int .i64 z.k, .int .i64 z.n] (0, 0) _ rfl (heap_setCell_same _ _ 1 _ _ _ (heap_setCell_same _ _ 0 _ _ _ hR.out)) Tryd.underlying39 rfl (by as_aux_lemma => kernel_rfl)) rfl ?_
    rw [HQ.out]
    exact ⟨rfl, hB5.out⟩
end Go.Proofs.YtkdhjejchdcipaaDoor
/-
  Layer 4: Map for a function value that answers the same in any later world; what KindMaps' walk knows of its boxes.
-/
namespace Go.Proofs.YtkdhjejchdcipaaDoor
open Go.RowKit
set_option linter.unusedVariables false
set_option linter.unusedSimpArgs false
set_option maxRecDepth 100000

theorem slice_segA {α : Type} {e ts sz B n c : Nat} {A : Option Addr} {cs : α → List Value} {w : World} {l : List α} (hE : Elem e ts sz cs) (h : OwnG e sz cs B w (.slice A n c) l) : Seg sz cs w w.heap.size A c l := by
  obtain ⟨A', c', e1, h1⟩ := h.seg hE
  injection e1 with e1 e2 e3
  subst e1 e3
  exact h1
theorem OwnSub.isSub {B : Nat} {w : World} {v : Value} {s : Sb} (h : OwnSub B w v s) : IsSub w w.heap.size v s := by
  obtain ⟨A1, c1, A2, c2, A3, c3, A4, c4, e, h1, h2, h3, h4, -⟩ := h.h
  exact ⟨A1, c1, A2, c2, A3, c3, A4, c4, e, slice_segA elemH h1, slice_segA elemV h2, slice_segA elemV h3, slice_segA elemF h4⟩
theorem Map_plain (p : Hp → Hp) (s : Sb) (x : Value) (w : World) (h : IsSub w w.heap.size x s) (hS : Kd.Small s) (fid : Nat) (lb : Array Value) (he : ∀ args w, (callFunc fid args).run Tryd.prog w = .ok (.enter fid args) w)
    (hf : ∀ h W, Below w.heap.size w W → Calls Tryd.prog fid (#[h.val] ++ lb) W fun e W' => e = .returned (p h).val ∧ Below W.heap.size W W') :
    Calls Tryd.prog 13 #[x, .func (.func fid) #[] lb] w fun e w' => ∃ v, e = .returned v ∧ IsSub w' w'.heap.size v (Kd.withS s ((Kd.heaps s).map p)) ∧ Below w.heap.size w w' := by
  refine (map_any (fun (a : Unit) h => (a, p h)) (fun _ W => Below w.heap.size w W) s x w h hS fid lb he (fun _ _ => False) (fun _ _ h => h.elim) ?_ () (Below.refl _ _) ?_).mono ?_
  · intro _ A C hA hC
    exact hA.trans hC
  · intro a h W hW
    exact (hf h W hW).mono fun e W' ⟨h1, h2⟩ => ⟨h1, hW.trans (h2.mono hW.size), Keep.of_below h2⟩
  · rintro e w' ⟨⟨v, rfl, ho⟩, -, hk⟩
    rw [mapS_map] at ho
    exact ⟨v, rfl, ho.isSub, hk.below (Nat.le_refl _) (fun _ _ _ h => h)⟩
theorem small_of60 {s : Sb} (h : Kd.great s = false) : Kd.Small s := by
  have := Kd.great_no h
  exact ⟨by omega, by omega, by omega, by omega⟩
section
variable {w W W' : World} {n0 a b : Nat}
/-- KindMaps' boxes: the type, two numbers, two functions. -/
structure Mp (w W : World) (v0 v1 v2 v3 v4 v5 : Value) (a b : Int) (Bf Bg : Nat) : Prop where
  below : Below w.heap.size w W
  six : Six W w.heap.size v0 v1 v2 v3 v4 v5
  ca : W.cell? ⟨w.heap.size + 1, 0, none⟩ = some (.int .i64 a)
  cb : W.cell? ⟨w.heap.size + 1 + 1, 0, none⟩ = some (.int .i64 b)
  cf : W.cell? ⟨Bf, 0, none⟩ = some (.func (.func 18) #[] #[.pointer (some ⟨w.heap.size + 1, 0, none⟩)])
  cg : W.cell? ⟨Bg, 0, none⟩ = some (.func (.func 19) #[] #[.pointer (some ⟨w.heap.size + 1 + 1, 0, none⟩)])
theorem cell_on {W W' : World} {g o : Nat} {v : Value} (h : W.cell? ⟨g, o, none⟩ = some v) (hb : Below W.heap.size W W') : W'.cell? ⟨g, o, none⟩ = some v :=
  (hb.cell (p := ⟨g, o, none⟩) (World.block_lt_of_cell? W ⟨g, o, none⟩ h)).trans h
theorem Mp.on {v0 v1 v2 v3 v4 v5 : Value} {a b : Int} {Bf Bg : Nat} (h : Mp w W v0 v1 v2 v3 v4 v5 a b Bf Bg) (hb : Below W.heap.size W W') : Mp w W' v0 v1 v2 v3 v4 v5 a b Bf Bg :=
  ⟨below_trans h.below hb, ⟨cell_on h.six.c0 hb, cell_on h.six.c1 hb, cell_on h.six.c2 hb, cell_on h.six.c3 hb, cell_on h.six.c4 hb, cell_on h.six.c5 hb⟩, cell_on h.ca hb, cell_on h.cb hb, cell_on h.cf hb, cell_on h.cg hb⟩
theorem enters_f : ∀ args w, (callFunc 18 args).run Tryd.prog w = .ok (.enter 18 args) w := enters_of Tryd.func18 (by kernel_rfl) rfl
theorem enters_g : ∀ args w, (callFunc 19 args).run Tryd.prog w = .ok (.enter 19 args) w := enters_of Tryd.func19 (by kernel_rfl) rfl
theorem enters_stay : ∀ args w, (callFunc 17 args).run Tryd.prog w = .ok (.enter 17 args) w := enters_of Tryd.func17 (by kernel_rfl) rfl
theorem enters_both : ∀ args w, (callFunc 20 args).run Tryd.prog w = .ok (.enter 20 args) w := enters_of Tryd.func20 (by kernel_rfl) rfl
end
theorem heap_alloc_at (w : World) (o : Obj) : (w.alloc o).heap[w.heap.size]? = some o := Array.getElem?_push_size
theorem set_below {B g : Nat} {w W : World} (h : Below B w W) (hg : B ≤ g) (cs : Array Value) : Below B w (W.setRow g cs) :=
  ⟨h.os, h.tape, h.output, by rw [size_setRow]; exact h.size, fun k hk => (setRow_other W g k cs (by omega)).trans (h.block k hk)⟩
/-- A box that holds a value type. -/
def BoxW (y : World) (g : Nat) (v : Vl) : Prop := y.heap[g]? = some (.cells #[.int .i64 v.k, .bool v.nu, .int .i64 v.h.k, .int .i64 v.h.n] 46 (0, 0))
theorem BoxW.on {y z : World} {g : Nat} {v : Vl} (h : BoxW y g v) (hb : Below y.heap.size y z) : BoxW z g v := (hb.block g (Array.getElem?_eq_some_iff.1 h).1).trans h
theorem BoxW.lt {y : World} {g : Nat} {v : Vl} (h : BoxW y g v) : g < y.heap.size := (Array.getElem?_eq_some_iff.1 h).1
theorem BoxW.cells {y : World} {g : Nat} {v : Vl} (h : BoxW y g v) : y.cell? ⟨g, 0, none⟩ = some (.int .i64 v.k) ∧ y.cell? ⟨g, 1, none⟩ = some (.bool v.nu) ∧ y.cell? ⟨g, 2, none⟩ = some (.int .i64 v.h.k) ∧ y.cell? ⟨g, 3, none⟩ = some (.int .i64 v.h.n) :=
  ⟨cell_of_row y g 0 _ _ (0, 0) h, cell_of_row y g 1 _ _ (0, 0) h, cell_of_row y g 2 _ _ (0, 0) h, cell_of_row y g 3 _ _ (0, 0) h⟩
/-- A box of one cell that is filled. -/
theorem store_box (w : World) (u v : Value) (t : TypeId) (h1 : v.oneCell' = true) : ∃ z, (store ⟨w.heap.size, 0, none⟩ v).run Tryd.prog (w.alloc (.cells #[u] t)) = .ok () z ∧ Below w.heap.size w z ∧ z.heap.size = w.heap.size + 1 ∧ z.cell? ⟨w.heap.size, 0, none⟩ = some v := by
  have hh := heap_alloc_at w (.cells #[u] t)
  have hc : (w.alloc (.cells #[u] t)).cell? ⟨w.heap.size, 0, none⟩ = some u := cell_of_row _ _ 0 _ _ (0, 0) hh
  have hf : (w.alloc (.cells #[u] t)).frozen? ⟨w.heap.size, 0, none⟩ = false := frozen_of_row _ _ _ _ _ hh
  refine ⟨(w.alloc (.cells #[u] t)).setCell ⟨w.heap.size, 0, none⟩ v, ?_, ((Below.refl _ _).alloc (Nat.le_refl _) _).setCell (p := ⟨w.heap.size, 0, none⟩) (Nat.le_refl _) _, by simp, ?_⟩
  · rw [run_store _ _ _ _ _ h1, hc, hf]
    rfl
  · have h2 := heap_setCell_same _ _ 0 _ _ v hh
    exact cell_of_row _ _ 0 _ _ (0, 0) h2
theorem boxed (y : World) (v : Vl) : ∃ z, z = (y.alloc (.cells #[.int .i64 0, .bool false, .int .i64 0, .int .i64 0] 46)).setRow y.heap.size #[.int .i64 v.k, .bool v.nu, .int .i64 v.h.k, .int .i64 v.h.n] ∧
    (y.alloc (.cells #[.int .i64 0, .bool false, .int .i64 0, .int .i64 0] 46)).heap[y.heap.size]? = some (.cells #[.int .i64 0, .bool false, .int .i64 0, .int .i64 0] 46 (0, 0)) ∧ BoxW z y.heap.size v ∧ Below y.heap.size y z :=
  ⟨_, rfl, heap_alloc_at _ _, setRow_heap _ _ _ _ _ _ (heap_alloc_at _ _), set_below ((Below.refl _ _).alloc (Nat.le_refl _) _) (Nat.le_refl _) _⟩
/-- What one rule makes of a value type. -/
def Kd.mv (p : Hp → Hp) (v : Vl) : Vl := if v.k = 3 then ⟨v.k, v.nu, p v.h⟩ else v
theorem Kd.mv_mv (p q : Hp → Hp) (v : Vl) : Kd.mv q (Kd.mv p v) = Kd.mv (q ∘ p) v := by
  unfold Kd.mv
  by_cases h : v.k = 3
  · rw [if_pos h, if_pos h, if_pos h]; rfl
  · rw [if_neg h, if_neg h, if_neg h]
theorem mv_one (p : Hp → Hp) (v : Vl) (fid : Nat) (lb : Array Value) (he : ∀ args w, (callFunc fid args).run Tryd.prog w = .ok (.enter fid args) w) (W : World)
    (hf : ∀ h X, Below W.heap.size W X → Calls Tryd.prog fid (#[h.val] ++ lb) X fun e X' => e = .returned (p h).val ∧ Below X.heap.size X X') :
    Calls Tryd.prog 21 #[v.val, .func (.func fid) #[] lb] W fun e W' => e = .returned (Kd.mv p v).val ∧ Below W.heap.size W W' :=
  mapVal_any v (p v.h) fid lb he W (hf v.h)
/-- The three rules, in whatever later world. -/
theorem Mp.f {w W : World} {v0 v1 v2 v3 v4 v5 : Value} {a b : Int} {Bf Bg : Nat} (h : Mp w W v0 v1 v2 v3 v4 v5 a b Bf Bg) (x : Hp) (X : World) (hX : Below W.heap.size W X) :
    Calls Tryd.prog 18 (#[x.val] ++ #[.pointer (some ⟨w.heap.size + 1, 0, none⟩)]) X fun e X' => e = .returned (Kd.phF a x).val ∧ Below X.heap.size X X' := f_any x a _ X (cell_on h.ca hX)
theorem Mp.g {w W : World} {v0 v1 v2 v3 v4 v5 : Value} {a b : Int} {Bf Bg : Nat} (h : Mp w W v0 v1 v2 v3 v4 v5 a b Bf Bg) (x : Hp) (X : World) (hX : Below W.heap.size W X) :
    Calls Tryd.prog 19 (#[x.val] ++ #[.pointer (some ⟨w.heap.size + 1 + 1, 0, none⟩)]) X fun e X' => e = .returned (Kd.phG b x).val ∧ Below X.heap.size X X' := g_any x b _ X (cell_on h.cb hX)
theorem Mp.both {w W : World} {v0 v1 v2 v3 v4 v5 : Value} {a b : Int} {Bf Bg : Nat} (h : Mp w W v0 v1 v2 v3 v4 v5 a b Bf Bg) (x : Hp) (X : World) (hX : Below W.heap.size W X) :
    Calls Tryd.prog 20 (#[x.val] ++ #[.pointer (some ⟨Bg, 0, none⟩), .pointer (some ⟨Bf, 0, none⟩)]) X fun e X' => e = .returned ((Kd.phG b ∘ Kd.phF a) x).val ∧ Below X.heap.size X X' :=
  both_any x a b _ _ Bf Bg X (cell_on h.ca hX) (cell_on h.cb hX) (cell_on h.cf hX) (cell_on h.cg hX)
theorem run_neqV_same (x : Vl) (w : World) : (binOp .neq 46 x.val x.val).run Tryd.prog w = .ok (.bool false) w := by
  have h := run_neqV x x w
  rw [decide_eq_true (rfl : x = x)] at h
  exact h
/-- A heap type is stored in a box. -/
theorem box_store (y : World) (g : Nat) (v : Vl) (x : Hp) (h : BoxW y g v) (B : Nat) (hg : B ≤ g) :
    ∃ z, z = (y.setCell ⟨g, 2, none⟩ (.int .i64 x.k)).setCell ⟨g, 3, none⟩ (.int .i64 x.n) ∧ BoxW z g ⟨v.k, v.nu, x⟩ ∧ Below B y z ∧ y.frozen? ⟨g, 2, none⟩ = false ∧ y.frozen? ⟨g, 3, none⟩ = false :=
  ⟨_, rfl, heap_setCell_same _ _ 3 _ _ _ (heap_setCell_same _ _ 2 _ _ _ h), ((Below.refl _ _).setCell (p := ⟨g, 2, none⟩) hg _).setCell (p := ⟨g, 3, none⟩) hg _, frozen_of_row _ _ _ _ _ h, frozen_of_row _ _ _ _ _ h⟩
end Go.Proofs.YtkdhjejchdcipaaDoor
/-
  geodelaw04.KindMaps: the walk.
-/
namespace Go.Proofs.YtkdhjejchdcipaaDoor
open Go.RowKit
attribute [local go_sem ↓] Go.wp_at_zero Go.wp_at_succ
attribute [local go_sem] Oper.semAt_some
set_option linter.unusedVariables false
set_option linter.unusedSimpArgs false
set_option maxRecDepth 100000

set_option maxHeartbeats 16000000 in
theorem KindMaps_walk (w : World) (hT : Tabs w) (s : Sb) (x : Value) (hs : IsSub w w.heap.size x s) (ws : WfS s) (a : Int) (wa : (Lit.int .i64 a).wf = true) (b : Int) (wb : (Lit.int .i64 b).wf = true) :
    Calls Tryd.prog 4 #[x, .int .i64 a, .int .i64 b] w fun e w' => e = .returned (.bool true) ∧ Below w.heap.size w w' := by
  obtain ⟨Q, hQ⟩ : ∃ Q : Ending → World → Prop, Q = (fun e w' => e = .returned (.bool true) ∧ Below w.heap.size w w') := ⟨_, rfl⟩
  rw [← hQ]
  have HQ := Lib.hid hQ
  have HIs := Lib.hid hs
  obtain ⟨A1, c1, A2, c2, A3, c3, A4, c4, rfl, g1, g2, g3, g4⟩ := hs
  have G2 := Lib.hid g2
  obtain ⟨w0, hw0⟩ : ∃ w0, w0 = ((w.alloc (.cells #[.bool s.fin, .slice A1 s.sups.length c1, .int .i64 s.c.k, .slice A2 s.c.ps.length c2, .slice A3 s.c.rs.length c3, .slice A4 s.c.fs.length c4] 29)).alloc (.cells #[.int .i64 a] 3)).alloc (.cells #[.int .i64 b] 3) := ⟨_, rfl⟩
  have hb0 : Below w.heap.size w w0 := by rw [hw0]; exact (((Below.refl _ _).alloc (Nat.le_refl _) _).alloc (by simp) _).alloc (by simp; omega) _
  have hsix : Six w0 w.heap.size (.bool s.fin) (.slice A1 s.sups.length c1) (.int .i64 s.c.k) (.slice A2 s.c.ps.length c2) (.slice A3 s.c.rs.length c3) (.slice A4 s.c.fs.length c4) := by
    rw [hw0]; exact ⟨by go_simp, by go_simp, by go_simp, by go_simp, by go_simp, by go_simp⟩
  have hca : w0.cell? ⟨w.heap.size + 1, 0, none⟩ = some (.int .i64 a) := by rw [hw0]; go_simp
  have hcb : w0.cell? ⟨w.heap.size + 2, 0, none⟩ = some (.int .i64 b) := by rw [hw0]; go_simp
  have HW0 := Lib.hid hw0
  have HK := Lib.hid (known4_any w0 (hT.below hb0))
  have HB0 := Lib.hid hb0
  have HSix := Lib.hid hsix
  have HCA := Lib.hid hca
  have HCB := Lib.hid hcb
  clear hQ hT ws wa wb g1 g2 g3 g4 hw0 hb0 hsix hca hcb
  go_enter Tryd.func4, Tryd.ntmps4
  go_wp2_with fail
  rw [← HW0.out]
  refine HK.out.mono ?_
  rintro e w1 ⟨rfl, hb1⟩
  have HB1 := Lib.hid (below_trans HB0.out hb1)
  have HSix1 : Hid (Six w1 w.heap.size (.bool s.fin) (.slice A1 s.sups.length c1) (.int .i64 s.c.k) (.slice A2 s.c.ps.length c2) (.slice A3 s.c.rs.length c3) (.slice A4 s.c.fs.length c4)) := Lib.hid ⟨cell_on HSix.out.c0 hb1, cell_on HSix.out.c1 hb1, cell_on HSix.out.c2 hb1, cell_on HSix.out.c3 hb1, cell_on HSix.out.c4 hb1, cell_on HSix.out.c5 hb1⟩
  have HCA1 := Lib.hid (cell_on HCA.out hb1)
  have HCB1 := Lib.hid (cell_on HCB.out hb1)
  clear hb1 HW0 HK HB0 HSix HCA HCB
  obtain ⟨x0, x1, x2, x3, x4, x5⟩ := HSix1.out
  go_wp2_with fail
  refine (great_any s _ _ _ ((HIs.out.below HB1.out).more HB1.out.size)).mono ?_
  rintro e w2 ⟨rfl, hb2⟩
  have HB2 := Lib.hid (below_trans HB1.out hb2)
  have HSix2 : Hid (Six w2 w.heap.size (.bool s.fin) (.slice A1 s.sups.length c1) (.int .i64 s.c.k) (.slice A2 s.c.ps.length c2) (.slice A3 s.c.rs.length c3) (.slice A4 s.c.fs.length c4)) := Lib.hid ⟨cell_on x0 hb2, cell_on x1 hb2, cell_on x2 hb2, cell_on x3 hb2, cell_on x4 hb2, cell_on x5 hb2⟩
  have HCA2 := Lib.hid (cell_on HCA1.out hb2)
  have HCB2 := Lib.hid (cell_on HCB1.out hb2)
  clear hb2 x0 x1 x2 x3 x4 x5 HB1 HSix1 HCA1 HCB1
  cases hg : Kd.great s with
  | true =>
    go_wp2
    rw [HQ.out]
    exact ⟨rfl, HB2.out⟩
  | false =>
    have HSm := Lib.hid (small_of60 hg)
    have H60 := Lib.hid (Kd.great_no hg).2.1
    clear hg
    obtain ⟨w3, hrf, hb3, hz3, hcf⟩ := store_box w2 .nilFunc (.func (.func 18) #[] #[.pointer (some ⟨w.heap.size + 1, 0, none⟩)]) 41 rfl
    obtain ⟨w4, hrg, hb4, hz4, hcg⟩ := store_box w3 .nilFunc (.func (.func 19) #[] #[.pointer (some ⟨w.heap.size + 1 + 1, 0, none⟩)]) 41 rfl
    rw [hz3] at hrg hcg hz4
    have M4 : Hid (Mp w w4 (.bool s.fin) (.slice A1 s.sups.length c1) (.int .i64 s.c.k) (.slice A2 s.c.ps.length c2) (.slice A3 s.c.rs.length c3) (.slice A4 s.c.fs.length c4) a b w2.heap.size (w2.heap.size + 1)) :=
      Lib.hid ⟨below_trans (below_trans HB2.out hb3) hb4, ⟨cell_on (cell_on HSix2.out.c0 hb3) hb4, cell_on (cell_on HSix2.out.c1 hb3) hb4, cell_on (cell_on HSix2.out.c2 hb3) hb4, cell_on (cell_on HSix2.out.c3 hb3) hb4, cell_on (cell_on HSix2.out.c4 hb3) hb4, cell_on (cell_on HSix2.out.c5 hb3) hb4⟩, cell_on (cell_on HCA2.out hb3) hb4, cell_on (cell_on HCB2.out hb3) hb4, cell_on hcf hb4, hcg⟩
    clear hb3 hb4 hcf hcg HB2 HSix2 HCA2 HCB2
    generalize hN : w2.heap.size = N2 at *
    go_wp2_with fail
    clear hrf hrg hz3 hz4
    go_loopw [11] (fun i wr => Hid (Mp w wr (.bool s.fin) (.slice A1 s.sups.length c1) (.int .i64 s.c.k) (.slice A2 s.c.ps.length c2) (.slice A3 s.c.rs.length c3) (.slice A4 s.c.fs.length c4) a b N2 (N2 + 1)) ∧ ∃ k : Nat, k ≤ s.c.ps.length ∧ i = .int .i64 k) (fun i _ => s.c.ps.length - (intOf i).toNat)
    case atStart => exact ⟨M4, 0, Nat.zero_le _, rfl⟩
    case round =>
      obtain ⟨HM, k, hk, rfl⟩ := hrel
      have x3 := HM.out.six.c3
      by_cases hlt : k < s.c.ps.length
      · obtain ⟨b', off, rfl, hb', hc⟩ := G2.out.2.2 (by omega)
        have g0 := (HM.out.below.cell (p := ⟨b', off + k * 4 + 0, none⟩) hb').trans (hc k hlt 0 _ rfl)
        have g1 := (HM.out.below.cell (p := ⟨b', off + k * 4 + 1, none⟩) hb').trans (hc k hlt 1 _ rfl)
        have g2 := (HM.out.below.cell (p := ⟨b', off + k * 4 + 2, none⟩) hb').trans (hc k hlt 2 _ rfl)
        have g3 := (HM.out.below.cell (p := ⟨b', off + k * 4 + 3, none⟩) hb').trans (hc k hlt 3 _ rfl)
        simp only [Nat.add_zero] at g0
        obtain ⟨v, hv⟩ : ∃ v, v = s.c.ps[k] := ⟨_, rfl⟩
        rw [← hv] at g0 g1 g2 g3
        obtain ⟨y2, hy2⟩ : ∃ y, y = (wr.alloc (.cells #[.int .i64 v.k, .bool v.nu, .int .i64 v.h.k, .int .i64 v.h.n] 46)).alloc (.cells #[.int .i64 v.k, .bool v.nu, .int .i64 v.h.k, .int .i64 v.h.n] 46) := ⟨_, rfl⟩
        have hB2 : Below wr.heap.size wr y2 := by rw [hy2]; exact ((Below.refl _ _).alloc (Nat.le_refl _) _).alloc (by simp) _
        have hz2 : y2.heap.size = wr.heap.size + 2 := by rw [hy2]; simp
        have HX1 : Hid (BoxW y2 wr.heap.size v) := Lib.hid (by rw [hy2]; exact heap_alloc2_old _ _ _)
        have HX2 : Hid (BoxW y2 (wr.heap.size + 1) v) := Lib.hid (by rw [hy2]; exact heap_alloc2_new _ _ _)
        have HY2 := Lib.hid hy2
        have HB2 := Lib.hid hB2
        have HZ2 := Lib.hid hz2
        have HM2 := Lib.hid (HM.out.on hB2)
        have hltf : N2 < wr.heap.size := World.block_lt_of_cell? wr ⟨N2, 0, none⟩ HM.out.cf
        have hcfw := HM.out.cf
        have HR : Hid (∀ (m : Exit → Act → World → Prop), True) := Lib.hid fun _ => trivial
        clear hc hv hy2 hB2 hz2
        cases h3 : decide (v.k = 3)
        case' true =>
          have hk3 : (v.k == 3) = true := by rw [of_decide_eq_true h3]; rfl
          have HV3 : Hid (v.k = 3) := Lib.hid (of_decide_eq_true h3)
          clear h3
          go_wp2_with fail
          rw [← HY2.out]
          refine (HM2.out.f v.h _ (Below.refl _ _)).mono ?_
          rintro e y3 ⟨rfl, hb3⟩
          have HX31 := Lib.hid (HX1.out.on hb3)
          have HX32 := Lib.hid (HX2.out.on hb3)
          have HM3 := Lib.hid (HM2.out.on hb3)
          obtain ⟨z, hz, hzx, hzb, hf2, hf3⟩ := box_store y3 (wr.heap.size + 1) v (Kd.phF a v.h) HX32.out wr.heap.size (by omega)
          have HZE := Lib.hid hz
          have HB3 := Lib.hid hb3
          obtain ⟨-, -, p2, p3⟩ := HX32.out.cells
          clear hz hb3
          go_wp2_with fail
          rw [← HZE.out]
          have HE1 : Hid (Kd.mv (Kd.phF a) v = ⟨v.k, v.nu, Kd.phF a v.h⟩) := Lib.hid (if_pos HV3.out)
          have HXz : Hid (BoxW z (wr.heap.size + 1) (Kd.mv (Kd.phF a) v)) := Lib.hid (by rw [HE1.out]; exact hzx)
          have HBz : Hid (Below wr.heap.size wr z) := Lib.hid ((HB2.out.trans (HB3.out.mono HB2.out.size)).trans hzb)
          have HX1z : Hid (BoxW z wr.heap.size v) := Lib.hid (by
            have h1 := HX31.out
            unfold BoxW at h1 ⊢
            rw [HZE.out, heap_setCell_other _ _ _ _ (by dsimp only; omega), heap_setCell_other _ _ _ _ (by dsimp only; omega)]
            exact h1)
          clear hzx hzb hf2 hf3 p2 p3 HZE HB3 HX31 HX32 HM3 HE1
        case' false =>
          have hk3 : (v.k == 3) = false := beq_eq_false_iff_ne.2 (of_decide_eq_false h3)
          have HV3 : Hid (¬ v.k = 3) := Lib.hid (of_decide_eq_false h3)
          clear h3
          go_wp2_with fail
          rw [← HY2.out]
          obtain ⟨z, hz⟩ : ∃ z, z = y2 := ⟨_, rfl⟩
          rw [← hz]
          have HXz : Hid (BoxW z (wr.heap.size + 1) (Kd.mv (Kd.phF a) v)) := Lib.hid (by rw [hz, show Kd.mv (Kd.phF a) v = v from if_neg HV3.out]; exact HX2.out)
          have HBz : Hid (Below wr.heap.size wr z) := Lib.hid (by rw [hz]; exact HB2.out)
          have HX1z : Hid (BoxW z wr.heap.size v) := Lib.hid (by rw [hz]; exact HX1.out)
          clear hz
        all_goals
          have HMz := Lib.hid (HM.out.on HBz.out)
          clear HX1 HX2 HY2 HZ2 HM2 hcfw HR hk3 HV3 g0 g1 g2 g3 x3 HB2
          have hlz1 : wr.heap.size < z.heap.size := HX1z.out.lt
          have hlz2 : wr.heap.size + 1 < z.heap.size := HXz.out.lt
          have hlz3 : N2 < z.heap.size := World.block_lt_of_cell? z ⟨N2, 0, none⟩ HMz.out.cf
          have hlz4 : N2 + 1 < z.heap.size := World.block_lt_of_cell? z ⟨N2 + 1, 0, none⟩ HMz.out.cg
          obtain ⟨m0, m1, m2, m3⟩ := HX1z.out.cells
          obtain ⟨n0, n1, n2, n3⟩ := HXz.out.cells
          have q0 := fun x : Aft z => x.cell hlz1 m0
          have q1 := fun x : Aft z => x.cell hlz1 m1
          have q2 := fun x : Aft z => x.cell hlz1 m2
          have q3 := fun x : Aft z => x.cell hlz1 m3
          have u0 := fun x : Aft z => x.cell hlz2 n0
          have u1 := fun x : Aft z => x.cell hlz2 n1
          have u2 := fun x : Aft z => x.cell hlz2 n2
          have u3 := fun x : Aft z => x.cell hlz2 n3
          have uf := fun x : Aft z => x.cell hlz3 HMz.out.cf
          have ug := fun x : Aft z => x.cell hlz4 HMz.out.cg
          have MA : Hid (∀ W, Below z.heap.size z W → Calls Tryd.prog 21 #[v.val, .func (.func 18) #[] #[.pointer (some ⟨w.heap.size + 1, 0, none⟩)]] W fun e W' => e = .returned (Kd.mv (Kd.phF a) v).val ∧ Below W.heap.size W W') := Lib.hid fun W hW => mv_one _ v _ _ enters_f W fun h X hX => HMz.out.f h X (below_trans hW hX)
          have MB : Hid (∀ W, Below z.heap.size z W → Calls Tryd.prog 21 #[(Kd.mv (Kd.phF a) v).val, .func (.func 19) #[] #[.pointer (some ⟨w.heap.size + 1 + 1, 0, none⟩)]] W fun e W' => e = .returned (Kd.mv (Kd.phG b ∘ Kd.phF a) v).val ∧ Below W.heap.size W W') := Lib.hid fun W hW => by
            rw [← Kd.mv_mv]
            exact mv_one _ _ _ _ enters_g W fun h X hX => HMz.out.g h X (below_trans hW hX)
          have MC : Hid (∀ W, Below z.heap.size z W → Calls Tryd.prog 21 #[v.val, .func (.func 20) #[] #[.pointer (some ⟨N2 + 1, 0, none⟩), .pointer (some ⟨N2, 0, none⟩)]] W fun e W' => e = .returned (Kd.mv (Kd.phG b ∘ Kd.phF a) v).val ∧ Below W.heap.size W W') := Lib.hid fun W hW => mv_one _ v _ _ enters_both W fun h X hX => HMz.out.both h X (below_trans hW hX)
          obtain ⟨v1, hv1⟩ : ∃ v1, Kd.mv (Kd.phF a) v = v1 := ⟨_, rfl⟩
          obtain ⟨v3, hv3⟩ : ∃ v3, Kd.mv (Kd.phG b ∘ Kd.phF a) v = v3 := ⟨_, rfl⟩
          rw [hv1] at MA MB u0 u1 u2 u3
          rw [hv3] at MB MC
          have ne1 := fun w => run_neqV_same v1 w
          have ne3 := fun w => run_neqV_same v3 w
          have hbz : Below z.heap.size z z := Below.refl _ _
          have inst := Aft.ne z
          have HFIN : Hid (∀ n : Aft z, Mp w n.W (.bool s.fin) (.slice A1 s.sups.length c1) (.int .i64 s.c.k) (.slice (some ⟨b', off, none⟩) s.c.ps.length c2) (.slice A3 s.c.rs.length c3) (.slice A4 s.c.fs.length c4) a b N2 (N2 + 1)) := Lib.hid fun n => HMz.out.on n.h
          clear hv1 hv3 m0 m1 m2 m3 n0 n1 n2 n3 hlz1 hlz2 hlz3 hlz4 HXz HX1z HMz HBz
          refine region_aft z hbz (by kernel_rfl) (by kernel_rfl) ?_
          repeat (go_big_quiet_step ((first
            | (with_reducible exact Aft.call MA.out _)
            | (with_reducible exact Aft.call MB.out _)
            | (with_reducible exact Aft.call MC.out _))))
          refine wpQuiet_nil ?_
          intro _ hw'
          obtain ⟨n, rfl⟩ := hw'
          have HN := Lib.hid (HFIN.out n)
          clear q0 q1 q2 q3 u0 u1 u2 u3 uf ug MA MB MC ne1 ne3
          have hw : wrap64 ((k : Int) + 1) = (k : Int) + 1 := IntWalk.wrap64_in _ (by have := H60.out; omega)
          go_wp2
          go_roundw
          case rel => exact ⟨HN, k + 1, hlt, by go_num⟩
          case measure =>
            try simp only [hw]
            clear hw
            simp [intOf]
            omega
      · have n0 : ¬ ((k : Int) < (s.c.ps.length : Int)) := by omega
        have x0 := HM.out.six.c0
        have x1 := HM.out.six.c1
        have x2 := HM.out.six.c2
        have x4 := HM.out.six.c4
        have x5 := HM.out.six.c5
        have xf := HM.out.cf
        have xg := HM.out.cg
        have IS : Hid (∀ y, Below wr.heap.size wr y → IsSub y y.heap.size (.agg #[.bool s.fin, .slice A1 s.sups.length c1, .int .i64 s.c.k, .slice A2 s.c.ps.length c2, .slice A3 s.c.rs.length c3, .slice A4 s.c.fs.length c4]) s) := Lib.hid fun y hy => by
          have hb := below_trans HM.out.below hy
          exact (HIs.out.below hb).more hb.size
        obtain ⟨s2, hs2⟩ : ∃ s2, Kd.withS s ((Kd.heaps s).map (Kd.phF a)) = s2 := ⟨_, rfl⟩
        obtain ⟨s3, hs3⟩ : ∃ s3, Kd.withS s2 ((Kd.heaps s2).map (Kd.phG b)) = s3 := ⟨_, rfl⟩
        have he3 : Kd.withS s ((Kd.heaps s).map (Kd.phG b ∘ Kd.phF a)) = s3 := by rw [← hs3, ← hs2]; exact (Kd.maps_twice s _ _).symm
        have HS2 : Hid (Kd.Small s2) := Lib.hid (by rw [← hs2]; exact Kd.withS_small _ HSm.out)
        have HS3 : Hid (Kd.Small s3) := Lib.hid (by rw [← hs3]; exact Kd.withS_small _ HS2.out)
        have C1 : Hid (∀ y, Below wr.heap.size wr y → Calls Tryd.prog 13 #[.agg #[.bool s.fin, .slice A1 s.sups.length c1, .int .i64 s.c.k, .slice A2 s.c.ps.length c2, .slice A3 s.c.rs.length c3, .slice A4 s.c.fs.length c4], .func (.func 17) #[] #[]] y fun e w' => ∃ v, e = .returned v ∧ IsSub w' w'.heap.size v s ∧ Below y.heap.size y w') := Lib.hid fun y hy => by
          have h := Map_plain id s _ y (IS.out y hy) HSm.out 17 #[] enters_stay (fun h W _ => stay_any h W)
          rw [Kd.maps_stay] at h
          exact h
        have C2 : Hid (∀ y, Below wr.heap.size wr y → Calls Tryd.prog 13 #[.agg #[.bool s.fin, .slice A1 s.sups.length c1, .int .i64 s.c.k, .slice A2 s.c.ps.length c2, .slice A3 s.c.rs.length c3, .slice A4 s.c.fs.length c4], .func (.func 18) #[] #[.pointer (some ⟨w.heap.size + 1, 0, none⟩)]] y fun e w' => ∃ v, e = .returned v ∧ IsSub w' w'.heap.size v s2 ∧ Below y.heap.size y w') := Lib.hid fun y hy => by
          have h := Map_plain (Kd.phF a) s _ y (IS.out y hy) HSm.out 18 #[.pointer (some ⟨w.heap.size + 1, 0, none⟩)] enters_f (fun h W hW => HM.out.f h W (below_trans hy hW))
          rw [hs2] at h
          exact h
        have C3 : Hid (∀ y v, Below wr.heap.size wr y → IsSub y y.heap.size v s2 → Calls Tryd.prog 13 #[v, .func (.func 19) #[] #[.pointer (some ⟨w.heap.size + 1 + 1, 0, none⟩)]] y fun e w' => ∃ v, e = .returned v ∧ IsSub w' w'.heap.size v s3 ∧ Below y.heap.size y w') := Lib.hid fun y v hy hi => by
          have h := Map_plain (Kd.phG b) s2 v y hi HS2.out 19 #[.pointer (some ⟨w.heap.size + 1 + 1, 0, none⟩)] enters_g (fun h W hW => HM.out.g h W (below_trans hy hW))
          rw [hs3] at h
          exact h
        have C4 : Hid (∀ y, Below wr.heap.size wr y → Calls Tryd.prog 13 #[.agg #[.bool s.fin, .slice A1 s.sups.length c1, .int .i64 s.c.k, .slice A2 s.c.ps.length c2, .slice A3 s.c.rs.length c3, .slice A4 s.c.fs.length c4], .func (.func 20) #[] #[.pointer (some ⟨N2 + 1, 0, none⟩), .pointer (some ⟨N2, 0, none⟩)]] y fun e w' => ∃ v, e = .returned v ∧ IsSub w' w'.heap.size v s3 ∧ Below y.heap.size y w') := Lib.hid fun y hy => by
          have h := Map_plain (Kd.phG b ∘ Kd.phF a) s _ y (IS.out y hy) HSm.out 20 #[.pointer (some ⟨N2 + 1, 0, none⟩), .pointer (some ⟨N2, 0, none⟩)] enters_both (fun h W hW => HM.out.both h W (below_trans hy hW))
          rw [he3] at h
          exact h
        have SA : Hid (∀ y v, Below wr.heap.size wr y → IsSub y y.heap.size v s → Calls Tryd.prog 22 #[v, .agg #[.bool s.fin, .slice A1 s.sups.length c1, .int .i64 s.c.k, .slice A2 s.c.ps.length c2, .slice A3 s.c.rs.length c3, .slice A4 s.c.fs.length c4]] y fun e w' => e = .returned (.bool true) ∧ Below y.heap.size y w') := Lib.hid fun y v hy hi => by
          have h := same_any s s _ _ y hi (IS.out y hy) HSm.out HSm.out
          rw [decide_eq_true (rfl : s = s)] at h
          exact h
        have SB : Hid (∀ y v u, IsSub y y.heap.size v s3 → IsSub y y.heap.size u s3 → Calls Tryd.prog 22 #[v, u] y fun e w' => e = .returned (.bool true) ∧ Below y.heap.size y w') := Lib.hid fun y v u hi hj => by
          have h := same_any s3 s3 _ _ y hi hj HS3.out HS3.out
          rw [decide_eq_true (rfl : s3 = s3)] at h
          exact h
        have HSO : Hid (∀ y, Below wr.heap.size wr y → y.cell? ⟨w.heap.size, 0, none⟩ = some (.bool s.fin) ∧ y.cell? ⟨w.heap.size, 1, none⟩ = some (.slice A1 s.sups.length c1) ∧ y.cell? ⟨w.heap.size, 2, none⟩ = some (.int .i64 s.c.k) ∧ y.cell? ⟨w.heap.size, 3, none⟩ = some (.slice A2 s.c.ps.length c2) ∧ y.cell? ⟨w.heap.size, 4, none⟩ = some (.slice A3 s.c.rs.length c3) ∧ y.cell? ⟨w.heap.size, 5, none⟩ = some (.slice A4 s.c.fs.length c4) ∧
            y.cell? ⟨N2, 0, none⟩ = some (.func (.func 18) #[] #[.pointer (some ⟨w.heap.size + 1, 0, none⟩)]) ∧ y.cell? ⟨N2 + 1, 0, none⟩ = some (.func (.func 19) #[] #[.pointer (some ⟨w.heap.size + 1 + 1, 0, none⟩)]) ∧ Below wr.heap.size wr y) := Lib.hid fun y hy =>
          ⟨cell_on x0 hy, cell_on x1 hy, cell_on x2 hy, cell_on x3 hy, cell_on x4 hy, cell_on x5 hy, cell_on xf hy, cell_on xg hy, hy⟩
        have HBW := Lib.hid HM.out.below
        have BW : Below wr.heap.size wr wr := Below.refl _ _
        clear hs2 hs3 he3 HS2 HS3 HSm H60 HIs G2 IS HM hN M4 hk
        go_wp2_with fail
        go_region_held3 (fun w' => w'.cell? ⟨w.heap.size, 0, none⟩ = some (.bool s.fin) ∧ w'.cell? ⟨w.heap.size, 1, none⟩ = some (.slice A1 s.sups.length c1) ∧ w'.cell? ⟨w.heap.size, 2, none⟩ = some (.int .i64 s.c.k) ∧ w'.cell? ⟨w.heap.size, 3, none⟩ = some (.slice A2 s.c.ps.length c2) ∧ w'.cell? ⟨w.heap.size, 4, none⟩ = some (.slice A3 s.c.rs.length c3) ∧ w'.cell? ⟨w.heap.size, 5, none⟩ = some (.slice A4 s.c.fs.length c4) ∧
            w'.cell? ⟨N2, 0, none⟩ = some (.func (.func 18) #[] #[.pointer (some ⟨w.heap.size + 1, 0, none⟩)]) ∧ w'.cell? ⟨N2 + 1, 0, none⟩ = some (.func (.func 19) #[] #[.pointer (some ⟨w.heap.size + 1 + 1, 0, none⟩)]) ∧ Below wr.heap.size wr w')
          (first
            | exact HSO.out _ HB6.out
            | exact HSO.out _ HB5.out
            | exact HSO.out _ HB4.out
            | exact HSO.out _ HB3.out
            | exact HSO.out _ HB2.out
            | exact HSO.out _ HB1.out
            | exact HSO.out _ BW
            | exact HSO.out _ BW.drew)
          (((try go_split_ands); (first
            | ((with_reducible refine (C1.out _ (by assumption)).mono ?_); rintro e y1 ⟨v1, rfl, hi, hbb⟩; have HI1 := Lib.hid hi; have HB1 : Hid (Below wr.heap.size wr y1) := Lib.hid (below_trans (by assumption) hbb); clear hi hbb)
            | ((with_reducible refine (SA.out _ _ (by assumption) HI1.out).mono ?_); rintro e y2 ⟨rfl, hbb⟩; have HB2 : Hid (Below wr.heap.size wr y2) := Lib.hid (below_trans HB1.out hbb); clear hbb)
            | ((with_reducible refine (C2.out _ (by assumption)).mono ?_); rintro e y3 ⟨v3, rfl, hi, hbb⟩; have HI3 := Lib.hid hi; have HB3 : Hid (Below wr.heap.size wr y3) := Lib.hid (below_trans HB2.out hbb); clear hi hbb)
            | ((with_reducible refine (C3.out _ _ (by assumption) HI3.out).mono ?_); rintro e y4 ⟨v4, rfl, hi, hbb⟩; have HI4 := Lib.hid hi; have HB4 : Hid (Below wr.heap.size wr y4) := Lib.hid (below_trans HB3.out hbb); clear hi hbb)
            | ((with_reducible refine (C4.out _ (by assumption)).mono ?_); rintro e y5 ⟨v5, rfl, hi, hbb⟩; have HI5 := Lib.hid hi; have HI45 := Lib.hid ((HI4.out.below hbb).more hbb.size); have HB5 : Hid (Below wr.heap.size wr y5) := Lib.hid (below_trans HB4.out hbb); clear hi hbb)
            | ((with_reducible refine (SB.out _ _ _ HI45.out HI5.out).mono ?_); rintro e y6 ⟨rfl, hbb⟩; have HB6 : Hid (Below wr.heap.size wr y6) := Lib.hid (below_trans HB5.out hbb); clear hbb))))
        all_goals
          go_wp2
          rw [HQ.out]
          exact ⟨rfl, below_trans HBW.out HB6.out⟩
end Go.Proofs.YtkdhjejchdcipaaDoor
/-
  Layer 4: the listed tables, read off a row's condition; a start that meets it.
-/
namespace Go.Proofs.YtkdhjejchdcipaaDoor
open Go.RowKit
set_option linter.unusedVariables false
set_option maxRecDepth 100000

def laidTab : List (String × DataW Unit) := [("math/bits.deBruijn32tab", Rows.laid_math_bits_deBruijn32tab), ("math/bits.deBruijn64tab", Rows.laid_math_bits_deBruijn64tab), ("internal/strconv.uint64pow10", Rows.laid_internal_strconv_uint64pow10), ("geode/kind.heapNames", Rows.laid_geode_kind_heapNames)]
theorem tPow : (Tryd.prog.globals[2]?).map (·.type) = some 227 := by kernel_rfl
theorem tNames : (Tryd.prog.globals[0]?).map (·.type) = some 171 := by kernel_rfl
theorem cU64 : Tryd.prog.cellsOf 65 = 1 := by kernel_rfl
theorem cPow : Tryd.prog.cellsOf 227 = 20 := by kernel_rfl
theorem cStr : Tryd.prog.cellsOf 9 = 1 := by kernel_rfl
theorem cNames : Tryd.prog.cellsOf 171 = 13 := by kernel_rfl

/-- An array of strings as a row lists it. -/
def strData {H : Type} (zs : List (List UInt8)) : DataW H := .agg (zs.map fun z => .lit (.string z))
def nameList : List (List UInt8) := [[], [97, 110, 121], [101, 113], [105, 51, 49], [115, 116, 114, 117, 99, 116], [97, 114, 114, 97, 121], [110, 111, 110, 101], [102, 117, 110, 99], [110, 111, 102, 117, 110, 99], [101, 120, 116, 101, 114, 110], [110, 111, 101, 120, 116, 101, 114, 110], [101, 120, 110], [110, 111, 101, 120, 110]]
theorem names_eq : Rows.laid_geode_kind_heapNames (H := Unit) = strData nameList := rfl
theorem pow_eq : Rows.laid_internal_strconv_uint64pow10 (H := Unit) = Lib.tabData .u64 Lib.pow10Tab := rfl
theorem cells_of_strs {H : Type} {enc : TypeId × Value → H} {P : Program} {w : World} {base : Nat} {sp : Nat → Bool} {held : Bool} {fuel : Nat} {t e : TypeId} {n : Nat} {cs : List Value} {zs : List (List UInt8)} {p : List MemPlace}
    (ht : P.underlying t = some (.array n e)) (he : P.underlying e = some .string) (hce : P.cellsOf e = 1) (hct : P.cellsOf t = n)
    (h : DataW.trod enc P w base sp held fuel t cs = some (strData zs, p)) : cs = zs.map fun z => Value.string ⟨z.toArray⟩ := by
  cases fuel with
  | zero => simp [DataW.trod] at h
  | succ fuel =>
    simp only [DataW.trod, ht, hce, hct, Nat.mul_one] at h
    split at h
    · rename_i hl
      obtain ⟨xs, hm, hx⟩ := Option.map_eq_some_iff.1 h
      have hxs : xs.map (·.1) = zs.map fun z => (DataW.lit (.string z) : DataW H) := by
        have := congrArg Prod.fst hx
        simpa [strData] using this
      have hxl : xs.length = n := by simpa using Lib.mapM_length hm
      have hzl : zs.length = n := by
        have := congrArg List.length hxs
        simp at this
        omega
      apply List.ext_getElem?
      intro i
      by_cases hi : i < n
      · obtain ⟨b, hb, hf⟩ := Lib.mapM_at hm i i (by simp [hi])
        obtain ⟨z, hc, rfl, _⟩ := DataW.trod_string he hf
        have h1 : cs[i]? = some (.string z) := by
          have := congrArg (·[0]?) hc
          simpa [List.getElem?_take, List.getElem?_drop] using this
        have h2 : (xs.map (·.1))[i]? = some (DataW.lit (.string z.data.toList) : DataW H) := by simp [hb]
        rw [hxs] at h2
        simp only [List.getElem?_map, Option.map_eq_some_iff, DataW.lit.injEq, Lit.string.injEq] at h2
        obtain ⟨z', hz', e⟩ := h2
        simp [h1, hz', e]
      · rw [List.getElem?_eq_none (by omega), List.getElem?_eq_none (by simp; omega)]
    · cases h
theorem tabs_of_laid {W : World} (h : laidMetH Tryd.prog laidTab W) : Tabs W := by
  rw [MakeChecks.laidMetH_plain _ _ _ (by kernel_rfl)] at h
  have h3 : laidMet Tryd.prog [("internal/strconv.uint64pow10", Lib.tabData .u64 Lib.pow10Tab), ("geode/kind.heapNames", strData nameList)] W := by
    have := h.tail.tail
    rw [pow_eq, names_eq] at this
    exact this
  refine ⟨Lib.tabIs_of_head gPow tPow Tryd.underlying227 Tryd.underlying65 cU64 cPow h3, fun j h1 hj => ?_⟩
  obtain ⟨ps, ⟨g', t', cs, fuel, p, q, hg', ht', hvar, hd, _, _⟩, _⟩ := h3.tail
  obtain rfl := Option.some.inj (gNames.symm.trans hg')
  obtain rfl := Option.some.inj (tNames.symm.trans ht')
  have hcs := cells_of_strs Tryd.underlying171 Tryd.underlying9 cStr cNames hd
  have hv := World.var?_cell gNames hvar j
  rw [hv]
  have e : cs[j]? = cs.toList[j]? := by simp
  rw [e, hcs]
  match j, h1, hj with
  | 1, _, _ => rfl
  | 2, _, _ => rfl
  | 3, _, _ => rfl
  | 4, _, _ => rfl
  | 5, _, _ => rfl
  | 6, _, _ => rfl
  | 7, _, _ => rfl
  | 8, _, _ => rfl
  | 9, _, _ => rfl
  | 10, _, _ => rfl
  | 11, _, _ => rfl
  | 12, _, _ => rfl
theorem door_met (os : Os) (args : Array Value) : laidMetH Tryd.prog laidTab ((World.doorLaid Tryd.prog 400 os).forCall (fun _ _ => 0) ⟨#[], args, []⟩).memory :=
  laidMetH_of_parts3 (fuel := 8) (laidMet_of_run' 8 (by kernel_rfl) (by kernel_rfl)) (by kernel_rfl) (by kernel_rfl)
theorem laidOut4 : laidOutB Tryd.prog = true := by kernel_rfl
end Go.Proofs.YtkdhjejchdcipaaDoor

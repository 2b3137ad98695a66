/-
  Layer 4, code: Heaps: the iterator that is handed back.
-/
import Derived.Test.YtlflmobaegfnaaaDoorKdXb
namespace Go.Proofs.YtlflmobaegfnaaaDoor
open Go.RowKit
set_option linter.unusedVariables false
set_option linter.unusedSimpArgs false
set_option maxRecDepth 100000

theorem OwnG.far2 {α : Type} {e sz n b i : Nat} {cs : α → List Value} {w : World} {v u : Value} {l : List α} (h : OwnG e sz cs n w v l) (hb : ∀ g, v.ownBlock = some g → g ≠ b) : OwnG e sz cs n (w.setCell ⟨b, i, none⟩ u) v l :=
  h.kept (Lib.grownBy_setCell w b i u) (fun g hg e => hb g hg (Option.some.inj e).symm)
set_option maxHeartbeats 2000000 in
theorem heapsF_any (s : Sb) (x : Value) (w : World) (h : IsSub w w.heap.size x s) (hS : Kd.Small s) :
    Calls Tryd.prog 13 #[x] w fun e w' => (∃ Bo A1 c1 A2 c2 A3 c3 A4 c4, e = .returned (.func (.func 43) #[] #[.pointer (some ⟨Bo, 0, none⟩)]) ∧
      BoxS w.heap.size w' Bo s (.slice A1 s.sups.length c1) (.slice A2 s.c.ps.length c2) (.slice A3 s.c.rs.length c3) (.slice A4 s.c.fs.length c4)) ∧ Below w.heap.size w w' := by
  obtain ⟨Q, hQ⟩ : ∃ Q : Ending → World → Prop, Q = (fun e w' => (∃ Bo A1 c1 A2 c2 A3 c3 A4 c4, e = .returned (.func (.func 43) #[] #[.pointer (some ⟨Bo, 0, none⟩)]) ∧
      BoxS w.heap.size w' Bo s (.slice A1 s.sups.length c1) (.slice A2 s.c.ps.length c2) (.slice A3 s.c.rs.length c3) (.slice A4 s.c.fs.length c4)) ∧ Below w.heap.size w w') := ⟨_, rfl⟩
  rw [← hQ]
  have hQ' := Lib.hid hQ
  clear hQ
  have H := Lib.hid h
  obtain ⟨A1, c1, A2, c2, A3, c3, A4, c4, rfl, -⟩ := h
  have HB0 : Hid (Below w.heap.size w (w.alloc (.cells #[.bool s.fin, .slice A1 s.sups.length c1, .int .i64 s.c.k, .slice A2 s.c.ps.length c2, .slice A3 s.c.rs.length c3, .slice A4 s.c.fs.length c4] 29))) := Lib.hid ((Below.refl _ _).alloc (Nat.le_refl _) _)
  go_enter Tryd.func13, Tryd.ntmps13
  go_wp2_with (go_at_call 42; refine (fresh_any s _ _ ((H.out.below HB0.out).more (by simp)) hS).mono ?_; rintro e w2 ⟨⟨v, rfl, ⟨B1, d1, B2, d2, B3, d3, B4, d4, rfl, o1, o2, o3, o4, a12, a13, a14, a23, a24, a34⟩⟩, hb2⟩; have O1 := Lib.hid o1; have O2 := Lib.hid o2; have O3 := Lib.hid o3; have O4 := Lib.hid o4; have HB2 := Lib.hid hb2; clear o1 o2 o3 o4 hb2)
  rw [hQ'.out]
  have h1 := HB2.out.size
  rw [World.size_alloc] at h1
  have hlo : w.heap.size ≤ (w.alloc (.cells #[.bool s.fin, .slice A1 s.sups.length c1, .int .i64 s.c.k, .slice A2 s.c.ps.length c2, .slice A3 s.c.rs.length c3, .slice A4 s.c.fs.length c4] 29)).heap.size := by simp
  refine ⟨⟨w2.heap.size, B1, d1, B2, d2, B3, d3, B4, d4, rfl, ⟨by go_simp, by go_simp, by go_simp, by go_simp, by go_simp, by go_simp, (O1.out.alloc _).base hlo, (O2.out.alloc _).base hlo, (O3.out.alloc _).base hlo, (O4.out.alloc _).base hlo, a12, a13, a14, a23, a24, a34, by omega⟩⟩, ?_⟩
  exact (HB0.out.trans (HB2.out.mono hlo)).alloc (by omega) _
end Go.Proofs.YtlflmobaegfnaaaDoor

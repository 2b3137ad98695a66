/-
  Layer 4, code: a declared type whose lists are its own.
-/
import Derived.Test.YtlflmobaegfnaaaDoorKdL
namespace Go.Proofs.YtlflmobaegfnaaaDoor
open Go.RowKit
set_option linter.unusedVariables false
set_option maxRecDepth 100000

theorem OwnG.far {α : Type} {e sz n b i : Nat} {cs : α → List Value} {w : World} {v u : Value} {l : List α} (h : OwnG e sz cs n w v l) (hb : b < n) : OwnG e sz cs n (w.setCell ⟨b, i, none⟩ u) v l :=
  h.kept (Lib.grownBy_setCell w b i u) (fun g hg e => by have := (h.lt g hg).1; have := Option.some.inj e; omega)
theorem Ap.new {v v' : Value} {n : Nat} (h : ∀ g, v.ownBlock = some g → g < n) (h' : ∀ g, v'.ownBlock = some g → n ≤ g) : Ap v v' := fun g e e' => by
  have := h g e; have := h' g e'; omega
/-- A type whose four lists lie in rows of their own, from block B on. -/
structure OwnSub (B : Nat) (w : World) (v : Value) (s : Sb) : Prop where
  h : ∃ A1 c1 A2 c2 A3 c3 A4 c4, v = .agg #[.bool s.fin, .slice A1 s.sups.length c1, .int .i64 s.c.k, .slice A2 s.c.ps.length c2, .slice A3 s.c.rs.length c3, .slice A4 s.c.fs.length c4] ∧
    OwnG 39 2 Hp.cs B w (.slice A1 s.sups.length c1) s.sups ∧ OwnG 46 4 Vl.cs B w (.slice A2 s.c.ps.length c2) s.c.ps ∧ OwnG 46 4 Vl.cs B w (.slice A3 s.c.rs.length c3) s.c.rs ∧ OwnG 50 6 Fd.cs B w (.slice A4 s.c.fs.length c4) s.c.fs ∧
    Ap (.slice A1 s.sups.length c1) (.slice A2 s.c.ps.length c2) ∧ Ap (.slice A1 s.sups.length c1) (.slice A3 s.c.rs.length c3) ∧ Ap (.slice A1 s.sups.length c1) (.slice A4 s.c.fs.length c4) ∧ Ap (.slice A2 s.c.ps.length c2) (.slice A3 s.c.rs.length c3) ∧ Ap (.slice A2 s.c.ps.length c2) (.slice A4 s.c.fs.length c4) ∧ Ap (.slice A3 s.c.rs.length c3) (.slice A4 s.c.fs.length c4)

set_option maxHeartbeats 2000000 in
theorem fresh_any (s : Sb) (x : Value) (w : World) (h : IsSub w w.heap.size x s) (hS : Kd.Small s) :
    Calls Tryd.prog 42 #[x] w fun e w' => (∃ v, e = .returned v ∧ OwnSub w.heap.size w' v s) ∧ Below w.heap.size w w' := by
  obtain ⟨Q, hQ⟩ : ∃ Q : Ending → World → Prop, Q = (fun e w' => (∃ v, e = .returned v ∧ OwnSub w.heap.size w' v s) ∧ Below w.heap.size w w') := ⟨_, rfl⟩
  rw [← hQ]
  have hQ' := Lib.hid hQ
  clear hQ
  obtain ⟨A1, c1, A2, c2, A3, c3, A4, c4, rfl, s1, s2, s3, s4⟩ := h
  obtain ⟨fin, sups, k, ps, rs, fs⟩ := s
  obtain ⟨la, lp, lr, lf⟩ := hS
  dsimp only at *
  have HS1 := Lib.hid s1
  have HS2 := Lib.hid s2
  have HS3 := Lib.hid s3
  have HS4 := Lib.hid s4
  have HLa := Lib.hid la
  have HLp := Lib.hid lp
  have HLr := Lib.hid lr
  have HLf := Lib.hid lf
  clear s1 s2 s3 s4 la lp lr lf
  obtain ⟨W0, hW0⟩ : ∃ W0, W0 = (w.alloc (.cells #[.bool fin, .slice A1 sups.length c1, .int .i64 k, .slice A2 ps.length c2, .slice A3 rs.length c3, .slice A4 fs.length c4] 29)).alloc (.cells #[.bool false, .slice none 0 0, .int .i64 0, .slice none 0 0, .slice none 0 0, .slice none 0 0] 29) := ⟨_, rfl⟩
  have HB0 : Hid (Below w.heap.size w W0) := Lib.hid (by rw [hW0]; exact ((Below.refl _ _).alloc (Nat.le_refl _) _).alloc (by simp) _)
  have hsz : W0.heap.size = w.heap.size + 2 := by rw [hW0]; simp
  have x0 : W0.cell? ⟨w.heap.size, 0, none⟩ = some (.bool fin) := by rw [hW0]; go_simp
  have z0 : W0.cell? ⟨w.heap.size + 1, 0, none⟩ = some (.bool false) := by rw [hW0]; go_simp
  have x1 : W0.cell? ⟨w.heap.size, 1, none⟩ = some (.slice A1 sups.length c1) := by rw [hW0]; go_simp
  have z1 : W0.cell? ⟨w.heap.size + 1, 1, none⟩ = some (.slice none 0 0) := by rw [hW0]; go_simp
  have x2 : W0.cell? ⟨w.heap.size, 2, none⟩ = some (.int .i64 k) := by rw [hW0]; go_simp
  have z2 : W0.cell? ⟨w.heap.size + 1, 2, none⟩ = some (.int .i64 0) := by rw [hW0]; go_simp
  have x3 : W0.cell? ⟨w.heap.size, 3, none⟩ = some (.slice A2 ps.length c2) := by rw [hW0]; go_simp
  have z3 : W0.cell? ⟨w.heap.size + 1, 3, none⟩ = some (.slice none 0 0) := by rw [hW0]; go_simp
  have x4 : W0.cell? ⟨w.heap.size, 4, none⟩ = some (.slice A3 rs.length c3) := by rw [hW0]; go_simp
  have z4 : W0.cell? ⟨w.heap.size + 1, 4, none⟩ = some (.slice none 0 0) := by rw [hW0]; go_simp
  have x5 : W0.cell? ⟨w.heap.size, 5, none⟩ = some (.slice A4 fs.length c4) := by rw [hW0]; go_simp
  have z5 : W0.cell? ⟨w.heap.size + 1, 5, none⟩ = some (.slice none 0 0) := by rw [hW0]; go_simp
  have xf : ∀ i, W0.frozen? ⟨w.heap.size, i, none⟩ = false := fun i => by rw [hW0]; go_simp
  have zf : ∀ i, W0.frozen? ⟨w.heap.size + 1, i, none⟩ = false := fun i => by rw [hW0]; go_simp
  have HSZ := Lib.hid hsz
  have hz0a : w.heap.size < W0.heap.size := by omega
  have hz0b : w.heap.size + 1 < W0.heap.size := by omega
  have HW := Lib.hid hW0
  clear hW0 hsz
  go_enter Tryd.func42, Tryd.ntmps42
  go_wp2_with (first
    | (at_builtin; rw [← HW.out]; refine cat_at elemH rfl _ _ rfl W0 sups.length rfl rfl (OwnG.nil _ (w.heap.size + 2)) rfl (HS1.out.below HB0.out) (by have := HSZ.out; omega) sups.length (by have := HLa.out; omega) (by simp) ?_; intro B1 d1 w1 hown1 hg1 hr1; have HG1 := Lib.hid (grownNone hg1 (Nat.le_refl _) (Below.refl _ _)); have HR1 := Lib.hid hr1; have HO1 := Lib.hid hown1; clear hown1 hg1 hr1; obtain ⟨hc1, hf1⟩ := bcell HG1.out; have HB1 := Lib.hid (below_trans2 HB0.out HG1.out); have hz1a := Nat.lt_of_lt_of_le hz0a HG1.out.size; have hz1b := Nat.lt_of_lt_of_le hz0b HG1.out.size)
    | (at_builtin; refine cat_at elemV rfl _ _ rfl (w1.setCell ⟨w.heap.size, 1, none⟩ (.slice B1 sups.length d1)) ps.length rfl rfl (OwnG.nil _ (w.heap.size + 2)) rfl (HS2.out.below (HB1.out.setCell (p := ⟨w.heap.size, 1, none⟩) (Nat.le_refl _) _)) (by have := hz1b; simp; omega) ps.length (by have := HLp.out; omega) (by simp) ?_; intro B2 d2 w2 hown2 hg2 hr2; have HG2 := Lib.hid (grownNone hg2 (Nat.le_refl _) (Below.refl _ _)); have HR2 := Lib.hid hr2; have HO2 := Lib.hid hown2; clear hown2 hg2 hr2; obtain ⟨hc2, hf2⟩ := bcell HG2.out; have HB2 := Lib.hid (below_trans2 (HB1.out.setCell (p := ⟨w.heap.size, 1, none⟩) (Nat.le_refl _) _) HG2.out); have hz2a := Nat.lt_of_lt_of_le hz1a (Nat.le_trans (by simp) HG2.out.size); have hz2b := Nat.lt_of_lt_of_le hz1b (Nat.le_trans (by simp) HG2.out.size))
    | (at_builtin; refine cat_at elemV rfl _ _ rfl (w2.setCell ⟨w.heap.size, 3, none⟩ (.slice B2 ps.length d2)) rs.length rfl rfl (OwnG.nil _ (w.heap.size + 2)) rfl (HS3.out.below (HB2.out.setCell (p := ⟨w.heap.size, 3, none⟩) (Nat.le_refl _) _)) (by have := hz2b; simp; omega) rs.length (by have := HLr.out; omega) (by simp) ?_; intro B3 d3 w3 hown3 hg3 hr3; have HG3 := Lib.hid (grownNone hg3 (Nat.le_refl _) (Below.refl _ _)); have HR3 := Lib.hid hr3; have HO3 := Lib.hid hown3; clear hown3 hg3 hr3; obtain ⟨hc3, hf3⟩ := bcell HG3.out; have HB3 := Lib.hid (below_trans2 (HB2.out.setCell (p := ⟨w.heap.size, 3, none⟩) (Nat.le_refl _) _) HG3.out); have hz3a := Nat.lt_of_lt_of_le hz2a (Nat.le_trans (by simp) HG3.out.size); have hz3b := Nat.lt_of_lt_of_le hz2b (Nat.le_trans (by simp) HG3.out.size))
    | (at_builtin; refine cat_at elemF rfl _ _ rfl (w3.setCell ⟨w.heap.size, 4, none⟩ (.slice B3 rs.length d3)) fs.length rfl rfl (OwnG.nil _ (w.heap.size + 2)) rfl (HS4.out.below (HB3.out.setCell (p := ⟨w.heap.size, 4, none⟩) (Nat.le_refl _) _)) (by have := hz3b; simp; omega) fs.length (by have := HLf.out; omega) (by simp) ?_; intro B4 d4 w4 hown4 hg4 hr4; have HG4 := Lib.hid (grownNone hg4 (Nat.le_refl _) (Below.refl _ _)); have HR4 := Lib.hid hr4; have HO4 := Lib.hid hown4; clear hown4 hg4 hr4; obtain ⟨hc4, hf4⟩ := bcell HG4.out; have HB4 := Lib.hid (below_trans2 (HB3.out.setCell (p := ⟨w.heap.size, 4, none⟩) (Nat.le_refl _) _) HG4.out); have hz4a := Nat.lt_of_lt_of_le hz3a (Nat.le_trans (by simp) HG4.out.size); have hz4b := Nat.lt_of_lt_of_le hz3b (Nat.le_trans (by simp) HG4.out.size)))
  go_wp2
  have y0 : w4.cell? ⟨w.heap.size + 1, 0, none⟩ = some (.bool false) := by simp [hc4, hc3, hc2, hc1, hz0b, hz1b, hz2b, hz3b, z0, World.cell?_setCell_other]
  have y1 : w4.cell? ⟨w.heap.size + 1, 1, none⟩ = some (.slice none 0 0) := by simp [hc4, hc3, hc2, hc1, hz0b, hz1b, hz2b, hz3b, z1, World.cell?_setCell_other]
  have y2 : w4.cell? ⟨w.heap.size + 1, 2, none⟩ = some (.int .i64 0) := by simp [hc4, hc3, hc2, hc1, hz0b, hz1b, hz2b, hz3b, z2, World.cell?_setCell_other]
  have y3 : w4.cell? ⟨w.heap.size + 1, 3, none⟩ = some (.slice none 0 0) := by simp [hc4, hc3, hc2, hc1, hz0b, hz1b, hz2b, hz3b, z3, World.cell?_setCell_other]
  have y4 : w4.cell? ⟨w.heap.size + 1, 4, none⟩ = some (.slice none 0 0) := by simp [hc4, hc3, hc2, hc1, hz0b, hz1b, hz2b, hz3b, z4, World.cell?_setCell_other]
  have y5 : w4.cell? ⟨w.heap.size + 1, 5, none⟩ = some (.slice none 0 0) := by simp [hc4, hc3, hc2, hc1, hz0b, hz1b, hz2b, hz3b, z5, World.cell?_setCell_other]
  clear hc1 hc2 hc3 hc4 hf1 hf2 hf3 hf4
  have t12 : w1.heap.size ≤ w2.heap.size := by have := HG2.out.size; simpa using this
  have t23 : w2.heap.size ≤ w3.heap.size := by have := HG3.out.size; simpa using this
  have t34 : w3.heap.size ≤ w4.heap.size := by have := HG4.out.size; simpa using this
  have O1 := HO1.out
  rw [List.nil_append] at O1
  have b1 := fun g e => (O1.lt g e).2
  have O2 := HO2.out
  rw [List.nil_append] at O2
  have b2 := fun g e => (O2.lt g e).2
  have l2 : ∀ g, (Value.slice B2 ps.length d2).ownBlock = some g → w1.heap.size ≤ g := fun g e => by
    rcases HR2.out g e with h | h
    · cases h
    · simpa using h
  have O3 := HO3.out
  rw [List.nil_append] at O3
  have b3 := fun g e => (O3.lt g e).2
  have l3 : ∀ g, (Value.slice B3 rs.length d3).ownBlock = some g → w2.heap.size ≤ g := fun g e => by
    rcases HR3.out g e with h | h
    · cases h
    · simpa using h
  have O4 := HO4.out
  rw [List.nil_append] at O4
  have b4 := fun g e => (O4.lt g e).2
  have l4 : ∀ g, (Value.slice B4 fs.length d4).ownBlock = some g → w3.heap.size ≤ g := fun g e => by
    rcases HR4.out g e with h | h
    · cases h
    · simpa using h
  have O1 := (OwnG.far (b := w.heap.size) (i := 1) (u := .slice B1 sups.length d1) O1 (by omega)).below HG2.out
  have O1 := (OwnG.far (b := w.heap.size) (i := 3) (u := .slice B2 ps.length d2) O1 (by omega)).below HG3.out
  have O1 := (OwnG.far (b := w.heap.size) (i := 4) (u := .slice B3 rs.length d3) O1 (by omega)).below HG4.out
  have O1 := OwnG.far (b := w.heap.size) (i := 5) (u := .slice B4 fs.length d4) O1 (by omega)
  have O1 := OwnG.far (b := w.heap.size + 1) (i := 0) (u := .bool fin) O1 (by omega)
  have O1 := OwnG.far (b := w.heap.size + 1) (i := 1) (u := .slice B1 sups.length d1) O1 (by omega)
  have O1 := OwnG.far (b := w.heap.size + 1) (i := 2) (u := .int .i64 k) O1 (by omega)
  have O1 := OwnG.far (b := w.heap.size + 1) (i := 3) (u := .slice B2 ps.length d2) O1 (by omega)
  have O1 := OwnG.far (b := w.heap.size + 1) (i := 4) (u := .slice B3 rs.length d3) O1 (by omega)
  have O1 := OwnG.far (b := w.heap.size + 1) (i := 5) (u := .slice B4 fs.length d4) O1 (by omega)
  have O2 := (OwnG.far (b := w.heap.size) (i := 3) (u := .slice B2 ps.length d2) O2 (by omega)).below HG3.out
  have O2 := (OwnG.far (b := w.heap.size) (i := 4) (u := .slice B3 rs.length d3) O2 (by omega)).below HG4.out
  have O2 := OwnG.far (b := w.heap.size) (i := 5) (u := .slice B4 fs.length d4) O2 (by omega)
  have O2 := OwnG.far (b := w.heap.size + 1) (i := 0) (u := .bool fin) O2 (by omega)
  have O2 := OwnG.far (b := w.heap.size + 1) (i := 1) (u := .slice B1 sups.length d1) O2 (by omega)
  have O2 := OwnG.far (b := w.heap.size + 1) (i := 2) (u := .int .i64 k) O2 (by omega)
  have O2 := OwnG.far (b := w.heap.size + 1) (i := 3) (u := .slice B2 ps.length d2) O2 (by omega)
  have O2 := OwnG.far (b := w.heap.size + 1) (i := 4) (u := .slice B3 rs.length d3) O2 (by omega)
  have O2 := OwnG.far (b := w.heap.size + 1) (i := 5) (u := .slice B4 fs.length d4) O2 (by omega)
  have O3 := (OwnG.far (b := w.heap.size) (i := 4) (u := .slice B3 rs.length d3) O3 (by omega)).below HG4.out
  have O3 := OwnG.far (b := w.heap.size) (i := 5) (u := .slice B4 fs.length d4) O3 (by omega)
  have O3 := OwnG.far (b := w.heap.size + 1) (i := 0) (u := .bool fin) O3 (by omega)
  have O3 := OwnG.far (b := w.heap.size + 1) (i := 1) (u := .slice B1 sups.length d1) O3 (by omega)
  have O3 := OwnG.far (b := w.heap.size + 1) (i := 2) (u := .int .i64 k) O3 (by omega)
  have O3 := OwnG.far (b := w.heap.size + 1) (i := 3) (u := .slice B2 ps.length d2) O3 (by omega)
  have O3 := OwnG.far (b := w.heap.size + 1) (i := 4) (u := .slice B3 rs.length d3) O3 (by omega)
  have O3 := OwnG.far (b := w.heap.size + 1) (i := 5) (u := .slice B4 fs.length d4) O3 (by omega)
  have O4 := OwnG.far (b := w.heap.size) (i := 5) (u := .slice B4 fs.length d4) O4 (by omega)
  have O4 := OwnG.far (b := w.heap.size + 1) (i := 0) (u := .bool fin) O4 (by omega)
  have O4 := OwnG.far (b := w.heap.size + 1) (i := 1) (u := .slice B1 sups.length d1) O4 (by omega)
  have O4 := OwnG.far (b := w.heap.size + 1) (i := 2) (u := .int .i64 k) O4 (by omega)
  have O4 := OwnG.far (b := w.heap.size + 1) (i := 3) (u := .slice B2 ps.length d2) O4 (by omega)
  have O4 := OwnG.far (b := w.heap.size + 1) (i := 4) (u := .slice B3 rs.length d3) O4 (by omega)
  have O4 := OwnG.far (b := w.heap.size + 1) (i := 5) (u := .slice B4 fs.length d4) O4 (by omega)
  refine bodyPost_ret (v := .agg #[.bool fin, .slice B1 sups.length d1, .int .i64 k, .slice B2 ps.length d2, .slice B3 rs.length d3, .slice B4 fs.length d4]) (by simp [results, Tryd.results42, go_sem, y0, y1, y2, y3, y4, y5]) rfl ?_
  rw [hQ'.out]
  refine ⟨⟨_, rfl, ⟨B1, d1, B2, d2, B3, d3, B4, d4, rfl, O1.base (by omega), O2.base (by omega), O3.base (by omega), O4.base (by omega), Ap.new b1 l2, Ap.new (n := w2.heap.size) (fun g e => Nat.lt_of_lt_of_le (b1 g e) t12) l3, Ap.new (n := w3.heap.size) (fun g e => Nat.lt_of_lt_of_le (b1 g e) (Nat.le_trans t12 t23)) l4, Ap.new b2 l3, Ap.new (n := w3.heap.size) (fun g e => Nat.lt_of_lt_of_le (b2 g e) t23) l4, Ap.new b3 l4⟩⟩, ?_⟩
  exact ((((((HB4.out.setCell (p := ⟨w.heap.size, 5, none⟩) (Nat.le_refl _) _).setCell (p := ⟨w.heap.size + 1, 0, none⟩) (Nat.le_succ _) _).setCell (p := ⟨w.heap.size + 1, 1, none⟩) (Nat.le_succ _) _).setCell (p := ⟨w.heap.size + 1, 2, none⟩) (Nat.le_succ _) _).setCell (p := ⟨w.heap.size + 1, 3, none⟩) (Nat.le_succ _) _).setCell (p := ⟨w.heap.size + 1, 4, none⟩) (Nat.le_succ _) _).setCell (p := ⟨w.heap.size + 1, 5, none⟩) (Nat.le_succ _) _
end Go.Proofs.YtlflmobaegfnaaaDoor

/-
  Layer 4, the document's side: Copy.
-/
import Derived.Test.YtlflmobaegfnaaaDoorKdM
namespace Go.Proofs.YtlflmobaegfnaaaDoor
open Go.RowKit
attribute [local go_sem ↓] Go.wp_at_zero Go.wp_at_succ
set_option linter.unusedVariables false
set_option maxRecDepth 100000

namespace Kd
theorem withV_refs : ∀ (a : List Vl) (r : List Hp), withV a (refs a ++ r) = a
  | [], _ => rfl
  | x :: a, r => by
    rw [withV, refs_cons]
    unfold setV restV
    by_cases h : x.k = 3
    · simp only [h, if_true, List.cons_append, List.nil_append, List.headD_cons, List.tail_cons]
      rw [withV_refs a r]
      obtain ⟨k, nu, hh⟩ := x
      dsimp only at h
      subst h
      rfl
    · simp only [h, if_false, List.nil_append]
      rw [withV_refs a r]
theorem withF_refs : ∀ (a : List Fd) (r : List Hp), withF a (refs (a.map Fd.v) ++ r) = a
  | [], _ => rfl
  | x :: a, r => by
    rw [withF, List.map_cons, refs_cons]
    unfold setF setV restV
    by_cases h : x.v.k = 3
    · simp only [h, if_true, List.cons_append, List.nil_append, List.headD_cons, List.tail_cons]
      rw [withF_refs a r]
      obtain ⟨p, ⟨k, nu, hh⟩, m⟩ := x
      dsimp only at h
      subst h
      rfl
    · simp only [h, if_false, List.nil_append]
      rw [withF_refs a r]
theorem withS_heaps (s : Sb) : withS s (heaps s) = s := by
  obtain ⟨fin, sups, k, ps, rs, fs⟩ := s
  unfold withS heaps allV
  dsimp only
  rw [refs_append, refs_append]
  have e1 : (sups ++ (refs ps ++ refs rs ++ refs (fs.map Fd.v))).take sups.length = sups := by simp
  have e2 : (sups ++ (refs ps ++ refs rs ++ refs (fs.map Fd.v))).drop sups.length = refs ps ++ (refs rs ++ refs (fs.map Fd.v)) := by simp
  have e3 : (sups ++ (refs ps ++ refs rs ++ refs (fs.map Fd.v))).drop (sups.length + (refs ps).length) = refs rs ++ refs (fs.map Fd.v) := by
    rw [← List.drop_drop, e2]; simp
  have e4 : (sups ++ (refs ps ++ refs rs ++ refs (fs.map Fd.v))).drop (sups.length + (refs ps).length + (refs rs).length) = refs (fs.map Fd.v) ++ [] := by
    rw [← List.drop_drop, e3]; simp
  rw [e1, e2, e3, e4, withV_refs, withV_refs, withF_refs]
theorem heaps_le (s : Sb) (h : Small s) : (heaps s).length ≤ 400 := by
  rw [heads]
  have h1 := refs_len s.c.ps
  have h2 := refs_len s.c.rs
  have h3 := refs_len (s.c.fs.map Fd.v)
  rw [List.length_map] at h3
  have := h.a; have := h.p; have := h.r; have := h.f
  omega
end Kd

/-- Six cells of a block stay, and stay writable. -/
theorem six_keep {W w3 : World} {b : Nat} {u0 u1 u2 u3 u4 u5 : Value} (h : Below W.heap.size W w3) (hlt : b < W.heap.size) (c0 : W.cell? ⟨b, 0, none⟩ = some u0) (c1 : W.cell? ⟨b, 1, none⟩ = some u1) (c2 : W.cell? ⟨b, 2, none⟩ = some u2) (c3 : W.cell? ⟨b, 3, none⟩ = some u3) (c4 : W.cell? ⟨b, 4, none⟩ = some u4) (c5 : W.cell? ⟨b, 5, none⟩ = some u5) :
    w3.cell? ⟨b, 0, none⟩ = some u0 ∧ w3.cell? ⟨b, 1, none⟩ = some u1 ∧ w3.cell? ⟨b, 2, none⟩ = some u2 ∧ w3.cell? ⟨b, 3, none⟩ = some u3 ∧ w3.cell? ⟨b, 4, none⟩ = some u4 ∧ w3.cell? ⟨b, 5, none⟩ = some u5 :=
  ⟨(h.cell (p := ⟨b, 0, none⟩) hlt).trans c0, (h.cell (p := ⟨b, 1, none⟩) hlt).trans c1, (h.cell (p := ⟨b, 2, none⟩) hlt).trans c2, (h.cell (p := ⟨b, 3, none⟩) hlt).trans c3, (h.cell (p := ⟨b, 4, none⟩) hlt).trans c4, (h.cell (p := ⟨b, 5, none⟩) hlt).trans c5⟩
set_option maxHeartbeats 2000000 in
theorem copy_any (s : Sb) (x : Value) (w : World) (h : IsSub w w.heap.size x s) (hS : Kd.Small s) :
    Calls Tryd.prog 11 #[x] w fun e w' => (∃ v, e = .returned v ∧ IsSub w' w'.heap.size v s ∧ NewSub w.heap.size v) ∧ Below w.heap.size w w' := by
  obtain ⟨Q, hQ⟩ : ∃ Q : Ending → World → Prop, Q = (fun e w' => (∃ v, e = .returned v ∧ IsSub w' w'.heap.size v s ∧ NewSub w.heap.size v) ∧ Below w.heap.size w w') := ⟨_, rfl⟩
  rw [← hQ]
  have hQ' := Lib.hid hQ
  clear hQ
  have HI := Lib.hid h
  have HS := Lib.hid hS
  obtain ⟨A1, c1, A2, c2, A3, c3, A4, c4, rfl, _, _, _, _⟩ := h
  clear hS
  obtain ⟨w2, hw2⟩ : ∃ w2, w2 = (w.alloc (.cells #[.bool s.fin, .slice A1 s.sups.length c1, .int .i64 s.c.k, .slice A2 s.c.ps.length c2, .slice A3 s.c.rs.length c3, .slice A4 s.c.fs.length c4] 29)).alloc (.cells #[.bool false, .slice none 0 0, .int .i64 0, .slice none 0 0, .slice none 0 0, .slice none 0 0] 29) := ⟨_, rfl⟩
  have XB : Hid (Below w.heap.size w w2) := Lib.hid (by rw [hw2]; exact ((Below.refl _ _).alloc (Nat.le_refl _) _).alloc (by simp) _)
  have hx0 : w2.cell? ⟨w.heap.size, 0, none⟩ = some (.bool s.fin) := by rw [hw2]; go_simp
  have hx1 : w2.cell? ⟨w.heap.size, 1, none⟩ = some (.slice A1 s.sups.length c1) := by rw [hw2]; go_simp
  have hx2 : w2.cell? ⟨w.heap.size, 2, none⟩ = some (.int .i64 s.c.k) := by rw [hw2]; go_simp
  have hx3 : w2.cell? ⟨w.heap.size, 3, none⟩ = some (.slice A2 s.c.ps.length c2) := by rw [hw2]; go_simp
  have hx4 : w2.cell? ⟨w.heap.size, 4, none⟩ = some (.slice A3 s.c.rs.length c3) := by rw [hw2]; go_simp
  have hx5 : w2.cell? ⟨w.heap.size, 5, none⟩ = some (.slice A4 s.c.fs.length c4) := by rw [hw2]; go_simp
  go_enter Tryd.func11, Tryd.ntmps11
  go_wp2
  rw [← hw2]
  have hy0 : Hid (w2.cell? ⟨w.heap.size + 1, 0, none⟩ = some (.bool false)) := Lib.hid (by rw [hw2]; go_simp)
  have hy1 : Hid (w2.cell? ⟨w.heap.size + 1, 1, none⟩ = some (.slice none 0 0)) := Lib.hid (by rw [hw2]; go_simp)
  have hy2 : Hid (w2.cell? ⟨w.heap.size + 1, 2, none⟩ = some (.int .i64 0)) := Lib.hid (by rw [hw2]; go_simp)
  have hy3 : Hid (w2.cell? ⟨w.heap.size + 1, 3, none⟩ = some (.slice none 0 0)) := Lib.hid (by rw [hw2]; go_simp)
  have hy4 : Hid (w2.cell? ⟨w.heap.size + 1, 4, none⟩ = some (.slice none 0 0)) := Lib.hid (by rw [hw2]; go_simp)
  have hy5 : Hid (w2.cell? ⟨w.heap.size + 1, 5, none⟩ = some (.slice none 0 0)) := Lib.hid (by rw [hw2]; go_simp)
  have hyf : Hid (∀ i, w2.frozen? ⟨w.heap.size + 1, i, none⟩ = false) := Lib.hid (fun i => by rw [hw2]; go_simp)
  have hsz : Hid (w2.heap.size = w.heap.size + 1 + 1) := Lib.hid (by rw [hw2]; simp)
  have hl0 : Hid (w.heap.size < w2.heap.size) := Lib.hid (by rw [hsz.out]; omega)
  have hl1 : Hid (w.heap.size + 1 < w2.heap.size) := Lib.hid (by rw [hsz.out]; omega)
  clear hw2
  have CH := Lib.hid (refHeaps_any s _ w2.drew ((HI.out.below XB.out.drew).more XB.out.drew.size) HS.out)
  have CW : Hid (∀ (W : World) (A : Option Addr) (c : Nat), Below w2.heap.size w2 W → Seg 2 Hp.cs W W.heap.size A c (Kd.heaps s) → Calls Tryd.prog 17 #[.agg #[.bool s.fin, .slice A1 s.sups.length c1, .int .i64 s.c.k, .slice A2 s.c.ps.length c2, .slice A3 s.c.rs.length c3, .slice A4 s.c.fs.length c4], .slice A (Kd.heaps s).length c] W fun e w' => (∃ v, e = .returned v ∧ IsSub w' w'.heap.size v s ∧ NewSub W.heap.size v) ∧ Below W.heap.size W w') := Lib.hid fun W A c hW hseg => by
    have hb := XB.out.trans (hW.mono XB.out.size)
    have h := with_any s _ W (Kd.heaps s) A c ((HI.out.below hb).more hb.size) HS.out hseg (Nat.le_refl _) (by have := Kd.heaps_le s HS.out; omega)
    rw [Kd.withS_heaps] at h
    exact h
  clear HI HS
  go_region_with (first
    | (go_at_call 12; ((with_reducible refine CH.out.mono ?_); rintro e w3 ⟨⟨v, rfl, hown⟩, hb3⟩; obtain ⟨A5, c5, rfl, hs5⟩ := hown.seg elemH; have HS5 := Lib.hid hs5; have HB3 : Hid (Below w2.heap.size w2 w3) := Lib.hid (Below.trans (Below.refl _ _).drew hb3); obtain ⟨a0, a1, a2, a3, a4, a5⟩ := six_keep HB3.out hl0.out hx0 hx1 hx2 hx3 hx4 hx5; clear hown hs5 hb3))
    | (go_at_call 17; ((with_reducible refine (CW.out _ _ _ HB3.out HS5.out).mono ?_); rintro e w4 ⟨⟨v, rfl, hI, hN⟩, hb4⟩; have HI4 := Lib.hid hI; have HN4 := Lib.hid (hN.le HB3.out.size); obtain ⟨B1, d1, B2, d2, B3, d3, B4, d4, rfl, _⟩ := hI; have HB4 := Lib.hid (HB3.out.trans (hb4.mono HB3.out.size)); obtain ⟨z0, z1, z2, z3, z4, z5⟩ := six_keep HB4.out hl1.out hy0.out hy1.out hy2.out hy3.out hy4.out hy5.out; have zf := fun i => (HB4.out.frozen (p := ⟨w.heap.size + 1, i, none⟩) hl1.out).trans (hyf.out i); clear hb4 hN)))
  all_goals go_wp2
  all_goals
    refine bodyPost_ret (v := .agg #[.bool s.fin, .slice B1 s.sups.length d1, .int .i64 s.c.k, .slice B2 s.c.ps.length d2, .slice B3 s.c.rs.length d3, .slice B4 s.c.fs.length d4]) (by simp [results, Tryd.results11, go_sem, z0, z1, z2, z3, z4, z5]) rfl ?_
    rw [hQ'.out]
    have hs4 := HB4.out.size
    refine ⟨⟨_, rfl, ?_, HN4.out.le (by rw [hsz.out]; omega)⟩, ?_⟩
    · have h0 := HI4.out.set (Nat.le_refl _) HN4.out hl1.out (i := 0) (u := .bool s.fin)
      have h1 := h0.set (by simp) HN4.out hl1.out (i := 1) (u := .slice B1 s.sups.length d1)
      have h2 := h1.set (by simp) HN4.out hl1.out (i := 2) (u := .int .i64 s.c.k)
      have h3 := h2.set (by simp) HN4.out hl1.out (i := 3) (u := .slice B2 s.c.ps.length d2)
      have h4 := h3.set (by simp) HN4.out hl1.out (i := 4) (u := .slice B3 s.c.rs.length d3)
      have h5 := h4.set (by simp) HN4.out hl1.out (i := 5) (u := .slice B4 s.c.fs.length d4)
      exact h5.more (by simp)
    · exact ((((((XB.out.trans (HB4.out.mono (Nat.le_of_lt hl0.out))).setCell (p := ⟨w.heap.size + 1, 0, none⟩) (Nat.le_succ _) _).setCell (p := ⟨w.heap.size + 1, 1, none⟩) (Nat.le_succ _) _).setCell (p := ⟨w.heap.size + 1, 2, none⟩) (Nat.le_succ _) _).setCell (p := ⟨w.heap.size + 1, 3, none⟩) (Nat.le_succ _) _).setCell (p := ⟨w.heap.size + 1, 4, none⟩) (Nat.le_succ _) _).setCell (p := ⟨w.heap.size + 1, 5, none⟩) (Nat.le_succ _) _
end Go.Proofs.YtlflmobaegfnaaaDoor

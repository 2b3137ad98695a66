/-
  Layer 4, the document's side: all heap types of a type.
-/
import Derived.Test.YtlflmobaegfnaaaDoorKdE
import Derived.Test.YtlflmobaegfnaaaDoorKitR
import Derived.Deep.RegionHeld3
import Derived.Deep.DrawnRows
namespace Go.Proofs.YtlflmobaegfnaaaDoor
open Go.RowKit
attribute [local go_sem ↓] Go.wp_at_zero Go.wp_at_succ
set_option linter.unusedVariables false
set_option maxRecDepth 100000

namespace Kd
def isRef (v : Vl) : Bool := decide (v.k = 3)
def refs (l : List Vl) : List Hp := (l.filter isRef).map Vl.h
def allV (c : Cp) : List Vl := c.ps ++ c.rs ++ c.fs.map Fd.v
def heaps (s : Sb) : List Hp := s.sups ++ refs (allV s.c)
theorem refs_append (l m : List Vl) : refs (l ++ m) = refs l ++ refs m := by simp [refs]
theorem refs_len (l : List Vl) : (refs l).length ≤ l.length := by unfold refs; rw [List.length_map]; exact List.length_filter_le _ _
end Kd

set_option maxHeartbeats 2000000 in
theorem refHeaps_any (s : Sb) (x : Value) (w : World) (h : IsSub w w.heap.size x s) (hS : Kd.Small s) :
    Calls Tryd.prog 12 #[x] w fun e w' => (∃ v, e = .returned v ∧ OwnG 39 2 Hp.cs w.heap.size w' v (Kd.heaps s)) ∧ Below w.heap.size w w' := by
  obtain ⟨Q, hQ⟩ : ∃ Q : Ending → World → Prop, Q = (fun e w' => (∃ v, e = .returned v ∧ OwnG 39 2 Hp.cs w.heap.size w' v (Kd.heaps s)) ∧ Below w.heap.size w w') := ⟨_, rfl⟩
  rw [← hQ]
  have hQ' := Lib.hid hQ
  clear hQ
  obtain ⟨A1, c1, A2, c2, A3, c3, A4, c4, rfl, s1, s2, s3, s4⟩ := h
  obtain ⟨fin, sups, k, ps, rs, fs⟩ := s
  obtain ⟨la, lp, lr, lf⟩ := hS
  dsimp only at *
  have HS1 := Lib.hid s1
  have HS2 := Lib.hid s2
  have HS3 := Lib.hid s3
  have HS4 := Lib.hid s4
  have HLa := Lib.hid la
  have HLp := Lib.hid lp
  have HLr := Lib.hid lr
  clear s1 s2 s3 s4 la lp lr
  have HB0 : Hid (Below w.heap.size w (w.alloc (.cells #[.bool fin, .slice A1 sups.length c1, .int .i64 k, .slice A2 ps.length c2, .slice A3 rs.length c3, .slice A4 fs.length c4] 29))) := Lib.hid ((Below.refl _ _).alloc (Nat.le_refl _) _)
  have hown0 := OwnG.empty (e := 39) (sz := 2) (cs := Hp.cs) (B := w.heap.size + 1) (w.alloc (.cells #[.bool fin, .slice A1 sups.length c1, .int .i64 k, .slice A2 ps.length c2, .slice A3 rs.length c3, .slice A4 fs.length c4] 29)) (by simp)
  rw [World.size_alloc] at hown0
  have HO0 := Lib.hid hown0
  clear hown0
  go_enter Tryd.func12, Tryd.ntmps12
  go_wp2_with (at_builtin; refine cat_at elemH rfl _ _ rfl _ sups.length rfl rfl HO0.out rfl (HS1.out.below (HB0.out.alloc HB0.out.size _)) (by simp) sups.length (by have := HLa.out; omega) (by simp) ?_; intro A5 c5 w1 hown1 hg1 hr1)
  have HB9 : Hid (Below (w.heap.size + 1) (w.alloc (.cells #[.bool fin, .slice A1 sups.length c1, .int .i64 k, .slice A2 ps.length c2, .slice A3 rs.length c3, .slice A4 fs.length c4] 29)) ((w.alloc (.cells #[.bool fin, .slice A1 sups.length c1, .int .i64 k, .slice A2 ps.length c2, .slice A3 rs.length c3, .slice A4 fs.length c4] 29)).alloc (.cells #[] 39))) := Lib.hid ((Below.refl _ _).alloc (by simp) _)
  have HW1 := Lib.hid (HO0.out.grown hg1 (Nat.le_refl _) (by simp) HB9.out)
  have hg1' := Lib.hid hg1
  have hr1' := Lib.hid hr1
  clear hg1 hr1
  have HO1 := Lib.hid hown1
  clear hown1
  have hz1 : Hid (w.heap.size + 1 ≤ w1.heap.size) := Lib.hid (by have := HW1.out.size; simpa using this)
  have hc3 : w1.cell? ⟨w.heap.size, 3, none⟩ = some (.slice A2 ps.length c2) := (HW1.out.cell (p := ⟨w.heap.size, 3, none⟩) (by simp)).trans (by simp)
  have hc4 : w1.cell? ⟨w.heap.size, 4, none⟩ = some (.slice A3 rs.length c3) := (HW1.out.cell (p := ⟨w.heap.size, 4, none⟩) (by simp)).trans (by simp)
  have HF1 : Hid (Below w.heap.size w w1) := Lib.hid (HB0.out.trans (HW1.out.mono (Nat.le_succ _)))
  have HO2 : Hid (OwnG 46 4 Vl.cs w1.heap.size (w1.alloc (.cells #[] 46)).drew (.slice (some ⟨w1.heap.size, 0, none⟩) 0 0) ([] : List Vl)) := Lib.hid (OwnG.empty w1 (Nat.le_refl _))
  have HF2 : Hid (Below w.heap.size w (w1.alloc (.cells #[] 46)).drew) := Lib.hid ((HF1.out.alloc HF1.out.size _).drew)
  have HG2 : Hid (Below w1.heap.size w1 (w1.alloc (.cells #[] 46)).drew) := Lib.hid (((Below.refl _ _).alloc (Nat.le_refl _) _).drew)
  have hlt0 : Hid (w.heap.size < w1.heap.size) := Lib.hid hz1.out
  have hk1 : Hid (ps.length < 1000000) := Lib.hid (by have := HLp.out; omega)
  have hk2 : Hid (([] : List Vl).length + ps.length = ps.length) := Lib.hid (by simp)
  have hk3 : Hid (ps.length + rs.length < 1000000) := Lib.hid (by have := HLp.out; have := HLr.out; omega)
  have hk4 : Hid (([] ++ ps).length + rs.length = ps.length + rs.length) := Lib.hid (by simp)
  go_region_held3 (fun w' => w'.cell? ⟨w.heap.size, 3, none⟩ = some (.slice A2 ps.length c2) ∧ w'.cell? ⟨w.heap.size, 4, none⟩ = some (.slice A3 rs.length c3))
    (first | go_keep | exact ⟨hd3, hd4⟩)
    ((first
      | (refine step_cat elemV (by rfl) _ _ (by rfl) _ ps.length (by rfl) (by rfl) HO2.out rfl (HS2.out.below HF2.out) HG2.out.size ps.length hk1.out hk2.out ?_; intro A6 c6 w2 hown2 hg2 hr2; have HG3 := Lib.hid (HO2.out.grown hg2 (Nat.le_refl _) HG2.out.size HG2.out); have hd3 := (HG3.out.cell (p := ⟨w.heap.size, 3, none⟩) hlt0.out).trans hc3; have hd4 := (HG3.out.cell (p := ⟨w.heap.size, 4, none⟩) hlt0.out).trans hc4; have HO3 := Lib.hid hown2; have HF3 := Lib.hid (HF1.out.trans (HG3.out.mono HF1.out.size)); clear hown2 hg2 hr2)
      | (refine step_cat elemV (by rfl) _ _ (by rfl) _ rs.length (by rfl) (by rfl) HO3.out rfl (HS3.out.below HF3.out) HG3.out.size (ps.length + rs.length) hk3.out hk4.out ?_; intro A7 c7 w3 hown3 hg3 hr3; have HG4 := Lib.hid (HO3.out.grown hg3 (Nat.le_refl _) HG3.out.size HG3.out); have he3 := (HG4.out.cell (p := ⟨w.heap.size, 3, none⟩) hlt0.out).trans hc3; have he4 := (HG4.out.cell (p := ⟨w.heap.size, 4, none⟩) hlt0.out).trans hc4; have HO4 := Lib.hid hown3; clear hown3 hg3 hr3)))
  clear hd3 hd4 he3 he4 hc3 hc4
  go_wp2
  go_loopw [4, 5] (fun a i wr => ∃ (j : Nat) (A : Option Addr) (c : Nat), j ≤ fs.length ∧ i = .int .i64 j ∧ a = .slice A (ps.length + rs.length + j) c ∧ OwnG 46 4 Vl.cs w1.heap.size wr (.slice A (ps.length + rs.length + j) c) (ps ++ rs ++ (fs.take j).map Fd.v) ∧ Below w1.heap.size w1 wr) (fun _ i _ => fs.length - (intOf i).toNat)
  case atStart => exact ⟨0, A7, c7, Nat.zero_le _, rfl, rfl, by simpa using HO4.out, HG4.out⟩
  case round =>
    obtain ⟨j, A, c, hj, rfl, rfl, hown, hB⟩ := hrel
    have HO := Lib.hid hown
    have HB := Lib.hid hB
    clear hown hB
    have hc5 : wr.cell? ⟨w.heap.size, 5, none⟩ = some (.slice A4 fs.length c4) := (HB.out.cell (p := ⟨w.heap.size, 5, none⟩) hlt0.out).trans ((HW1.out.cell (p := ⟨w.heap.size, 5, none⟩) (by simp)).trans (by simp))
    by_cases hlt : j < fs.length
    · obtain ⟨b, off, rfl, hb, hc⟩ := HS4.out.2.2 (by omega)
      have hbw : Hid (b < w1.heap.size) := Lib.hid (Nat.lt_trans hb hlt0.out)
      have hW : ∀ o, wr.cell? ⟨b, o, none⟩ = w.cell? ⟨b, o, none⟩ := fun o => (HB.out.cell (p := ⟨b, o, none⟩) hbw.out).trans (HF1.out.cell (p := ⟨b, o, none⟩) hb)
      obtain ⟨x, hx⟩ : ∃ x, x = fs[j] := ⟨_, rfl⟩
      have g1 := (hW (off + j * 6 + 1)).trans (hc j hlt 1 _ rfl)
      have g2 := (hW (off + j * 6 + 2)).trans (hc j hlt 2 _ rfl)
      have g3 := (hW (off + j * 6 + 3)).trans (hc j hlt 3 _ rfl)
      have g4 := (hW (off + j * 6 + 4)).trans (hc j hlt 4 _ rfl)
      rw [← hx] at g1 g2 g3 g4
      have hx' := Lib.hid hx
      clear hW hx hc
      have hz : Hid (w1.heap.size ≤ wr.heap.size) := Lib.hid HB.out.size
      go_wp2_with (at_builtin; refine push_at elemV rfl _ _ rfl wr _ rfl x.v _ _ rfl rfl HO.out hz.out (ps.length + rs.length + j + 1) (by have := HLp.out; have := HLr.out; omega) (by simp; omega) rfl ?_; intro A8 c8 w4 hown8 hg8 hr8)
      go_roundw
      case rel =>
        refine ⟨j + 1, A8, c8, by omega, by go_num, rfl, ?_, HO.out.grown hg8 (Nat.le_refl _) hz.out HB.out⟩
        have h := hown8
        rw [List.append_assoc, hx'.out, show List.map Fd.v (List.take j fs) ++ [fs[j].v] = List.map Fd.v (List.take (j + 1) fs) by rw [List.take_succ_eq_append_getElem hlt, List.map_append]; rfl] at h
        exact h
      case measure => simp [intOf]; omega
    · have hjn : j = fs.length := by omega
      subst hjn
      obtain ⟨al, hal⟩ : ∃ al, Kd.allV ⟨k, ps, rs, fs⟩ = al := ⟨_, rfl⟩
      have hown : OwnG 46 4 Vl.cs w1.heap.size wr (.slice A (ps.length + rs.length + fs.length) c) al := by
        have h := HO.out
        rw [List.take_length] at h
        rw [← hal]
        exact h
      have hal' := Lib.hid hal
      have hN : ps.length + rs.length + fs.length = al.length := by rw [← hal]; simp [Kd.allV]; omega
      rw [hN] at hown ⊢
      have hN' := Lib.hid hN
      clear hN hal HO hlt hj
      obtain ⟨A9, c9, e9, hseg⟩ := hown.seg elemV
      injection e9 with e1 e2 e3
      subst e1 e3
      have hA : Hid (∀ b off, A = some ⟨b, off, none⟩ → w1.heap.size ≤ b) := Lib.hid fun b off e => (hown.lt b (by subst e; rfl)).1
      have HO3 := HO1.out.below HB.out
      have hrow : Hid (∀ g b off, (Value.slice A5 sups.length c5).ownBlock = some g → A = some ⟨b, off, none⟩ → g ≠ b) := Lib.hid fun g b off hg e => by
        have h1 := (HO1.out.lt g hg).2
        have h2 := hA.out b off e
        omega
      have HFr := Lib.hid (HF1.out.trans (HB.out.mono HF1.out.size))
      have hsz : Hid (w.heap.size + 1 ≤ wr.heap.size) := Lib.hid (Nat.le_trans hz1.out HB.out.size)
      have hal2 : Hid (al.length ≤ 300) := Lib.hid (by have := hN'.out; have := HLp.out; have := HLr.out; omega)
      have HSeg := Lib.hid hseg
      have HO3' := Lib.hid HO3
      clear hown HO3 hseg e2
      go_wp2
      clear hc5
      go_loopw [3, 6] (fun a i wr2 => ∃ (j : Nat) (A' : Option Addr) (c' m : Nat), j ≤ al.length ∧ i = .int .i64 j ∧ a = .slice A' m c' ∧ m = (sups ++ Kd.refs (al.take j)).length ∧ OwnG 39 2 Hp.cs (w.heap.size + 1) wr2 (.slice A' m c') (sups ++ Kd.refs (al.take j)) ∧
        Below w.heap.size w wr2 ∧ w.heap.size + 1 ≤ wr2.heap.size ∧ Seg 4 Vl.cs wr2 wr2.heap.size A c al ∧ (∀ g b off, (Value.slice A' m c').ownBlock = some g → A = some ⟨b, off, none⟩ → g ≠ b)) (fun _ i _ => al.length - (intOf i).toNat)
      case atStart => exact ⟨0, A5, c5, _, Nat.zero_le _, rfl, rfl, by simp [Kd.refs], by simpa [Kd.refs] using HO3'.out, HFr.out, hsz.out, HSeg.out, hrow.out⟩
      case round =>
        obtain ⟨j, A', c', m, hj, rfl, rfl, hm, hown, hB, hs, hsg, hne⟩ := hrel
        have HO5 := Lib.hid hown
        have HB5 := Lib.hid hB
        have HS5 := Lib.hid hsg
        have HN5 := Lib.hid hne
        have HM5 := Lib.hid hm
        have Hs5 := Lib.hid hs
        clear hown hB hsg hne hm hs
        have hal3 := hal2.out
        by_cases hlt : j < al.length
        · obtain ⟨b, off, rfl, hb, hc⟩ := HS5.out.2.2 (by omega)
          obtain ⟨x, hx⟩ : ∃ x, x = al[j] := ⟨_, rfl⟩
          have g0 := hc j hlt 0 _ rfl
          have g2 := hc j hlt 2 _ rfl
          have g3 := hc j hlt 3 _ rfl
          rw [← hx] at g0 g2 g3
          simp only [Nat.add_zero] at g0
          have hx' := Lib.hid hx
          clear hx hc
          by_cases hk3 : x.k = 3
          · have hst : Hid (sups ++ Kd.refs (al.take (j + 1)) = sups ++ Kd.refs (al.take j) ++ [x.h]) := Lib.hid (by
              rw [List.take_succ_eq_append_getElem hlt, Kd.refs_append, ← List.append_assoc, ← hx'.out]; simp [Kd.refs, Kd.isRef, hk3])
            have hk4 : (x.k == 3) = true := by simpa using hk3
            have hk3' := Lib.hid hk3
            clear hk3
            have hml : Hid (m ≤ 400) := Lib.hid (by
              have h1 := HM5.out; have h2 := HLa.out; have h3 := Kd.refs_len (al.take j); have h4 := hal2.out
              rw [List.length_append] at h1; rw [List.length_take] at h3; omega)
            go_wp2_with (at_builtin; refine push_at elemH rfl _ _ rfl wr _ rfl x.h _ _ rfl rfl HO5.out Hs5.out (m + 1) (by have := hml.out; omega) (by have := HM5.out; omega) rfl ?_; intro A8 c8 w4 hown8 hg8 hr8)
            go_roundw
            case rel =>
              refine ⟨j + 1, A8, c8, m + 1, by omega, by go_num, rfl, ?_, ?_, HO5.out.grown hg8 (Nat.le_succ _) (Nat.le_of_succ_le Hs5.out) HB5.out, Nat.le_trans Hs5.out hg8.size, ?_, ?_⟩
              · rw [hst.out, List.length_append, ← HM5.out]; rfl
              · rw [hst.out]; exact hown8
              · exact (HS5.out.kept hg8 hb (fun e => HN5.out b b off e rfl rfl)).more hg8.size
              · intro g b' off' hg e
                injection e with e
                injection e with e1 e2
                subst e1
                rcases hr8 g hg with h | h
                · exact HN5.out g b off h rfl
                · omega
            case measure => simp [intOf]; omega
          · have hst : Hid (sups ++ Kd.refs (al.take (j + 1)) = sups ++ Kd.refs (al.take j)) := Lib.hid (by
              rw [List.take_succ_eq_append_getElem hlt, Kd.refs_append, ← List.append_assoc, ← hx'.out]; simp [Kd.refs, Kd.isRef, hk3])
            have hk4 : (x.k == 3) = false := by simpa using hk3
            go_wp2
            go_roundw
            case rel => exact ⟨j + 1, A', c', m, by omega, by go_num, rfl, by rw [hst.out]; exact HM5.out, by rw [hst.out]; exact HO5.out, HB5.out, Hs5.out, HS5.out, HN5.out⟩
            case measure => simp [intOf]; omega
        · have hjn : j = al.length := by omega
          subst hjn
          go_wp2
          rw [hQ'.out]
          refine ⟨⟨_, rfl, ?_⟩, HB5.out⟩
          have h := HO5.out
          rw [List.take_length] at h
          have e : Kd.heaps ⟨fin, sups, k, ps, rs, fs⟩ = sups ++ Kd.refs al := by unfold Kd.heaps; rw [hal'.out]
          rw [e]
          exact h.base (Nat.le_succ _)
end Go.Proofs.YtlflmobaegfnaaaDoor

/-
  Texts of this claim, one behind the other: part 0.
-/
import Derived.Deep.RegionHeld3
import Derived.Deep.DrawnRows
import Derived.Deep.RegionLaw
import Derived.Lib.BufferWrite
import Derived.Shelf.Abstract
import Derived.Shelf.RegionOpen
import Derived.WalkKit
import Derived.OwnWalkIn
import Derived.TacticsInMore
import Derived.LoopNIn
import Derived.LoopIn
import Derived.Stop.RegionWithIn
import Derived.Test.YtkdhjejchdcipaaDoorMgTbinBack0
/-
  Layer 4, the document's side: all heap types of a type.
-/
namespace Go.Proofs.YtkdhjejchdcipaaDoor
open Go.RowKit
attribute [local go_sem ↓] Go.wp_at_zero Go.wp_at_succ
set_option linter.unusedVariables false
set_option maxRecDepth 100000

namespace Kd
def isRef (v : Vl) : Bool := decide (v.k = 3)
def refs (l : List Vl) : List Hp := (l.filter isRef).map Vl.h
def allV (c : Cp) : List Vl := c.ps ++ c.rs ++ c.fs.map Fd.v
def heaps (s : Sb) : List Hp := s.sups ++ refs (allV s.c)
theorem refs_append (l m : List Vl) : refs (l ++ m) = refs l ++ refs m := by simp [refs]
theorem refs_len (l : List Vl) : (refs l).length ≤ l.length := by unfold refs; rw [List.length_map]; exact List.length_filter_le _ _
end Kd

set_option maxHeartbeats 2000000 in
theorem refHeaps_any (s : Sb) (x : Value) (w : World) (h : IsSub w w.heap.size x s) (hS : Kd.Small s) :
    Calls Tryd.prog 11 #[x] w fun e w' => (∃ v, e = .returned v ∧ OwnG 39 2 Hp.cs w.heap.size w' v (Kd.heaps s)) ∧ Below w.heap.size w w' := by
  obtain ⟨Q, hQ⟩ : ∃ Q : Ending → World → Prop, Q = (fun e w' => (∃ v, e = .returned v ∧ OwnG 39 2 Hp.cs w.heap.size w' v (Kd.heaps s)) ∧ Below w.heap.size w w') := ⟨_, rfl⟩
  rw [← hQ]
  have hQ' := Lib.hid hQ
  clear hQ
  obtain ⟨A1, c1, A2, c2, A3, c3, A4, c4, rfl, s1, s2, s3, s4⟩ := h
  obtain ⟨fin, sups, k, ps, rs, fs⟩ := s
  obtain ⟨la, lp, lr, lf⟩ := hS
  dsimp only at *
  have HS1 := Lib.hid s1
  have HS2 := Lib.hid s2
  have HS3 := Lib.hid s3
  have HS4 := Lib.hid s4
  have HLa := Lib.hid la
  have HLp := Lib.hid lp
  have HLr := Lib.hid lr
  clear s1 s2 s3 s4 la lp lr
  have HB0 : Hid (Below w.heap.size w (w.alloc (.cells #[.bool fin, .slice A1 sups.length c1, .int .i64 k, .slice A2 ps.length c2, .slice A3 rs.length c3, .slice A4 fs.length c4] 29))) := Lib.hid ((Below.refl _ _).alloc (Nat.le_refl _) _)
  have hown0 := OwnG.empty (e := 39) (sz := 2) (cs := Hp.cs) (B := w.heap.size + 1) (w.alloc (.cells #[.bool fin, .slice A1 sups.length c1, .int .i64 k, .slice A2 ps.length c2, .slice A3 rs.length c3, .slice A4 fs.length c4] 29)) (by simp)
  rw [World.size_alloc] at hown0
  have HO0 := Lib.hid hown0
  clear hown0
  go_enter Tryd.func11, Tryd.ntmps11
  go_wp2_with (at_builtin; refine cat_at elemH rfl _ _ rfl _ sups.length rfl rfl HO0.out rfl (HS1.out.below (HB0.out.alloc HB0.out.size _)) (by simp) sups.length (by have := HLa.out; omega) (by simp) ?_; intro A5 c5 w1 hown1 hg1 hr1)
  have HB9 : Hid (Below (w.heap.size + 1) (w.alloc (.cells #[.bool fin, .slice A1 sups.length c1, .int .i64 k, .slice A2 ps.length c2, .slice A3 rs.length c3, .slice A4 fs.length c4] 29)) ((w.alloc (.cells #[.bool fin, .slice A1 sups.length c1, .int .i64 k, .slice A2 ps.length c2, .slice A3 rs.length c3, .slice A4 fs.length c4] 29)).alloc (.cells #[] 39))) := Lib.hid ((Below.refl _ _).alloc (by simp) _)
  have HW1 := Lib.hid (HO0.out.grown hg1 (Nat.le_refl _) (by simp) HB9.out)
  have hg1' := Lib.hid hg1
  have hr1' := Lib.hid hr1
  clear hg1 hr1
  have HO1 := Lib.hid hown1
  clear hown1
  have hz1 : Hid (w.heap.size + 1 ≤ w1.heap.size) := Lib.hid (by have := HW1.out.size; simpa using this)
  have hc3 : w1.cell? ⟨w.heap.size, 3, none⟩ = some (.slice A2 ps.length c2) := (HW1.out.cell (p := ⟨w.heap.size, 3, none⟩) (by simp)).trans (by simp)
  have hc4 : w1.cell? ⟨w.heap.size, 4, none⟩ = some (.slice A3 rs.length c3) := (HW1.out.cell (p := ⟨w.heap.size, 4, none⟩) (by simp)).trans (by simp)
  have HF1 : Hid (Below w.heap.size w w1) := Lib.hid (HB0.out.trans (HW1.out.mono (Nat.le_succ _)))
  have HO2 : Hid (OwnG 46 4 Vl.cs w1.heap.size (w1.alloc (.cells #[] 46)).drew (.slice (some ⟨w1.heap.size, 0, none⟩) 0 0) ([] : List Vl)) := Lib.hid (OwnG.empty w1 (Nat.le_refl _))
  have HF2 : Hid (Below w.heap.size w (w1.alloc (.cells #[] 46)).drew) := Lib.hid ((HF1.out.alloc HF1.out.size _).drew)
  have HG2 : Hid (Below w1.heap.size w1 (w1.alloc (.cells #[] 46)).drew) := Lib.hid (((Below.refl _ _).alloc (Nat.le_refl _) _).drew)
  have hlt0 : Hid (w.heap.size < w1.heap.size) := Lib.hid hz1.out
  have hk1 : Hid (ps.length < 1000000) := Lib.hid (by have := HLp.out; omega)
  have hk2 : Hid (([] : List Vl).length + ps.length = ps.length) := Lib.hid (by simp)
  have hk3 : Hid (ps.length + rs.length < 1000000) := Lib.hid (by have := HLp.out; have := HLr.out; omega)
  have hk4 : Hid (([] ++ ps).length + rs.length = ps.length + rs.length) := Lib.hid (by simp)
  go_region_held3 (fun w' => w'.cell? ⟨w.heap.size, 3, none⟩ = some (.slice A2 ps.length c2) ∧ w'.cell? ⟨w.heap.size, 4, none⟩ = some (.slice A3 rs.length c3))
    (first | go_keep | exact ⟨hd3, hd4⟩)
    ((first
      | (refine step_cat elemV (by rfl) _ _ (by rfl) _ ps.length (by rfl) (by rfl) HO2.out rfl (HS2.out.below HF2.out) HG2.out.size ps.length hk1.out hk2.out ?_; intro A6 c6 w2 hown2 hg2 hr2; have HG3 := Lib.hid (HO2.out.grown hg2 (Nat.le_refl _) HG2.out.size HG2.out); have hd3 := (HG3.out.cell (p := ⟨w.heap.size, 3, none⟩) hlt0.out).trans hc3; have hd4 := (HG3.out.cell (p := ⟨w.heap.size, 4, none⟩) hlt0.out).trans hc4; have HO3 := Lib.hid hown2; have HF3 := Lib.hid (HF1.out.trans (HG3.out.mono HF1.out.size)); clear hown2 hg2 hr2)
      | (refine step_cat elemV (by rfl) _ _ (by rfl) _ rs.length (by rfl) (by rfl) HO3.out rfl (HS3.out.below HF3.out) HG3.out.size (ps.length + rs.length) hk3.out hk4.out ?_; intro A7 c7 w3 hown3 hg3 hr3; have HG4 := Lib.hid (HO3.out.grown hg3 (Nat.le_refl _) HG3.out.size HG3.out); have he3 := (HG4.out.cell (p := ⟨w.heap.size, 3, none⟩) hlt0.out).trans hc3; have he4 := (HG4.out.cell (p := ⟨w.heap.size, 4, none⟩) hlt0.out).trans hc4; have HO4 := Lib.hid hown3; clear hown3 hg3 hr3)))
  clear hd3 hd4 he3 he4 hc3 hc4
  go_wp2
  go_loopw [4, 5] (fun a i wr => ∃ (j : Nat) (A : Option Addr) (c : Nat), j ≤ fs.length ∧ i = .int .i64 j ∧ a = .slice A (ps.length + rs.length + j) c ∧ OwnG 46 4 Vl.cs w1.heap.size wr (.slice A (ps.length + rs.length + j) c) (ps ++ rs ++ (fs.take j).map Fd.v) ∧ Below w1.heap.size w1 wr) (fun _ i _ => fs.length - (intOf i).toNat)
  case atStart => exact ⟨0, A7, c7, Nat.zero_le _, rfl, rfl, by simpa using HO4.out, HG4.out⟩
  case round =>
    obtain ⟨j, A, c, hj, rfl, rfl, hown, hB⟩ := hrel
    have HO := Lib.hid hown
    have HB := Lib.hid hB
    clear hown hB
    have hc5 : wr.cell? ⟨w.heap.size, 5, none⟩ = some (.slice A4 fs.length c4) := (HB.out.cell (p := ⟨w.heap.size, 5, none⟩) hlt0.out).trans ((HW1.out.cell (p := ⟨w.heap.size, 5, none⟩) (by simp)).trans (by simp))
    by_cases hlt : j < fs.length
    · obtain ⟨b, off, rfl, hb, hc⟩ := HS4.out.2.2 (by omega)
      have hbw : Hid (b < w1.heap.size) := Lib.hid (Nat.lt_trans hb hlt0.out)
      have hW : ∀ o, wr.cell? ⟨b, o, none⟩ = w.cell? ⟨b, o, none⟩ := fun o => (HB.out.cell (p := ⟨b, o, none⟩) hbw.out).trans (HF1.out.cell (p := ⟨b, o, none⟩) hb)
      obtain ⟨x, hx⟩ : ∃ x, x = fs[j] := ⟨_, rfl⟩
      have g1 := (hW (off + j * 6 + 1)).trans (hc j hlt 1 _ rfl)
      have g2 := (hW (off + j * 6 + 2)).trans (hc j hlt 2 _ rfl)
      have g3 := (hW (off + j * 6 + 3)).trans (hc j hlt 3 _ rfl)
      have g4 := (hW (off + j * 6 + 4)).trans (hc j hlt 4 _ rfl)
      rw [← hx] at g1 g2 g3 g4
      have hx' := Lib.hid hx
      clear hW hx hc
      have hz : Hid (w1.heap.size ≤ wr.heap.size) := Lib.hid HB.out.size
      go_wp2_with (at_builtin; refine push_at elemV rfl _ _ rfl wr _ rfl x.v _ _ rfl rfl HO.out hz.out (ps.length + rs.length + j + 1) (by have := HLp.out; have := HLr.out; omega) (by simp; omega) rfl ?_; intro A8 c8 w4 hown8 hg8 hr8)
      go_roundw
      case rel =>
        refine ⟨j + 1, A8, c8, by omega, by go_num, rfl, ?_, HO.out.grown hg8 (Nat.le_refl _) hz.out HB.out⟩
        have h := hown8
        rw [List.append_assoc, hx'.out, show List.map Fd.v (List.take j fs) ++ [fs[j].v] = List.map Fd.v (List.take (j + 1) fs) by rw [List.take_succ_eq_append_getElem hlt, List.map_append]; rfl] at h
        exact h
      case measure => simp [intOf]; omega
    · have hjn : j = fs.length := by omega
      subst hjn
      obtain ⟨al, hal⟩ : ∃ al, Kd.allV ⟨k, ps, rs, fs⟩ = al := ⟨_, rfl⟩
      have hown : OwnG 46 4 Vl.cs w1.heap.size wr (.slice A (ps.length + rs.length + fs.length) c) al := by
        have h := HO.out
        rw [List.take_length] at h
        rw [← hal]
        exact h
      have hal' := Lib.hid hal
      have hN : ps.length + rs.length + fs.length = al.length := by rw [← hal]; simp [Kd.allV]; omega
      rw [hN] at hown ⊢
      have hN' := Lib.hid hN
      clear hN hal HO hlt hj
      obtain ⟨A9, c9, e9, hseg⟩ := hown.seg elemV
      injection e9 with e1 e2 e3
      subst e1 e3
      have hA : Hid (∀ b off, A = some ⟨b, off, none⟩ → w1.heap.size ≤ b) := Lib.hid fun b off e => (hown.lt b (by subst e; rfl)).1
      have HO3 := HO1.out.below HB.out
      have hrow : Hid (∀ g b off, (Value.slice A5 sups.length c5).ownBlock = some g → A = some ⟨b, off, none⟩ → g ≠ b) := Lib.hid fun g b off hg e => by
        have h1 := (HO1.out.lt g hg).2
        have h2 := hA.out b off e
        omega
      have HFr := Lib.hid (HF1.out.trans (HB.out.mono HF1.out.size))
      have hsz : Hid (w.heap.size + 1 ≤ wr.heap.size) := Lib.hid (Nat.le_trans hz1.out HB.out.size)
      have hal2 : Hid (al.length ≤ 30000) := Lib.hid (by have := hN'.out; have := HLp.out; have := HLr.out; omega)
      have HSeg := Lib.hid hseg
      have HO3' := Lib.hid HO3
      clear hown HO3 hseg e2
      go_wp2
      clear hc5
      go_loopw [3, 6] (fun a i wr2 => ∃ (j : Nat) (A' : Option Addr) (c' m : Nat), j ≤ al.length ∧ i = .int .i64 j ∧ a = .slice A' m c' ∧ m = (sups ++ Kd.refs (al.take j)).length ∧ OwnG 39 2 Hp.cs (w.heap.size + 1) wr2 (.slice A' m c') (sups ++ Kd.refs (al.take j)) ∧
        Below w.heap.size w wr2 ∧ w.heap.size + 1 ≤ wr2.heap.size ∧ Seg 4 Vl.cs wr2 wr2.heap.size A c al ∧ (∀ g b off, (Value.slice A' m c').ownBlock = some g → A = some ⟨b, off, none⟩ → g ≠ b)) (fun _ i _ => al.length - (intOf i).toNat)
      case atStart => exact ⟨0, A5, c5, _, Nat.zero_le _, rfl, rfl, by simp [Kd.refs], by simpa [Kd.refs] using HO3'.out, HFr.out, hsz.out, HSeg.out, hrow.out⟩
      case round =>
        obtain ⟨j, A', c', m, hj, rfl, rfl, hm, hown, hB, hs, hsg, hne⟩ := hrel
        have HO5 := Lib.hid hown
        have HB5 := Lib.hid hB
        have HS5 := Lib.hid hsg
        have HN5 := Lib.hid hne
        have HM5 := Lib.hid hm
        have Hs5 := Lib.hid hs
        clear hown hB hsg hne hm hs
        have hal3 := hal2.out
        by_cases hlt : j < al.length
        · obtain ⟨b, off, rfl, hb, hc⟩ := HS5.out.2.2 (by omega)
          obtain ⟨x, hx⟩ : ∃ x, x = al[j] := ⟨_, rfl⟩
          have g0 := hc j hlt 0 _ rfl
          have g2 := hc j hlt 2 _ rfl
          have g3 := hc j hlt 3 _ rfl
          rw [← hx] at g0 g2 g3
          simp only [Nat.add_zero] at g0
          have hx' := Lib.hid hx
          clear hx hc
          by_cases hk3 : x.k = 3
          · have hst : Hid (sups ++ Kd.refs (al.take (j + 1)) = sups ++ Kd.refs (al.take j) ++ [x.h]) := Lib.hid (by
              rw [List.take_succ_eq_append_getElem hlt, Kd.refs_append, ← List.append_assoc, ← hx'.out]; simp [Kd.refs, Kd.isRef, hk3])
            have hk4 : (x.k == 3) = true := by simpa using hk3
            have hk3' := Lib.hid hk3
            clear hk3
            have hml : Hid (m ≤ 40000) := Lib.hid (by
              have h1 := HM5.out; have h2 := HLa.out; have h3 := Kd.refs_len (al.take j); have h4 := hal2.out
              rw [List.length_append] at h1; rw [List.length_take] at h3; omega)
            go_wp2_with (at_builtin; refine push_at elemH rfl _ _ rfl wr _ rfl x.h _ _ rfl rfl HO5.out Hs5.out (m + 1) (by have := hml.out; omega) (by have := HM5.out; omega) rfl ?_; intro A8 c8 w4 hown8 hg8 hr8)
            go_roundw
            case rel =>
              refine ⟨j + 1, A8, c8, m + 1, by omega, by go_num, rfl, ?_, ?_, HO5.out.grown hg8 (Nat.le_succ _) (Nat.le_of_succ_le Hs5.out) HB5.out, Nat.le_trans Hs5.out hg8.size, ?_, ?_⟩
              · rw [hst.out, List.length_append, ← HM5.out]; rfl
              · rw [hst.out]; exact hown8
              · exact (HS5.out.kept hg8 hb (fun e => HN5.out b b off e rfl rfl)).more hg8.size
              · intro g b' off' hg e
                injection e with e
                injection e with e1 e2
                subst e1
                rcases hr8 g hg with h | h
                · exact HN5.out g b off h rfl
                · omega
            case measure => simp [intOf]; omega
          · have hst : Hid (sups ++ Kd.refs (al.take (j + 1)) = sups ++ Kd.refs (al.take j)) := Lib.hid (by
              rw [List.take_succ_eq_append_getElem hlt, Kd.refs_append, ← List.append_assoc, ← hx'.out]; simp [Kd.refs, Kd.isRef, hk3])
            have hk4 : (x.k == 3) = false := by simpa using hk3
            go_wp2
            go_roundw
            case rel => exact ⟨j + 1, A', c', m, by omega, by go_num, rfl, by rw [hst.out]; exact HM5.out, by rw [hst.out]; exact HO5.out, HB5.out, Hs5.out, HS5.out, HN5.out⟩
            case measure => simp [intOf]; omega
        · have hjn : j = al.length := by omega
          subst hjn
          go_wp2
          rw [hQ'.out]
          refine ⟨⟨_, rfl, ?_⟩, HB5.out⟩
          have h := HO5.out
          rw [List.take_length] at h
          have e : Kd.heaps ⟨fin, sups, k, ps, rs, fs⟩ = sups ++ Kd.refs al := by unfold Kd.heaps; rw [hal'.out]
          rw [e]
          exact h.base (Nat.le_succ _)
end Go.Proofs.YtkdhjejchdcipaaDoor
/-
  Layer 4, the document's side: the type whose heap types are these.
-/
namespace Go.Proofs.YtkdhjejchdcipaaDoor
open Go.RowKit
attribute [local go_sem ↓] Go.wp_at_zero Go.wp_at_succ
set_option linter.unusedVariables false
set_option maxRecDepth 100000

namespace Kd
def setV (v : Vl) (l : List Hp) : Vl := if v.k = 3 then ⟨v.k, v.nu, l.headD ⟨0, 0⟩⟩ else v
def restV (v : Vl) (l : List Hp) : List Hp := if v.k = 3 then l.tail else l
def withV : List Vl → List Hp → List Vl
  | [], _ => []
  | v :: r, l => setV v l :: withV r (restV v l)
def setF (f : Fd) (l : List Hp) : Fd := ⟨f.pk, setV f.v l, f.mu⟩
def withF : List Fd → List Hp → List Fd
  | [], _ => []
  | f :: r, l => setF f l :: withF r (restV f.v l)
def withS (s : Sb) (l : List Hp) : Sb :=
  ⟨s.fin, l.take s.sups.length, s.c.k, withV s.c.ps (l.drop s.sups.length), withV s.c.rs (l.drop (s.sups.length + (refs s.c.ps).length)), withF s.c.fs (l.drop (s.sups.length + (refs s.c.ps).length + (refs s.c.rs).length))⟩
end Kd

/-- Two slices that the call made lie in two rows. -/
def Ap (v v' : Value) : Prop := ∀ g, v.ownBlock = some g → v'.ownBlock ≠ some g
theorem Ap.none_l (v : Value) : Ap (.slice none 0 0) v := fun g h => by cases h
theorem Ap.none_r (v : Value) : Ap v (.slice none 0 0) := fun g _ h => by cases h
theorem Ap.symm {v v' : Value} (h : Ap v v') : Ap v' v := fun g h1 h2 => h g h2 h1
theorem Ap.rowed {wr : World} {v v' u : Value} (h : Ap v u) (hr : Rowed wr v v') (hu : ∀ g, u.ownBlock = some g → g < wr.heap.size) : Ap v' u := fun g h1 h2 => by
  rcases hr g h1 with h3 | h3
  · exact h g h3 h2
  · have := hu g h2; omega
/-- The lists of a declared type lie from block B on. -/
def NewSub (B : Nat) (v : Value) : Prop := ∃ f x1 k x2 x3 x4, v = .agg #[f, x1, k, x2, x3, x4] ∧ (∀ g, x1.ownBlock = some g → B ≤ g) ∧ (∀ g, x2.ownBlock = some g → B ≤ g) ∧ (∀ g, x3.ownBlock = some g → B ≤ g) ∧ (∀ g, x4.ownBlock = some g → B ≤ g)
theorem NewSub.mk {B : Nat} {f x1 k x2 x3 x4 : Value} (h1 : ∀ g, x1.ownBlock = some g → B ≤ g) (h2 : ∀ g, x2.ownBlock = some g → B ≤ g) (h3 : ∀ g, x3.ownBlock = some g → B ≤ g) (h4 : ∀ g, x4.ownBlock = some g → B ≤ g) : NewSub B (.agg #[f, x1, k, x2, x3, x4]) :=
  ⟨f, x1, k, x2, x3, x4, rfl, h1, h2, h3, h4⟩
theorem NewSub.parts {B : Nat} {f x1 k x2 x3 x4 : Value} (h : NewSub B (.agg #[f, x1, k, x2, x3, x4])) : (∀ g, x1.ownBlock = some g → B ≤ g) ∧ (∀ g, x2.ownBlock = some g → B ≤ g) ∧ (∀ g, x3.ownBlock = some g → B ≤ g) ∧ (∀ g, x4.ownBlock = some g → B ≤ g) := by
  obtain ⟨f', y1, k', y2, y3, y4, e, h1, h2, h3, h4⟩ := h
  simp only [Value.agg.injEq, Array.mk.injEq, List.cons.injEq, and_true] at e
  obtain ⟨_, rfl, _, rfl, rfl, rfl⟩ := e
  exact ⟨h1, h2, h3, h4⟩
theorem NewSub.le {B B' : Nat} {v : Value} (h : NewSub B v) (hB : B' ≤ B) : NewSub B' v := by
  obtain ⟨f, x1, k, x2, x3, x4, e, h1, h2, h3, h4⟩ := h
  exact ⟨f, x1, k, x2, x3, x4, e, fun g e => Nat.le_trans hB (h1 g e), fun g e => Nat.le_trans hB (h2 g e), fun g e => Nat.le_trans hB (h3 g e), fun g e => Nat.le_trans hB (h4 g e)⟩
/-- A slice that is read stays where one block of another's is stored into. -/
theorem Seg.keptA {α : Type} {sz : Nat} {cs : α → List Value} {w w' : World} {C c : Nat} {A : Option Addr} {l : List α} {R : Nat} (h : Seg sz cs w C A c l) (hg : w.grownBy w' (some R)) (hC : C ≤ w.heap.size) (hA : ∀ b off, A = some ⟨b, off, none⟩ → b ≠ R) : Seg sz cs w' C A c l := by
  obtain ⟨h1, h2, h3⟩ := h
  refine ⟨h1, h2, fun hn => ?_⟩
  obtain ⟨b, off, e, hb, hc⟩ := h3 hn
  exact ⟨b, off, e, hb, fun j hj i v hv => (hg.cell_far ⟨b, off + j * sz + i, none⟩ (Nat.lt_of_lt_of_le hb hC) (fun e1 => hA b off e (Option.some.inj e1))).trans (hc j hj i v hv)⟩
/-- A declared type stays where a block that is none of its lists' is stored into. -/
theorem IsSub.set {w : World} {C R i : Nat} {v u : Value} {s : Sb} (h : IsSub w C v s) (hC : C ≤ w.heap.size) {B : Nat} (hn : NewSub B v) (hR : R < B) : IsSub (w.setCell ⟨R, i, none⟩ u) C v s := by
  obtain ⟨A1, c1, A2, c2, A3, c3, A4, c4, rfl, s1, s2, s3, s4⟩ := h
  obtain ⟨n1, n2, n3, n4⟩ := hn.parts
  have hg := Lib.grownBy_setCell w R i u
  refine ⟨A1, c1, A2, c2, A3, c3, A4, c4, rfl, s1.keptA hg hC ?_, s2.keptA hg hC ?_, s3.keptA hg hC ?_, s4.keptA hg hC ?_⟩
  · intro b off e; subst e; have := n1 b rfl; omega
  · intro b off e; subst e; have := n2 b rfl; omega
  · intro b off e; subst e; have := n3 b rfl; omega
  · intro b off e; subst e; have := n4 b rfl; omega
/-- 'out', while With makes it: its cells in block N, its lists in rows of their own from N + 1 on; what lay below N as in w2. -/
structure Out (N : Nat) (w2 wr : World) (fin : Bool) (k : Int) (v1 v3 v4 v5 : Value) (l1 : List Hp) (l3 l4 : List Vl) (l5 : List Fd) : Prop where
  c0 : wr.cell? ⟨N, 0, none⟩ = some (.bool fin)
  c1 : wr.cell? ⟨N, 1, none⟩ = some v1
  c2 : wr.cell? ⟨N, 2, none⟩ = some (.int .i64 k)
  c3 : wr.cell? ⟨N, 3, none⟩ = some v3
  c4 : wr.cell? ⟨N, 4, none⟩ = some v4
  c5 : wr.cell? ⟨N, 5, none⟩ = some v5
  fr : ∀ i, wr.frozen? ⟨N, i, none⟩ = false
  b : Below N w2 wr
  o1 : OwnG 39 2 Hp.cs (N + 1) wr v1 l1
  o3 : OwnG 46 4 Vl.cs (N + 1) wr v3 l3
  o4 : OwnG 46 4 Vl.cs (N + 1) wr v4 l4
  o5 : OwnG 50 6 Fd.cs (N + 1) wr v5 l5
  a13 : Ap v1 v3
  a14 : Ap v1 v4
  a15 : Ap v1 v5
  a34 : Ap v3 v4
  a35 : Ap v3 v5
  a45 : Ap v4 v5
section
variable {N : Nat} {w2 wr w4 : World} {fin : Bool} {k : Int} {v1 v3 v4 v5 v' : Value} {l1 l1' : List Hp} {l3 l4 l3' l4' : List Vl} {l5 l5' : List Fd}
theorem Out.size (h : Out N w2 wr fin k v1 v3 v4 v5 l1 l3 l4 l5) : N + 1 ≤ wr.heap.size := World.block_lt_of_cell? wr ⟨N, 0, none⟩ h.c0
theorem Out.drew (h : Out N w2 wr fin k v1 v3 v4 v5 l1 l3 l4 l5) : Out N w2 wr.drew fin k v1 v3 v4 v5 l1 l3 l4 l5 :=
  ⟨h.c0, h.c1, h.c2, h.c3, h.c4, h.c5, h.fr, h.b.drew, h.o1, h.o3, h.o4, h.o5, h.a13, h.a14, h.a15, h.a34, h.a35, h.a45⟩
theorem Out.alloc (h : Out N w2 wr fin k v1 v3 v4 v5 l1 l3 l4 l5) (o : Obj) : Out N w2 (wr.alloc o) fin k v1 v3 v4 v5 l1 l3 l4 l5 := by
  have hb : Below wr.heap.size wr (wr.alloc o) := (Below.refl _ _).alloc (Nat.le_refl _) _
  have hs := h.size
  exact ⟨(hb.cell (p := ⟨N, 0, none⟩) hs).trans h.c0, (hb.cell (p := ⟨N, 1, none⟩) hs).trans h.c1, (hb.cell (p := ⟨N, 2, none⟩) hs).trans h.c2, (hb.cell (p := ⟨N, 3, none⟩) hs).trans h.c3, (hb.cell (p := ⟨N, 4, none⟩) hs).trans h.c4, (hb.cell (p := ⟨N, 5, none⟩) hs).trans h.c5,
    fun i => (hb.frozen (p := ⟨N, i, none⟩) hs).trans (h.fr i), h.b.alloc (Nat.le_of_succ_le hs) _, h.o1.alloc _, h.o3.alloc _, h.o4.alloc _, h.o5.alloc _, h.a13, h.a14, h.a15, h.a34, h.a35, h.a45⟩
/-- A store into a block of the call's own beyond 'out', which is no list's. -/
theorem Out.setFar {p : Addr} (h : Out N w2 wr fin k v1 v3 v4 v5 l1 l3 l4 l5) (hp : N + 1 ≤ p.block) (hs : p.spot = none)
    (h1 : ∀ g, v1.ownBlock = some g → g ≠ p.block) (h3 : ∀ g, v3.ownBlock = some g → g ≠ p.block) (h4 : ∀ g, v4.ownBlock = some g → g ≠ p.block) (h5 : ∀ g, v5.ownBlock = some g → g ≠ p.block) (u : Value) : Out N w2 (wr.setCell p u) fin k v1 v3 v4 v5 l1 l3 l4 l5 := by
  obtain ⟨pb, po, sp⟩ := p
  dsimp only at hp hs h1 h3 h4 h5
  subst hs
  have ho : ∀ i, (wr.setCell ⟨pb, po, none⟩ u).cell? ⟨N, i, none⟩ = wr.cell? ⟨N, i, none⟩ := fun i => World.cell?_setCell_other _ _ _ _ (by intro e; injection e; omega)
  have hg := Lib.grownBy_setCell wr pb po u
  exact ⟨(ho 0).trans h.c0, (ho 1).trans h.c1, (ho 2).trans h.c2, (ho 3).trans h.c3, (ho 4).trans h.c4, (ho 5).trans h.c5, fun i => by rw [World.frozen?_setCell]; exact h.fr i, h.b.setCell (p := ⟨pb, po, none⟩) (Nat.le_of_succ_le hp) _,
    h.o1.kept hg (fun g hg e => h1 g hg (Option.some.inj e).symm), h.o3.kept hg (fun g hg e => h3 g hg (Option.some.inj e).symm), h.o4.kept hg (fun g hg e => h4 g hg (Option.some.inj e).symm), h.o5.kept hg (fun g hg e => h5 g hg (Option.some.inj e).symm), h.a13, h.a14, h.a15, h.a34, h.a35, h.a45⟩
/-- What an append onto one of the lists leaves. -/
structure Mid (N : Nat) (wr w4 : World) : Prop where
  c : ∀ i u, wr.cell? ⟨N, i, none⟩ = some u → w4.cell? ⟨N, i, none⟩ = some u
  f : ∀ i, wr.frozen? ⟨N, i, none⟩ = false → w4.frozen? ⟨N, i, none⟩ = false
theorem mid_of {v : Value} (hs : N + 1 ≤ wr.heap.size) (hg : wr.grownBy w4 v.ownBlock) (hv : ∀ g, v.ownBlock = some g → N + 1 ≤ g) : Mid N wr w4 := by
  have hne : some N ≠ v.ownBlock := fun e => by have := hv N e.symm; omega
  exact ⟨fun i u h => (hg.cell_far ⟨N, i, none⟩ hs hne).trans h, fun i h => (hg.frozen_far ⟨N, i, none⟩ hs hne).trans h⟩
theorem set_at {u v : Value} {i : Nat} (h : w4.cell? ⟨N, i, none⟩ = some u) : (w4.setCell ⟨N, i, none⟩ v).cell? ⟨N, i, none⟩ = some v := World.cell?_setCell_same _ _ _ h
theorem set_off {u v : Value} {i j : Nat} (hij : i ≠ j) (h : w4.cell? ⟨N, j, none⟩ = some u) : (w4.setCell ⟨N, i, none⟩ v).cell? ⟨N, j, none⟩ = some u := by
  rw [World.cell?_setCell_other _ _ _ _ (by intro e; injection e; contradiction)]; exact h
theorem own_set {α : Type} {e sz : Nat} {cs : α → List Value} {v u : Value} {l : List α} (h : OwnG e sz cs (N + 1) w4 v l) (i : Nat) : OwnG e sz cs (N + 1) (w4.setCell ⟨N, i, none⟩ u) v l :=
  h.kept (Lib.grownBy_setCell w4 N i u) (fun g hg e => by have := (h.lt g hg).1; have := Option.some.inj e; omega)
theorem below_set (h : Below N w2 w4) (i : Nat) (u : Value) : Below N w2 (w4.setCell ⟨N, i, none⟩ u) := h.setCell (p := ⟨N, i, none⟩) (Nat.le_refl _) u
theorem Out.push1 (h : Out N w2 wr fin k v1 v3 v4 v5 l1 l3 l4 l5) (hown : OwnG 39 2 Hp.cs (N + 1) w4 v' l1') (hg : wr.grownBy w4 v1.ownBlock) (hr : Rowed wr v1 v') :
    w4.cell? ⟨N, 1, none⟩ = some v1 ∧ w4.frozen? ⟨N, 1, none⟩ = false ∧ Out N w2 (w4.setCell ⟨N, 1, none⟩ v') fin k v' v3 v4 v5 l1' l3 l4 l5 := by
  have m := mid_of h.size hg (fun g e => (h.o1.lt g e).1)
  refine ⟨m.c _ _ h.c1, m.f _ (h.fr _), ?_⟩
  exact ⟨set_off (by decide) (m.c _ _ h.c0), set_at (m.c _ _ h.c1), set_off (by decide) (m.c _ _ h.c2), set_off (by decide) (m.c _ _ h.c3), set_off (by decide) (m.c _ _ h.c4), set_off (by decide) (m.c _ _ h.c5), fun i => by rw [World.frozen?_setCell]; exact m.f _ (h.fr i),
    below_set (h.o1.grown hg (Nat.le_succ _) (Nat.le_of_succ_le h.size) h.b) _ _, own_set hown _, own_set (h.o3.kept hg (fun g e e1 => h.a13 g e1 e)) _, own_set (h.o4.kept hg (fun g e e1 => h.a14 g e1 e)) _, own_set (h.o5.kept hg (fun g e e1 => h.a15 g e1 e)) _,
    h.a13.rowed hr (fun g e => (h.o3.lt g e).2), h.a14.rowed hr (fun g e => (h.o4.lt g e).2), h.a15.rowed hr (fun g e => (h.o5.lt g e).2), h.a34, h.a35, h.a45⟩
theorem Out.push3 (h : Out N w2 wr fin k v1 v3 v4 v5 l1 l3 l4 l5) (hown : OwnG 46 4 Vl.cs (N + 1) w4 v' l3') (hg : wr.grownBy w4 v3.ownBlock) (hr : Rowed wr v3 v') :
    w4.cell? ⟨N, 3, none⟩ = some v3 ∧ w4.frozen? ⟨N, 3, none⟩ = false ∧ Out N w2 (w4.setCell ⟨N, 3, none⟩ v') fin k v1 v' v4 v5 l1 l3' l4 l5 := by
  have m := mid_of h.size hg (fun g e => (h.o3.lt g e).1)
  refine ⟨m.c _ _ h.c3, m.f _ (h.fr _), ?_⟩
  exact ⟨set_off (by decide) (m.c _ _ h.c0), set_off (by decide) (m.c _ _ h.c1), set_off (by decide) (m.c _ _ h.c2), set_at (m.c _ _ h.c3), set_off (by decide) (m.c _ _ h.c4), set_off (by decide) (m.c _ _ h.c5), fun i => by rw [World.frozen?_setCell]; exact m.f _ (h.fr i),
    below_set (h.o3.grown hg (Nat.le_succ _) (Nat.le_of_succ_le h.size) h.b) _ _, own_set (h.o1.kept hg (fun g e e1 => h.a13.symm g e1 e)) _, own_set hown _, own_set (h.o4.kept hg (fun g e e1 => h.a34 g e1 e)) _, own_set (h.o5.kept hg (fun g e e1 => h.a35 g e1 e)) _,
    (h.a13.symm.rowed hr (fun g e => (h.o1.lt g e).2)).symm, h.a14, h.a15, h.a34.rowed hr (fun g e => (h.o4.lt g e).2), h.a35.rowed hr (fun g e => (h.o5.lt g e).2), h.a45⟩
theorem Out.push4 (h : Out N w2 wr fin k v1 v3 v4 v5 l1 l3 l4 l5) (hown : OwnG 46 4 Vl.cs (N + 1) w4 v' l4') (hg : wr.grownBy w4 v4.ownBlock) (hr : Rowed wr v4 v') :
    w4.cell? ⟨N, 4, none⟩ = some v4 ∧ w4.frozen? ⟨N, 4, none⟩ = false ∧ Out N w2 (w4.setCell ⟨N, 4, none⟩ v') fin k v1 v3 v' v5 l1 l3 l4' l5 := by
  have m := mid_of h.size hg (fun g e => (h.o4.lt g e).1)
  refine ⟨m.c _ _ h.c4, m.f _ (h.fr _), ?_⟩
  exact ⟨set_off (by decide) (m.c _ _ h.c0), set_off (by decide) (m.c _ _ h.c1), set_off (by decide) (m.c _ _ h.c2), set_off (by decide) (m.c _ _ h.c3), set_at (m.c _ _ h.c4), set_off (by decide) (m.c _ _ h.c5), fun i => by rw [World.frozen?_setCell]; exact m.f _ (h.fr i),
    below_set (h.o4.grown hg (Nat.le_succ _) (Nat.le_of_succ_le h.size) h.b) _ _, own_set (h.o1.kept hg (fun g e e1 => h.a14.symm g e1 e)) _, own_set (h.o3.kept hg (fun g e e1 => h.a34.symm g e1 e)) _, own_set hown _, own_set (h.o5.kept hg (fun g e e1 => h.a45 g e1 e)) _,
    h.a13, (h.a14.symm.rowed hr (fun g e => (h.o1.lt g e).2)).symm, h.a15, (h.a34.symm.rowed hr (fun g e => (h.o3.lt g e).2)).symm, h.a35, h.a45.rowed hr (fun g e => (h.o5.lt g e).2)⟩
theorem Out.push5 (h : Out N w2 wr fin k v1 v3 v4 v5 l1 l3 l4 l5) (hown : OwnG 50 6 Fd.cs (N + 1) w4 v' l5') (hg : wr.grownBy w4 v5.ownBlock) (hr : Rowed wr v5 v') :
    w4.cell? ⟨N, 5, none⟩ = some v5 ∧ w4.frozen? ⟨N, 5, none⟩ = false ∧ Out N w2 (w4.setCell ⟨N, 5, none⟩ v') fin k v1 v3 v4 v' l1 l3 l4 l5' := by
  have m := mid_of h.size hg (fun g e => (h.o5.lt g e).1)
  refine ⟨m.c _ _ h.c5, m.f _ (h.fr _), ?_⟩
  exact ⟨set_off (by decide) (m.c _ _ h.c0), set_off (by decide) (m.c _ _ h.c1), set_off (by decide) (m.c _ _ h.c2), set_off (by decide) (m.c _ _ h.c3), set_off (by decide) (m.c _ _ h.c4), set_at (m.c _ _ h.c5), fun i => by rw [World.frozen?_setCell]; exact m.f _ (h.fr i),
    below_set (h.o5.grown hg (Nat.le_succ _) (Nat.le_of_succ_le h.size) h.b) _ _, own_set (h.o1.kept hg (fun g e e1 => h.a15.symm g e1 e)) _, own_set (h.o3.kept hg (fun g e e1 => h.a35.symm g e1 e)) _, own_set (h.o4.kept hg (fun g e e1 => h.a45.symm g e1 e)) _, own_set hown _,
    h.a13, h.a14, (h.a15.symm.rowed hr (fun g e => (h.o1.lt g e).2)).symm, h.a34, (h.a35.symm.rowed hr (fun g e => (h.o3.lt g e).2)).symm, (h.a45.symm.rowed hr (fun g e => (h.o4.lt g e).2)).symm⟩
/-- The result's cells: six stores below 'out'. -/
theorem own_setR {α : Type} {e sz : Nat} {cs : α → List Value} {v u : Value} {l : List α} {R : Nat} (h : OwnG e sz cs (N + 1) w4 v l) (hR : R < N) (i : Nat) : OwnG e sz cs (N + 1) (w4.setCell ⟨R, i, none⟩ u) v l :=
  h.kept (Lib.grownBy_setCell w4 R i u) (fun g hg e => by have := (h.lt g hg).1; have := Option.some.inj e; omega)
/-- With's array of the two lists of value types, in block M; the list that grows lies elsewhere. -/
structure Arr (M : Nat) (wr : World) (x0 x1 v : Value) : Prop where
  c0 : wr.cell? ⟨M, 0, none⟩ = some x0
  c1 : wr.cell? ⟨M, 1, none⟩ = some x1
  f : ∀ g, v.ownBlock = some g → g ≠ M
theorem Arr.lt {M : Nat} {x0 x1 v : Value} (h : Arr M wr x0 x1 v) : M < wr.heap.size := World.block_lt_of_cell? wr ⟨M, 0, none⟩ h.c0
theorem Arr.alloc {M : Nat} {x0 x1 v : Value} (h : Arr M wr x0 x1 v) (o : Obj) : Arr M (wr.alloc o) x0 x1 v := by
  have hb : Below wr.heap.size wr (wr.alloc o) := (Below.refl _ _).alloc (Nat.le_refl _) _
  exact ⟨(hb.cell (p := ⟨M, 0, none⟩) h.lt).trans h.c0, (hb.cell (p := ⟨M, 1, none⟩) h.lt).trans h.c1, h.f⟩
theorem Arr.push {M : Nat} {x0 x1 v v' : Value} (h : Arr M wr x0 x1 v) (hg : wr.grownBy w4 v.ownBlock) (hr : Rowed wr v v') (hN : N ≠ M) (i : Nat) (u : Value) : Arr M (w4.setCell ⟨N, i, none⟩ u) x0 x1 v' := by
  have hne : some M ≠ v.ownBlock := fun e => h.f M e.symm rfl
  refine ⟨?_, ?_, fun g e => ?_⟩
  · rw [World.cell?_setCell_other _ _ _ _ (by intro e; injection e; contradiction)]; exact (hg.cell_far ⟨M, 0, none⟩ h.lt hne).trans h.c0
  · rw [World.cell?_setCell_other _ _ _ _ (by intro e; injection e; contradiction)]; exact (hg.cell_far ⟨M, 1, none⟩ h.lt hne).trans h.c1
  · rcases hr g e with h1 | h1
    · exact h.f g h1
    · have := h.lt; omega
end
namespace Kd
theorem refs_cons (v : Vl) (r : List Vl) : refs (v :: r) = (if v.k = 3 then [v.h] else []) ++ refs r := by
  unfold refs isRef
  by_cases h : v.k = 3 <;> simp [h]
theorem withV_snoc : ∀ (a : List Vl) (v : Vl) (l : List Hp), withV (a ++ [v]) l = withV a l ++ [setV v (l.drop (refs a).length)]
  | [], v, l => by simp [withV, refs]
  | x :: a, v, l => by
    rw [List.cons_append, withV, withV, withV_snoc a v, refs_cons, List.cons_append]
    congr 2
    unfold restV
    by_cases h : x.k = 3
    · simp only [h, if_true, List.length_append, List.length_cons, List.length_nil]
      rw [Nat.add_comm, ← List.drop_drop, List.drop_one]
      simp [List.drop_tail]
    · simp [h]
theorem withV_len : ∀ (a : List Vl) (l : List Hp), (withV a l).length = a.length
  | [], _ => rfl
  | x :: a, l => by rw [withV, List.length_cons, withV_len a, List.length_cons]
theorem withF_snoc : ∀ (a : List Fd) (f : Fd) (l : List Hp), withF (a ++ [f]) l = withF a l ++ [setF f (l.drop (refs (a.map Fd.v)).length)]
  | [], v, l => by simp [withF, refs]
  | x :: a, v, l => by
    rw [List.cons_append, withF, withF, withF_snoc a v, List.map_cons, refs_cons, List.cons_append]
    congr 2
    unfold restV
    by_cases h : x.v.k = 3
    · simp only [h, if_true, List.length_append, List.length_cons, List.length_nil]
      rw [Nat.add_comm, ← List.drop_drop, List.drop_one]
      simp [List.drop_tail]
    · simp [h]
theorem withF_len : ∀ (a : List Fd) (l : List Hp), (withF a l).length = a.length
  | [], _ => rfl
  | x :: a, l => by rw [withF, List.length_cons, withF_len a, List.length_cons]
theorem refs_take (l : List Vl) (j : Nat) (hj : j < l.length) : refs (l.take (j + 1)) = refs (l.take j) ++ (if l[j].k = 3 then [l[j].h] else []) := by
  rw [List.take_succ_eq_append_getElem hj, refs_append, refs_cons]
  simp [refs]
theorem refs_take_le (l : List Vl) (j : Nat) : (refs (l.take j)).length ≤ (refs l).length := by
  have h : refs l = refs (l.take j) ++ refs (l.drop j) := by rw [← refs_append, List.take_append_drop]
  rw [h, List.length_append]; omega
theorem heads (s : Sb) : (heaps s).length = s.sups.length + (refs s.c.ps).length + (refs s.c.rs).length + (refs (s.c.fs.map Fd.v)).length := by
  unfold heaps allV
  rw [refs_append, refs_append]
  simp only [List.length_append]
  omega
end Kd
end Go.Proofs.YtkdhjejchdcipaaDoor
/-
  Layer 4, code: a declared type whose lists are its own.
-/
namespace Go.Proofs.YtkdhjejchdcipaaDoor
open Go.RowKit
set_option linter.unusedVariables false
set_option maxRecDepth 100000

theorem OwnG.far {α : Type} {e sz n b i : Nat} {cs : α → List Value} {w : World} {v u : Value} {l : List α} (h : OwnG e sz cs n w v l) (hb : b < n) : OwnG e sz cs n (w.setCell ⟨b, i, none⟩ u) v l :=
  h.kept (Lib.grownBy_setCell w b i u) (fun g hg e => by have := (h.lt g hg).1; have := Option.some.inj e; omega)
theorem Ap.new {v v' : Value} {n : Nat} (h : ∀ g, v.ownBlock = some g → g < n) (h' : ∀ g, v'.ownBlock = some g → n ≤ g) : Ap v v' := fun g e e' => by
  have := h g e; have := h' g e'; omega
/-- A type whose four lists lie in rows of their own, from block B on. -/
structure OwnSub (B : Nat) (w : World) (v : Value) (s : Sb) : Prop where
  h : ∃ A1 c1 A2 c2 A3 c3 A4 c4, v = .agg #[.bool s.fin, .slice A1 s.sups.length c1, .int .i64 s.c.k, .slice A2 s.c.ps.length c2, .slice A3 s.c.rs.length c3, .slice A4 s.c.fs.length c4] ∧
    OwnG 39 2 Hp.cs B w (.slice A1 s.sups.length c1) s.sups ∧ OwnG 46 4 Vl.cs B w (.slice A2 s.c.ps.length c2) s.c.ps ∧ OwnG 46 4 Vl.cs B w (.slice A3 s.c.rs.length c3) s.c.rs ∧ OwnG 50 6 Fd.cs B w (.slice A4 s.c.fs.length c4) s.c.fs ∧
    Ap (.slice A1 s.sups.length c1) (.slice A2 s.c.ps.length c2) ∧ Ap (.slice A1 s.sups.length c1) (.slice A3 s.c.rs.length c3) ∧ Ap (.slice A1 s.sups.length c1) (.slice A4 s.c.fs.length c4) ∧ Ap (.slice A2 s.c.ps.length c2) (.slice A3 s.c.rs.length c3) ∧ Ap (.slice A2 s.c.ps.length c2) (.slice A4 s.c.fs.length c4) ∧ Ap (.slice A3 s.c.rs.length c3) (.slice A4 s.c.fs.length c4)

set_option maxHeartbeats 2000000 in
theorem fresh_any (s : Sb) (x : Value) (w : World) (h : IsSub w w.heap.size x s) (hS : Kd.Small s) :
    Calls Tryd.prog 59 #[x] w fun e w' => (∃ v, e = .returned v ∧ OwnSub w.heap.size w' v s) ∧ Below w.heap.size w w' := by
  obtain ⟨Q, hQ⟩ : ∃ Q : Ending → World → Prop, Q = (fun e w' => (∃ v, e = .returned v ∧ OwnSub w.heap.size w' v s) ∧ Below w.heap.size w w') := ⟨_, rfl⟩
  rw [← hQ]
  have hQ' := Lib.hid hQ
  clear hQ
  obtain ⟨A1, c1, A2, c2, A3, c3, A4, c4, rfl, s1, s2, s3, s4⟩ := h
  obtain ⟨fin, sups, k, ps, rs, fs⟩ := s
  obtain ⟨la, lp, lr, lf⟩ := hS
  dsimp only at *
  have HS1 := Lib.hid s1
  have HS2 := Lib.hid s2
  have HS3 := Lib.hid s3
  have HS4 := Lib.hid s4
  have HLa := Lib.hid la
  have HLp := Lib.hid lp
  have HLr := Lib.hid lr
  have HLf := Lib.hid lf
  clear s1 s2 s3 s4 la lp lr lf
  obtain ⟨W0, hW0⟩ : ∃ W0, W0 = (w.alloc (.cells #[.bool fin, .slice A1 sups.length c1, .int .i64 k, .slice A2 ps.length c2, .slice A3 rs.length c3, .slice A4 fs.length c4] 29)).alloc (.cells #[.bool false, .slice none 0 0, .int .i64 0, .slice none 0 0, .slice none 0 0, .slice none 0 0] 29) := ⟨_, rfl⟩
  have HB0 : Hid (Below w.heap.size w W0) := Lib.hid (by rw [hW0]; exact ((Below.refl _ _).alloc (Nat.le_refl _) _).alloc (by simp) _)
  have hsz : W0.heap.size = w.heap.size + 2 := by rw [hW0]; simp
  have x0 : W0.cell? ⟨w.heap.size, 0, none⟩ = some (.bool fin) := by rw [hW0]; go_simp
  have z0 : W0.cell? ⟨w.heap.size + 1, 0, none⟩ = some (.bool false) := by rw [hW0]; go_simp
  have x1 : W0.cell? ⟨w.heap.size, 1, none⟩ = some (.slice A1 sups.length c1) := by rw [hW0]; go_simp
  have z1 : W0.cell? ⟨w.heap.size + 1, 1, none⟩ = some (.slice none 0 0) := by rw [hW0]; go_simp
  have x2 : W0.cell? ⟨w.heap.size, 2, none⟩ = some (.int .i64 k) := by rw [hW0]; go_simp
  have z2 : W0.cell? ⟨w.heap.size + 1, 2, none⟩ = some (.int .i64 0) := by rw [hW0]; go_simp
  have x3 : W0.cell? ⟨w.heap.size, 3, none⟩ = some (.slice A2 ps.length c2) := by rw [hW0]; go_simp
  have z3 : W0.cell? ⟨w.heap.size + 1, 3, none⟩ = some (.slice none 0 0) := by rw [hW0]; go_simp
  have x4 : W0.cell? ⟨w.heap.size, 4, none⟩ = some (.slice A3 rs.length c3) := by rw [hW0]; go_simp
  have z4 : W0.cell? ⟨w.heap.size + 1, 4, none⟩ = some (.slice none 0 0) := by rw [hW0]; go_simp
  have x5 : W0.cell? ⟨w.heap.size, 5, none⟩ = some (.slice A4 fs.length c4) := by rw [hW0]; go_simp
  have z5 : W0.cell? ⟨w.heap.size + 1, 5, none⟩ = some (.slice none 0 0) := by rw [hW0]; go_simp
  have xf : ∀ i, W0.frozen? ⟨w.heap.size, i, none⟩ = false := fun i => by rw [hW0]; go_simp
  have zf : ∀ i, W0.frozen? ⟨w.heap.size + 1, i, none⟩ = false := fun i => by rw [hW0]; go_simp
  have HSZ := Lib.hid hsz
  have hz0a : w.heap.size < W0.heap.size := by omega
  have hz0b : w.heap.size + 1 < W0.heap.size := by omega
  have HW := Lib.hid hW0
  clear hW0 hsz
  go_enter Tryd.func59, Tryd.ntmps59
  go_wp2_with (first
    | (at_builtin; rw [← HW.out]; refine cat_at elemH rfl _ _ rfl W0 sups.length rfl rfl (OwnG.nil _ (w.heap.size + 2)) rfl (HS1.out.below HB0.out) (by have := HSZ.out; omega) sups.length (by have := HLa.out; omega) (by simp) ?_; intro B1 d1 w1 hown1 hg1 hr1; have HG1 := Lib.hid (grownNone hg1 (Nat.le_refl _) (Below.refl _ _)); have HR1 := Lib.hid hr1; have HO1 := Lib.hid hown1; clear hown1 hg1 hr1; obtain ⟨hc1, hf1⟩ := bcell HG1.out; have HB1 := Lib.hid (below_trans2 HB0.out HG1.out); have hz1a := Nat.lt_of_lt_of_le hz0a HG1.out.size; have hz1b := Nat.lt_of_lt_of_le hz0b HG1.out.size)
    | (at_builtin; refine cat_at elemV rfl _ _ rfl (w1.setCell ⟨w.heap.size, 1, none⟩ (.slice B1 sups.length d1)) ps.length rfl rfl (OwnG.nil _ (w.heap.size + 2)) rfl (HS2.out.below (HB1.out.setCell (p := ⟨w.heap.size, 1, none⟩) (Nat.le_refl _) _)) (by have := hz1b; simp; omega) ps.length (by have := HLp.out; omega) (by simp) ?_; intro B2 d2 w2 hown2 hg2 hr2; have HG2 := Lib.hid (grownNone hg2 (Nat.le_refl _) (Below.refl _ _)); have HR2 := Lib.hid hr2; have HO2 := Lib.hid hown2; clear hown2 hg2 hr2; obtain ⟨hc2, hf2⟩ := bcell HG2.out; have HB2 := Lib.hid (below_trans2 (HB1.out.setCell (p := ⟨w.heap.size, 1, none⟩) (Nat.le_refl _) _) HG2.out); have hz2a := Nat.lt_of_lt_of_le hz1a (Nat.le_trans (by simp) HG2.out.size); have hz2b := Nat.lt_of_lt_of_le hz1b (Nat.le_trans (by simp) HG2.out.size))
    | (at_builtin; refine cat_at elemV rfl _ _ rfl (w2.setCell ⟨w.heap.size, 3, none⟩ (.slice B2 ps.length d2)) rs.length rfl rfl (OwnG.nil _ (w.heap.size + 2)) rfl (HS3.out.below (HB2.out.setCell (p := ⟨w.heap.size, 3, none⟩) (Nat.le_refl _) _)) (by have := hz2b; simp; omega) rs.length (by have := HLr.out; omega) (by simp) ?_; intro B3 d3 w3 hown3 hg3 hr3; have HG3 := Lib.hid (grownNone hg3 (Nat.le_refl _) (Below.refl _ _)); have HR3 := Lib.hid hr3; have HO3 := Lib.hid hown3; clear hown3 hg3 hr3; obtain ⟨hc3, hf3⟩ := bcell HG3.out; have HB3 := Lib.hid (below_trans2 (HB2.out.setCell (p := ⟨w.heap.size, 3, none⟩) (Nat.le_refl _) _) HG3.out); have hz3a := Nat.lt_of_lt_of_le hz2a (Nat.le_trans (by simp) HG3.out.size); have hz3b := Nat.lt_of_lt_of_le hz2b (Nat.le_trans (by simp) HG3.out.size))
    | (at_builtin; refine cat_at elemF rfl _ _ rfl (w3.setCell ⟨w.heap.size, 4, none⟩ (.slice B3 rs.length d3)) fs.length rfl rfl (OwnG.nil _ (w.heap.size + 2)) rfl (HS4.out.below (HB3.out.setCell (p := ⟨w.heap.size, 4, none⟩) (Nat.le_refl _) _)) (by have := hz3b; simp; omega) fs.length (by have := HLf.out; omega) (by simp) ?_; intro B4 d4 w4 hown4 hg4 hr4; have HG4 := Lib.hid (grownNone hg4 (Nat.le_refl _) (Below.refl _ _)); have HR4 := Lib.hid hr4; have HO4 := Lib.hid hown4; clear hown4 hg4 hr4; obtain ⟨hc4, hf4⟩ := bcell HG4.out; have HB4 := Lib.hid (below_trans2 (HB3.out.setCell (p := ⟨w.heap.size, 4, none⟩) (Nat.le_refl _) _) HG4.out); have hz4a := Nat.lt_of_lt_of_le hz3a (Nat.le_trans (by simp) HG4.out.size); have hz4b := Nat.lt_of_lt_of_le hz3b (Nat.le_trans (by simp) HG4.out.size)))
  go_wp2
  have y0 : w4.cell? ⟨w.heap.size + 1, 0, none⟩ = some (.bool false) := by simp [hc4, hc3, hc2, hc1, hz0b, hz1b, hz2b, hz3b, z0, World.cell?_setCell_other]
  have y1 : w4.cell? ⟨w.heap.size + 1, 1, none⟩ = some (.slice none 0 0) := by simp [hc4, hc3, hc2, hc1, hz0b, hz1b, hz2b, hz3b, z1, World.cell?_setCell_other]
  have y2 : w4.cell? ⟨w.heap.size + 1, 2, none⟩ = some (.int .i64 0) := by simp [hc4, hc3, hc2, hc1, hz0b, hz1b, hz2b, hz3b, z2, World.cell?_setCell_other]
  have y3 : w4.cell? ⟨w.heap.size + 1, 3, none⟩ = some (.slice none 0 0) := by simp [hc4, hc3, hc2, hc1, hz0b, hz1b, hz2b, hz3b, z3, World.cell?_setCell_other]
  have y4 : w4.cell? ⟨w.heap.size + 1, 4, none⟩ = some (.slice none 0 0) := by simp [hc4, hc3, hc2, hc1, hz0b, hz1b, hz2b, hz3b, z4, World.cell?_setCell_other]
  have y5 : w4.cell? ⟨w.heap.size + 1, 5, none⟩ = some (.slice none 0 0) := by simp [hc4, hc3, hc2, hc1, hz0b, hz1b, hz2b, hz3b, z5, World.cell?_setCell_other]
  clear hc1 hc2 hc3 hc4 hf1 hf2 hf3 hf4
  have t12 : w1.heap.size ≤ w2.heap.size := by have := HG2.out.size; simpa using this
  have t23 : w2.heap.size ≤ w3.heap.size := by have := HG3.out.size; simpa using this
  have t34 : w3.heap.size ≤ w4.heap.size := by have := HG4.out.size; simpa using this
  have O1 := HO1.out
  rw [List.nil_append] at O1
  have b1 := fun g e => (O1.lt g e).2
  have O2 := HO2.out
  rw [List.nil_append] at O2
  have b2 := fun g e => (O2.lt g e).2
  have l2 : ∀ g, (Value.slice B2 ps.length d2).ownBlock = some g → w1.heap.size ≤ g := fun g e => by
    rcases HR2.out g e with h | h
    · cases h
    · simpa using h
  have O3 := HO3.out
  rw [List.nil_append] at O3
  have b3 := fun g e => (O3.lt g e).2
  have l3 : ∀ g, (Value.slice B3 rs.length d3).ownBlock = some g → w2.heap.size ≤ g := fun g e => by
    rcases HR3.out g e with h | h
    · cases h
    · simpa using h
  have O4 := HO4.out
  rw [List.nil_append] at O4
  have b4 := fun g e => (O4.lt g e).2
  have l4 : ∀ g, (Value.slice B4 fs.length d4).ownBlock = some g → w3.heap.size ≤ g := fun g e => by
    rcases HR4.out g e with h | h
    · cases h
    · simpa using h
  have O1 := (OwnG.far (b := w.heap.size) (i := 1) (u := .slice B1 sups.length d1) O1 (by omega)).below HG2.out
  have O1 := (OwnG.far (b := w.heap.size) (i := 3) (u := .slice B2 ps.length d2) O1 (by omega)).below HG3.out
  have O1 := (OwnG.far (b := w.heap.size) (i := 4) (u := .slice B3 rs.length d3) O1 (by omega)).below HG4.out
  have O1 := OwnG.far (b := w.heap.size) (i := 5) (u := .slice B4 fs.length d4) O1 (by omega)
  have O1 := OwnG.far (b := w.heap.size + 1) (i := 0) (u := .bool fin) O1 (by omega)
  have O1 := OwnG.far (b := w.heap.size + 1) (i := 1) (u := .slice B1 sups.length d1) O1 (by omega)
  have O1 := OwnG.far (b := w.heap.size + 1) (i := 2) (u := .int .i64 k) O1 (by omega)
  have O1 := OwnG.far (b := w.heap.size + 1) (i := 3) (u := .slice B2 ps.length d2) O1 (by omega)
  have O1 := OwnG.far (b := w.heap.size + 1) (i := 4) (u := .slice B3 rs.length d3) O1 (by omega)
  have O1 := OwnG.far (b := w.heap.size + 1) (i := 5) (u := .slice B4 fs.length d4) O1 (by omega)
  have O2 := (OwnG.far (b := w.heap.size) (i := 3) (u := .slice B2 ps.length d2) O2 (by omega)).below HG3.out
  have O2 := (OwnG.far (b := w.heap.size) (i := 4) (u := .slice B3 rs.length d3) O2 (by omega)).below HG4.out
  have O2 := OwnG.far (b := w.heap.size) (i := 5) (u := .slice B4 fs.length d4) O2 (by omega)
  have O2 := OwnG.far (b := w.heap.size + 1) (i := 0) (u := .bool fin) O2 (by omega)
  have O2 := OwnG.far (b := w.heap.size + 1) (i := 1) (u := .slice B1 sups.length d1) O2 (by omega)
  have O2 := OwnG.far (b := w.heap.size + 1) (i := 2) (u := .int .i64 k) O2 (by omega)
  have O2 := OwnG.far (b := w.heap.size + 1) (i := 3) (u := .slice B2 ps.length d2) O2 (by omega)
  have O2 := OwnG.far (b := w.heap.size + 1) (i := 4) (u := .slice B3 rs.length d3) O2 (by omega)
  have O2 := OwnG.far (b := w.heap.size + 1) (i := 5) (u := .slice B4 fs.length d4) O2 (by omega)
  have O3 := (OwnG.far (b := w.heap.size) (i := 4) (u := .slice B3 rs.length d3) O3 (by omega)).below HG4.out
  have O3 := OwnG.far (b := w.heap.size) (i := 5) (u := .slice B4 fs.length d4) O3 (by omega)
  have O3 := OwnG.far (b := w.heap.size + 1) (i := 0) (u := .bool fin) O3 (by omega)
  have O3 := OwnG.far (b := w.heap.size + 1) (i := 1) (u := .slice B1 sups.length d1) O3 (by omega)
  have O3 := OwnG.far (b := w.heap.size + 1) (i := 2) (u := .int .i64 k) O3 (by omega)
  have O3 := OwnG.far (b := w.heap.size + 1) (i := 3) (u := .slice B2 ps.length d2) O3 (by omega)
  have O3 := OwnG.far (b := w.heap.size + 1) (i := 4) (u := .slice B3 rs.length d3) O3 (by omega)
  have O3 := OwnG.far (b := w.heap.size + 1) (i := 5) (u := .slice B4 fs.length d4) O3 (by omega)
  have O4 := OwnG.far (b := w.heap.size) (i := 5) (u := .slice B4 fs.length d4) O4 (by omega)
  have O4 := OwnG.far (b := w.heap.size + 1) (i := 0) (u := .bool fin) O4 (by omega)
  have O4 := OwnG.far (b := w.heap.size + 1) (i := 1) (u := .slice B1 sups.length d1) O4 (by omega)
  have O4 := OwnG.far (b := w.heap.size + 1) (i := 2) (u := .int .i64 k) O4 (by omega)
  have O4 := OwnG.far (b := w.heap.size + 1) (i := 3) (u := .slice B2 ps.length d2) O4 (by omega)
  have O4 := OwnG.far (b := w.heap.size + 1) (i := 4) (u := .slice B3 rs.length d3) O4 (by omega)
  have O4 := OwnG.far (b := w.heap.size + 1) (i := 5) (u := .slice B4 fs.length d4) O4 (by omega)
  refine bodyPost_ret (v := .agg #[.bool fin, .slice B1 sups.length d1, .int .i64 k, .slice B2 ps.length d2, .slice B3 rs.length d3, .slice B4 fs.length d4]) (by simp [results, Tryd.results59, go_sem, y0, y1, y2, y3, y4, y5]) rfl ?_
  rw [hQ'.out]
  refine ⟨⟨_, rfl, ⟨B1, d1, B2, d2, B3, d3, B4, d4, rfl, O1.base (by omega), O2.base (by omega), O3.base (by omega), O4.base (by omega), Ap.new b1 l2, Ap.new (n := w2.heap.size) (fun g e => Nat.lt_of_lt_of_le (b1 g e) t12) l3, Ap.new (n := w3.heap.size) (fun g e => Nat.lt_of_lt_of_le (b1 g e) (Nat.le_trans t12 t23)) l4, Ap.new b2 l3, Ap.new (n := w3.heap.size) (fun g e => Nat.lt_of_lt_of_le (b2 g e) t23) l4, Ap.new b3 l4⟩⟩, ?_⟩
  exact ((((((HB4.out.setCell (p := ⟨w.heap.size, 5, none⟩) (Nat.le_refl _) _).setCell (p := ⟨w.heap.size + 1, 0, none⟩) (Nat.le_succ _) _).setCell (p := ⟨w.heap.size + 1, 1, none⟩) (Nat.le_succ _) _).setCell (p := ⟨w.heap.size + 1, 2, none⟩) (Nat.le_succ _) _).setCell (p := ⟨w.heap.size + 1, 3, none⟩) (Nat.le_succ _) _).setCell (p := ⟨w.heap.size + 1, 4, none⟩) (Nat.le_succ _) _).setCell (p := ⟨w.heap.size + 1, 5, none⟩) (Nat.le_succ _) _
end Go.Proofs.YtkdhjejchdcipaaDoor
/-
  Layer 4, code: the iterator over where value types stand.
-/
namespace Go.Proofs.YtkdhjejchdcipaaDoor
open Go.RowKit Go.Shelf
attribute [local go_sem] Oper.semAt_some
set_option linter.unusedVariables false
set_option linter.unusedSimpArgs false
set_option maxRecDepth 100000

/-- Where the o-th cells of a list's elements stand. -/
def ats (A : Option Addr) (sz o n : Nat) : List Addr := (List.range n).map fun i => match A with | some a => ⟨a.block, a.off + i * sz + o, none⟩ | none => ⟨0, 0, none⟩
theorem ats_len (A : Option Addr) (sz o n : Nat) : (ats A sz o n).length = n := by simp [ats]
theorem ats_get (b off sz o n k : Nat) (h : k < (ats (some ⟨b, off, none⟩) sz o n).length) : (ats (some ⟨b, off, none⟩) sz o n)[k] = ⟨b, off + k * sz + o, none⟩ := by simp [ats]
def valsAt (A2 : Option Addr) (n2 : Nat) (A3 : Option Addr) (n3 : Nat) (A4 : Option Addr) (n4 : Nat) : List Addr := ats A2 4 0 n2 ++ ats A3 4 0 n3 ++ ats A4 6 1 n4
abbrev At (l : List Addr) := { x : Addr // x ∈ l }
theorem attach_val (l : List Addr) (k : Nat) (h : k < l.attach.length) : (l.attach[k]).1 = l[k]'(by simpa using h) := by simp
theorem yield_at {F : Fence} {m : Nat} {P : Program} {l : Nat} {x y : Addr} {W : World} {R : Ending → World → Prop} (h : YieldAt F m P l #[.pointer (some x)] W R) (e : x = y) : YieldAt F m P l #[.pointer (some y)] W R := by rw [← e]; exact h

set_option maxHeartbeats 2000000 in
theorem vals1_seq (F : Fence) (n : Nat) (hF : F.fn 142) (hro : F.round = none) (hn : 1 ≤ n) (D : Nat → Nat → Prop) (w : World) (Bc Bs n2 c2 n3 c3 n4 c4 : Nat) (A2 A3 A4 : Option Addr) (hDc : ∀ o, ¬ D Bc o) (hDs : ∀ o, ¬ D Bs o)
    (x0 : w.cell? ⟨Bc, 0, none⟩ = some (.pointer (some ⟨Bs, 2, none⟩))) (x3 : w.cell? ⟨Bs, 3, none⟩ = some (.slice A2 n2 c2)) (x4 : w.cell? ⟨Bs, 4, none⟩ = some (.slice A3 n3 c3)) (x5 : w.cell? ⟨Bs, 5, none⟩ = some (.slice A4 n4 c4))
    (h2 : 0 < n2 → ∃ b off, A2 = some ⟨b, off, none⟩) (h3 : 0 < n3 → ∃ b off, A3 = some ⟨b, off, none⟩) (h4 : 0 < n4 → ∃ b off, A4 = some ⟨b, off, none⟩) (l2 : n2 ≤ 10000) (l3 : n3 ≤ 10000) (l4 : n4 ≤ 10000) :
    SeqX F n Tryd.prog 142 #[.pointer (some ⟨Bc, 0, none⟩)] (fun x : At (valsAt A2 n2 A3 n3 A4 n4) => #[.pointer (some x.1)]) D (· = (valsAt A2 n2 A3 n3 A4 n4).attach) (· <+: (valsAt A2 n2 A3 n3 A4 n4).attach) (n2 + n3 + n4) w := by
  intro l J Jx W hW hl1 hl2 hJ hJx hY h0
  obtain ⟨pl, hpl⟩ : ∃ pl, pl = valsAt A2 n2 A3 n3 A4 n4 := ⟨_, rfl⟩
  subst hpl
  have hplen : (valsAt A2 n2 A3 n3 A4 n4).attach.length = n2 + n3 + n4 := by simp [valsAt, ats_len]; omega
  have bc : Bc < w.heap.size := World.block_lt_of_cell? w ⟨Bc, 0, none⟩ x0
  have bs : Bs < w.heap.size := World.block_lt_of_cell? w ⟨Bs, 3, none⟩ x3
  have fx : ∀ W' : World, Keep (fun k o => D k o ∨ k = l) W W' → W'.cell? ⟨Bc, 0, none⟩ = some (.pointer (some ⟨Bs, 2, none⟩)) ∧ W'.cell? ⟨Bs, 3, none⟩ = some (.slice A2 n2 c2) ∧ W'.cell? ⟨Bs, 4, none⟩ = some (.slice A3 n3 c3) ∧ W'.cell? ⟨Bs, 5, none⟩ = some (.slice A4 n4 c4) := fun W' hk => by
    have nc : ¬ (D Bc 0 ∨ Bc = l) := fun e => by rcases e with e | e; exact hDc _ e; omega
    have ns : ∀ o, ¬ (D Bs o ∨ Bs = l) := fun o e => by rcases e with e | e; exact hDs _ e; omega
    exact ⟨hk.cells _ _ _ nc ((hW.cell (p := ⟨Bc, 0, none⟩) bc).trans x0), hk.cells _ _ _ (ns _) ((hW.cell (p := ⟨Bs, 3, none⟩) bs).trans x3), hk.cells _ _ _ (ns _) ((hW.cell (p := ⟨Bs, 4, none⟩) bs).trans x4), hk.cells _ _ _ (ns _) ((hW.cell (p := ⟨Bs, 5, none⟩) bs).trans x5)⟩
  obtain ⟨Lst, hLst⟩ : ∃ Lst, Lst = (valsAt A2 n2 A3 n3 A4 n4).attach := ⟨_, rfl⟩
  rw [← hLst] at hplen ⊢
  have FX := Lib.hid fx
  have HY := Lib.hid hY
  have HL := Lib.hid hLst
  have HPL := Lib.hid hplen
  have y0 := (fx W (Keep.refl W)).1
  have y3 := (fx W (Keep.refl W)).2.1
  clear x0 x3 x4 x5 fx hY hLst hplen hJ hJx
  refine callsIn_of_wp Tryd.func142 rfl hF ?_ hro
  simp only [Tryd.ntmps142, List.size_toArray, List.length_cons, List.length_nil, Nat.reduceAdd, Nat.reduceSub, Array.replicate_succ, Array.replicate_zero, List.push_toArray, List.append_toArray, List.nil_append, List.cons_append]
  gi_wp2
  gi_loopw [3, 11] (fun _ i wr => ∃ k : Nat, k ≤ n2 ∧ i = .int .i64 k ∧ J (Lst.take k) wr ∧ Keep (fun k o => D k o ∨ k = l) W wr) (fun _ i _ => n2 - (intOf i).toNat)
  case atStart => exact ⟨0, Nat.zero_le _, rfl, by simpa using h0, Keep.refl W⟩
  case round =>
    obtain ⟨k, hk, rfl, hJk, hK⟩ := hrel
    obtain ⟨q0, q3, q4, q5⟩ := FX.out wr hK
    by_cases hlt : k < n2
    · obtain ⟨b, off, rfl⟩ := h2 (by omega)
      have hkl : k < Lst.length := by rw [HPL.out]; omega
      have hx : (Lst[k]'hkl).1 = ⟨b, off + k * 4, none⟩ := by
        have e : ∀ (M : List (At (valsAt (some ⟨b, off, none⟩) n2 A3 n3 A4 n4))) (h : k < M.length), M = (valsAt (some ⟨b, off, none⟩) n2 A3 n3 A4 n4).attach → (M[k]'h).1 = ⟨b, off + k * 4, none⟩ := fun M h e => by
          subst e
          rw [attach_val]
          simp [valsAt, ats_len, List.getElem_append, hlt, ats_get]
        exact e Lst hkl HL.out
      have tk : Lst.take k ++ [Lst[k]'hkl] = Lst.take (k + 1) := (List.take_succ_eq_append_getElem hkl).symm
      obtain ⟨fn, tmps, assign, body, hy, hR⟩ := yield_at (HY.out (Lst.take k) (Lst[k]'hkl) wr hJk (by rw [List.length_take]; omega)) hx
      have i0 : (0 : Int) ≤ k := by omega
      have i1 : (k : Int) < n2 := by omega
      gi_wp2
      refine hR.mono ?_
      rintro e W' (⟨rfl, hJ', hk'⟩ | ⟨rfl, hJx', -⟩)
      · rw [tk] at hJ'
        gi_wp2
        go_roundw
        case rel => exact ⟨k + 1, by omega, by go_num, by simpa [Nat.add_assoc] using hJ', hK.trans hk'⟩
        case measure => simp [intOf]; omega
      · rw [tk] at hJx'
        gi_wp2
        refine bodyPost_ret (results_none rfl _ _ _) rfl ?_
        exact ⟨⟨_, rfl⟩, .inr ⟨_, List.take_prefix _ _, hJx'⟩⟩
    · have hkn : n2 = k := by omega
      subst hkn
      clear hlt hk
      gi_wp2
      gi_loopw [4, 29] (fun _ i wr => ∃ k : Nat, k ≤ n3 ∧ i = .int .i64 k ∧ J (Lst.take (n2 + k)) wr ∧ Keep (fun k o => D k o ∨ k = l) W wr) (fun _ i _ => n3 - (intOf i).toNat)
      case atStart => exact ⟨0, Nat.zero_le _, rfl, by simpa using hJk, hK⟩
      case round =>
        obtain ⟨k, hk, rfl, hJk, hK⟩ := hrel
        obtain ⟨q0, q3, q4, q5⟩ := FX.out wr hK
        by_cases hlt : k < n3
        · obtain ⟨b, off, rfl⟩ := h3 (by omega)
          have hkl : n2 + k < Lst.length := by rw [HPL.out]; omega
          have hx : (Lst[n2 + k]'hkl).1 = ⟨b, off + k * 4, none⟩ := by
            have e : ∀ (M : List (At (valsAt A2 n2 (some ⟨b, off, none⟩) n3 A4 n4))) (h : n2 + k < M.length), M = (valsAt A2 n2 (some ⟨b, off, none⟩) n3 A4 n4).attach → (M[n2 + k]'h).1 = ⟨b, off + k * 4, none⟩ := fun M h e => by
              subst e
              rw [attach_val]
              simp [valsAt, ats_len, List.getElem_append, hlt, ats_get]
            exact e Lst hkl HL.out
          have tk : Lst.take (n2 + k) ++ [Lst[n2 + k]'hkl] = Lst.take (n2 + k + 1) := (List.take_succ_eq_append_getElem hkl).symm
          obtain ⟨fn, tmps, assign, body, hy, hR⟩ := yield_at (HY.out (Lst.take (n2 + k)) (Lst[n2 + k]'hkl) wr hJk (by rw [List.length_take]; omega)) hx
          have i0 : (0 : Int) ≤ k := by omega
          have i1 : (k : Int) < n3 := by omega
          gi_wp2
          refine hR.mono ?_
          rintro e W' (⟨rfl, hJ', hk'⟩ | ⟨rfl, hJx', -⟩)
          · rw [tk] at hJ'
            gi_wp2
            go_roundw
            case rel => exact ⟨k + 1, by omega, by go_num, by simpa [Nat.add_assoc] using hJ', hK.trans hk'⟩
            case measure => simp [intOf]; omega
          · rw [tk] at hJx'
            gi_wp2
            refine bodyPost_ret (results_none rfl _ _ _) rfl ?_
            exact ⟨⟨_, rfl⟩, .inr ⟨_, List.take_prefix _ _, hJx'⟩⟩
        · have hkn : n3 = k := by omega
          subst hkn
          clear hlt hk
          gi_wp2
          gi_loopw [5, 47] (fun _ i wr => ∃ k : Nat, k ≤ n4 ∧ i = .int .i64 k ∧ J (Lst.take (n2 + n3 + k)) wr ∧ Keep (fun k o => D k o ∨ k = l) W wr) (fun _ i _ => n4 - (intOf i).toNat)
          case atStart => exact ⟨0, Nat.zero_le _, rfl, by simpa using hJk, hK⟩
          case round =>
            obtain ⟨k, hk, rfl, hJk, hK⟩ := hrel
            obtain ⟨q0, q3, q4, q5⟩ := FX.out wr hK
            by_cases hlt : k < n4
            · obtain ⟨b, off, rfl⟩ := h4 (by omega)
              have hkl : n2 + n3 + k < Lst.length := by rw [HPL.out]; omega
              have hx : (Lst[n2 + n3 + k]'hkl).1 = ⟨b, off + k * 6 + 1, none⟩ := by
                have e : ∀ (M : List (At (valsAt A2 n2 A3 n3 (some ⟨b, off, none⟩) n4))) (h : n2 + n3 + k < M.length), M = (valsAt A2 n2 A3 n3 (some ⟨b, off, none⟩) n4).attach → (M[n2 + n3 + k]'h).1 = ⟨b, off + k * 6 + 1, none⟩ := fun M h e => by
                  subst e
                  rw [attach_val]
                  have z1 : ¬ (n2 + n3 + k < n2) := by omega
                  have z2 : ¬ (n2 + n3 + k - n2 < n3) := by omega
                  have z3 : n2 + n3 + k - n2 - n3 = k := by omega
                  simp [valsAt, ats_len, List.getElem_append, hlt, ats_get, z1, z2, z3]
                exact e Lst hkl HL.out
              have tk : Lst.take (n2 + n3 + k) ++ [Lst[n2 + n3 + k]'hkl] = Lst.take (n2 + n3 + k + 1) := (List.take_succ_eq_append_getElem hkl).symm
              obtain ⟨fn, tmps, assign, body, hy, hR⟩ := yield_at (HY.out (Lst.take (n2 + n3 + k)) (Lst[n2 + n3 + k]'hkl) wr hJk (by rw [List.length_take]; omega)) hx
              have i0 : (0 : Int) ≤ k := by omega
              have i1 : (k : Int) < n4 := by omega
              gi_wp2
              refine hR.mono ?_
              rintro e W' (⟨rfl, hJ', hk'⟩ | ⟨rfl, hJx', -⟩)
              · rw [tk] at hJ'
                gi_wp2
                go_roundw
                case rel => exact ⟨k + 1, by omega, by go_num, by simpa [Nat.add_assoc] using hJ', hK.trans hk'⟩
                case measure => simp [intOf]; omega
              · rw [tk] at hJx'
                gi_wp2
                refine bodyPost_ret (results_none rfl _ _ _) rfl ?_
                exact ⟨⟨_, rfl⟩, .inr ⟨_, List.take_prefix _ _, hJx'⟩⟩
            · have hkn : n4 = k := by omega
              subst hkn
              clear hlt hk
              gi_wp2
              go_end0
              refine ⟨⟨_, rfl⟩, .inl ⟨_, rfl, ?_⟩⟩
              have e : Lst.take (n2 + n3 + n4) = Lst := List.take_of_length_le (by rw [HPL.out]; omega)
              rw [e] at hJk
              exact hJk
end Go.Proofs.YtkdhjejchdcipaaDoor
/-
  Layer 4, code: the iterator over where heap types stand.
-/
namespace Go.Proofs.YtkdhjejchdcipaaDoor
open Go.RowKit Go.Shelf
attribute [local go_sem] Oper.semAt_some
set_option linter.unusedVariables false
set_option linter.unusedSimpArgs false
set_option maxRecDepth 100000

theorem vals_in (F : Fence) (n : Nat) (hF : F.fn 108) (hro : F.round = none) (p : Addr) (W : World) :
    CallsIn F n Tryd.prog 108 #[.pointer (some p)] W fun e w' => e = .returned (.func (.func 142) #[] #[.pointer (some ⟨W.heap.size, 0, none⟩)]) ∧ ∃ t, w' = W.alloc (.cells #[.pointer (some p)] t) := by
  refine callsIn_of_wp Tryd.func108 rfl hF ?_ hro
  simp only [Tryd.ntmps108, List.size_toArray, List.length_cons, List.length_nil, Nat.reduceAdd, Nat.reduceSub, Array.replicate_succ, Array.replicate_zero, List.push_toArray, List.append_toArray, List.nil_append, List.cons_append]
  gi_wp2
  go_ret
  exact ⟨rfl, _, rfl⟩
theorem placesF_in (F : Fence) (n : Nat) (hF : F.fn 61) (hro : F.round = none) (p : Addr) (W : World) :
    CallsIn F n Tryd.prog 61 #[.pointer (some p)] W fun e w' => e = .returned (.func (.func 107) #[] #[.pointer (some ⟨W.heap.size, 0, none⟩)]) ∧ ∃ t, w' = W.alloc (.cells #[.pointer (some p)] t) := by
  refine callsIn_of_wp Tryd.func61 rfl hF ?_ hro
  simp only [Tryd.ntmps61, List.size_toArray, List.length_cons, List.length_nil, Nat.reduceAdd, Nat.reduceSub, Array.replicate_succ, Array.replicate_zero, List.push_toArray, List.append_toArray, List.nil_append, List.cons_append]
  gi_wp2
  go_ret
  exact ⟨rfl, _, rfl⟩

theorem yield_bool {F : Fence} {m : Nat} {P : Program} {l : Nat} {args : Array Value} {W : World} {A B : World → Prop} (h : YieldAt F m P l args W fun e W' => (e = .returned (.bool true) ∧ A W') ∨ (e = .returned (.bool false) ∧ B W')) :
    YieldAt F m P l args W fun e W' => ∃ r, e = .returned (.bool r) ∧ ((r = true ∧ A W') ∨ (r = false ∧ B W')) :=
  h.mono fun e W' h => by
    rcases h with ⟨rfl, h⟩ | ⟨rfl, h⟩
    · exact ⟨true, rfl, .inl ⟨rfl, h⟩⟩
    · exact ⟨false, rfl, .inr ⟨rfl, h⟩⟩
/-- Where the heap types of a type stand, in order: kd tells the kind of the value type that stands there. -/
def shiftA (x : Addr) : Addr := ⟨x.block, x.off + 2, none⟩
def heapsAt (kd : Addr → Int) (A1 : Option Addr) (n1 : Nat) (vl : List Addr) : List Addr := ats A1 2 0 n1 ++ (vl.filter fun x => decide (kd x = 3)).map shiftA
theorem take_map_at {l : List Addr} {n : Nat} {A1 : Option Addr} (h : ats A1 2 0 n <+: l) (k : Nat) (hk : k < n) (b off : Nat) (e : A1 = some ⟨b, off, none⟩) : ∃ y : At l, y.1 = ⟨b, off + k * 2, none⟩ := by
  subst e
  have hl : k < (ats (some ⟨b, off, none⟩) 2 0 n).length := by rw [ats_len]; exact hk
  refine ⟨⟨⟨b, off + k * 2, none⟩, h.subset ?_⟩, rfl⟩
  have := List.getElem_mem hl
  rw [ats_get] at this
  exact this

end Go.Proofs.YtkdhjejchdcipaaDoor
/-
  Layer 4, code: the iterator over where heap types stand, its contract.
-/
namespace Go.Proofs.YtkdhjejchdcipaaDoor
open Go.RowKit Go.Shelf
attribute [local go_sem] Oper.semAt_some
set_option linter.unusedVariables false
set_option linter.unusedSimpArgs false
set_option maxRecDepth 100000

theorem room_any {F : Fence} (hd : F.depth = none) (k : Nat) : F.room k := by simp [Fence.room, hd]
theorem round_in {F : Fence} (hd : F.depth = none) {m m' : Nat} {P : Program} {l l' : Nat} {f : FuncId} {tmps : Array Value} {assign body : Code} {w : World} {R : Ending → World → Prop} (h : RoundIn F m P l f tmps assign body w R) : RoundIn (F.inRound l') m' P l f tmps assign body w R :=
  ⟨h.1, fun c cs _ => h.2 c cs (room_any hd _)⟩
set_option maxHeartbeats 20000000 in
theorem places1_seq (F : Fence) (n : Nat) (h67 : F.fn 107) (h68 : F.fn 108) (h80 : F.fn 142) (hro : F.round = none) (hn : 6 ≤ n) (hd : F.depth = none) (D : Nat → Nat → Prop) (w : World) (Bp Bs n1 c1 n2 c2 n3 c3 n4 c4 : Nat) (A1 A2 A3 A4 : Option Addr) (kd : Addr → Int)
    (hDp : ∀ o, ¬ D Bp o) (hDs : ∀ o, ¬ D Bs o) (hDw : ∀ k o, D k o → k < w.heap.size)
    (x0 : w.cell? ⟨Bp, 0, none⟩ = some (.pointer (some ⟨Bs, 0, none⟩))) (x1 : w.cell? ⟨Bs, 1, none⟩ = some (.slice A1 n1 c1)) (x3 : w.cell? ⟨Bs, 3, none⟩ = some (.slice A2 n2 c2)) (x4 : w.cell? ⟨Bs, 4, none⟩ = some (.slice A3 n3 c3)) (x5 : w.cell? ⟨Bs, 5, none⟩ = some (.slice A4 n4 c4))
    (h1 : 0 < n1 → ∃ b off, A1 = some ⟨b, off, none⟩) (h2 : 0 < n2 → ∃ b off, A2 = some ⟨b, off, none⟩) (h3 : 0 < n3 → ∃ b off, A3 = some ⟨b, off, none⟩) (h4 : 0 < n4 → ∃ b off, A4 = some ⟨b, off, none⟩) (l1 : n1 ≤ 10000) (l2 : n2 ≤ 10000) (l3 : n3 ≤ 10000) (l4 : n4 ≤ 10000)
    (hkd : ∀ x ∈ valsAt A2 n2 A3 n3 A4 n4, x.spot = none ∧ w.cell? ⟨x.block, x.off, none⟩ = some (.int .i64 (kd x)) ∧ ¬ D x.block x.off) :
    SeqX F n Tryd.prog 107 #[.pointer (some ⟨Bp, 0, none⟩)] (fun x : At (heapsAt kd A1 n1 (valsAt A2 n2 A3 n3 A4 n4)) => #[.pointer (some x.1)]) D (fun xs => xs.map (·.1) = heapsAt kd A1 n1 (valsAt A2 n2 A3 n3 A4 n4)) (fun xs => xs.map (·.1) <+: heapsAt kd A1 n1 (valsAt A2 n2 A3 n3 A4 n4)) (n1 + (n2 + n3 + n4)) w := by
  intro l J Jx W hW hl1 hl2 hJ hJx hY h0
  have bp : Bp < w.heap.size := World.block_lt_of_cell? w ⟨Bp, 0, none⟩ x0
  have bs : Bs < w.heap.size := World.block_lt_of_cell? w ⟨Bs, 3, none⟩ x3
  obtain ⟨W1, hW1⟩ : ∃ W1, W1 = W.alloc (.cells #[.func (.yield l) #[] #[]] 140) := ⟨_, rfl⟩
  have hb1 : Below W.heap.size W W1 := by rw [hW1]; exact (Below.refl _ _).alloc (Nat.le_refl _) _
  have hbw := hW.trans (hb1.mono hW.size)
  have hz1 : W1.heap.size = W.heap.size + 1 := by rw [hW1]; simp
  have y0 : W1.cell? ⟨W.heap.size, 0, none⟩ = some (.func (.yield l) #[] #[]) := by rw [hW1]; go_simp
  have fx : ∀ W' : World, Keep (fun k o => D k o ∨ k = l) W1 W' → W'.cell? ⟨W.heap.size, 0, none⟩ = some (.func (.yield l) #[] #[]) ∧ W'.cell? ⟨Bp, 0, none⟩ = some (.pointer (some ⟨Bs, 0, none⟩)) ∧ W'.cell? ⟨Bs, 1, none⟩ = some (.slice A1 n1 c1) ∧ W'.cell? ⟨Bs, 3, none⟩ = some (.slice A2 n2 c2) ∧ W'.cell? ⟨Bs, 4, none⟩ = some (.slice A3 n3 c3) ∧ W'.cell? ⟨Bs, 5, none⟩ = some (.slice A4 n4 c4) := fun W' hk => by
    have nt : ¬ (D W.heap.size 0 ∨ W.heap.size = l) := fun e => by
      rcases e with e | e
      · have := hDw _ _ e; have := hW.size; omega
      · omega
    have np : ¬ (D Bp 0 ∨ Bp = l) := fun e => by rcases e with e | e; exact hDp _ e; omega
    have ns : ∀ o, ¬ (D Bs o ∨ Bs = l) := fun o e => by rcases e with e | e; exact hDs _ e; omega
    exact ⟨hk.cells _ _ _ nt y0, hk.cells _ _ _ np ((hbw.cell (p := ⟨Bp, 0, none⟩) bp).trans x0), hk.cells _ _ _ (ns _) ((hbw.cell (p := ⟨Bs, 1, none⟩) bs).trans x1), hk.cells _ _ _ (ns _) ((hbw.cell (p := ⟨Bs, 3, none⟩) bs).trans x3), hk.cells _ _ _ (ns _) ((hbw.cell (p := ⟨Bs, 4, none⟩) bs).trans x4), hk.cells _ _ _ (ns _) ((hbw.cell (p := ⟨Bs, 5, none⟩) bs).trans x5)⟩
  have fk : ∀ W' : World, Keep (fun k o => D k o ∨ k = l) W1 W' → ∀ x ∈ valsAt A2 n2 A3 n3 A4 n4, W'.cell? ⟨x.block, x.off, none⟩ = some (.int .i64 (kd x)) := fun W' hk x hx => by
    obtain ⟨_, e2, e3⟩ := hkd x hx
    have bx := World.block_lt_of_cell? w ⟨x.block, x.off, none⟩ e2
    refine hk.cells _ _ _ (fun e => ?_) ((hbw.cell (p := ⟨x.block, x.off, none⟩) bx).trans e2)
    rcases e with e | e
    · exact e3 e
    · dsimp only at bx; omega
  have FX := Lib.hid fx
  have FK := Lib.hid fk
  have FS := Lib.hid (fun x hx => (hkd x hx).1 : ∀ x ∈ valsAt A2 n2 A3 n3 A4 n4, x.spot = none)
  have HY := Lib.hid hY
  have HJ := Lib.hid hJ
  have HJx := Lib.hid hJx
  have HW1 := Lib.hid hW1
  have hpre : ats A1 2 0 n1 <+: heapsAt kd A1 n1 (valsAt A2 n2 A3 n3 A4 n4) := List.prefix_append _ _
  have HP := Lib.hid hpre
  have hj1 : J [] W1 := hJ _ _ _ h0 hb1
  obtain ⟨q0, qp, q1, -, -, -⟩ := fx W1 (Keep.refl _)
  have xw0 := (hW.cell (p := ⟨Bp, 0, none⟩) bp).trans x0
  have xw1 := (hW.cell (p := ⟨Bs, 1, none⟩) bs).trans x1
  have bpW : Bp < W.heap.size := Nat.lt_of_lt_of_le bp hW.size
  have bsW : Bs < W.heap.size := Nat.lt_of_lt_of_le bs hW.size
  clear x0 x1 x3 x4 x5 fx fk hY hJ hJx hW1 hkd hpre h0
  refine callsIn_of_wp_marks Tryd.func107 rfl h67 ?_ hro
  simp only [Tryd.ntmps107, List.size_toArray, List.length_cons, List.length_nil, Nat.reduceAdd, Nat.reduceSub, Array.replicate_succ, Array.replicate_zero, List.push_toArray, List.append_toArray, List.nil_append, List.cons_append]
  gi_wp2
  rw [← HW1.out]
  clear xw0 xw1
  gi_loopw [3, 10] (fun _ i wr => ∃ (k : Nat) (xs : List (At (heapsAt kd A1 n1 (valsAt A2 n2 A3 n3 A4 n4)))), k ≤ n1 ∧ i = .int .i64 k ∧ xs.map (·.1) = (ats A1 2 0 n1).take k ∧ J xs wr ∧ Keep (fun k o => D k o ∨ k = l) W1 wr) (fun _ i _ => n1 - (intOf i).toNat)
  case atStart => exact ⟨0, [], Nat.zero_le _, rfl, by simp, hj1, Keep.refl W1⟩
  case round =>
    obtain ⟨k, xs, hk, rfl, hxs, hJk, hK⟩ := hrel
    obtain ⟨q0, qp, q1, q3, q4, q5⟩ := FX.out wr hK
    by_cases hlt : k < n1
    · obtain ⟨b, off, rfl⟩ := h1 (by omega)
      obtain ⟨y, hy0⟩ := take_map_at HP.out k hlt b off rfl
      have hxl : xs.length = k := by have e := congrArg List.length hxs; simp [ats_len] at e; omega
      have hxs' : (xs ++ [y]).map (·.1) = (ats (some ⟨b, off, none⟩) 2 0 n1).take (k + 1) := by
        rw [List.map_append, hxs, List.take_succ_eq_append_getElem (by rw [ats_len]; exact hlt), ats_get]
        simp [hy0]
      have hxp : Hid ((xs ++ [y]).map (·.1) <+: heapsAt kd (some ⟨b, off, none⟩) n1 (valsAt A2 n2 A3 n3 A4 n4)) := Lib.hid (by rw [hxs']; exact (List.take_prefix _ _).trans HP.out)
      have HK2 : Hid (Keep (fun k o => D k o ∨ k = l) W1 wr.drew) := Lib.hid (hK.trans (Keep.of_below (Below.refl _ _).drew))
      obtain ⟨fn, tmps, assign, body, hy, hR⟩ := yield_bool (yield_at (HY.out xs y wr.drew (HJ.out _ _ _ hJk (Below.refl _ _).drew) (by omega)) hy0)
      have i0 : (0 : Int) ≤ k := by omega
      have i1 : (k : Int) < n1 := by omega
      gi_wp2
      gi_region_with (refine hR.mono ?_; rintro e W' ⟨r, rfl, hp⟩; have hp' := Lib.hid hp; clear hp)
      all_goals
        rcases hp'.out with ⟨rfl, hJ', hk'⟩ | ⟨rfl, hJx', -⟩
        · gi_wp2
          go_roundw
          case rel => exact ⟨k + 1, xs ++ [y], by omega, by go_num, hxs', hJ', HK2.out.trans hk'⟩
          case measure => simp [intOf]; omega
        · gi_wp2
          exact ⟨_, results_none rfl _ _ _, ⟨_, rfl⟩, .inr ⟨_, hxp.out, hJx'⟩⟩
    · have hkn : n1 = k := by omega
      subst hkn
      have hxl : xs.length = n1 := by have e := congrArg List.length hxs; simp [ats_len] at e; omega
      clear hlt hk
      gi_wp2_with (gi_at_call 108; refine (vals_in F _ h68 hro ⟨Bs, 2, none⟩ _).mono ?_; rintro e w2 ⟨rfl, t, rfl⟩)
      have hwz : W1.heap.size ≤ wr.heap.size := hK.size
      have hvc : (wr.alloc (.cells #[.pointer (some ⟨Bs, 2, none⟩)] t)).cell? ⟨wr.heap.size, 0, none⟩ = some (.pointer (some ⟨Bs, 2, none⟩)) := by go_simp
      have hal : Below wr.heap.size wr (wr.alloc (.cells #[.pointer (some ⟨Bs, 2, none⟩)] t)) := (Below.refl _ _).alloc (Nat.le_refl _) _
      have bsr : Bs < wr.heap.size := by have := hbw.size; omega
      have v3 := (hal.cell (p := ⟨Bs, 3, none⟩) bsr).trans q3
      have v4 := (hal.cell (p := ⟨Bs, 4, none⟩) bsr).trans q4
      have v5 := (hal.cell (p := ⟨Bs, 5, none⟩) bsr).trans q5
      have hd1 : ∀ o, ¬ (D wr.heap.size o ∨ wr.heap.size = l) := fun o e => by
        rcases e with e | e
        · have := hDw _ _ e; have := hbw.size; omega
        · omega
      have hd2 : ∀ o, ¬ (D Bs o ∨ Bs = l) := fun o e => by
        rcases e with e | e
        · exact hDs _ e
        · omega
      have hd3 : ∀ k o, (D k o ∨ k = l) → k < (wr.alloc (.cells #[.pointer (some ⟨Bs, 2, none⟩)] t)).heap.size := fun k o e => by
        rw [World.size_alloc]
        rcases e with e | e
        · have := hDw _ _ e; have := hbw.size; omega
        · omega
      refine wpIn_range_x hro (by omega) (gf := 142) (lb := #[.pointer (some ⟨wr.heap.size, 0, none⟩)]) rfl h80 (enters_of Tryd.func142 (by kernel_rfl) rfl)
        (vals1_seq F _ h80 hro (by omega) (fun k o => D k o ∨ k = l) (wr.alloc (.cells #[.pointer (some ⟨Bs, 2, none⟩)] t)) wr.heap.size Bs n2 c2 n3 c3 n4 c4 A2 A3 A4 hd1
          hd2 hvc v3 v4 v5 h2 h3 h4 l2 l3 l4)
        hd3 (Below.refl _ _) (fun _ => rfl)
        (fun pre U => (∃ ys : List (At (heapsAt kd A1 n1 (valsAt A2 n2 A3 n3 A4 n4))), ys.map (·.1) = ats A1 2 0 n1 ++ ((pre.map (·.1)).filter fun x => decide (kd x = 3)).map shiftA ∧ J ys U) ∧ Keep (fun k o => D k o ∨ k = l) W1 U)
        (fun c pre U => c = .ret ∧ ∃ ys : List (At (heapsAt kd A1 n1 (valsAt A2 n2 A3 n3 A4 n4))), ys.map (·.1) = ats A1 2 0 n1 ++ ((pre.map (·.1)).filter fun x => decide (kd x = 3)).map shiftA ∧ Jx ys U)
        ?hI ?hIx ?h0 ?a₁ ?assign ?body ?done ?stop
      case assign =>
        intro l' x U K hK'
        gi_wp2
        exact hK'
      case hI =>
        rintro pre A C ⟨⟨ys, e, hj⟩, hk⟩ hb
        rw [World.size_alloc] at hb
        exact ⟨⟨ys, e, HJ.out _ _ _ hj (hb.mono (by omega))⟩, hk.lies (by omega) hb⟩
      case hIx =>
        rintro c pre A C ⟨rfl, ys, e, hj⟩ hb
        rw [World.size_alloc] at hb
        exact ⟨rfl, ys, e, HJx.out _ _ _ hj (hb.mono (by omega))⟩
      case h0 =>
        refine ⟨⟨xs, ?_, HJ.out _ _ _ hJk (hal.mono (by omega))⟩, hK.trans (Keep.of_below hal)⟩
        rw [hxs, List.take_of_length_le (by rw [ats_len]; exact Nat.le_refl _)]
        simp
      case body =>
        rintro l' pre ⟨⟨xb, xo, xsp⟩, hx⟩ U ⟨⟨ys, e, hj⟩, hk⟩ hlen hz
        obtain rfl : xsp = none := FS.out _ hx
        have zk := FK.out U hk _ hx
        dsimp only at zk
        obtain ⟨zt, -, -, -, -, -⟩ := FX.out U hk
        have hkU : Hid (Keep (fun k o => D k o ∨ k = l) W1 U.drew) := Lib.hid (hk.trans (Keep.of_below (Below.refl _ _).drew))
        have hjU : Hid (J ys U.drew) := Lib.hid (HJ.out _ _ _ hj (Below.refl _ _).drew)
        by_cases h3k : kd ⟨xb, xo, none⟩ = 3
        · rw [h3k] at zk
          have hmem : shiftA ⟨xb, xo, none⟩ ∈ heapsAt kd A1 n1 (valsAt A2 n2 A3 n3 A4 n4) := List.mem_append_right _ (List.mem_map.2 ⟨_, List.mem_filter.2 ⟨hx, by simp [h3k]⟩, rfl⟩)
          have hyl : ys.length < n1 + (n2 + n3 + n4) := by
            have e2 := congrArg List.length e
            simp only [List.length_map, List.length_append, ats_len] at e2
            have e3 := List.length_filter_le (fun x => decide (kd x = 3)) (pre.map (·.1))
            rw [List.length_map] at e3
            omega
          obtain ⟨fn, tmps, assign, body, hy, hR0⟩ := yield_bool (yield_at (HY.out ys ⟨_, hmem⟩ U.drew hjU.out hyl) (y := ⟨xb, xo + 2, none⟩) rfl)
          have he' : (ys ++ [(⟨_, hmem⟩ : At (heapsAt kd A1 n1 (valsAt A2 n2 A3 n3 A4 n4)))]).map (·.1) = ats A1 2 0 n1 ++ (((pre ++ [(⟨⟨xb, xo, none⟩, hx⟩ : At (valsAt A2 n2 A3 n3 A4 n4))]).map (·.1)).filter fun x => decide (kd x = 3)).map shiftA := by
            rw [List.map_append, e, List.map_append, List.filter_append, List.map_append]
            simp [h3k]
          have he2 := Lib.hid he'
          clear he'
          have hR := fun m' => round_in (l' := l') (m' := m') hd hR0
          gi_wp2
          gi_region_with (refine (hR _).mono ?_; rintro e' W' ⟨r, rfl, hp⟩; have hp' := Lib.hid hp; clear hp)
          all_goals
            rcases hp'.out with ⟨rfl, hJ', hk'⟩ | ⟨rfl, hJx', hk'⟩
            · gi_wp2
              exact ⟨(Keep.of_below (Below.refl _ _).drew).trans hk', ⟨_, he2.out, hJ'⟩, hkU.out.trans hk'⟩
            · gi_wp2
              exact ⟨(Keep.of_below (Below.refl _ _).drew).trans hk', rfl, _, he2.out, hJx'⟩
        · have h3b : (kd ⟨xb, xo, none⟩ == 3) = false := by simpa using h3k
          gi_wp2
          gi_region_with (refine ⟨fun _ h => (by cases h), ?_⟩)
          all_goals gi_wp2
          all_goals exact ⟨Keep.of_below (Below.refl _ _).drew, ⟨ys, by simp [e, h3k], hjU.out⟩, hkU.out⟩
      case done =>
        rintro K xs2 U hKz rfl ⟨⟨ys, e, hj⟩, hk⟩ hd2
        gi_wp2
        have hb9 : Below W.heap.size U (U.putObj K (.deferred none)) := ⟨rfl, rfl, rfl, by simp, fun k hk => World.putObj_heap_other (by rw [World.size_alloc] at hKz; omega)⟩
        refine ⟨by simp, .inl ⟨_, _, rfl, run_takeDeferred hd2, ?_⟩⟩
        refine ⟨_, results_none rfl _ _ _, ⟨_, rfl⟩, .inl ⟨ys, ?_, HJ.out _ _ _ hj hb9⟩⟩
        rw [e, List.attach_map_subtype_val]
        rfl
      case stop =>
        rintro K c pre U hKz hpr ⟨rfl, ys, e, hj⟩ hd2
        gi_wp2
        have hb9 : Below W.heap.size U (U.putObj K (.deferred none)) := ⟨rfl, rfl, rfl, by simp, fun k hk => World.putObj_heap_other (by rw [World.size_alloc] at hKz; omega)⟩
        refine ⟨by simp, .inl ⟨_, _, rfl, run_takeDeferred hd2, ?_⟩⟩
        refine ⟨_, results_none rfl _ _ _, ⟨_, rfl⟩, .inr ⟨ys, ?_, HJx.out _ _ _ hj hb9⟩⟩
        rw [e]
        have h5 := (hpr.map (·.1))
        rw [List.attach_map_subtype_val] at h5
        exact List.prefix_append_right_inj _ |>.2 ((h5.filter _).map _)
end Go.Proofs.YtkdhjejchdcipaaDoor
/-
  Layer 4, code: what stands where heap types stand.
-/
namespace Go.Proofs.YtkdhjejchdcipaaDoor
open Go.RowKit
set_option linter.unusedVariables false
set_option maxRecDepth 100000

/-- Two lists, element by element. -/
def Al {α β : Type} (R : α → β → Prop) : List α → List β → Prop
  | [], [] => True
  | a :: l, b :: m => R a b ∧ Al R l m
  | _, _ => False
section
variable {α β : Type} {R R' : α → β → Prop}
theorem Al.append : ∀ {l l' : List α} {m m' : List β}, Al R l m → Al R l' m' → Al R (l ++ l') (m ++ m')
  | [], _, [], _, _, h => h
  | _ :: _, _, _ :: _, _, h, h' => ⟨h.1, Al.append h.2 h'⟩
  | [], _, _ :: _, _, h, _ => h.elim
  | _ :: _, _, [], _, h, _ => h.elim
theorem Al.len : ∀ {l : List α} {m : List β}, Al R l m → l.length = m.length
  | [], [], _ => rfl
  | _ :: _, _ :: _, h => by simp [Al.len h.2]
  | [], _ :: _, h => h.elim
  | _ :: _, [], h => h.elim
theorem Al.mono : ∀ {l : List α} {m : List β}, (∀ x ∈ l, ∀ y, R x y → R' x y) → Al R l m → Al R' l m
  | [], [], _, _ => trivial
  | _ :: _, _ :: _, hr, h => ⟨hr _ (by simp) _ h.1, Al.mono (fun x hx => hr x (by simp [hx])) h.2⟩
  | [], _ :: _, _, h => h.elim
  | _ :: _, [], _, h => h.elim
theorem Al.same (hf : ∀ x y y', R x y → R x y' → y = y') : ∀ {l : List α} {m m' : List β}, Al R l m → Al R l m' → m = m'
  | [], [], [], _, _ => rfl
  | _ :: _, _ :: _, _ :: _, h, h' => by rw [hf _ _ _ h.1 h'.1, Al.same hf h.2 h'.2]
  | [], _ :: _, _, h, _ => h.elim
  | _ :: _, [], _, h, _ => h.elim
  | [], [], _ :: _, _, h => h.elim
  | _ :: _, _ :: _, [], _, h => h.elim
theorem Al.mem : ∀ {l : List α} {m : List β}, Al R l m → ∀ x ∈ l, ∃ y, R x y
  | [], [], _, _, hx => by cases hx
  | _ :: _, b :: _, h, x, hx => by
    rcases List.mem_cons.1 hx with rfl | hx
    · exact ⟨b, h.1⟩
    · exact Al.mem h.2 x hx
  | [], _ :: _, h, _, _ => h.elim
  | _ :: _, [], h, _, _ => h.elim
theorem Al.pre : ∀ {l l' : List α} {m : List β}, Al R l m → l' <+: l → Al R l' (m.take l'.length)
  | _, [], _, _, _ => by simp [Al]
  | a :: l, a' :: l', b :: m, h, hp => by
    obtain ⟨t, ht⟩ := hp
    injection ht with h1 h2
    subst h1
    exact ⟨h.1, Al.pre h.2 ⟨t, h2⟩⟩
  | [], a' :: l', _, _, hp => by
    obtain ⟨t, ht⟩ := hp
    simp at ht
  | _ :: _, _ :: _, [], h, _ => h.elim
theorem Al.of_get : ∀ {l : List α} {m : List β}, l.length = m.length → (∀ i (h : i < l.length) (h' : i < m.length), R l[i] m[i]) → Al R l m
  | [], [], _, _ => trivial
  | a :: l, b :: m, hl, h => ⟨h 0 (by simp) (by simp), Al.of_get (by simpa using hl) (fun i h1 h2 => h (i + 1) (by simpa using h1) (by simpa using h2))⟩
  | [], _ :: _, h, _ => by simp at h
  | _ :: _, [], h, _ => by simp at h
end

/-- A heap type's cells at an address; a value type's. -/
def HpAt (w : World) (y : Addr) (h : Hp) : Prop := y.spot = none ∧ w.cell? ⟨y.block, y.off, none⟩ = some (.int .i64 h.k) ∧ w.cell? ⟨y.block, y.off + 1, none⟩ = some (.int .i64 h.n)
def VlAt (w : World) (x : Addr) (v : Vl) : Prop := x.spot = none ∧ w.cell? ⟨x.block, x.off, none⟩ = some (.int .i64 v.k) ∧ w.cell? ⟨x.block, x.off + 2, none⟩ = some (.int .i64 v.h.k) ∧ w.cell? ⟨x.block, x.off + 2 + 1, none⟩ = some (.int .i64 v.h.n)
def kdW (w : World) (x : Addr) : Int := match w.cell? ⟨x.block, x.off, none⟩ with
  | some (.int _ k) => k
  | _ => 0
theorem VlAt.kd {w : World} {x : Addr} {v : Vl} (h : VlAt w x v) : kdW w x = v.k := by unfold kdW; rw [h.2.1]
theorem HpAt.same {w : World} (y : Addr) (h h' : Hp) (a : HpAt w y h) (b : HpAt w y h') : h = h' := by
  obtain ⟨k, n⟩ := h
  obtain ⟨k', n'⟩ := h'
  have e1 := a.2.1.symm.trans b.2.1
  have e2 := a.2.2.symm.trans b.2.2
  simp at e1 e2
  rw [e1, e2]
theorem ats_al {α : Type} {sz : Nat} {cs : α → List Value} {w : World} {C c o : Nat} {A : Option Addr} {l : List α} {R : Addr → α → Prop} (h : Seg sz cs w C A c l)
    (hR : ∀ b off j x, (∀ i v, (cs x)[i]? = some v → w.cell? ⟨b, off + j * sz + i, none⟩ = some v) → R ⟨b, off + j * sz + o, none⟩ x) : Al R (ats A sz o l.length) l := by
  refine Al.of_get (ats_len _ _ _ _) fun i h1 h2 => ?_
  obtain ⟨b, off, rfl, _, hc⟩ := h.2.2 (by omega)
  rw [ats_get]
  exact hR b off i _ (hc i h2)
theorem vals_al {w : World} {C c2 c3 c4 : Nat} {A2 A3 A4 : Option Addr} {c : Cp} (h2 : Seg 4 Vl.cs w C A2 c2 c.ps) (h3 : Seg 4 Vl.cs w C A3 c3 c.rs) (h4 : Seg 6 Fd.cs w C A4 c4 c.fs) :
    Al (VlAt w) (valsAt A2 c.ps.length A3 c.rs.length A4 c.fs.length) (Kd.allV c) := by
  unfold valsAt Kd.allV
  refine (Al.append (ats_al h2 fun b off j x hx => ?_) (ats_al h3 fun b off j x hx => ?_)).append ?_
  · exact ⟨rfl, hx 0 _ rfl, hx 2 _ rfl, hx 3 _ rfl⟩
  · exact ⟨rfl, hx 0 _ rfl, hx 2 _ rfl, hx 3 _ rfl⟩
  · have h : Al (fun x (f : Fd) => VlAt w x f.v) (ats A4 6 1 c.fs.length) c.fs := ats_al h4 fun b off j x hx => ⟨rfl, hx 1 _ rfl, hx 3 _ rfl, hx 4 _ rfl⟩
    generalize ats A4 6 1 c.fs.length = L at h
    generalize c.fs = M at h
    induction L generalizing M with
    | nil => cases M with
      | nil => exact trivial
      | cons _ _ => exact h.elim
    | cons a L ih => cases M with
      | nil => exact h.elim
      | cons b M => exact ⟨h.1, ih M h.2⟩
theorem refs_al {w : World} {kd : Addr → Int} : ∀ {xs : List Addr} {vs : List Vl}, (∀ x ∈ xs, kd x = kdW w x) → Al (VlAt w) xs vs → Al (HpAt w) ((xs.filter fun x => decide (kd x = 3)).map shiftA) (Kd.refs vs)
  | [], [], _, _ => trivial
  | x :: xs, v :: vs, hk, h => by
    have ih := refs_al (fun y hy => hk y (by simp [hy])) h.2
    have e := (hk x (by simp)).trans h.1.kd
    by_cases h3 : v.k = 3
    · rw [List.filter_cons_of_pos (by simp [e, h3]), List.map_cons]
      have e2 : Kd.refs (v :: vs) = v.h :: Kd.refs vs := by simp [Kd.refs, Kd.isRef, h3]
      rw [e2]
      exact ⟨⟨rfl, h.1.2.2.1, h.1.2.2.2⟩, ih⟩
    · rw [List.filter_cons_of_neg (by simp [e, h3])]
      have e2 : Kd.refs (v :: vs) = Kd.refs vs := by simp [Kd.refs, Kd.isRef, h3]
      rw [e2]
      exact ih
  | [], _ :: _, _, h => h.elim
  | _ :: _, [], _, h => h.elim
theorem heaps_al {w : World} {C c1 c2 c3 c4 : Nat} {A1 A2 A3 A4 : Option Addr} {s : Sb} (h1 : Seg 2 Hp.cs w C A1 c1 s.sups) (h2 : Seg 4 Vl.cs w C A2 c2 s.c.ps) (h3 : Seg 4 Vl.cs w C A3 c3 s.c.rs) (h4 : Seg 6 Fd.cs w C A4 c4 s.c.fs) :
    Al (HpAt w) (heapsAt (kdW w) A1 s.sups.length (valsAt A2 s.c.ps.length A3 s.c.rs.length A4 s.c.fs.length)) (Kd.heaps s) :=
  (ats_al h1 fun b off j x hx => ⟨rfl, hx 0 _ rfl, hx 1 _ rfl⟩).append (refs_al (fun _ _ => rfl) (vals_al h2 h3 h4))
/-- Where they stand lies in the lists' blocks. -/
theorem ats_mem {b off sz o n : Nat} {x : Addr} (h : x ∈ ats (some ⟨b, off, none⟩) sz o n) : x.block = b := by
  obtain ⟨i, _, rfl⟩ := List.mem_map.1 h
  rfl
theorem ats_block {A : Option Addr} {sz o n : Nat} {B : Nat} (hn : 0 < n → ∃ b off, A = some ⟨b, off, none⟩ ∧ B ≤ b) {x : Addr} (h : x ∈ ats A sz o n) : B ≤ x.block := by
  have h0 : 0 < n := by
    have := List.length_pos_of_mem h
    rwa [ats_len] at this
  obtain ⟨b, off, rfl, hb⟩ := hn h0
  rw [ats_mem h]
  exact hb
end Go.Proofs.YtkdhjejchdcipaaDoor
/-
  Layer 4, code: the iterator over all heap types of a type, its contract.
-/
namespace Go.Proofs.YtkdhjejchdcipaaDoor
open Go.RowKit Go.Shelf
attribute [local go_sem] Oper.semAt_some
set_option linter.unusedVariables false
set_option linter.unusedSimpArgs false
set_option maxRecDepth 100000

/-- A type in block Bo whose lists lie in rows of their own, from block B on. -/
structure BoxS (B : Nat) (w : World) (Bo : Nat) (s : Sb) (v1 v2 v3 v4 : Value) : Prop where
  c0 : w.cell? ⟨Bo, 0, none⟩ = some (.bool s.fin)
  c1 : w.cell? ⟨Bo, 1, none⟩ = some v1
  c2 : w.cell? ⟨Bo, 2, none⟩ = some (.int .i64 s.c.k)
  c3 : w.cell? ⟨Bo, 3, none⟩ = some v2
  c4 : w.cell? ⟨Bo, 4, none⟩ = some v3
  c5 : w.cell? ⟨Bo, 5, none⟩ = some v4
  o1 : OwnG 39 2 Hp.cs B w v1 s.sups
  o2 : OwnG 46 4 Vl.cs B w v2 s.c.ps
  o3 : OwnG 46 4 Vl.cs B w v3 s.c.rs
  o4 : OwnG 50 6 Fd.cs B w v4 s.c.fs
  a12 : Ap v1 v2
  a13 : Ap v1 v3
  a14 : Ap v1 v4
  a23 : Ap v2 v3
  a24 : Ap v2 v4
  a34 : Ap v3 v4
  lo : B ≤ Bo
theorem BoxS.lt {B Bo : Nat} {w : World} {s : Sb} {v1 v2 v3 v4 : Value} (h : BoxS B w Bo s v1 v2 v3 v4) : Bo < w.heap.size := World.block_lt_of_cell? w ⟨Bo, 0, none⟩ h.c0
theorem BoxS.below {B Bo : Nat} {w w' : World} {s : Sb} {v1 v2 v3 v4 : Value} (h : BoxS B w Bo s v1 v2 v3 v4) (hb : Below w.heap.size w w') : BoxS B w' Bo s v1 v2 v3 v4 :=
  ⟨(hb.cell (p := ⟨Bo, 0, none⟩) h.lt).trans h.c0, (hb.cell (p := ⟨Bo, 1, none⟩) h.lt).trans h.c1, (hb.cell (p := ⟨Bo, 2, none⟩) h.lt).trans h.c2, (hb.cell (p := ⟨Bo, 3, none⟩) h.lt).trans h.c3, (hb.cell (p := ⟨Bo, 4, none⟩) h.lt).trans h.c4, (hb.cell (p := ⟨Bo, 5, none⟩) h.lt).trans h.c5,
    h.o1.below hb, h.o2.below hb, h.o3.below hb, h.o4.below hb, h.a12, h.a13, h.a14, h.a23, h.a24, h.a34, h.lo⟩
theorem own_at {α : Type} {e ts sz B n c : Nat} {cs : α → List Value} {w : World} {A : Option Addr} {l : List α} (hE : Elem e ts sz cs) (h : OwnG e sz cs B w (.slice A n c) l) :
    n = l.length ∧ Seg sz cs w w.heap.size A c l ∧ (0 < n → ∃ b off, A = some ⟨b, off, none⟩ ∧ B ≤ b) := by
  obtain ⟨A', c', e', hs⟩ := h.seg hE
  injection e' with e1 e2 e3
  subst e1 e2 e3
  refine ⟨rfl, hs, fun h0 => ?_⟩
  obtain ⟨b, off, rfl, _, _⟩ := hs.2.2 h0
  exact ⟨b, off, rfl, (h.lt b rfl).1⟩

theorem Keep.sub {D : Nat → Nat → Prop} {w w' : World} {b o : Nat} {v : Value} (h : Keep D w w') (hn : ¬ D b o) (hc : w.cell? ⟨b, o, none⟩ = some v) : w'.cell? ⟨b, o, none⟩ = some v := h.cells b o v hn hc

set_option maxHeartbeats 20000000 in
theorem heaps1_seq (F : Fence) (n : Nat) (h43 : F.fn 60) (h44 : F.fn 61) (h67 : F.fn 107) (h68 : F.fn 108) (h80 : F.fn 142) (hro : F.round = none) (hn : 8 ≤ n) (hd : F.depth = none)
    (D : Nat → Nat → Prop) (w : World) (B Bo n1 c1 n2 c2 n3 c3 n4 c4 : Nat) (A1 A2 A3 A4 : Option Addr) (s : Sb) (hS : Kd.Small s) (hb : BoxS B w Bo s (.slice A1 n1 c1) (.slice A2 n2 c2) (.slice A3 n3 c3) (.slice A4 n4 c4)) (hD : ∀ k o, D k o → k < B) :
    SeqX F n Tryd.prog 60 #[.pointer (some ⟨Bo, 0, none⟩)] (fun h : Hp => #[h.val]) D (· = Kd.heaps s) (· <+: Kd.heaps s) (n1 + (n2 + n3 + n4)) w := by
  intro l J Jx W hW hl1 hl2 hJ hJx hY h0
  obtain ⟨e1, g1, p1⟩ := own_at elemH hb.o1
  obtain ⟨e2, g2, p2⟩ := own_at elemV hb.o2
  obtain ⟨e3, g3, p3⟩ := own_at elemV hb.o3
  obtain ⟨e4, g4, p4⟩ := own_at elemF hb.o4
  have bo := hb.lt
  have lo := hb.lo
  obtain ⟨W1, hW1⟩ : ∃ W1, W1 = W.alloc (.cells #[.func (.yield l) #[] #[]] 89) := ⟨_, rfl⟩
  have hb1 : Below W.heap.size W W1 := by rw [hW1]; exact (Below.refl _ _).alloc (Nat.le_refl _) _
  have hz1 : W1.heap.size = W.heap.size + 1 := by rw [hW1]; simp
  obtain ⟨W2, hW2⟩ : ∃ W2, W2 = fun t => W1.alloc (.cells #[.pointer (some ⟨Bo, 0, none⟩)] t) := ⟨_, rfl⟩
  have hb2 : ∀ t, Below W1.heap.size W1 (W2 t) := fun t => by rw [hW2]; exact (Below.refl _ _).alloc (Nat.le_refl _) _
  have hz2 : ∀ t, (W2 t).heap.size = W.heap.size + 2 := fun t => by rw [hW2]; simp [hz1]
  have hbw : ∀ t, Below w.heap.size w (W2 t) := fun t => (hW.trans (hb1.mono hW.size)).trans ((hb2 t).mono (by have := hW.size; omega))
  have y0 : W1.cell? ⟨W.heap.size, 0, none⟩ = some (.func (.yield l) #[] #[]) := by rw [hW1]; go_simp
  have q0 : ∀ t, (W2 t).cell? ⟨W.heap.size + 1, 0, none⟩ = some (.pointer (some ⟨Bo, 0, none⟩)) := fun t => by rw [hW2, ← hz1]; go_simp
  have hb' : ∀ t, BoxS B (W2 t) Bo s (.slice A1 n1 c1) (.slice A2 n2 c2) (.slice A3 n3 c3) (.slice A4 n4 c4) := fun t => hb.below (hbw t)
  have HA : ∀ t, Al (HpAt (W2 t)) (heapsAt (kdW (W2 t)) A1 n1 (valsAt A2 n2 A3 n3 A4 n4)) (Kd.heaps s) := fun t => by
    have G1 := (own_at elemH (hb' t).o1).2.1
    have G2 := (own_at elemV (hb' t).o2).2.1
    have G3 := (own_at elemV (hb' t).o3).2.1
    have G4 := (own_at elemF (hb' t).o4).2.1
    rw [e1, e2, e3, e4]
    exact heaps_al G1 G2 G3 G4
  have HV : ∀ t, Al (VlAt (W2 t)) (valsAt A2 n2 A3 n3 A4 n4) (Kd.allV s.c) := fun t => by
    have G2 := (own_at elemV (hb' t).o2).2.1
    have G3 := (own_at elemV (hb' t).o3).2.1
    have G4 := (own_at elemF (hb' t).o4).2.1
    rw [e2, e3, e4]
    exact vals_al G2 G3 G4
  have HB2 : ∀ x ∈ valsAt A2 n2 A3 n3 A4 n4, B ≤ x.block := fun x hx => by
    unfold valsAt at hx
    rcases List.mem_append.1 hx with hx | hx
    · rcases List.mem_append.1 hx with hx | hx
      · exact ats_block p2 hx
      · exact ats_block p3 hx
    · exact ats_block p4 hx
  have HB1 : ∀ kd, ∀ y ∈ heapsAt kd A1 n1 (valsAt A2 n2 A3 n3 A4 n4), B ≤ y.block := fun kd y hy => by
    rcases List.mem_append.1 hy with hy | hy
    · exact ats_block p1 hy
    · obtain ⟨x, hx, rfl⟩ := List.mem_map.1 hy
      exact HB2 x (List.mem_filter.1 hx).1
  -- whatever stands below w's size and above B stays
  have stay : ∀ t U, Keep (fun k o => D k o ∨ k = l) W1 U → ∀ b o v, B ≤ b → b < w.heap.size → (W2 t).cell? ⟨b, o, none⟩ = some v → U.cell? ⟨b, o, none⟩ = some v := fun t U hk b o v h1 h2 hc => by
    refine hk.cells b o v (fun e => ?_) ?_
    · rcases e with e | e
      · have := hD _ _ e; omega
      · omega
    · rw [← hc]
      exact ((hb2 t).cell (p := ⟨b, o, none⟩) (by have := hW.size; dsimp only; omega)).symm
  have ltW : ∀ t, ∀ y ∈ heapsAt (kdW (W2 t)) A1 n1 (valsAt A2 n2 A3 n3 A4 n4), ∃ h, HpAt (W2 t) y h ∧ y.block < w.heap.size := fun t y hy => by
    obtain ⟨h, hh⟩ := (HA t).mem y hy
    refine ⟨h, hh, ?_⟩
    rcases List.mem_append.1 hy with hy | hy
    · have h0 : 0 < n1 := by
        have := List.length_pos_of_mem hy
        rwa [ats_len] at this
      obtain ⟨b, off, rfl, hlt, _⟩ := g1.2.2 (by omega)
      rw [ats_mem hy]; exact hlt
    · obtain ⟨x, hx, rfl⟩ := List.mem_map.1 hy
      have hx := (List.mem_filter.1 hx).1
      unfold valsAt at hx
      rcases List.mem_append.1 hx with hx | hx
      · rcases List.mem_append.1 hx with hx | hx
        · have h0 : 0 < n2 := by
            have := List.length_pos_of_mem hx
            rwa [ats_len] at this
          obtain ⟨b, off, rfl, hlt, _⟩ := g2.2.2 (by omega)
          show x.block < _
          rw [ats_mem hx]; exact hlt
        · have h0 : 0 < n3 := by
            have := List.length_pos_of_mem hx
            rwa [ats_len] at this
          obtain ⟨b, off, rfl, hlt, _⟩ := g3.2.2 (by omega)
          show x.block < _
          rw [ats_mem hx]; exact hlt
      · have h0 : 0 < n4 := by
          have := List.length_pos_of_mem hx
          rwa [ats_len] at this
        obtain ⟨b, off, rfl, hlt, _⟩ := g4.2.2 (by omega)
        show x.block < _
        rw [ats_mem hx]; exact hlt
  have q1 : 0 < n1 → ∃ b off, A1 = some ⟨b, off, none⟩ := fun h => by obtain ⟨b, off, e, _⟩ := p1 h; exact ⟨b, off, e⟩
  have q2 : 0 < n2 → ∃ b off, A2 = some ⟨b, off, none⟩ := fun h => by obtain ⟨b, off, e, _⟩ := p2 h; exact ⟨b, off, e⟩
  have q3 : 0 < n3 → ∃ b off, A3 = some ⟨b, off, none⟩ := fun h => by obtain ⟨b, off, e, _⟩ := p3 h; exact ⟨b, off, e⟩
  have q4 : 0 < n4 → ∃ b off, A4 = some ⟨b, off, none⟩ := fun h => by obtain ⟨b, off, e, _⟩ := p4 h; exact ⟨b, off, e⟩
  have hkd : ∀ t, ∀ x ∈ valsAt A2 n2 A3 n3 A4 n4, x.spot = none ∧ (W2 t).cell? ⟨x.block, x.off, none⟩ = some (.int .i64 (kdW (W2 t) x)) ∧ ¬ (D x.block x.off ∨ x.block = l) := fun t x hx => by
    obtain ⟨v, hv⟩ := (HV t).mem x hx
    refine ⟨hv.1, by rw [hv.kd]; exact hv.2.1, fun e => ?_⟩
    have hlo := HB2 x hx
    rcases e with e | e
    · have := hD _ _ e; omega
    · have : x.block < w.heap.size := by
        unfold valsAt at hx
        rcases List.mem_append.1 hx with hx | hx
        · rcases List.mem_append.1 hx with hx | hx
          · have h0 : 0 < n2 := by
              have := List.length_pos_of_mem hx
              rwa [ats_len] at this
            obtain ⟨b, off, rfl, hlt, _⟩ := g2.2.2 (by omega)
            rw [ats_mem hx]; exact hlt
          · have h0 : 0 < n3 := by
              have := List.length_pos_of_mem hx
              rwa [ats_len] at this
            obtain ⟨b, off, rfl, hlt, _⟩ := g3.2.2 (by omega)
            rw [ats_mem hx]; exact hlt
        · have h0 : 0 < n4 := by
            have := List.length_pos_of_mem hx
            rwa [ats_len] at this
          obtain ⟨b, off, rfl, hlt, _⟩ := g4.2.2 (by omega)
          rw [ats_mem hx]; exact hlt
      omega
  have L1 : n1 ≤ 10000 := by rw [e1]; exact hS.a
  have L2 : n2 ≤ 10000 := by rw [e2]; exact hS.p
  have L3 : n3 ≤ 10000 := by rw [e3]; exact hS.r
  have L4 : n4 ≤ 10000 := by rw [e4]; exact hS.f
  have HYh := Lib.hid hY
  have HJ := Lib.hid hJ
  have HJx := Lib.hid hJx
  have HW1 := Lib.hid hW1
  have HW2 := Lib.hid hW2
  have hj1 : ∀ t, J [] (W2 t) := fun t => hJ _ _ _ h0 (hb1.trans ((hb2 t).mono (by omega)))
  have HSt := Lib.hid stay
  have HLt := Lib.hid ltW
  have HHA := Lib.hid HA
  have HKd := Lib.hid hkd
  have HB1' := Lib.hid HB1
  have Y0 := Lib.hid y0
  have Q0 := Lib.hid q0
  have HBx := Lib.hid hb'
  have HZ2 := Lib.hid hz2
  have Hb2 := Lib.hid hb2
  have HS' := Lib.hid hS
  clear hY hJ hJx hW1 hW2 h0 stay ltW HA HV hkd HB1 HB2 y0 q0 hb hb' g1 g2 g3 g4 e1 e2 e3 e4 hz2 hb2 hbw hS p1 p2 p3 p4
  refine callsIn_of_wp_marks Tryd.func60 rfl h43 ?_ hro
  simp only [Tryd.ntmps60, List.size_toArray, List.length_cons, List.length_nil, Nat.reduceAdd, Nat.reduceSub, Array.replicate_succ, Array.replicate_zero, List.push_toArray, List.append_toArray, List.nil_append, List.cons_append]
  gi_wp2
  rw [← HW1.out]
  gi_wp2_with (gi_at_call 61; refine (placesF_in F _ h44 hro ⟨Bo, 0, none⟩ _).mono ?_; rintro e w2 ⟨rfl, t, rfl⟩)
  have ew : W1.alloc (.cells #[.pointer (some ⟨Bo, 0, none⟩)] t) = W2 t := by rw [HW2.out]
  rw [ew]
  clear ew
  have hd2 : ∀ k o, (D k o ∨ k = l) → k < (W2 t).heap.size := fun k o e => by
    rw [HZ2.out t]
    rcases e with e | e
    · have := hD _ _ e; have := hW.size; omega
    · omega
  have hDp : ∀ o, ¬ (D (W.heap.size + 1) o ∨ W.heap.size + 1 = l) := fun o e => by
    rcases e with e | e
    · have := hD _ _ e; have := hW.size; omega
    · omega
  have hDb : ∀ o, ¬ (D Bo o ∨ Bo = l) := fun o e => by
    rcases e with e | e
    · have := hD _ _ e; omega
    · omega
  refine wpIn_range_x hro (by omega) (gf := 107) (lb := #[.pointer (some ⟨W.heap.size + 1, 0, none⟩)]) rfl h67 (enters_of Tryd.func107 (by kernel_rfl) rfl)
    (places1_seq F _ h67 h68 h80 hro (by omega) hd (fun k o => D k o ∨ k = l) (W2 t) (W.heap.size + 1) Bo n1 c1 n2 c2 n3 c3 n4 c4 A1 A2 A3 A4 (kdW (W2 t)) hDp hDb hd2
      (Q0.out t) (HBx.out t).c1 (HBx.out t).c3 (HBx.out t).c4 (HBx.out t).c5 q1 q2 q3 q4 L1 L2 L3 L4 (HKd.out t))
    hd2 (Below.refl _ _) (fun _ => rfl)
    (fun pre U => (∃ hs : List Hp, Al (HpAt (W2 t)) (pre.map (·.1)) hs ∧ J hs U) ∧ Keep (fun k o => D k o ∨ k = l) W1 U)
    (fun c pre U => c = .ret ∧ ∃ hs : List Hp, Al (HpAt (W2 t)) (pre.map (·.1)) hs ∧ Jx hs U)
    ?hI ?hIx ?h0 ?a₁ ?assign ?body ?done ?stop
  case assign =>
    intro l' x U K hK'
    gi_wp2
    exact hK'
  case hI =>
    rintro pre A C ⟨⟨ys, e, hj⟩, hk⟩ hb
    rw [HZ2.out t] at hb
    exact ⟨⟨ys, e, HJ.out _ _ _ hj (hb.mono (by omega))⟩, hk.lies (by omega) hb⟩
  case hIx =>
    rintro c pre A C ⟨rfl, ys, e, hj⟩ hb
    rw [HZ2.out t] at hb
    exact ⟨rfl, ys, e, HJx.out _ _ _ hj (hb.mono (by omega))⟩
  case h0 => exact ⟨⟨[], trivial, hj1 t⟩, Keep.of_below (Hb2.out t)⟩
  case body =>
    rintro l' pre ⟨⟨xb, xo, xsp⟩, hx⟩ U ⟨⟨hs, e, hj⟩, hk⟩ hlen hz
    obtain ⟨h, hh, hlt⟩ := HLt.out t _ hx
    obtain rfl : xsp = none := hh.1
    have hlo := HB1'.out _ _ hx
    have zk := HSt.out t U hk _ _ _ hlo hlt hh.2.1
    have zn := HSt.out t U hk _ _ _ hlo hlt hh.2.2
    dsimp only at zk zn
    have zy : U.cell? ⟨W.heap.size, 0, none⟩ = some (.func (.yield l) #[] #[]) := hk.cells _ _ _ (fun e => by
      rcases e with e | e
      · have := hD _ _ e; have := hW.size; omega
      · omega) Y0.out
    have hjU : Hid (J hs U.drew) := Lib.hid (HJ.out _ _ _ hj (Below.refl _ _).drew)
    have hln : hs.length < n1 + (n2 + n3 + n4) := by
      have := e.len
      rw [List.length_map] at this
      omega
    obtain ⟨fn, tmps, assign, body, hy, hR0⟩ := yield_bool (HYh.out hs h U.drew hjU.out hln)
    have he' : Hid (Al (HpAt (W2 t)) ((pre ++ [(⟨⟨xb, xo, none⟩, hx⟩ : At (heapsAt (kdW (W2 t)) A1 n1 (valsAt A2 n2 A3 n3 A4 n4)))]).map (·.1)) (hs ++ [h])) := Lib.hid (by
      rw [List.map_append]
      exact e.append ⟨hh, trivial⟩)
    have hkU : Hid (Keep (fun k o => D k o ∨ k = l) W1 U.drew) := Lib.hid (hk.trans (Keep.of_below (Below.refl _ _).drew))
    have hR := fun m' => round_in (l' := l') (m' := m') hd hR0
    clear e hj hlen hln hlo hlt hh hk
    gi_wp2
    gi_region_with (refine (hR _).mono ?_; rintro e' W' ⟨r, rfl, hp⟩; have hp' := Lib.hid hp; clear hp)
    all_goals
      rcases hp'.out with ⟨rfl, hJ', hk'⟩ | ⟨rfl, hJx', hk'⟩
      · gi_wp2
        exact ⟨(Keep.of_below (Below.refl _ _).drew).trans hk', ⟨_, he'.out, hJ'⟩, hkU.out.trans hk'⟩
      · gi_wp2
        exact ⟨(Keep.of_below (Below.refl _ _).drew).trans hk', rfl, _, he'.out, hJx'⟩
  case done =>
    rintro K xs2 U hKz hS2 ⟨⟨hs, e, hj⟩, hk⟩ hd3
    gi_wp2
    have hb9 : Below W.heap.size U (U.putObj K (.deferred none)) := ⟨rfl, rfl, rfl, by simp, fun k hk => World.putObj_heap_other (by rw [HZ2.out t] at hKz; omega)⟩
    refine ⟨by simp, .inl ⟨_, _, rfl, run_takeDeferred hd3, ?_⟩⟩
    refine ⟨_, results_none rfl _ _ _, ⟨_, rfl⟩, .inl ⟨hs, ?_, HJ.out _ _ _ hj hb9⟩⟩
    rw [hS2] at e
    exact Al.same HpAt.same e (HHA.out t)
  case stop =>
    rintro K c pre U hKz hpr ⟨rfl, hs, e, hj⟩ hd3
    gi_wp2
    have hb9 : Below W.heap.size U (U.putObj K (.deferred none)) := ⟨rfl, rfl, rfl, by simp, fun k hk => World.putObj_heap_other (by rw [HZ2.out t] at hKz; omega)⟩
    refine ⟨by simp, .inl ⟨_, _, rfl, run_takeDeferred hd3, ?_⟩⟩
    refine ⟨_, results_none rfl _ _ _, ⟨_, rfl⟩, .inr ⟨hs, ?_, HJx.out _ _ _ hj hb9⟩⟩
    rw [Al.same HpAt.same e ((HHA.out t).pre hpr)]
    exact List.take_prefix _ _
end Go.Proofs.YtkdhjejchdcipaaDoor

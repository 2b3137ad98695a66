/-
  geodelaw04.KindParts: the walk.
-/
import Derived.Test.YtlflmobaegfnaaaDoorKdXd
import Derived.Deep.RegionHeld3
import Derived.Deep.RegionLaw
namespace Go.Proofs.YtlflmobaegfnaaaDoor
open Go.RowKit
attribute [local go_sem ↓] Go.wp_at_zero Go.wp_at_succ
attribute [local go_sem] Oper.semAt_some
set_option linter.unusedVariables false
set_option linter.unusedSimpArgs false
set_option maxRecDepth 100000

theorem Kd.small_of {s : Sb} (h : Kd.great s = false) : Kd.Small s := by
  have := Kd.great_no h
  exact ⟨by omega, by omega, by omega, by omega⟩
theorem set_off2 {w4 : World} {u v : Value} {a b i j : Nat} (hne : a ≠ b) (h : w4.cell? ⟨b, j, none⟩ = some u) : (w4.setCell ⟨a, i, none⟩ v).cell? ⟨b, j, none⟩ = some u := by
  rw [World.cell?_setCell_other _ _ _ _ (by intro e; injection e; contradiction)]; exact h
theorem HB6size {w1 wr : World} (h : Below w1.heap.size w1 wr) : w1.heap.size ≤ wr.heap.size := h.size
set_option maxHeartbeats 8000000 in
theorem KindParts_walk (w : World) (hT : Tabs w) (s : Sb) (x : Value) (hs : IsSub w w.heap.size x s) (ws : WfS s) (v : Vl) (wv : WfV v) :
    Calls Tryd.prog 5 #[x, v.val] w fun e w' => e = .returned (.bool true) ∧ Below w.heap.size w w' := by
  obtain ⟨Q, hQ⟩ : ∃ Q : Ending → World → Prop, Q = (fun e w' => e = .returned (.bool true) ∧ Below w.heap.size w w') := ⟨_, rfl⟩
  rw [← hQ]
  have HQ := Lib.hid hQ
  clear hQ
  have HT := Lib.hid hT
  have HIs := Lib.hid hs
  obtain ⟨A1, c1, A2, c2, A3, c3, A4, c4, rfl, g1, g2, g3, g4⟩ := hs
  have G2 := Lib.hid g2
  have G3 := Lib.hid g3
  have G4 := Lib.hid g4
  clear hT g1 g2 g3 g4
  obtain ⟨w0, hw0⟩ : ∃ w0, w0 = (w.alloc (.cells #[.bool s.fin, .slice A1 s.sups.length c1, .int .i64 s.c.k, .slice A2 s.c.ps.length c2, .slice A3 s.c.rs.length c3, .slice A4 s.c.fs.length c4] 29)).alloc (.cells #[.int .i64 v.k, .bool v.nu, .int .i64 v.h.k, .int .i64 v.h.n] 46) := ⟨_, rfl⟩
  have hsz : w0.heap.size = w.heap.size + 2 := by rw [hw0]; simp
  have XB : Hid (Below w.heap.size w w0) := Lib.hid (by rw [hw0]; exact ((Below.refl _ _).alloc (Nat.le_refl _) _).alloc (by simp) _)
  have HW0 := Lib.hid hw0
  have HSZ := Lib.hid hsz
  clear hw0 hsz
  refine calls_marks Tryd.func5 rfl ?_
  simp only [Tryd.ntmps5, List.size_toArray, List.length_cons, List.length_nil, Nat.reduceAdd, Nat.reduceSub, Array.replicate_succ, Array.replicate_zero, List.push_toArray, List.append_toArray, List.nil_append, List.cons_append]
  go_wp2_with fail
  rw [← HW0.out]
  refine (known4_any w0 (HT.out.below XB.out)).mono ?_
  rintro e w1 ⟨rfl, hb1⟩
  have hw0 := HW0.out
  have hsz := HSZ.out
  have X : Six w1 w.heap.size (.bool s.fin) (.slice A1 s.sups.length c1) (.int .i64 s.c.k) (.slice A2 s.c.ps.length c2) (.slice A3 s.c.rs.length c3) (.slice A4 s.c.fs.length c4) :=
    Six.below (W := w0) ⟨by rw [hw0]; go_simp, by rw [hw0]; go_simp, by rw [hw0]; go_simp, by rw [hw0]; go_simp, by rw [hw0]; go_simp, by rw [hw0]; go_simp⟩ hb1 (by omega)
  have hv0 : w1.cell? ⟨w.heap.size + 1, 0, none⟩ = some (.int .i64 v.k) := (hb1.cell (p := ⟨w.heap.size + 1, 0, none⟩) (by dsimp only; omega)).trans (by rw [hw0]; go_simp)
  have hv1 : w1.cell? ⟨w.heap.size + 1, 1, none⟩ = some (.bool v.nu) := (hb1.cell (p := ⟨w.heap.size + 1, 1, none⟩) (by dsimp only; omega)).trans (by rw [hw0]; go_simp)
  have hv2 : w1.cell? ⟨w.heap.size + 1, 2, none⟩ = some (.int .i64 v.h.k) := (hb1.cell (p := ⟨w.heap.size + 1, 2, none⟩) (by dsimp only; omega)).trans (by rw [hw0]; go_simp)
  have hv3 : w1.cell? ⟨w.heap.size + 1, 3, none⟩ = some (.int .i64 v.h.n) := (hb1.cell (p := ⟨w.heap.size + 1, 3, none⟩) (by dsimp only; omega)).trans (by rw [hw0]; go_simp)
  have z1 : w.heap.size + 2 ≤ w1.heap.size := by have := hb1.size; omega
  have XB1 : Hid (Below w.heap.size w w1) := Lib.hid (XB.out.trans (hb1.mono XB.out.size))
  have IS : ∀ W, Below w1.heap.size w1 W → IsSub W W.heap.size (.agg #[.bool s.fin, .slice A1 s.sups.length c1, .int .i64 s.c.k, .slice A2 s.c.ps.length c2, .slice A3 s.c.rs.length c3, .slice A4 s.c.fs.length c4]) s := fun W hW => by
    have hb := XB1.out.trans (hW.mono XB1.out.size)
    exact (HIs.out.below hb).more hb.size
  have HS := Lib.hid IS
  have HX := Lib.hid X
  have ZL : Hid (w.heap.size < w1.heap.size) := Lib.hid (by omega)
  have Z1 := Lib.hid z1
  have V0 := Lib.hid hv0
  have V1 := Lib.hid hv1
  have V2 := Lib.hid hv2
  have V3 := Lib.hid hv3
  obtain ⟨x0, x1, x2, x3, x4, x5⟩ := X
  clear hb1 hw0 hsz HSZ HW0 HIs XB IS hv0 hv1 hv2 hv3
  cases hg : Kd.great s with
  | true =>
    go_wp2_with (go_at_call 10; refine (great_any s _ _ _ (HS.out _ (Below.refl _ _))).mono ?_; rintro e w2 ⟨rfl, hb2⟩; simp only [hg])
    refine ret_m rfl ?_
    rw [HQ.out]
    exact ⟨rfl, XB1.out.trans (hb2.mono XB1.out.size)⟩
  | false =>
    have HSm := Lib.hid (Kd.small_of hg)
    have hlr : Hid (s.c.rs.length ≤ 60) := Lib.hid (Kd.great_no hg).2.2.1
    by_cases h50 : 50 < s.c.rs.length
    · go_wp2_with (go_at_call 10; refine (great_any s _ _ _ (HS.out _ (Below.refl _ _))).mono ?_; rintro e w2 ⟨rfl, hb2⟩; simp only [hg]; have X2 := HX.out.below hb2 ZL.out; obtain ⟨y0, y1, y2, y3, y4, y5⟩ := X2)
      refine ret_m rfl ?_
      rw [HQ.out]
      exact ⟨rfl, XB1.out.trans (hb2.mono XB1.out.size)⟩
    · go_wp2_with (go_at_call 10; refine (great_any s _ _ _ (HS.out _ (Below.refl _ _))).mono ?_; rintro e w2 ⟨rfl, hb2⟩; simp only [hg]; have X2 := HX.out.below hb2 ZL.out; obtain ⟨y0, y1, y2, y3, y4, y5⟩ := X2)
      have HC2 := Lib.hid hb2
      have HX2 := Lib.hid (HX.out.below hb2 ZL.out)
      have HB2 := Lib.hid (XB1.out.trans (hb2.mono XB1.out.size))
      have hlt0 : Hid (w.heap.size < w2.heap.size) := Lib.hid (Nat.lt_of_lt_of_le ZL.out hb2.size)
      clear x0 x1 x2 x3 x4 x5 hb2 y0 y1 y2 y5 h50
      have hlp : Hid (s.c.ps.length ≤ 100) := Lib.hid HSm.out.p
      have hlf : Hid (s.c.fs.length ≤ 100) := Lib.hid HSm.out.f
      have HO2 : Hid (OwnG 46 4 Vl.cs w2.heap.size (w2.alloc (.cells #[] 46)).drew (.slice (some ⟨w2.heap.size, 0, none⟩) 0 0) ([] : List Vl)) := Lib.hid (OwnG.empty w2 (Nat.le_refl _))
      have HG2 : Hid (Below w2.heap.size w2 (w2.alloc (.cells #[] 46)).drew) := Lib.hid (((Below.refl _ _).alloc (Nat.le_refl _) _).drew)
      have HF2 : Hid (Below w.heap.size w (w2.alloc (.cells #[] 46)).drew) := Lib.hid (HB2.out.trans (HG2.out.mono HB2.out.size))
      have hk1 : Hid (s.c.ps.length < 1000000) := Lib.hid (by have := hlp.out; omega)
      have hk2 : Hid (([] : List Vl).length + s.c.ps.length = s.c.ps.length) := Lib.hid (by simp)
      have hk3 : Hid (s.c.ps.length + s.c.rs.length < 1000000) := Lib.hid (by have := hlp.out; have := hlr.out; omega)
      have hk4 : Hid (([] ++ s.c.ps).length + s.c.rs.length = s.c.ps.length + s.c.rs.length) := Lib.hid (by simp)
      go_region_held3 (fun w' => w'.cell? ⟨w.heap.size, 3, none⟩ = some (.slice A2 s.c.ps.length c2) ∧ w'.cell? ⟨w.heap.size, 4, none⟩ = some (.slice A3 s.c.rs.length c3))
        (first | go_keep | exact ⟨hd3, hd4⟩)
        ((first
          | (refine step_cat elemV (by rfl) _ _ (by rfl) _ s.c.ps.length (by rfl) (by rfl) HO2.out rfl (G2.out.below HF2.out) HG2.out.size s.c.ps.length hk1.out hk2.out ?_; intro A6 c6 w3 hown2 hg2 hr2; have HG3 := Lib.hid (HO2.out.grown hg2 (Nat.le_refl _) HG2.out.size HG2.out); have hd3 := (HG3.out.cell (p := ⟨w.heap.size, 3, none⟩) hlt0.out).trans y3; have hd4 := (HG3.out.cell (p := ⟨w.heap.size, 4, none⟩) hlt0.out).trans y4; have HO3 := Lib.hid hown2; have HF3 := Lib.hid (HB2.out.trans (HG3.out.mono HB2.out.size)); clear hown2 hg2 hr2)
          | (refine step_cat elemV (by rfl) _ _ (by rfl) _ s.c.rs.length (by rfl) (by rfl) HO3.out rfl (G3.out.below HF3.out) HG3.out.size (s.c.ps.length + s.c.rs.length) hk3.out hk4.out ?_; intro A7 c7 w4 hown3 hg3 hr3; have HG4 := Lib.hid (HO3.out.grown hg3 (Nat.le_refl _) HG3.out.size HG3.out); have he3 := (HG4.out.cell (p := ⟨w.heap.size, 3, none⟩) hlt0.out).trans y3; have he4 := (HG4.out.cell (p := ⟨w.heap.size, 4, none⟩) hlt0.out).trans y4; have HO4 := Lib.hid hown3; clear hown3 hg3 hr3)))
      have X4 := HX2.out.below HG4.out hlt0.out
      obtain ⟨y0, y1, y2, y3, y4, y5⟩ := X4
      clear hd3 hd4 he3 he4
      go_wp2
      clear y0 y1 y2 y3 y4 y5
      go_loopw [5, 7] (fun a i wr => ∃ (j : Nat) (A : Option Addr) (c : Nat), j ≤ s.c.fs.length ∧ i = .int .i64 j ∧ a = .slice A (s.c.ps.length + s.c.rs.length + j) c ∧ OwnG 46 4 Vl.cs w2.heap.size wr (.slice A (s.c.ps.length + s.c.rs.length + j) c) (s.c.ps ++ s.c.rs ++ (s.c.fs.take j).map Fd.v) ∧ Below w2.heap.size w2 wr) (fun _ i _ => s.c.fs.length - (intOf i).toNat)
      case atStart => exact ⟨0, A7, c7, Nat.zero_le _, rfl, rfl, by simpa using HO4.out, HG4.out⟩
      case round =>
        obtain ⟨j, A, c, hj, rfl, rfl, hown, hB⟩ := hrel
        have HO := Lib.hid hown
        have HB := Lib.hid hB
        have X5 := HX2.out.below hB hlt0.out
        clear hown hB
        obtain ⟨y0, y1, y2, y3, y4, y5⟩ := X5
        by_cases hlt : j < s.c.fs.length
        · obtain ⟨b, off, rfl, hb, hc⟩ := G4.out.2.2 (by omega)
          have hW : ∀ o, wr.cell? ⟨b, o, none⟩ = w.cell? ⟨b, o, none⟩ := fun o => (HB2.out.trans (HB.out.mono HB2.out.size)).cell (p := ⟨b, o, none⟩) hb
          obtain ⟨x, hx⟩ : ∃ x, x = s.c.fs[j] := ⟨_, rfl⟩
          have g1 := (hW (off + j * 6 + 1)).trans (hc j hlt 1 _ rfl)
          have g2 := (hW (off + j * 6 + 2)).trans (hc j hlt 2 _ rfl)
          have g3 := (hW (off + j * 6 + 3)).trans (hc j hlt 3 _ rfl)
          have g4 := (hW (off + j * 6 + 4)).trans (hc j hlt 4 _ rfl)
          rw [← hx] at g1 g2 g3 g4
          have hx' := Lib.hid hx
          clear hW hx hc y0 y1 y2 y3 y4
          have hz : Hid (w2.heap.size ≤ wr.heap.size) := Lib.hid HB.out.size
          have hjb : j ≤ 100 := by have := hlf.out; omega
          have hk8 : Hid (s.c.ps.length + s.c.rs.length + j + 1 < 1000000) := Lib.hid (by have := hlp.out; have := hlr.out; have := hlf.out; omega)
          have hk9 : Hid ((s.c.ps ++ s.c.rs ++ (s.c.fs.take j).map Fd.v).length + 1 = s.c.ps.length + s.c.rs.length + j + 1) := Lib.hid (by rw [List.length_append, List.length_append, List.length_map, List.length_take, Nat.min_eq_left hj])
          go_wp2_with (at_builtin; refine push_at elemV rfl _ _ rfl wr _ rfl x.v _ _ rfl rfl HO.out hz.out (s.c.ps.length + s.c.rs.length + j + 1) hk8.out hk9.out rfl ?_; intro A8 c8 w4 hown8 hg8 hr8)
          go_roundw
          case rel =>
            refine ⟨j + 1, A8, c8, by omega, by go_num, rfl, ?_, HO.out.grown hg8 (Nat.le_refl _) hz.out HB.out⟩
            have h := hown8
            rw [List.append_assoc, hx'.out, show List.map Fd.v (List.take j s.c.fs) ++ [s.c.fs[j].v] = List.map Fd.v (List.take (j + 1) s.c.fs) by rw [List.take_succ_eq_append_getElem hlt, List.map_append]; rfl] at h
            exact h
          case measure => simp [intOf]; omega
        · have hjn : j = s.c.fs.length := by omega
          subst hjn
          obtain ⟨al, hal⟩ : ∃ al, Kd.allV s.c = al := ⟨_, rfl⟩
          have hown : OwnG 46 4 Vl.cs w2.heap.size wr (.slice A (s.c.ps.length + s.c.rs.length + s.c.fs.length) c) al := by
            have h := HO.out
            rw [List.take_length] at h
            rw [← hal]
            exact h
          have hN : s.c.ps.length + s.c.rs.length + s.c.fs.length = al.length := by rw [← hal]; simp [Kd.allV]; omega
          have hal' := Lib.hid hal
          rw [hN] at hown ⊢
          have hN' := Lib.hid hN
          clear hN hal HO hlt hj
          obtain ⟨A9, c9, e9, hseg⟩ := hown.seg elemV
          injection e9 with e1 e2 e3
          subst e1 e3
          have HSeg := Lib.hid hseg
          have hal2 : Hid (al.length ≤ 300) := Lib.hid (by have := hN'.out; have := hlp.out; have := hlr.out; have := hlf.out; omega)
          clear hown hseg e2
          go_wp2
          obtain ⟨wo, rfl⟩ : ∃ wo : World, wo = wr := ⟨_, rfl⟩
          have hsup : Hid (s.sups.length ≤ 100) := Lib.hid HSm.out.a
          have hpl : Hid (Kd.pSub s = true → ∀ u ∈ al, Kd.pVal u = true) := Lib.hid (by rw [← hal'.out]; exact Kd.plain_all)
          have HWr := Lib.hid HB.out
          clear y0 y1 y2 y3 y4 y5
          obtain ⟨pS, hpS⟩ : ∃ pS, Kd.pSub s = pS := ⟨_, rfl⟩
          have hpS' := Lib.hid hpS
          have PS : Hid (∀ W, Below w1.heap.size w1 W → Calls Tryd.prog 24 #[.agg #[.bool s.fin, .slice A1 s.sups.length c1, .int .i64 s.c.k, .slice A2 s.c.ps.length c2, .slice A3 s.c.rs.length c3, .slice A4 s.c.fs.length c4]] W fun e w' => e = .returned (.bool pS) ∧ Below W.heap.size W w') := Lib.hid fun W hW => by
            rw [← hpS'.out]
            exact pSub_any s _ W (HS.out W hW) HSm.out
          clear hpS
          have hz12 : Hid (w1.heap.size ≤ w2.heap.size) := Lib.hid HC2.out.size
          go_loopw [6, 8] (fun m i wr => ∃ (j : Nat), j ≤ al.length ∧ i = .int .i64 j ∧ m = .int .i64 ((s.sups.length + (Kd.refs (al.take j)).length : Nat) : Int) ∧ Below wo.heap.size wo wr) (fun _ i _ => al.length - (intOf i).toNat)
          case atStart => exact ⟨0, Nat.zero_le _, rfl, by simp [Kd.refs], Below.refl _ _⟩
          case round =>
            obtain ⟨j, hj, rfl, rfl, hB5⟩ := hrel
            have HB5 := Lib.hid hB5
            have hseg := HSeg.out.below hB5
            have X6 := HX2.out.below (HB.out.trans (hB5.mono HB.out.size)) hlt0.out
            obtain ⟨y0, y1, y2, y3, y4, y5⟩ := X6
            have hB6 : Hid (Below w1.heap.size w1 wr) := Lib.hid ((HC2.out.trans (HB.out.mono hz12.out)).trans (hB5.mono (Nat.le_trans hz12.out HB.out.size)))
            clear hB5
            have hrl : (Kd.refs (al.take j)).length ≤ 300 := by
              have h3 := Kd.refs_len (al.take j)
              rw [List.length_take] at h3
              have := hal2.out
              omega
            have hs100 := hsup.out
            have ha300 := hal2.out
            by_cases hlt : j < al.length
            · obtain ⟨b, off, rfl, hb, hc⟩ := hseg.2.2 (by omega)
              have hbr : Hid (b < wr.heap.size) := Lib.hid (Nat.lt_of_lt_of_le hb HB5.out.size)
              obtain ⟨u, hu⟩ : ∃ u, u = al[j] := ⟨_, rfl⟩
              have g0 := hc j hlt 0 _ rfl
              have g1 := hc j hlt 1 _ rfl
              have g2 := hc j hlt 2 _ rfl
              have g3 := hc j hlt 3 _ rfl
              rw [← hu] at g0 g1 g2 g3
              simp only [Nat.add_zero] at g0
              have hu' := Lib.hid hu
              have hstep : Hid ((Kd.refs (al.take (j + 1))).length = (Kd.refs (al.take j)).length + if u.k = 3 then 1 else 0) := Lib.hid (by
                rw [List.take_succ_eq_append_getElem hlt, Kd.refs_append, List.length_append, ← hu'.out]
                by_cases h3 : u.k = 3 <;> simp [Kd.refs, Kd.isRef, h3])
              have hpu : Hid (pS = true → Kd.pVal u = true) := Lib.hid fun h => by
                rw [hu'.out]
                exact hpl.out (hpS'.out.trans h) _ (List.getElem_mem hlt)
              clear hu hc hseg
              obtain ⟨pu, hpu2⟩ : ∃ pu, Kd.pVal u = pu := ⟨_, rfl⟩
              have hpu3 := Lib.hid hpu2
              clear hpu2
              have PV : Hid (∀ W, Calls Tryd.prog 25 #[.agg #[.int .i64 u.k, .bool u.nu, .int .i64 u.h.k, .int .i64 u.h.n]] W fun e w' => e = .returned (.bool pu) ∧ Below W.heap.size W w') := Lib.hid fun W => by
                rw [← hpu3.out]
                exact pVal_any u W
              by_cases h3 : u.k = 3
              · have h3b : (u.k == 3) = true := by simpa using h3
                have h3' := Lib.hid h3
                clear h3
                cases pS with
                | true =>
                  obtain rfl : pu = true := hpu3.out ▸ hpu.out rfl
                  go_wp2_with (first
                    | (go_at_call 24; ((with_reducible refine (PS.out _ hB6.out).mono ?_); rintro e w5 ⟨rfl, hb5⟩; have HB7 := Lib.hid hb5; have k0 := (hb5.cell (p := ⟨b, off + j * 4, none⟩) hbr.out).trans g0; have k1 := (hb5.cell (p := ⟨b, off + j * 4 + 1, none⟩) hbr.out).trans g1; have k2 := (hb5.cell (p := ⟨b, off + j * 4 + 2, none⟩) hbr.out).trans g2; have k3 := (hb5.cell (p := ⟨b, off + j * 4 + 3, none⟩) hbr.out).trans g3; clear hb5))
                    | (go_at_call 25; ((with_reducible refine (PV.out _).mono ?_); rintro e w6 ⟨rfl, hb6⟩; have HB8 := Lib.hid hb6; clear hb6)))
                  go_roundw
                  case rel => exact ⟨j + 1, by omega, by go_num, by rw [hstep.out, if_pos h3'.out]; go_num, HB5.out.trans ((HB7.out.trans (HB8.out.mono HB7.out.size)).mono HB5.out.size)⟩
                  case measure => simp [intOf]; omega
                | false =>
                  go_wp2_with (go_at_call 24; ((with_reducible refine (PS.out _ hB6.out).mono ?_); rintro e w5 ⟨rfl, hb5⟩; have HB7 := Lib.hid hb5; clear hb5))
                  go_roundw
                  case rel => exact ⟨j + 1, by omega, by go_num, by rw [hstep.out, if_pos h3'.out]; go_num, HB5.out.trans (HB7.out.mono HB5.out.size)⟩
                  case measure => simp [intOf]; omega
              · have h3b : (u.k == 3) = false := by simpa using h3
                have h3' := Lib.hid h3
                clear h3
                cases pS with
                | true =>
                  obtain rfl : pu = true := hpu3.out ▸ hpu.out rfl
                  go_wp2_with (first
                    | (go_at_call 24; ((with_reducible refine (PS.out _ hB6.out).mono ?_); rintro e w5 ⟨rfl, hb5⟩; have HB7 := Lib.hid hb5; have k0 := (hb5.cell (p := ⟨b, off + j * 4, none⟩) hbr.out).trans g0; have k1 := (hb5.cell (p := ⟨b, off + j * 4 + 1, none⟩) hbr.out).trans g1; have k2 := (hb5.cell (p := ⟨b, off + j * 4 + 2, none⟩) hbr.out).trans g2; have k3 := (hb5.cell (p := ⟨b, off + j * 4 + 3, none⟩) hbr.out).trans g3; clear hb5))
                    | (go_at_call 25; ((with_reducible refine (PV.out _).mono ?_); rintro e w6 ⟨rfl, hb6⟩; have HB8 := Lib.hid hb6; clear hb6)))
                  go_roundw
                  case rel => exact ⟨j + 1, by omega, by go_num, by rw [hstep.out, if_neg h3'.out]; go_num, HB5.out.trans ((HB7.out.trans (HB8.out.mono HB7.out.size)).mono HB5.out.size)⟩
                  case measure => simp [intOf]; omega
                | false =>
                  go_wp2_with (go_at_call 24; ((with_reducible refine (PS.out _ hB6.out).mono ?_); rintro e w5 ⟨rfl, hb5⟩; have HB7 := Lib.hid hb5; clear hb5))
                  go_roundw
                  case rel => exact ⟨j + 1, by omega, by go_num, by rw [hstep.out, if_neg h3'.out]; go_num, HB5.out.trans (HB7.out.mono HB5.out.size)⟩
                  case measure => simp [intOf]; omega
            · obtain rfl : j = al.length := by omega
              clear hlt hj
              have hltw : w.heap.size < wr.heap.size := Nat.lt_of_lt_of_le hlt0.out (Nat.le_trans HB.out.size HB5.out.size)
              obtain ⟨nn, hnn⟩ : ∃ nn : Nat, s.sups.length + (Kd.refs (al.take al.length)).length = nn := ⟨_, rfl⟩
              rw [hnn]
              have hnn' := Lib.hid hnn
              have HNB : Hid (Below wr.heap.size wr (wr.alloc (.cells #[.int .i64 0] 3))) := Lib.hid ((Below.refl _ _).alloc (Nat.le_refl _) _)
              have hnn300 : nn ≤ 400 := by omega
              clear hnn hrl hseg
              go_wp2_with (go_at_call 13; refine (heapsF_any s _ _ (HS.out _ (hB6.out.trans (HNB.out.mono hB6.out.size))) HSm.out).mono ?_; rintro e w7 ⟨⟨Bo, B1, d1, B2, d2, B3, d3, B4, d4, rfl, hbx⟩, hb7⟩; have HBX := Lib.hid hbx; have HB7 := Lib.hid hb7; clear hbx hb7)
              refine (wpIn_wide (n := 20)).1 ?_
              have hz8 : (wr.alloc (.cells #[.int .i64 0] 3)).heap.size = wr.heap.size + 1 := by simp
              have n0 : w7.cell? ⟨wr.heap.size, 0, none⟩ = some (.int .i64 0) := (HB7.out.cell (p := ⟨wr.heap.size, 0, none⟩) (by rw [hz8]; exact Nat.lt_succ_self _)).trans (by go_simp)
              have nf : w7.frozen? ⟨wr.heap.size, 0, none⟩ = false := (HB7.out.frozen (p := ⟨wr.heap.size, 0, none⟩) (by rw [hz8]; exact Nat.lt_succ_self _)).trans (by go_simp)
              have hz7 : wr.heap.size + 1 ≤ w7.heap.size := by have := HB7.out.size; rw [hz8] at this; exact this
              have HWR := Lib.hid (HNB.out.trans ((HB7.out).mono (Nat.le_trans (Nat.le_succ _) (Nat.le_of_eq hz8.symm))))
              have hbs : s.sups.length + (s.c.ps.length + s.c.rs.length + s.c.fs.length) ≤ 400 := by have h1 := hsup.out; have h2 := hlp.out; have h3 := hlr.out; have h4 := hlf.out; omega
              have HN0 := Lib.hid n0
              have HNF := Lib.hid nf
              have HZ7 := Lib.hid hz7
              have Hbs := Lib.hid hbs
              clear n0 nf hz8 hz7 hbs
              refine wpIn_range_x rfl (by omega) (gf := 43) (lb := #[.pointer (some ⟨Bo, 0, none⟩)]) rfl trivial (enters_of Tryd.func43 (by kernel_rfl) rfl)
                (heaps1_seq Fence.wide _ trivial trivial trivial trivial trivial rfl (by omega) rfl (fun k o => k = wr.heap.size ∧ o = 0) w7 _ Bo _ _ _ _ _ _ _ _ _ _ _ _ s HSm.out HBX.out (fun k o h => by rw [h.1]; simp))
                (fun k o h => by rw [h.1]; exact HZ7.out) (Below.refl _ _) (fun _ => rfl)
                (fun pre U => U.cell? ⟨wr.heap.size, 0, none⟩ = some (.int .i64 (pre.length : Nat)) ∧ U.frozen? ⟨wr.heap.size, 0, none⟩ = false ∧ Below wr.heap.size wr U)
                (fun c pre U => False)
                ?hI ?hIx ?h0 ?a₁ ?assign ?body ?done ?stop
              case assign =>
                intro l' x U K hK'
                gi_wp2
                exact hK'
              case hI =>
                rintro pre A C ⟨h1, h2, h3⟩ hb
                exact ⟨(hb.cell (p := ⟨wr.heap.size, 0, none⟩) HZ7.out).trans h1, (hb.frozen (p := ⟨wr.heap.size, 0, none⟩) HZ7.out).trans h2, h3.trans (hb.mono (Nat.le_of_succ_le HZ7.out))⟩
              case hIx => rintro c pre A C h; exact h.elim
              case h0 => exact ⟨HN0.out, HNF.out, HWR.out⟩
              case body =>
                rintro l' pre x U ⟨h1, h2, h3⟩ hlen hz
                have hpl4 : pre.length ≤ 400 := by have := Hbs.out; omega
                gi_wp2
                have hb9 : Below wr.heap.size U (U.setCell ⟨wr.heap.size, 0, none⟩ (.int .i64 ((pre.length : Int) + 1))) := (Below.refl _ _).setCell (p := ⟨wr.heap.size, 0, none⟩) (Nat.le_refl _) _
                exact ⟨Keep.setCell _ ⟨rfl, rfl⟩, by rw [World.cell?_setCell_same _ _ _ h1, List.length_append]; simp, by rw [World.frozen?_setCell]; exact h2, h3.trans hb9⟩
              case done =>
                rintro K xs U hKz rfl ⟨h1, h2, h3⟩ hd
                have hlen : (Kd.heaps s).length = nn := by
                  rw [← hnn'.out, ← hal'.out, List.take_length]
                  simp [Kd.heaps]
                rw [hlen] at h1
                have X8 := HX2.out.below ((HB.out.trans (HB5.out.mono HB.out.size)).trans (h3.mono (Nat.le_trans HB.out.size HB5.out.size))) hlt0.out
                have HX8 := Lib.hid X8
                have H3 := Lib.hid h3
                have HD := Lib.hid hd
                have HK := Lib.hid hKz
                obtain ⟨y0, y1, y2, y3, y4, y5⟩ := X8
                clear hd hlen
                by_cases hk1 : s.c.k = 1
                · have hk1b : (s.c.k != 1) = false := by simp [hk1]
                  have hk1' := Lib.hid hk1
                  clear hk1
                  go_wp2
                  obtain ⟨U1, hU1⟩ : ∃ U1, U1 = U.alloc (.cells #[.bool s.fin, .slice A1 s.sups.length c1, .int .i64 s.c.k, .slice A2 s.c.ps.length c2, .slice A3 s.c.rs.length c3, .slice A4 s.c.fs.length c4] 29) := ⟨_, rfl⟩
                  rw [← hU1]
                  have HU1 := Lib.hid hU1
                  have hzU : U1.heap.size = U.heap.size + 1 := by rw [hU1]; simp
                  have HBU : Hid (Below U.heap.size U U1) := Lib.hid (by rw [hU1]; exact (Below.refl _ _).alloc (Nat.le_refl _) _)
                  have HWU : Hid (Below w.heap.size w U1) := Lib.hid ((HB2.out.trans ((HB.out.trans (HB5.out.mono HB.out.size)).mono HB2.out.size)).trans ((H3.out.trans (HBU.out.mono H3.out.size)).mono (Nat.le_of_lt hltw)))
                  have HV : Hid (Below w1.heap.size w1 U1) := Lib.hid (hB6.out.trans ((H3.out.trans (HBU.out.mono H3.out.size)).mono hB6.out.size))
                  have m : Six U1 U.heap.size (.bool s.fin) (.slice A1 s.sups.length c1) (.int .i64 s.c.k) (.slice A2 s.c.ps.length c2) (.slice A3 s.c.rs.length c3) (.slice A4 s.c.fs.length c4) := ⟨by rw [hU1]; go_simp, by rw [hU1]; go_simp, by rw [hU1]; go_simp, by rw [hU1]; go_simp, by rw [hU1]; go_simp, by rw [hU1]; go_simp⟩
                  have mf : U1.frozen? ⟨U.heap.size, 4, none⟩ = false := by rw [hU1]; go_simp
                  have HM := Lib.hid m
                  have HMF := Lib.hid mf
                  have HZU := Lib.hid hzU
                  have lV : w.heap.size + 1 < U1.heap.size := by have h1 := HB6size hB6.out; have h2 := H3.out.size; have h3 := Z1.out; omega
                  have lS : w.heap.size < U1.heap.size := by omega
                  have lM : U.heap.size < U1.heap.size := by omega
                  have p4 : U1.cell? ⟨w.heap.size, 4, none⟩ = some (.slice A3 s.c.rs.length c3) := (HX.out.below HV.out ZL.out).c4
                  have p0 : U1.cell? ⟨w.heap.size + 1, 0, none⟩ = some (.int .i64 v.k) := (HV.out.cell (p := ⟨w.heap.size + 1, 0, none⟩) Z1.out).trans V0.out
                  have p1 : U1.cell? ⟨w.heap.size + 1, 1, none⟩ = some (.bool v.nu) := (HV.out.cell (p := ⟨w.heap.size + 1, 1, none⟩) Z1.out).trans V1.out
                  have p2 : U1.cell? ⟨w.heap.size + 1, 2, none⟩ = some (.int .i64 v.h.k) := (HV.out.cell (p := ⟨w.heap.size + 1, 2, none⟩) Z1.out).trans V2.out
                  have p3 : U1.cell? ⟨w.heap.size + 1, 3, none⟩ = some (.int .i64 v.h.n) := (HV.out.cell (p := ⟨w.heap.size + 1, 3, none⟩) Z1.out).trans V3.out
                  have LV := Lib.hid lV
                  have LS := Lib.hid lS
                  have LM := Lib.hid lM
                  clear hU1 hzU m mf y0 y1 y2 y3 y4 y5 h1 h2 h3
                  have hne2 : Hid (U.heap.size ≠ w.heap.size + 1) := Lib.hid (by have h1 := HB6size hB6.out; have h2 := H3.out.size; have h3 := Z1.out; omega)
                  have hne1 : Hid (U.heap.size ≠ w.heap.size) := Lib.hid (by have h1 := HB6size hB6.out; have h2 := H3.out.size; have h3 := Z1.out; omega)
                  have HE1 : Hid (OwnG 46 4 Vl.cs U1.heap.size (U1.alloc (.cells #[] 46)).drew (.slice (some ⟨U1.heap.size, 0, none⟩) 0 0) ([] : List Vl)) := Lib.hid (OwnG.empty U1 (Nat.le_refl _))
                  have HGE1 : Hid (Below U1.heap.size U1 (U1.alloc (.cells #[] 46)).drew) := Lib.hid (((Below.refl _ _).alloc (Nat.le_refl _) _).drew)
                  have HE2 : Hid (OwnG 46 4 Vl.cs U1.heap.size ((U1.alloc (.cells #[] 46)).alloc (.cells #[.int .i64 v.k, .bool v.nu, .int .i64 v.h.k, .int .i64 v.h.n] 46)).drew (.slice (some ⟨U1.heap.size, 0, none⟩) 0 0) ([] : List Vl)) := Lib.hid ((OwnG.empty U1 (Nat.le_refl _)).alloc _)
                  have HGE2 : Hid (Below U1.heap.size U1 ((U1.alloc (.cells #[] 46)).alloc (.cells #[.int .i64 v.k, .bool v.nu, .int .i64 v.h.k, .int .i64 v.h.n] 46)).drew) := Lib.hid ((((Below.refl _ _).alloc (Nat.le_refl _) _).alloc (by simp) _).drew)
                  have HE3 : Hid (OwnG 46 4 Vl.cs U1.heap.size ((U1.alloc (.cells #[.int .i64 v.k, .bool v.nu, .int .i64 v.h.k, .int .i64 v.h.n] 46)).alloc (.cells #[] 46)).drew (.slice (some ⟨U1.heap.size + 1, 0, none⟩) 0 0) ([] : List Vl)) := Lib.hid (by have h := OwnG.empty (e := 46) (sz := 4) (cs := Vl.cs) (B := U1.heap.size) (U1.alloc (.cells #[.int .i64 v.k, .bool v.nu, .int .i64 v.h.k, .int .i64 v.h.n] 46)) (by simp); rw [World.size_alloc] at h; exact h)
                  have HGE3 : Hid (Below U1.heap.size U1 ((U1.alloc (.cells #[.int .i64 v.k, .bool v.nu, .int .i64 v.h.k, .int .i64 v.h.n] 46)).alloc (.cells #[] 46)).drew) := Lib.hid ((((Below.refl _ _).alloc (Nat.le_refl _) _).alloc (by simp) _).drew)
                  have HV2 : Hid (Seg 4 Vl.cs ((U1.alloc (.cells #[] 46)).alloc (.cells #[.int .i64 v.k, .bool v.nu, .int .i64 v.h.k, .int .i64 v.h.n] 46)).drew (U1.heap.size + 1 + 1) (some ⟨U1.heap.size + 1, 0, none⟩) 1 [v]) := Lib.hid (by have h := seg_new elemV (U1.alloc (.cells #[] 46)) v #[.int .i64 v.k, .bool v.nu, .int .i64 v.h.k, .int .i64 v.h.n] 46 rfl; rw [World.size_alloc] at h; exact h)
                  have HV3 : Hid (Seg 4 Vl.cs ((U1.alloc (.cells #[.int .i64 v.k, .bool v.nu, .int .i64 v.h.k, .int .i64 v.h.n] 46)).alloc (.cells #[] 46)).drew (U1.heap.size + 1) (some ⟨U1.heap.size, 0, none⟩) 1 [v]) := Lib.hid (by have h := seg_new elemV U1 v #[.int .i64 v.k, .bool v.nu, .int .i64 v.h.k, .int .i64 v.h.n] 46 rfl; exact h.below (((Below.refl _ _).alloc (by simp) _).drew))
                  have hvs2 : Hid (U1.heap.size + 1 < ((U1.alloc (.cells #[] 46)).alloc (.cells #[.int .i64 v.k, .bool v.nu, .int .i64 v.h.k, .int .i64 v.h.n] 46)).drew.heap.size) := Lib.hid (by simp)
                  have hvs3 : Hid (U1.heap.size < ((U1.alloc (.cells #[.int .i64 v.k, .bool v.nu, .int .i64 v.h.k, .int .i64 v.h.n] 46)).alloc (.cells #[] 46)).drew.heap.size) := Lib.hid (by simp; omega)
                  have hvr2 : Hid ((Value.slice (some ⟨U1.heap.size, 0, none⟩) 0 0).ownBlock ≠ some (U1.heap.size + 1)) := Lib.hid (by intro e; have h := Option.some.inj (show some U1.heap.size = some (U1.heap.size + 1) from e); omega)
                  have hvr3 : Hid ((Value.slice (some ⟨U1.heap.size + 1, 0, none⟩) 0 0).ownBlock ≠ some U1.heap.size) := Lib.hid (by intro e; have h := Option.some.inj (show some (U1.heap.size + 1) = some U1.heap.size from e); omega)
                  have hr1 : Hid (s.c.rs.length < 1000000) := Lib.hid (by have := hlr.out; omega)
                  have hr2 : Hid (([] : List Vl).length + s.c.rs.length = s.c.rs.length) := Lib.hid (by simp)
                  have hr3 : Hid (s.c.rs.length + 1 < 1000000) := Lib.hid (by have := hlr.out; omega)
                  have hr4 : Hid (([] ++ s.c.rs).length + 1 = s.c.rs.length + 1) := Lib.hid (by simp)
                  go_region_held3 (fun w' => w'.cell? ⟨w.heap.size, 4, none⟩ = some (.slice A3 s.c.rs.length c3) ∧ w'.cell? ⟨w.heap.size + 1, 0, none⟩ = some (.int .i64 v.k) ∧ w'.cell? ⟨w.heap.size + 1, 1, none⟩ = some (.bool v.nu) ∧ w'.cell? ⟨w.heap.size + 1, 2, none⟩ = some (.int .i64 v.h.k) ∧ w'.cell? ⟨w.heap.size + 1, 3, none⟩ = some (.int .i64 v.h.n))
                    (first | go_keep | exact ⟨hd4, hd0, hd1, hd2, hd3⟩ | exact ⟨he4, he0, he1, he2, he3⟩ | exact ⟨set_off2 hne1.out he4, set_off2 hne2.out he0, set_off2 hne2.out he1, set_off2 hne2.out he2, set_off2 hne2.out he3⟩)
                    ((first
                      | (refine step_cat elemV (by rfl) _ _ (by rfl) _ s.c.rs.length (by rfl) (by rfl) HE1.out rfl (G3.out.below (HWU.out.trans (HGE1.out.mono HWU.out.size))) HGE1.out.size s.c.rs.length hr1.out hr2.out ?_; intro A8 c8 w8 hown8 hg8 hr8; have HG8 := Lib.hid (HE1.out.grown hg8 (Nat.le_refl _) HGE1.out.size HGE1.out); have HO8 := Lib.hid hown8; have hd4 := (HG8.out.cell (p := ⟨w.heap.size, 4, none⟩) LS.out).trans p4; have hd0 := (HG8.out.cell (p := ⟨w.heap.size + 1, 0, none⟩) LV.out).trans p0; have hd1 := (HG8.out.cell (p := ⟨w.heap.size + 1, 1, none⟩) LV.out).trans p1; have hd2 := (HG8.out.cell (p := ⟨w.heap.size + 1, 2, none⟩) LV.out).trans p2; have hd3 := (HG8.out.cell (p := ⟨w.heap.size + 1, 3, none⟩) LV.out).trans p3; have hm4 := (HG8.out.cell (p := ⟨U.heap.size, 4, none⟩) LM.out).trans HM.out.c4; have hf4 := (HG8.out.frozen (p := ⟨U.heap.size, 4, none⟩) LM.out).trans HMF.out; clear hown8 hg8 hr8)
                      | (refine step_cat elemV (by rfl) _ _ (by rfl) _ s.c.rs.length (by rfl) (by rfl) HE2.out rfl (G3.out.below (HWU.out.trans (HGE2.out.mono HWU.out.size))) HGE2.out.size s.c.rs.length hr1.out hr2.out ?_; intro A8 c8 w8 hown8 hg8 hr8; have HG8 := Lib.hid (HE2.out.grown hg8 (Nat.le_refl _) HGE2.out.size HGE2.out); have HO8 := Lib.hid hown8; have HVN := Lib.hid (HV2.out.kept hg8 hvs2.out hvr2.out); have hd4 := (HG8.out.cell (p := ⟨w.heap.size, 4, none⟩) LS.out).trans p4; have hd0 := (HG8.out.cell (p := ⟨w.heap.size + 1, 0, none⟩) LV.out).trans p0; have hd1 := (HG8.out.cell (p := ⟨w.heap.size + 1, 1, none⟩) LV.out).trans p1; have hd2 := (HG8.out.cell (p := ⟨w.heap.size + 1, 2, none⟩) LV.out).trans p2; have hd3 := (HG8.out.cell (p := ⟨w.heap.size + 1, 3, none⟩) LV.out).trans p3; have hm4 := (HG8.out.cell (p := ⟨U.heap.size, 4, none⟩) LM.out).trans HM.out.c4; have hf4 := (HG8.out.frozen (p := ⟨U.heap.size, 4, none⟩) LM.out).trans HMF.out; clear hown8 hg8 hr8)
                      | (refine step_cat elemV (by rfl) _ _ (by rfl) _ s.c.rs.length (by rfl) (by rfl) HE3.out rfl (G3.out.below (HWU.out.trans (HGE3.out.mono HWU.out.size))) HGE3.out.size s.c.rs.length hr1.out hr2.out ?_; intro A8 c8 w8 hown8 hg8 hr8; have HG8 := Lib.hid (HE3.out.grown hg8 (Nat.le_refl _) HGE3.out.size HGE3.out); have HO8 := Lib.hid hown8; have HVN := Lib.hid (HV3.out.kept hg8 hvs3.out hvr3.out); have hd4 := (HG8.out.cell (p := ⟨w.heap.size, 4, none⟩) LS.out).trans p4; have hd0 := (HG8.out.cell (p := ⟨w.heap.size + 1, 0, none⟩) LV.out).trans p0; have hd1 := (HG8.out.cell (p := ⟨w.heap.size + 1, 1, none⟩) LV.out).trans p1; have hd2 := (HG8.out.cell (p := ⟨w.heap.size + 1, 2, none⟩) LV.out).trans p2; have hd3 := (HG8.out.cell (p := ⟨w.heap.size + 1, 3, none⟩) LV.out).trans p3; have hm4 := (HG8.out.cell (p := ⟨U.heap.size, 4, none⟩) LM.out).trans HM.out.c4; have hf4 := (HG8.out.frozen (p := ⟨U.heap.size, 4, none⟩) LM.out).trans HMF.out; clear hown8 hg8 hr8)
                      | (refine step_push elemV (by rfl) _ _ (by rfl) w8 _ rfl v _ _ (by rfl) (by rfl) HO8.out HG8.out.size (s.c.rs.length + 1) hr3.out hr4.out rfl ?_; intro A9 c9 w9 hown9 hg9 hr9; have HG9 := Lib.hid (HO8.out.grown hg9 (Nat.le_refl _) HG8.out.size HG8.out); have HO9 := Lib.hid hown9; have he4 := (HG9.out.cell (p := ⟨w.heap.size, 4, none⟩) LS.out).trans p4; have he0 := (HG9.out.cell (p := ⟨w.heap.size + 1, 0, none⟩) LV.out).trans p0; have he1 := (HG9.out.cell (p := ⟨w.heap.size + 1, 1, none⟩) LV.out).trans p1; have he2 := (HG9.out.cell (p := ⟨w.heap.size + 1, 2, none⟩) LV.out).trans p2; have he3 := (HG9.out.cell (p := ⟨w.heap.size + 1, 3, none⟩) LV.out).trans p3; have hm5 := (HG9.out.cell (p := ⟨U.heap.size, 4, none⟩) LM.out).trans HM.out.c4; have hf5 := (HG9.out.frozen (p := ⟨U.heap.size, 4, none⟩) LM.out).trans HMF.out; clear hown9 hg9 hr9)
                      | (refine step_cat elemV (by rfl) _ _ (by rfl) _ 1 (by rfl) (by rfl) HO8.out rfl HVN.out HG8.out.size (s.c.rs.length + 1) hr3.out hr4.out ?_; intro A9 c9 w9 hown9 hg9 hr9; have HG9 := Lib.hid (HO8.out.grown hg9 (Nat.le_refl _) HG8.out.size HG8.out); have HO9 := Lib.hid hown9; have he4 := (HG9.out.cell (p := ⟨w.heap.size, 4, none⟩) LS.out).trans p4; have he0 := (HG9.out.cell (p := ⟨w.heap.size + 1, 0, none⟩) LV.out).trans p0; have he1 := (HG9.out.cell (p := ⟨w.heap.size + 1, 1, none⟩) LV.out).trans p1; have he2 := (HG9.out.cell (p := ⟨w.heap.size + 1, 2, none⟩) LV.out).trans p2; have he3 := (HG9.out.cell (p := ⟨w.heap.size + 1, 3, none⟩) LV.out).trans p3; have hm5 := (HG9.out.cell (p := ⟨U.heap.size, 4, none⟩) LM.out).trans HM.out.c4; have hf5 := (HG9.out.frozen (p := ⟨U.heap.size, 4, none⟩) LM.out).trans HMF.out; clear hown9 hg9 hr9)))
                  all_goals
                    obtain ⟨wz, hwz⟩ : ∃ wz, wz = w9.setCell ⟨U.heap.size, 4, none⟩ (.slice A9 (s.c.rs.length + 1) c9) := ⟨_, rfl⟩
                    rw [← hwz]
                    have HWz := Lib.hid hwz
                    have hBz : Below U.heap.size U wz := by
                      rw [hwz]
                      exact (HBU.out.trans (HG9.out.mono (Nat.le_of_lt LM.out))).setCell (p := ⟨U.heap.size, 4, none⟩) (Nat.le_refl _) _
                    have hzz : U1.heap.size ≤ wz.heap.size := by
                      rw [hwz]
                      have := HG9.out.size
                      simpa using this
                    have O9 : OwnG 46 4 Vl.cs U1.heap.size wz (.slice A9 (s.c.rs.length + 1) c9) (s.c.rs ++ [v]) := by
                      rw [hwz]
                      have h := HO9.out
                      rw [List.nil_append] at h
                      exact h.far2 (fun g hg e => by have := (h.lt g hg).1; have := LM.out; omega)
                    have S9 := (own_at elemV O9).2.1
                    have hBw : Below w.heap.size w wz := (HB2.out.trans ((HB.out.trans (HB5.out.mono HB.out.size)).mono HB2.out.size)).trans ((H3.out.trans (hBz.mono H3.out.size)).mono (Nat.le_of_lt hltw))
                    have hB1 : Below w1.heap.size w1 wz := hB6.out.trans ((H3.out.trans (hBz.mono H3.out.size)).mono hB6.out.size)
                    have ISm : Hid (∀ W, Below wz.heap.size wz W → Calls Tryd.prog 24 #[.agg #[.bool s.fin, .slice A1 s.sups.length c1, .int .i64 s.c.k, .slice A2 s.c.ps.length c2, .slice A9 (s.c.rs.length + 1) c9, .slice A4 s.c.fs.length c4]] W fun e w' => e = .returned (.bool (pS && Kd.pVal v)) ∧ Below W.heap.size W w') := Lib.hid fun W hW => by
                      rw [← hpS'.out, ← Kd.plain_more hk1'.out v]
                      refine pSub_any ⟨s.fin, s.sups, s.c.k, s.c.ps, s.c.rs ++ [v], s.c.fs⟩ _ W ?_ ⟨HSm.out.a, HSm.out.p, by simp; have := hlr.out; omega, HSm.out.f⟩
                      obtain ⟨B1, e1, B2, e2, B3, e3, B4, e4, ev, q1, q2, q3, q4⟩ := HS.out W (hB1.trans (hW.mono hB1.size))
                      simp only [Value.agg.injEq, Array.mk.injEq, List.cons.injEq, Value.slice.injEq, and_true, true_and] at ev
                      obtain ⟨⟨rfl, rfl⟩, ⟨rfl, rfl⟩, ⟨rfl, rfl⟩, rfl, rfl⟩ := ev
                      exact ⟨_, _, _, _, _, _, _, _, by simp, q1, q2, (S9.below hW).more hW.size, q4⟩
                    have ISs : Hid (∀ W, Below wz.heap.size wz W → Calls Tryd.prog 24 #[.agg #[.bool s.fin, .slice A1 s.sups.length c1, .int .i64 s.c.k, .slice A2 s.c.ps.length c2, .slice A3 s.c.rs.length c3, .slice A4 s.c.fs.length c4]] W fun e w' => e = .returned (.bool pS) ∧ Below W.heap.size W w') := Lib.hid fun W hW => PS.out W (hB1.trans (hW.mono hB1.size))
                    have IVs : Hid (∀ W, Below wz.heap.size wz W → Calls Tryd.prog 25 #[.agg #[.int .i64 v.k, .bool v.nu, .int .i64 v.h.k, .int .i64 v.h.n]] W fun e w' => e = .returned (.bool (Kd.pVal v)) ∧ Below W.heap.size W w') := Lib.hid fun W hW => pVal_any v W
                    have M9 := HM.out.below HG9.out LM.out
                    have S9' := HX.out.below hB1 ZL.out
                    have hm0 : wz.cell? ⟨U.heap.size, 0, none⟩ = some (.bool s.fin) := by rw [hwz]; exact set_off (by decide) M9.c0
                    have hm1 : wz.cell? ⟨U.heap.size, 1, none⟩ = some (.slice A1 s.sups.length c1) := by rw [hwz]; exact set_off (by decide) M9.c1
                    have hm2 : wz.cell? ⟨U.heap.size, 2, none⟩ = some (.int .i64 s.c.k) := by rw [hwz]; exact set_off (by decide) M9.c2
                    have hm3 : wz.cell? ⟨U.heap.size, 3, none⟩ = some (.slice A2 s.c.ps.length c2) := by rw [hwz]; exact set_off (by decide) M9.c3
                    have hm4' : wz.cell? ⟨U.heap.size, 4, none⟩ = some (.slice A9 (s.c.rs.length + 1) c9) := by rw [hwz]; exact set_at M9.c4
                    have hm5' : wz.cell? ⟨U.heap.size, 5, none⟩ = some (.slice A4 s.c.fs.length c4) := by rw [hwz]; exact set_off (by decide) M9.c5
                    have lz0 : w.heap.size < wz.heap.size := Nat.lt_of_lt_of_le LS.out hzz
                    have lz1 : w.heap.size + 1 < wz.heap.size := Nat.lt_of_lt_of_le LV.out hzz
                    have lz2 : U.heap.size < wz.heap.size := Nat.lt_of_lt_of_le LM.out hzz
                    have qm0 := fun n : Aft wz => n.cell lz2 hm0
                    have qm1 := fun n : Aft wz => n.cell lz2 hm1
                    have qm2 := fun n : Aft wz => n.cell lz2 hm2
                    have qm3 := fun n : Aft wz => n.cell lz2 hm3
                    have qm4 := fun n : Aft wz => n.cell lz2 hm4'
                    have qm5 := fun n : Aft wz => n.cell lz2 hm5'
                    have qs0 := fun n : Aft wz => n.cell lz0 S9'.c0
                    have qs1 := fun n : Aft wz => n.cell lz0 S9'.c1
                    have qs2 := fun n : Aft wz => n.cell lz0 S9'.c2
                    have qs3 := fun n : Aft wz => n.cell lz0 S9'.c3
                    have qs4 := fun n : Aft wz => n.cell lz0 S9'.c4
                    have qs5 := fun n : Aft wz => n.cell lz0 S9'.c5
                    have qv0 := fun n : Aft wz => n.cell lz1 ((hB1.cell (p := ⟨w.heap.size + 1, 0, none⟩) Z1.out).trans V0.out)
                    have qv1 := fun n : Aft wz => n.cell lz1 ((hB1.cell (p := ⟨w.heap.size + 1, 1, none⟩) Z1.out).trans V1.out)
                    have qv2 := fun n : Aft wz => n.cell lz1 ((hB1.cell (p := ⟨w.heap.size + 1, 2, none⟩) Z1.out).trans V2.out)
                    have qv3 := fun n : Aft wz => n.cell lz1 ((hB1.cell (p := ⟨w.heap.size + 1, 3, none⟩) Z1.out).trans V3.out)
                    have HFIN : Hid (∀ n : Aft wz, Below w.heap.size w n.W) := Lib.hid (fun n => hBw.trans (n.h.mono hBw.size))
                    have HKN : Hid (∀ n : Aft wz, n.W.heap[K]? = some (.deferred (some []))) := Lib.hid fun n => by
                      have hK : K < U.heap.size := by
                        have h := HD.out
                        exact (Array.getElem?_eq_some_iff.1 h).1
                      exact (n.h.block _ (Nat.lt_trans hK lz2)).trans ((hBz.block _ hK).trans HD.out)
                    have hK8 : Hid (w.heap.size ≤ K) := Lib.hid (by have h4 := HK.out; have h5 := HZ7.out; omega)
                    have inst := Aft.ne wz
                    clear hwz hBz hzz O9 S9 hBw hB1 M9 S9' hm0 hm1 hm2 hm3 hm4' hm5' lz0 lz1 lz2 lV lS lM p4 p0 p1 p2 p3 hd4 hd0 hd1 hd2 hd3 hm4 hf4 he4 he0 he1 he2 he3 hm5 hf5
                    obtain ⟨pv, hpv⟩ : ∃ pv, Kd.pVal v = pv := ⟨_, rfl⟩
                    rw [hpv] at ISm IVs
                    clear hpv
                    go_wp2
                    refine region_aft wz (Below.refl _ _) (by kernel_rfl) (by kernel_rfl) ?_
                    cases pS
                    all_goals
                      repeat (go_big_quiet_step ((first
                        | (go_at_call 24; with_reducible exact Aft.call ISm.out _)
                        | (go_at_call 24; with_reducible exact Aft.call ISs.out _)
                        | (go_at_call 25; with_reducible exact Aft.call IVs.out _))))
                      refine wpQuiet_nil ?_
                      intro _ hw'
                      obtain ⟨n, rfl⟩ := hw'
                      go_wp2
                      refine ret_m1 rfl (HKN.out n) ?_
                      rw [HQ.out]
                      exact ⟨by first | rfl | simp, below_put (HFIN.out n) hK8.out _⟩
                · have hk1b : (s.c.k != 1) = true := by simp [hk1]
                  clear hk1
                  go_wp2
                  refine ret_m1 rfl HD.out ?_
                  rw [HQ.out]
                  exact ⟨rfl, below_put ((HB2.out.trans ((HB.out.trans (HB5.out.mono HB.out.size)).mono HB2.out.size)).trans (H3.out.mono (Nat.le_of_lt hltw))) (by have h4 := HK.out; have h5 := HZ7.out; omega) _⟩
              case stop => rintro K c pre U hKz hpr h hd; exact h.elim
end Go.Proofs.YtlflmobaegfnaaaDoor

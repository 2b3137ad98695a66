/-
  Layer 4, the document's side: the walk of Sub.
-/
import Derived.Test.YtabeidgkgbkliaaDoorKdP2
namespace Go.Proofs.YtabeidgkgbkliaaDoor
open Go.RowKit
set_option linter.unusedVariables false
set_option maxRecDepth 100000

theorem Kd.pIdx_k {x : Hp} (h : x.k = 13) : Kd.pIdx x = Kd.pHeap x := by
  unfold Kd.pHeap
  rw [h, if_neg (by decide)]
set_option maxHeartbeats 4000000 in
theorem rSub_any (s : Sb) (x : Value) (w : World) (h : IsSub w w.heap.size x s) (hS : Kd.Small s) :
    Calls Tryd.prog 10 #[x] w fun e w' => e = .returned (.bool (Kd.pSub s)) ∧ Below w.heap.size w w' := by
  rw [Kd.pSub_doc]
  obtain ⟨r, hr⟩ : ∃ r, (s.sups.all Kd.pIdx && (s.c.fs.all Kd.pField && Kd.tailB s.c)) = r := ⟨_, rfl⟩
  rw [hr]
  have hr' := Lib.hid hr
  clear hr
  obtain ⟨A1, c1, A2, c2, A3, c3, A4, c4, rfl, s1, s2, s3, s4⟩ := h
  obtain ⟨fin, sups, kk, ps, rs, fs⟩ := s
  obtain ⟨la, lp, lr, lf⟩ := hS
  dsimp only at *
  have HS1 := Lib.hid s1
  have HS2 := Lib.hid s2
  have HS3 := Lib.hid s3
  have HS4 := Lib.hid s4
  have HLp := Lib.hid lp
  have HLr := Lib.hid lr
  clear s1 s2 s3 s4 lp lr
  obtain ⟨W0, hW0⟩ : ∃ W0, W0 = w.alloc (.cells #[.bool fin, .slice A1 sups.length c1, .int .i64 kk, .slice A2 ps.length c2, .slice A3 rs.length c3, .slice A4 fs.length c4] 29) := ⟨_, rfl⟩
  have XB : Hid (Below w.heap.size w W0) := Lib.hid (by rw [hW0]; exact (Below.refl _ _).alloc (Nat.le_refl _) _)
  have X1 : Hid (W0.cell? ⟨w.heap.size, 1, none⟩ = some (.slice A1 sups.length c1)) := Lib.hid (by rw [hW0]; simp)
  have X2 : Hid (W0.cell? ⟨w.heap.size, 2, none⟩ = some (.int .i64 kk)) := Lib.hid (by rw [hW0]; simp)
  have X3 : Hid (W0.cell? ⟨w.heap.size, 3, none⟩ = some (.slice A2 ps.length c2)) := Lib.hid (by rw [hW0]; simp)
  have X4 : Hid (W0.cell? ⟨w.heap.size, 4, none⟩ = some (.slice A3 rs.length c3)) := Lib.hid (by rw [hW0]; simp)
  have X5 : Hid (W0.cell? ⟨w.heap.size, 5, none⟩ = some (.slice A4 fs.length c4)) := Lib.hid (by rw [hW0]; simp)
  have Xl : Hid (w.heap.size < W0.heap.size) := Lib.hid (by rw [hW0]; simp)
  have HW0 := Lib.hid hW0
  clear hW0
  go_enter Tryd.func10, Tryd.ntmps10
  go_wp2
  go_loopw [3] (fun i wr => ∃ k : Nat, k ≤ sups.length ∧ i = .int .i64 k ∧ Below W0.heap.size W0 wr ∧ (sups.take k).all Kd.pIdx = true) (fun i _ => sups.length - (intOf i).toNat)
  case atStart => exact ⟨0, Nat.zero_le _, rfl, by rw [HW0.out]; exact Below.refl _ _, by simp⟩
  case round =>
    obtain ⟨k, hk, rfl, hB, hall⟩ := hrel
    have hall' := Lib.hid hall
    have HB := Lib.hid hB
    clear hall hB
    have hc1 : wr.cell? ⟨w.heap.size, 1, none⟩ = some (.slice A1 sups.length c1) := (HB.out.cell (p := ⟨w.heap.size, 1, none⟩) Xl.out).trans X1.out
    by_cases hlt : k < sups.length
    · obtain ⟨b, off, rfl, hb, hc⟩ := HS1.out.2.2 (by omega)
      have hW : ∀ o, wr.cell? ⟨b, o, none⟩ = w.cell? ⟨b, o, none⟩ := fun o => (HB.out.cell (p := ⟨b, o, none⟩) (Nat.lt_trans hb Xl.out)).trans (XB.out.cell (p := ⟨b, o, none⟩) hb)
      obtain ⟨x, hx⟩ : ∃ x, x = sups[k] := ⟨_, rfl⟩
      have g0 := (hW (off + k * 2 + 0)).trans (hc k hlt 0 _ rfl)
      have g1 := (hW (off + k * 2 + 1)).trans (hc k hlt 1 _ rfl)
      rw [← hx] at g0 g1
      simp only [Nat.add_zero] at g0
      have hx' := Lib.hid hx
      have hmem : Hid (x ∈ sups) := Lib.hid (by rw [hx]; exact List.getElem_mem hlt)
      clear hx hc hW
      have htk : Hid ((sups.take (k + 1)).all Kd.pIdx = Kd.pIdx x) := Lib.hid (by rw [List.take_succ_eq_append_getElem hlt, List.all_append, hall'.out, hx'.out]; simp)
      have hfalse : Hid (Kd.pIdx x = false → r = false) := Lib.hid (fun e => by
        rw [← hr'.out]
        have : sups.all Kd.pIdx = false := Bool.eq_false_iff.2 fun e2 => by
          have := List.all_eq_true.1 e2 x hmem.out
          rw [e] at this; cases this
        rw [this]; rfl)
      obtain ⟨xk, xn⟩ := x
      dsimp only at g0 g1
      by_cases hk13 : xk = 13
      · subst hk13
        have hpp : Hid (Kd.pIdx ⟨13, xn⟩ = Kd.pHeap ⟨13, xn⟩) := Lib.hid (Kd.pIdx_k rfl)
        cases hp : Kd.pHeap ⟨13, xn⟩
        · go_wp2_with (go_at_call 34; refine (rHeap_any ⟨13, xn⟩ _).mono ?_; rw [hp]; rintro e w1 ⟨rfl, hb1⟩)
          go_ret
          exact ⟨ret_bool (hfalse.out (by rw [hpp.out, hp])).symm, XB.out.trans ((below_trans2 HB.out hb1).mono XB.out.size)⟩
        · go_wp2_with (go_at_call 34; refine (rHeap_any ⟨13, xn⟩ _).mono ?_; rw [hp]; rintro e w1 ⟨rfl, hb1⟩)
          go_roundw
          case rel => exact ⟨k + 1, by omega, by go_num, below_trans2 HB.out hb1, by rw [htk.out, hpp.out]; exact hp⟩
          case measure => simp [intOf]; omega
      · have hk14 : (xk != 13) = true := by simpa using hk13
        go_wp2
        go_ret
        exact ⟨ret_bool (hfalse.out (by unfold Kd.pIdx; simp [hk13])).symm, XB.out.trans (HB.out.mono XB.out.size)⟩
    · have hjn : k = sups.length := by omega
      subst hjn
      have hsA : Hid (sups.all Kd.pIdx = true) := Lib.hid (by have h := hall'.out; rw [List.take_length] at h; exact h)
      have hc2 : wr.cell? ⟨w.heap.size, 2, none⟩ = some (.int .i64 kk) := (HB.out.cell (p := ⟨w.heap.size, 2, none⟩) Xl.out).trans X2.out
      have hc3 : wr.cell? ⟨w.heap.size, 3, none⟩ = some (.slice A2 ps.length c2) := (HB.out.cell (p := ⟨w.heap.size, 3, none⟩) Xl.out).trans X3.out
      have hc4 : wr.cell? ⟨w.heap.size, 4, none⟩ = some (.slice A3 rs.length c3) := (HB.out.cell (p := ⟨w.heap.size, 4, none⟩) Xl.out).trans X4.out
      have hc5 : wr.cell? ⟨w.heap.size, 5, none⟩ = some (.slice A4 fs.length c4) := (HB.out.cell (p := ⟨w.heap.size, 5, none⟩) Xl.out).trans X5.out
      obtain ⟨w5, rfl⟩ : ∃ w5, w5 = wr := ⟨_, rfl⟩
      obtain ⟨W1, hW1⟩ : ∃ W1, W1 = w5.alloc (.cells #[.int .i64 kk, .slice A2 ps.length c2, .slice A3 rs.length c3, .slice A4 fs.length c4] 27) := ⟨_, rfl⟩
      have YB : Hid (Below w.heap.size w W1) := Lib.hid (by rw [hW1]; exact (XB.out.trans (HB.out.mono XB.out.size)).alloc (Nat.le_trans XB.out.size HB.out.size) _)
      have Y0 : Hid (W1.cell? ⟨w5.heap.size, 0, none⟩ = some (.int .i64 kk)) := Lib.hid (by rw [hW1]; simp)
      have Y1 : Hid (W1.cell? ⟨w5.heap.size, 1, none⟩ = some (.slice A2 ps.length c2)) := Lib.hid (by rw [hW1]; simp)
      have Y2 : Hid (W1.cell? ⟨w5.heap.size, 2, none⟩ = some (.slice A3 rs.length c3)) := Lib.hid (by rw [hW1]; simp)
      have Y3 : Hid (W1.cell? ⟨w5.heap.size, 3, none⟩ = some (.slice A4 fs.length c4)) := Lib.hid (by rw [hW1]; simp)
      have Yl : Hid (w5.heap.size < W1.heap.size) := Lib.hid (by rw [hW1]; simp)
      have HW1 := Lib.hid hW1
      clear hW1 hlt hk
      go_wp2
      clear hc1 hc2 hc3 hc4 hc5
      go_loopw [5] (fun i wr => ∃ k : Nat, k ≤ fs.length ∧ i = .int .i64 k ∧ Below W1.heap.size W1 wr ∧ (fs.take k).all Kd.pField = true) (fun i _ => fs.length - (intOf i).toNat)
      case atStart => exact ⟨0, Nat.zero_le _, rfl, by rw [HW1.out]; exact Below.refl _ _, by simp⟩
      case round =>
        obtain ⟨k, hk, rfl, hB2, hall2⟩ := hrel
        have hall2' := Lib.hid hall2
        have HB2 := Lib.hid hB2
        clear hall2 hB2
        have hd3 : wr.cell? ⟨w5.heap.size, 3, none⟩ = some (.slice A4 fs.length c4) := (HB2.out.cell (p := ⟨w5.heap.size, 3, none⟩) Yl.out).trans Y3.out
        by_cases hlt : k < fs.length
        · obtain ⟨b, off, rfl, hb, hc⟩ := HS4.out.2.2 (by omega)
          have hW : ∀ o, wr.cell? ⟨b, o, none⟩ = w.cell? ⟨b, o, none⟩ := fun o => (HB2.out.cell (p := ⟨b, o, none⟩) (Nat.lt_of_lt_of_le hb YB.out.size)).trans (YB.out.cell (p := ⟨b, o, none⟩) hb)
          obtain ⟨x, hx⟩ : ∃ x, x = fs[k] := ⟨_, rfl⟩
          have g0 := (hW (off + k * 6 + 0)).trans (hc k hlt 0 _ rfl)
          have g1 := (hW (off + k * 6 + 1)).trans (hc k hlt 1 _ rfl)
          have g2 := (hW (off + k * 6 + 2)).trans (hc k hlt 2 _ rfl)
          have g3 := (hW (off + k * 6 + 3)).trans (hc k hlt 3 _ rfl)
          have g4 := (hW (off + k * 6 + 4)).trans (hc k hlt 4 _ rfl)
          rw [← hx] at g0 g1 g2 g3 g4
          simp only [Nat.add_zero] at g0
          have hx' := Lib.hid hx
          have hmem : Hid (x ∈ fs) := Lib.hid (by rw [hx]; exact List.getElem_mem hlt)
          clear hx hc hW
          have htk : Hid ((fs.take (k + 1)).all Kd.pField = Kd.pField x) := Lib.hid (by rw [List.take_succ_eq_append_getElem hlt, List.all_append, hall2'.out, hx'.out]; simp)
          have hfalse : Hid (Kd.pField x = false → r = false) := Lib.hid (fun e => by
            rw [← hr'.out]
            have : fs.all Kd.pField = false := Bool.eq_false_iff.2 fun e2 => by
              have := List.all_eq_true.1 e2 x hmem.out
              rw [e] at this; cases this
            rw [this]; simp)
          have hdoc := Lib.hid (Kd.pField_doc x)
          obtain ⟨xp, ⟨vk, vnu, vh⟩, xm⟩ := x
          dsimp only at g0 g1 g2 g3 g4 hdoc
          have eb : Below wr.heap.size wr (wr.alloc (.cells #[.int .i64 xp, .int .i64 vk, .bool vnu, .int .i64 vh.k, .int .i64 vh.n] 53)) := (Below.refl _ _).alloc (Nat.le_refl _) _
          have EB := Lib.hid eb
          clear eb
          have FIN : Hid (∀ W : World, Below wr.heap.size wr W → Below w.heap.size w W) := Lib.hid fun W hW => YB.out.trans ((below_trans2 HB2.out hW).mono YB.out.size)
          cases hp : Kd.pVal ⟨vk, vnu, vh⟩
          · go_wp2_with (go_at_call 13; refine (rVal_any ⟨vk, vnu, vh⟩ _).mono ?_; rw [hp]; rintro e w1 ⟨rfl, hb1⟩; have HB1 := Lib.hid hb1; obtain ⟨hcc, hff⟩ := bcell hb1; clear hff hb1)
            go_ret
            exact ⟨ret_bool (hfalse.out (by rw [hdoc.out, hp]; rfl)).symm, FIN.out _ (below_trans EB.out HB1.out)⟩
          · by_cases p0 : xp = 0
            · subst p0
              go_wp2_with (go_at_call 13; refine (rVal_any ⟨vk, vnu, vh⟩ _).mono ?_; rw [hp]; rintro e w1 ⟨rfl, hb1⟩; have HB1 := Lib.hid hb1; obtain ⟨hcc, hff⟩ := bcell hb1; clear hff hb1)
              go_roundw
              case rel => exact ⟨k + 1, by omega, by go_num, below_trans2 HB2.out (below_trans EB.out HB1.out), by rw [htk.out, hdoc.out, hp]; simp⟩
              case measure => simp [intOf]; omega
            · have p0' : (xp != 0) = true := by simpa using p0
              by_cases p8 : xp = 8 ∨ xp = 16
              · by_cases pk : vk = 1
                · subst pk
                  rcases p8 with p8 | p8
                  all_goals
                    subst p8
                    go_wp2_with (go_at_call 13; refine (rVal_any ⟨1, vnu, vh⟩ _).mono ?_; rw [hp]; rintro e w1 ⟨rfl, hb1⟩; have HB1 := Lib.hid hb1; obtain ⟨hcc, hff⟩ := bcell hb1; clear hff hb1)
                    go_roundw
                    case rel => exact ⟨k + 1, by omega, by go_num, below_trans2 HB2.out (below_trans EB.out HB1.out), by rw [htk.out, hdoc.out, hp]; simp⟩
                    case measure => simp [intOf]; omega
                · have pk' : (vk != 1) = true := by simpa using pk
                  rcases p8 with p8 | p8
                  all_goals
                    subst p8
                    go_wp2_with (go_at_call 13; refine (rVal_any ⟨vk, vnu, vh⟩ _).mono ?_; rw [hp]; rintro e w1 ⟨rfl, hb1⟩; have HB1 := Lib.hid hb1; obtain ⟨hcc, hff⟩ := bcell hb1; clear hff hb1)
                    go_ret
                    exact ⟨ret_bool (hfalse.out (by rw [hdoc.out, hp]; simp [pk])).symm, FIN.out _ (below_trans EB.out HB1.out)⟩
              · have p8' : (xp != 8) = true := by simp; omega
                have p16' : (xp != 16) = true := by simp; omega
                go_wp2_with (go_at_call 13; refine (rVal_any ⟨vk, vnu, vh⟩ _).mono ?_; rw [hp]; rintro e w1 ⟨rfl, hb1⟩; have HB1 := Lib.hid hb1; obtain ⟨hcc, hff⟩ := bcell hb1; clear hff hb1)
                go_ret
                exact ⟨ret_bool (hfalse.out (by rw [hdoc.out, hp]; simp; omega)).symm, FIN.out _ (below_trans EB.out HB1.out)⟩
        · have hjn2 : k = fs.length := by omega
          subst hjn2
          have hrt : Hid (r = Kd.tailB ⟨kk, ps, rs, fs⟩) := Lib.hid (by
            have h := hall2'.out
            rw [List.take_length] at h
            rw [← hr'.out, hsA.out, h]; simp)
          have hd0 : wr.cell? ⟨w5.heap.size, 0, none⟩ = some (.int .i64 kk) := (HB2.out.cell (p := ⟨w5.heap.size, 0, none⟩) Yl.out).trans Y0.out
          have hd1 : wr.cell? ⟨w5.heap.size, 1, none⟩ = some (.slice A2 ps.length c2) := (HB2.out.cell (p := ⟨w5.heap.size, 1, none⟩) Yl.out).trans Y1.out
          have hd2 : wr.cell? ⟨w5.heap.size, 2, none⟩ = some (.slice A3 rs.length c3) := (HB2.out.cell (p := ⟨w5.heap.size, 2, none⟩) Yl.out).trans Y2.out
          have hl5 : w5.heap.size < wr.heap.size := Nat.lt_of_lt_of_le Yl.out HB2.out.size
          have FIN : Hid (∀ W : World, Below wr.heap.size wr W → Below w.heap.size w W) := Lib.hid fun W hW => YB.out.trans ((below_trans2 HB2.out hW).mono YB.out.size)
          have GP : Hid (∀ W, Below wr.heap.size wr W → Calls Tryd.prog 35 #[.slice A2 ps.length c2] W fun e w' => e = .returned (.bool (ps.all Kd.pVal)) ∧ Below W.heap.size W w') :=
            Lib.hid fun W hW => rVals_any ps A2 c2 W HLp.out ((HS2.out.below (FIN.out W hW)).more (FIN.out W hW).size)
          have GR : Hid (∀ W, Below wr.heap.size wr W → Calls Tryd.prog 35 #[.slice A3 rs.length c3] W fun e w' => e = .returned (.bool (rs.all Kd.pVal)) ∧ Below W.heap.size W w') :=
            Lib.hid fun W hW => rVals_any rs A3 c3 W HLr.out ((HS3.out.below (FIN.out W hW)).more (FIN.out W hW).size)
          clear hlt
          by_cases k1 : kk = 1
          · subst k1
            by_cases f0 : fs.length = 0
            · have f0' : ((fs.length : Int) == 0) = true := by rw [len0]; simp [f0]
              cases hpp : ps.all Kd.pVal
              · rw [hpp] at GP
                go_wp2_with fail
                refine (GP.out _ (Below.refl _ _)).mono ?_
                rintro e w1 ⟨rfl, hb1⟩
                have HB1 := Lib.hid hb1
                obtain ⟨hcc, hff⟩ := bcell hb1
                clear hb1 hff
                go_wp2
                go_ret
                exact ⟨ret_bool (by rw [hrt.out]; simp [Kd.tailB, hpp]), FIN.out _ HB1.out⟩
              · rw [hpp] at GP
                go_wp2_with fail
                refine (GP.out _ (Below.refl _ _)).mono ?_
                rintro e w1 ⟨rfl, hb1⟩
                have HB1 := Lib.hid hb1
                obtain ⟨hcc, hff⟩ := bcell hb1
                clear hb1 hff
                go_wp2_with fail
                refine (GR.out _ HB1.out).mono ?_
                rintro e w2 ⟨rfl, hb2⟩
                go_wp2
                go_ret
                exact ⟨ret_bool (by rw [hrt.out]; simp [Kd.tailB, hpp, f0]), FIN.out _ (below_trans2 HB1.out hb2)⟩
            · have f0' : ((fs.length : Int) == 0) = false := by rw [len0]; simp only [f0, decide_false]
              go_wp2
              go_ret
              exact ⟨ret_bool (by rw [hrt.out]; simp only [Kd.tailB, f0, decide_false, Bool.false_and, if_true]), FIN.out _ (Below.refl _ _)⟩
          · by_cases t1 : 0 < ps.length
            · have t1' : decide ((0 : Int) < ps.length) = true := by simpa using t1
              go_wp2
              go_ret
              exact ⟨ret_bool (by rw [hrt.out]; unfold Kd.tailB; rw [if_neg k1, if_pos (.inl t1)]), FIN.out _ (Below.refl _ _)⟩
            · have e1 : ps.length = 0 := by omega
              by_cases t2 : 0 < rs.length
              · have e0 : ((0 : Int) < ps.length) = False := by rw [e1]; simp
                have t2' : ((0 : Int) < rs.length) = True := by simp; omega
                go_wp2
                go_ret
                exact ⟨ret_bool (by rw [hrt.out]; unfold Kd.tailB; rw [if_neg k1, if_pos (.inr t2)]), FIN.out _ (Below.refl _ _)⟩
              · have e2 : rs.length = 0 := by omega
                have e0 : ((0 : Int) < ps.length) = False := by rw [e1]; simp
                have e0' : ((0 : Int) < rs.length) = False := by rw [e2]; simp
                by_cases k2 : kk = 2
                · subst k2
                  go_wp2
                  go_ret
                  exact ⟨ret_bool (by rw [hrt.out]; simp [Kd.tailB, e1, e2]), FIN.out _ (Below.refl _ _)⟩
                · by_cases k3 : kk = 3
                  · subst k3
                    go_wp2
                    go_ret
                    exact ⟨ret_bool (by rw [hrt.out]; simp [Kd.tailB, e1, e2]; rw [Bool.eq_iff_iff]; simp; try omega), FIN.out _ (Below.refl _ _)⟩
                  · go_wp2
                    go_ret
                    exact ⟨ret_bool (by rw [hrt.out]; simp [Kd.tailB, e1, e2, k1, k2, k3]), FIN.out _ (Below.refl _ _)⟩
end Go.Proofs.YtabeidgkgbkliaaDoor

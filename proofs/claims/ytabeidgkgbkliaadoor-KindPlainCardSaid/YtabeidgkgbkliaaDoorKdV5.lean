/-
  Layer 4, the document's side: the writing of a declared type: fields.
-/
import Derived.Test.YtabeidgkgbkliaaDoorKdV4
namespace Go.Proofs.YtabeidgkgbkliaaDoor
open Go.RowKit
set_option linter.unusedVariables false
set_option maxRecDepth 100000

set_option maxHeartbeats 4000000 in
theorem rTextArray_any (fin : Bool) (sups : List Hp) (fs : List Fd) (v : Value) (w : World) (h : IsSub w w.heap.size v ⟨fin, sups, 3, [], [], fs⟩) (hS : Kd.Small ⟨fin, sups, 3, [], [], fs⟩) (hp : ∀ x ∈ sups, Kd.pHeap x = true) (hpf : ∀ x ∈ fs, Kd.pField x = true) :
    Calls Tryd.prog 20 #[v] w fun e w' => e = .returned (Str (Kd.tT ⟨fin, sups, 3, [], [], fs⟩)) ∧ Below w.heap.size w w' := by
  obtain ⟨A1, c1, A2, c2, A3, c3, A4, c4, rfl, s1, s2, s3, s4⟩ := h
  dsimp only [List.length_nil] at s1 s2 s3 s4 ⊢
  obtain ⟨W, hW⟩ : ∃ W, W = w.alloc (.cells #[.bool fin, .slice A1 sups.length c1, .int .i64 3, .slice A2 0 c2, .slice A3 0 c3, .slice A4 fs.length c4] 29) := ⟨_, rfl⟩
  have XB : Hid (Below w.heap.size w W) := Lib.hid (by rw [hW]; exact (Below.refl _ _).alloc (Nat.le_refl _) _)
  have HP := Lib.hid hp
  have HL := Lib.hid hS
  have HS1 := Lib.hid s1
  have hwz : w.heap.size < W.heap.size := by rw [hW]; simp
  have X1 : Hid (W.cell? ⟨w.heap.size, 1, none⟩ = some (.slice A1 sups.length c1)) := Lib.hid (by rw [hW]; go_simp)
  have X2 : Hid (W.cell? ⟨w.heap.size, 2, none⟩ = some (.int .i64 3)) := Lib.hid (by rw [hW]; go_simp)
  have X3 : Hid (W.cell? ⟨w.heap.size, 3, none⟩ = some (.slice A2 0 c2)) := Lib.hid (by rw [hW]; go_simp)
  have X4 : Hid (W.cell? ⟨w.heap.size, 4, none⟩ = some (.slice A3 0 c3)) := Lib.hid (by rw [hW]; go_simp)
  have X5 : Hid (W.cell? ⟨w.heap.size, 5, none⟩ = some (.slice A4 fs.length c4)) := Lib.hid (by rw [hW]; go_simp)
  have HW := Lib.hid hW
  clear hW hp hS s1
  have HF := Lib.hid hpf
  have HS4 := Lib.hid s4
  obtain ⟨r, hr⟩ : ∃ r, Kd.tT ⟨fin, sups, 3, [], [], fs⟩ = r := ⟨_, rfl⟩
  rw [hr]
  rw [Kd.tT_array] at hr
  have hr' := Lib.hid hr
  clear hr s2 s3 s4 hpf
  obtain ⟨t0, ht0⟩ : ∃ t0, Kd.T0 fin = t0 := ⟨_, rfl⟩
  rw [ht0] at hr'
  have ht0 := Lib.hid ht0
  have lt0 : Hid (t0.length ≤ 10) := Lib.hid (by rw [← ht0.out]; cases fin <;> decide)
  cases fin
  all_goals
    go_enter Tryd.func20, Tryd.ntmps20
    go_wp2
    rw [← HW.out]
    have zx := X1.out
    go_loopw [3, 4] (fun t i wr => ∃ j : Nat, j ≤ sups.length ∧ i = .int .i64 j ∧ Below W.heap.size W wr ∧ t = Str (t0 ++ Kd.sp ((sups.take j).map Kd.hT))) (fun _ i _ => sups.length - (intOf i).toNat)
    case atStart => exact ⟨0, Nat.zero_le _, rfl, Below.refl _ _, by rw [← ht0.out]; rfl⟩
    case round =>
    obtain ⟨j, hj, rfl, hB, rfl⟩ := hrel
    obtain ⟨hcW, hfW⟩ := bcell hB
    have HB := Lib.hid hB
    have hlen := Kd.sp_len 21 ((sups.take j).map Kd.hT) (fun y hy => by
      obtain ⟨v, hv, rfl⟩ := List.mem_map.1 hy
      exact Kd.hT_len v (Kd.okH_of (HP.out v (List.mem_of_mem_take hv))))
    rw [List.length_map, List.length_take, Nat.min_eq_left hj] at hlen
    obtain ⟨t, ht⟩ : ∃ t, t0 ++ Kd.sp ((sups.take j).map Kd.hT) = t := ⟨_, rfl⟩
    have htl : t.length ≤ 10 + j * 22 := by rw [← ht, List.length_append]; have := lt0.out; omega
    rw [ht]
    have hj' := hj
    have hLs := HL.out.a
    dsimp only at hLs
    clear hB hlen
    by_cases hlt : j < sups.length
    · obtain ⟨b, off, rfl, hb, hc⟩ := HS1.out.2.2 (by omega)
      have g0 := (HB.out.cell (p := ⟨b, off + j * 2 + 0, none⟩) (Nat.lt_of_lt_of_le hb XB.out.size)).trans ((XB.out.cell (p := ⟨b, off + j * 2 + 0, none⟩) hb).trans (hc j hlt 0 _ rfl))
      have g1 := (HB.out.cell (p := ⟨b, off + j * 2 + 1, none⟩) (Nat.lt_of_lt_of_le hb XB.out.size)).trans ((XB.out.cell (p := ⟨b, off + j * 2 + 1, none⟩) hb).trans (hc j hlt 1 _ rfl))
      simp only [Nat.add_zero] at g0
      clear hc HS1
      have hstep := Lib.hid (Kd.sp_take Kd.hT sups j hlt)
      have ht' := Lib.hid ht
      clear ht
      obtain ⟨x, hx⟩ : ∃ x, x = sups[j] := ⟨_, rfl⟩
      rw [← hx] at g0 g1 hstep
      have hpx := Lib.hid (HP.out sups[j] (List.getElem_mem hlt))
      rw [← hx] at hpx
      have hx' := Lib.hid hx
      clear hx
      have hlx := Kd.hT_len x (Kd.okH_of hpx.out)
      have HC : Hid (∀ W, Calls Tryd.prog 47 #[x.val] W fun e w' => e = .returned (Str (Kd.hT x)) ∧ Below W.heap.size W w') := Lib.hid fun W => rHeapText_any x hpx.out W
      obtain ⟨u, hu⟩ : ∃ u, Kd.hT x = u := ⟨_, rfl⟩
      rw [hu] at HC hstep hlx
      clear hu
      have s1 : (9223372036854775807 < t.length + 1) = False := eq_false (by omega)
      have s2 : (9223372036854775807 < t.length + 1 + u.length) = False := eq_false (by omega)
      go_wp2_with fail
      refine (HC.out _).mono ?_
      rintro e w1 ⟨rfl, hb1⟩
      have HB1 := Lib.hid (below_trans2 HB.out hb1)
      clear hb1
      go_wp2
      go_roundw
      case rel => exact ⟨j + 1, by omega, by go_num, HB1.out, by rw [← hstep.out, ← ht'.out]; simp [cat_]⟩
      case measure => simp [intOf]; omega
    · have hjn : j = sups.length := by omega
      rw [hjn, List.take_length] at ht
      have hts : Hid (t0 ++ Kd.sp (sups.map Kd.hT) = t) := Lib.hid ht
      have htm : t.length ≤ 2210 := by omega
      clear ht htl hj' hLs
      subst hjn
      clear hlt hj
      have x0 := (hcW w.heap.size 1 hwz).trans X1.out
      have x1 := (hcW w.heap.size 2 hwz).trans X2.out
      have x2 := (hcW w.heap.size 3 hwz).trans X3.out
      have x3 := (hcW w.heap.size 4 hwz).trans X4.out
      have x4 := (hcW w.heap.size 5 hwz).trans X5.out
      clear hcW hfW zx
      have q1 := run_four3
      have ov0 : (9223372036854775807 < t.length + 2) = False := eq_false (by omega)
      have ov1 : (9223372036854775807 < t.length + 2 + 5) = False := eq_false (by omega)
      have ov2 : (9223372036854775807 < t.length + 7) = False := eq_false (by omega)
      obtain ⟨V, hV⟩ : ∃ V, V = wr.alloc (.cells #[.int .i64 3, .slice A2 0 c2, .slice A3 0 c3, .slice A4 fs.length c4] 27) := ⟨_, rfl⟩
      have BV : Hid (Below w.heap.size w V) := Lib.hid (by rw [hV]; exact (XB.out.trans (HB.out.mono (Nat.le_of_lt hwz))).alloc (XB.out.trans (HB.out.mono (Nat.le_of_lt hwz))).size _)
      have hvz : wr.heap.size < V.heap.size := by rw [hV]; simp
      have Y3 : Hid (V.cell? ⟨wr.heap.size, 3, none⟩ = some (.slice A4 fs.length c4)) := Lib.hid (by rw [hV]; go_simp)
      have HV := Lib.hid hV
      obtain ⟨t1, ht1⟩ : ∃ t1, t ++ [32, 40] ++ [97, 114, 114, 97, 121] = t1 := ⟨_, rfl⟩
      have lt1 : Hid (t1.length ≤ 2230) := Lib.hid (by rw [← ht1]; simp; omega)
      have ht1 := Lib.hid ht1
      clear hV
      go_wp2
      rw [← HV.out]
      have zy := Y3.out
      clear x0 x1 x2 x3 x4
      go_loopw [3, 6, 7, 8] (fun t i _ _ wr => ∃ j : Nat, j ≤ fs.length ∧ i = .int .i64 j ∧ Below V.heap.size V wr ∧ t = Str (t1 ++ Kd.sp ((fs.take j).map Kd.fT))) (fun _ i _ _ _ => fs.length - (intOf i).toNat)
      case atStart => exact ⟨0, Nat.zero_le _, rfl, Below.refl _ _, by rw [← ht1.out]; simp [cat_, Kd.sp]⟩
      case round =>
      obtain ⟨j, hj, rfl, hB2, rfl⟩ := hrel
      obtain ⟨hcV, hfV⟩ := bcell hB2
      have zy2 := (hcV _ 3 hvz).trans Y3.out
      clear hcV hfV zy
      have HB2 := Lib.hid hB2
      have hlen := Kd.sp_len 60 ((fs.take j).map Kd.fT) (fun y hy => by
        obtain ⟨v, hv, rfl⟩ := List.mem_map.1 hy
        exact Kd.fT_len v (HF.out v (List.mem_of_mem_take hv)))
      rw [List.length_map, List.length_take, Nat.min_eq_left hj] at hlen
      obtain ⟨t2, ht2⟩ : ∃ t2, t1 ++ Kd.sp ((fs.take j).map Kd.fT) = t2 := ⟨_, rfl⟩
      have htl : t2.length ≤ 2230 + j * 61 := by rw [← ht2, List.length_append]; have := lt1.out; omega
      rw [ht2]
      have hj' := hj
      have hLf := HL.out.f
      dsimp only at hLf
      clear hB2 hlen
      by_cases hlt : j < fs.length
      · obtain ⟨b, off, rfl, hb, hc⟩ := HS4.out.2.2 (by omega)
        have hbV := Nat.lt_of_lt_of_le hb BV.out.size
        have g0 := (HB2.out.cell (p := ⟨b, off + j * 6 + 0, none⟩) hbV).trans ((BV.out.cell (p := ⟨b, off + j * 6 + 0, none⟩) hb).trans (hc j hlt 0 _ rfl))
        have g1 := (HB2.out.cell (p := ⟨b, off + j * 6 + 1, none⟩) hbV).trans ((BV.out.cell (p := ⟨b, off + j * 6 + 1, none⟩) hb).trans (hc j hlt 1 _ rfl))
        have g2 := (HB2.out.cell (p := ⟨b, off + j * 6 + 2, none⟩) hbV).trans ((BV.out.cell (p := ⟨b, off + j * 6 + 2, none⟩) hb).trans (hc j hlt 2 _ rfl))
        have g3 := (HB2.out.cell (p := ⟨b, off + j * 6 + 3, none⟩) hbV).trans ((BV.out.cell (p := ⟨b, off + j * 6 + 3, none⟩) hb).trans (hc j hlt 3 _ rfl))
        have g4 := (HB2.out.cell (p := ⟨b, off + j * 6 + 4, none⟩) hbV).trans ((BV.out.cell (p := ⟨b, off + j * 6 + 4, none⟩) hb).trans (hc j hlt 4 _ rfl))
        have g5 := (HB2.out.cell (p := ⟨b, off + j * 6 + 5, none⟩) hbV).trans ((BV.out.cell (p := ⟨b, off + j * 6 + 5, none⟩) hb).trans (hc j hlt 5 _ rfl))
        simp only [Nat.add_zero] at g0
        clear hc HS4
        have hstep := Lib.hid (Kd.sp_take Kd.fT fs j hlt)
        have ht2' := Lib.hid ht2
        clear ht2
        obtain ⟨x, hx⟩ : ∃ x, x = fs[j] := ⟨_, rfl⟩
        rw [← hx] at g0 g1 g2 g3 g4 g5 hstep
        have hpx := HF.out fs[j] (List.getElem_mem hlt)
        rw [← hx] at hpx
        have hx' := Lib.hid hx
        clear hx
        obtain ⟨pk, v, mu⟩ := x
        dsimp only at g0 g1 g2 g3 g4 g5
        have hpv : Kd.pVal v = true ∧ (pk = 0 ∨ pk = 8 ∨ pk = 16) := by
          unfold Kd.pField at hpx
          dsimp only at hpx
          split at hpx
          · rename_i h0; exact ⟨hpx, Or.inl h0⟩
          · split at hpx
            · rename_i h1; exact ⟨by rw [of_decide_eq_true hpx]; rfl, Or.inr h1⟩
            · cases hpx
        clear hpx
        have hlx := Kd.vT_len v hpv.1
        obtain ⟨hpv, hpk⟩ := hpv
        have HC : Hid (∀ W, Calls Tryd.prog 22 #[v.val] W fun e w' => e = .returned (Str (Kd.vT v)) ∧ Below W.heap.size W w') := Lib.hid fun W => rValText_any v hpv W
        obtain ⟨u, hu⟩ : ∃ u, Kd.vT v = u := ⟨_, rfl⟩
        have hft : Hid (Kd.fT ⟨pk, v, mu⟩ = if mu then [40, 109, 117, 116, 32] ++ (if pk = 8 then [105, 56] else if pk = 16 then [105, 49, 54] else u) ++ [41] else (if pk = 8 then [105, 56] else if pk = 16 then [105, 49, 54] else u)) := Lib.hid (by rw [← hu]; rfl)
        rw [hu] at HC hlx
        clear hu hpv
        have ov0 : (9223372036854775807 < t2.length + 1) = False := eq_false (by omega)
        have ov1 : (9223372036854775807 < t2.length + 1 + u.length) = False := eq_false (by omega)
        have ov2 : (9223372036854775807 < 5 + u.length) = False := eq_false (by omega)
        have ov3 : (9223372036854775807 < 5 + u.length + 1) = False := eq_false (by omega)
        have ov4 : (9223372036854775807 < t2.length + 1 + (5 + u.length + 1)) = False := eq_false (by omega)
        have ov5 : (9223372036854775807 < t2.length + 1 + 2) = False := eq_false (by omega)
        have ov6 : (9223372036854775807 < t2.length + 3) = False := eq_false (by omega)
        have ov7 : (9223372036854775807 < t2.length + 1 + 3) = False := eq_false (by omega)
        have ov8 : (9223372036854775807 < t2.length + 4) = False := eq_false (by omega)
        have ov9 : (9223372036854775807 < t2.length + 1 + 8) = False := eq_false (by omega)
        have ov10 : (9223372036854775807 < t2.length + 9) = False := eq_false (by omega)
        have ov11 : (9223372036854775807 < t2.length + 1 + 9) = False := eq_false (by omega)
        have ov12 : (9223372036854775807 < t2.length + 10) = False := eq_false (by omega)
        rcases hpk with rfl | rfl | rfl <;> cases mu
        · -- 0 0
          go_wp2_with fail
          refine (HC.out _).mono ?_
          rintro e w1 ⟨rfl, hb1⟩
          obtain ⟨hc1, hf1⟩ := bcell hb1
          have hz1 : Hid (V.heap.size ≤ w1.heap.size) := Lib.hid (Nat.le_trans HB2.out.size (by have := hb1.size; rw [World.size_alloc] at this; omega))
          have hz2 := hb1.size
          rw [World.size_alloc] at hz2
          have HB3 := Lib.hid (below_trans2 (HB2.out.alloc HB2.out.size _) hb1)
          clear hb1
          go_wp2
          go_roundw
          case rel => exact ⟨j + 1, by omega, by go_num, HB3.out, by rw [← hstep.out, hft.out, ← List.append_assoc, ht2'.out]; simp [cat_]⟩
          case measure => simp [intOf]; omega
        · -- 0 1
          go_wp2_with fail
          refine (HC.out _).mono ?_
          rintro e w1 ⟨rfl, hb1⟩
          obtain ⟨hc1, hf1⟩ := bcell hb1
          have hz1 : Hid (V.heap.size ≤ w1.heap.size) := Lib.hid (Nat.le_trans HB2.out.size (by have := hb1.size; rw [World.size_alloc] at this; omega))
          have hz2 := hb1.size
          rw [World.size_alloc] at hz2
          have HB3 := Lib.hid (below_trans2 (HB2.out.alloc HB2.out.size _) hb1)
          clear hb1
          go_wp2
          go_roundw
          case rel => exact ⟨j + 1, by omega, by go_num, HB3.out, by rw [← hstep.out, hft.out, ← List.append_assoc, ht2'.out]; simp [cat_]⟩
          case measure => simp [intOf]; omega
        · -- 8 0
          go_wp2_with fail
          refine (HC.out _).mono ?_
          rintro e w1 ⟨rfl, hb1⟩
          obtain ⟨hc1, hf1⟩ := bcell hb1
          have hz1 : Hid (V.heap.size ≤ w1.heap.size) := Lib.hid (Nat.le_trans HB2.out.size (by have := hb1.size; rw [World.size_alloc] at this; omega))
          have hz2 := hb1.size
          rw [World.size_alloc] at hz2
          have HB3 := Lib.hid (below_trans2 (HB2.out.alloc HB2.out.size _) hb1)
          clear hb1
          go_wp2_with fail
          refine (D8 _).mono ?_
          rintro e w2 ⟨rfl, hb2⟩
          have hz3 : _ < w1.heap.size := hz2
          obtain ⟨hc2, hf2⟩ := bcell hb2
          have HB4 := Lib.hid (below_trans2 HB3.out hb2)
          clear hb2
          go_wp2
          go_roundw
          case rel => exact ⟨j + 1, by omega, by go_num, HB4.out, by rw [← hstep.out, hft.out, ← List.append_assoc, ht2'.out]; simp [cat_]⟩
          case measure => simp [intOf]; omega
        · -- 8 1
          go_wp2_with fail
          refine (HC.out _).mono ?_
          rintro e w1 ⟨rfl, hb1⟩
          obtain ⟨hc1, hf1⟩ := bcell hb1
          have hz1 : Hid (V.heap.size ≤ w1.heap.size) := Lib.hid (Nat.le_trans HB2.out.size (by have := hb1.size; rw [World.size_alloc] at this; omega))
          have hz2 := hb1.size
          rw [World.size_alloc] at hz2
          have HB3 := Lib.hid (below_trans2 (HB2.out.alloc HB2.out.size _) hb1)
          clear hb1
          go_wp2_with fail
          refine (D8 _).mono ?_
          rintro e w2 ⟨rfl, hb2⟩
          have hz3 : _ < w1.heap.size := hz2
          obtain ⟨hc2, hf2⟩ := bcell hb2
          have HB4 := Lib.hid (below_trans2 HB3.out hb2)
          clear hb2
          go_wp2
          go_roundw
          case rel => exact ⟨j + 1, by omega, by go_num, HB4.out, by rw [← hstep.out, hft.out, ← List.append_assoc, ht2'.out]; simp [cat_]⟩
          case measure => simp [intOf]; omega
        · -- 16 0
          go_wp2_with fail
          refine (HC.out _).mono ?_
          rintro e w1 ⟨rfl, hb1⟩
          obtain ⟨hc1, hf1⟩ := bcell hb1
          have hz1 : Hid (V.heap.size ≤ w1.heap.size) := Lib.hid (Nat.le_trans HB2.out.size (by have := hb1.size; rw [World.size_alloc] at this; omega))
          have hz2 := hb1.size
          rw [World.size_alloc] at hz2
          have HB3 := Lib.hid (below_trans2 (HB2.out.alloc HB2.out.size _) hb1)
          clear hb1
          go_wp2_with fail
          refine (D16 _).mono ?_
          rintro e w2 ⟨rfl, hb2⟩
          have hz3 : _ < w1.heap.size := hz2
          obtain ⟨hc2, hf2⟩ := bcell hb2
          have HB4 := Lib.hid (below_trans2 HB3.out hb2)
          clear hb2
          go_wp2
          go_roundw
          case rel => exact ⟨j + 1, by omega, by go_num, HB4.out, by rw [← hstep.out, hft.out, ← List.append_assoc, ht2'.out]; simp [cat_]⟩
          case measure => simp [intOf]; omega
        · -- 16 1
          go_wp2_with fail
          refine (HC.out _).mono ?_
          rintro e w1 ⟨rfl, hb1⟩
          obtain ⟨hc1, hf1⟩ := bcell hb1
          have hz1 : Hid (V.heap.size ≤ w1.heap.size) := Lib.hid (Nat.le_trans HB2.out.size (by have := hb1.size; rw [World.size_alloc] at this; omega))
          have hz2 := hb1.size
          rw [World.size_alloc] at hz2
          have HB3 := Lib.hid (below_trans2 (HB2.out.alloc HB2.out.size _) hb1)
          clear hb1
          go_wp2_with fail
          refine (D16 _).mono ?_
          rintro e w2 ⟨rfl, hb2⟩
          have hz3 : _ < w1.heap.size := hz2
          obtain ⟨hc2, hf2⟩ := bcell hb2
          have HB4 := Lib.hid (below_trans2 HB3.out hb2)
          clear hb2
          go_wp2
          go_roundw
          case rel => exact ⟨j + 1, by omega, by go_num, HB4.out, by rw [← hstep.out, hft.out, ← List.append_assoc, ht2'.out]; simp [cat_]⟩
          case measure => simp [intOf]; omega
      · have hjn : j = fs.length := by omega
        rw [hjn, List.take_length] at ht2
        have hts2 : Hid (t1 ++ Kd.sp (fs.map Kd.fT) = t2) := Lib.hid ht2
        have htm2 : t2.length ≤ 100000 := by omega
        clear ht2 htl hj' hLf HS4
        subst hjn
        have ov : (9223372036854775807 < t2.length + 2) = False := eq_false (by omega)
        go_wp2
        go_ret
        refine ⟨?_, BV.out.trans (HB2.out.mono BV.out.size)⟩
        rw [← hr'.out]
        simp [cat_, ← hts2.out, ← ht1.out, ← hts.out]
theorem rText_any (s : Sb) (v : Value) (w : World) (h : IsSub w w.heap.size v s) (hS : Kd.Small s) (ho : Kd.pSub s = true) :
    Calls Tryd.prog 20 #[v] w fun e w' => e = .returned (Str (Kd.tT s)) ∧ Below w.heap.size w w' := by
  obtain ⟨fin, sups, k, ps, rs, fs⟩ := s
  have hps := (Kd.pSub_parts ho).1
  have hc : Kd.pComp ⟨k, ps, rs, fs⟩ = true := by
    unfold Kd.pSub at ho
    simp only [Bool.and_eq_true] at ho
    exact ho.2
  rcases Kd.pComp_forms hc with ⟨e1, hp, hr, e2⟩ | ⟨e1, e2, e3, hf⟩
  · dsimp only at e1 hp hr e2
    subst e1 e2
    exact rTextFunc_any fin sups ps rs v w h hS hps hp hr
  · dsimp only at e1 e2 e3 hf
    subst e2 e3
    rcases e1 with rfl | rfl
    · exact rTextStruct_any fin sups fs v w h hS hps hf
    · exact rTextArray_any fin sups fs v w h hS hps hf
end Go.Proofs.YtabeidgkgbkliaaDoor

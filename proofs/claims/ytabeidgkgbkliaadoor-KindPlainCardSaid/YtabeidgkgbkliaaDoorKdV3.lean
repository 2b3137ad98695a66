/-
  Layer 4, the document's side: the writing of a declared type.
-/
import Derived.Test.YtabeidgkgbkliaaDoorKdV2
import Derived.Test.YtabeidgkgbkliaaDoorKdJ
namespace Go.Proofs.YtabeidgkgbkliaaDoor
open Go.RowKit
set_option linter.unusedVariables false
set_option maxRecDepth 100000

/-- What stands ahead. -/
def Kd.T0 (fin : Bool) : List UInt8 := if fin then [40, 115, 117, 98, 32, 102, 105, 110, 97, 108] else [40, 115, 117, 98]
def Kd.inP (x : List UInt8) (l : List Vl) : List UInt8 := if l = [] then [] else [32, 40] ++ x ++ Kd.sp (l.map Kd.vT) ++ [41]
theorem Kd.pComp_forms {c : Cp} (h : Kd.pComp c = true) : (c.k = 1 ∧ (∀ x ∈ c.ps, Kd.pVal x = true) ∧ (∀ x ∈ c.rs, Kd.pVal x = true) ∧ c.fs = []) ∨ ((c.k = 2 ∨ c.k = 3) ∧ c.ps = [] ∧ c.rs = [] ∧ ∀ x ∈ c.fs, Kd.pField x = true) := by
  unfold Kd.pComp at h
  split at h
  · rename_i hk
    simp only [Bool.and_eq_true, List.all_eq_true, decide_eq_true_eq] at h
    exact Or.inl ⟨hk, h.1, h.2.1, List.eq_nil_of_length_eq_zero h.2.2⟩
  · have ht : ∀ c : Cp, (!Kd.takes c) = true → c.ps = [] ∧ c.rs = [] := fun c h => by
      unfold Kd.takes at h
      simp only [Bool.not_eq_true', decide_eq_false_iff_not] at h
      exact ⟨List.eq_nil_of_length_eq_zero (by omega), List.eq_nil_of_length_eq_zero (by omega)⟩
    split at h
    · rename_i hk
      simp only [Bool.and_eq_true, List.all_eq_true] at h
      exact Or.inr ⟨Or.inl hk, (ht c h.1).1, (ht c h.1).2, h.2⟩
    · split at h
      · rename_i hk
        simp only [Bool.and_eq_true, List.all_eq_true] at h
        exact Or.inr ⟨Or.inr hk, (ht c h.1).1, (ht c h.1).2, h.2.2⟩
      · cases h
theorem Kd.tT_func (fin : Bool) (sups : List Hp) (ps rs : List Vl) : Kd.tT ⟨fin, sups, 1, ps, rs, []⟩ = Kd.T0 fin ++ Kd.sp (sups.map Kd.hT) ++ [32, 40, 102, 117, 110, 99] ++ Kd.inP [112, 97, 114, 97, 109] ps ++ Kd.inP [114, 101, 115, 117, 108, 116] rs ++ [41, 41] := by
  unfold Kd.tT Kd.cT Kd.br Kd.some_ Kd.inP Kd.T0
  cases fin <;> cases ps <;> cases rs <;> simp [Kd.sp, Kd.br]
theorem Kd.tT_struct (fin : Bool) (sups : List Hp) (fs : List Fd) : Kd.tT ⟨fin, sups, 2, [], [], fs⟩ = Kd.T0 fin ++ Kd.sp (sups.map Kd.hT) ++ [32, 40, 115, 116, 114, 117, 99, 116] ++ Kd.sp (fs.map Kd.fT) ++ [41, 41] := by
  unfold Kd.tT Kd.cT Kd.br Kd.T0
  cases fin <;> simp [Kd.sp]
theorem Kd.tT_array (fin : Bool) (sups : List Hp) (fs : List Fd) : Kd.tT ⟨fin, sups, 3, [], [], fs⟩ = Kd.T0 fin ++ Kd.sp (sups.map Kd.hT) ++ [32, 40, 97, 114, 114, 97, 121] ++ Kd.sp (fs.map Kd.fT) ++ [41, 41] := by
  unfold Kd.tT Kd.cT Kd.br Kd.T0
  cases fin <;> simp [Kd.sp]
theorem run_four1 (W : World) : (Instr.index 72 (.agg #[.string { data := #[] }, .string { data := #[102, 117, 110, 99] }, .string { data := #[115, 116, 114, 117, 99, 116] }, .string { data := #[97, 114, 114, 97, 121] }]) (.int .i64 1)).run Tryd.prog W = .ok (.string { data := #[102, 117, 110, 99] }) W := rfl
theorem run_four2 (W : World) : (Instr.index 72 (.agg #[.string { data := #[] }, .string { data := #[102, 117, 110, 99] }, .string { data := #[115, 116, 114, 117, 99, 116] }, .string { data := #[97, 114, 114, 97, 121] }]) (.int .i64 2)).run Tryd.prog W = .ok (.string { data := #[115, 116, 114, 117, 99, 116] }) W := rfl
theorem run_four3 (W : World) : (Instr.index 72 (.agg #[.string { data := #[] }, .string { data := #[102, 117, 110, 99] }, .string { data := #[115, 116, 114, 117, 99, 116] }, .string { data := #[97, 114, 114, 97, 121] }]) (.int .i64 3)).run Tryd.prog W = .ok (.string { data := #[97, 114, 114, 97, 121] }) W := rfl
set_option maxHeartbeats 4000000 in
theorem rTextFunc_any (fin : Bool) (sups : List Hp) (ps rs : List Vl) (v : Value) (w : World) (h : IsSub w w.heap.size v ⟨fin, sups, 1, ps, rs, []⟩) (hS : Kd.Small ⟨fin, sups, 1, ps, rs, []⟩) (hp : ∀ x ∈ sups, Kd.pHeap x = true) (hvp : ∀ x ∈ ps, Kd.pVal x = true) (hvr : ∀ x ∈ rs, Kd.pVal x = true) :
    Calls Tryd.prog 20 #[v] w fun e w' => e = .returned (Str (Kd.tT ⟨fin, sups, 1, ps, rs, []⟩)) ∧ Below w.heap.size w w' := by
  obtain ⟨A1, c1, A2, c2, A3, c3, A4, c4, rfl, s1, s2, s3, s4⟩ := h
  dsimp only [List.length_nil] at s1 s2 s3 s4 ⊢
  obtain ⟨W, hW⟩ : ∃ W, W = w.alloc (.cells #[.bool fin, .slice A1 sups.length c1, .int .i64 1, .slice A2 ps.length c2, .slice A3 rs.length c3, .slice A4 0 c4] 29) := ⟨_, rfl⟩
  have XB : Hid (Below w.heap.size w W) := Lib.hid (by rw [hW]; exact (Below.refl _ _).alloc (Nat.le_refl _) _)
  have HP := Lib.hid hp
  have HL := Lib.hid hS
  have HS1 := Lib.hid s1
  have hwz : w.heap.size < W.heap.size := by rw [hW]; simp
  have X1 : Hid (W.cell? ⟨w.heap.size, 1, none⟩ = some (.slice A1 sups.length c1)) := Lib.hid (by rw [hW]; go_simp)
  have X2 : Hid (W.cell? ⟨w.heap.size, 2, none⟩ = some (.int .i64 1)) := Lib.hid (by rw [hW]; go_simp)
  have X3 : Hid (W.cell? ⟨w.heap.size, 3, none⟩ = some (.slice A2 ps.length c2)) := Lib.hid (by rw [hW]; go_simp)
  have X4 : Hid (W.cell? ⟨w.heap.size, 4, none⟩ = some (.slice A3 rs.length c3)) := Lib.hid (by rw [hW]; go_simp)
  have X5 : Hid (W.cell? ⟨w.heap.size, 5, none⟩ = some (.slice A4 0 c4)) := Lib.hid (by rw [hW]; go_simp)
  have HW := Lib.hid hW
  clear hW hp hS s1
  have CP : Hid (∀ W, Below w.heap.size w W → Calls Tryd.prog 48 #[.slice A2 ps.length c2] W fun e w' => e = .returned (Str (Kd.sp (ps.map Kd.vT))) ∧ Below W.heap.size W w') := Lib.hid fun V hV => rVals2_any ps A2 c2 V HL.out.p hvp ((s2.below hV).more hV.size)
  have CR : Hid (∀ W, Below w.heap.size w W → Calls Tryd.prog 48 #[.slice A3 rs.length c3] W fun e w' => e = .returned (Str (Kd.sp (rs.map Kd.vT))) ∧ Below W.heap.size W w') := Lib.hid fun V hV => rVals2_any rs A3 c3 V HL.out.r hvr ((s3.below hV).more hV.size)
  have lP := Kd.sp_len 40 (ps.map Kd.vT) (fun y hy => by obtain ⟨v, hv, rfl⟩ := List.mem_map.1 hy; exact Kd.vT_len v (hvp v hv))
  have lR := Kd.sp_len 40 (rs.map Kd.vT) (fun y hy => by obtain ⟨v, hv, rfl⟩ := List.mem_map.1 hy; exact Kd.vT_len v (hvr v hv))
  rw [List.length_map] at lP lR
  have hlp := HL.out.p
  have hlr := HL.out.r
  dsimp only at hlp hlr
  have lP' : (Kd.sp (ps.map Kd.vT)).length ≤ 4100 := by omega
  have lR' : (Kd.sp (rs.map Kd.vT)).length ≤ 4100 := by omega
  obtain ⟨r, hr⟩ : ∃ r, Kd.tT ⟨fin, sups, 1, ps, rs, []⟩ = r := ⟨_, rfl⟩
  rw [hr]
  rw [Kd.tT_func] at hr
  obtain ⟨tp, htp⟩ : ∃ tp, Kd.sp (ps.map Kd.vT) = tp := ⟨_, rfl⟩
  obtain ⟨tr, htr⟩ : ∃ tr, Kd.sp (rs.map Kd.vT) = tr := ⟨_, rfl⟩
  unfold Kd.inP at hr
  rw [htp, htr] at hr
  rw [htp] at CP lP'
  rw [htr] at CR lR'
  have hr' := Lib.hid hr
  clear hr s2 s3 s4 lP lR hlp hlr hvp hvr htp htr
  obtain ⟨t0, ht0⟩ : ∃ t0, Kd.T0 fin = t0 := ⟨_, rfl⟩
  rw [ht0] at hr'
  have ht0 := Lib.hid ht0
  have lt0 : Hid (t0.length ≤ 10) := Lib.hid (by rw [← ht0.out]; cases fin <;> decide)
  cases fin
  all_goals
    go_enter Tryd.func20, Tryd.ntmps20
    go_wp2
    rw [← HW.out]
    have zx := X1.out
    go_loopw [3, 4] (fun t i wr => ∃ j : Nat, j ≤ sups.length ∧ i = .int .i64 j ∧ Below W.heap.size W wr ∧ t = Str (t0 ++ Kd.sp ((sups.take j).map Kd.hT))) (fun _ i _ => sups.length - (intOf i).toNat)
    case atStart => exact ⟨0, Nat.zero_le _, rfl, Below.refl _ _, by rw [← ht0.out]; rfl⟩
    case round =>
    obtain ⟨j, hj, rfl, hB, rfl⟩ := hrel
    obtain ⟨hcW, hfW⟩ := bcell hB
    have HB := Lib.hid hB
    have hlen := Kd.sp_len 21 ((sups.take j).map Kd.hT) (fun y hy => by
      obtain ⟨v, hv, rfl⟩ := List.mem_map.1 hy
      exact Kd.hT_len v (Kd.okH_of (HP.out v (List.mem_of_mem_take hv))))
    rw [List.length_map, List.length_take, Nat.min_eq_left hj] at hlen
    obtain ⟨t, ht⟩ : ∃ t, t0 ++ Kd.sp ((sups.take j).map Kd.hT) = t := ⟨_, rfl⟩
    have htl : t.length ≤ 10 + j * 22 := by rw [← ht, List.length_append]; have := lt0.out; omega
    rw [ht]
    have hj' := hj
    have hLs := HL.out.a
    dsimp only at hLs
    clear hB hlen
    by_cases hlt : j < sups.length
    · obtain ⟨b, off, rfl, hb, hc⟩ := HS1.out.2.2 (by omega)
      have g0 := (HB.out.cell (p := ⟨b, off + j * 2 + 0, none⟩) (Nat.lt_of_lt_of_le hb XB.out.size)).trans ((XB.out.cell (p := ⟨b, off + j * 2 + 0, none⟩) hb).trans (hc j hlt 0 _ rfl))
      have g1 := (HB.out.cell (p := ⟨b, off + j * 2 + 1, none⟩) (Nat.lt_of_lt_of_le hb XB.out.size)).trans ((XB.out.cell (p := ⟨b, off + j * 2 + 1, none⟩) hb).trans (hc j hlt 1 _ rfl))
      simp only [Nat.add_zero] at g0
      clear hc HS1
      have hstep := Lib.hid (Kd.sp_take Kd.hT sups j hlt)
      have ht' := Lib.hid ht
      clear ht
      obtain ⟨x, hx⟩ : ∃ x, x = sups[j] := ⟨_, rfl⟩
      rw [← hx] at g0 g1 hstep
      have hpx := Lib.hid (HP.out sups[j] (List.getElem_mem hlt))
      rw [← hx] at hpx
      have hx' := Lib.hid hx
      clear hx
      have hlx := Kd.hT_len x (Kd.okH_of hpx.out)
      have HC : Hid (∀ W, Calls Tryd.prog 47 #[x.val] W fun e w' => e = .returned (Str (Kd.hT x)) ∧ Below W.heap.size W w') := Lib.hid fun W => rHeapText_any x hpx.out W
      obtain ⟨u, hu⟩ : ∃ u, Kd.hT x = u := ⟨_, rfl⟩
      rw [hu] at HC hstep hlx
      clear hu
      have s1 : (9223372036854775807 < t.length + 1) = False := eq_false (by omega)
      have s2 : (9223372036854775807 < t.length + 1 + u.length) = False := eq_false (by omega)
      go_wp2_with fail
      refine (HC.out _).mono ?_
      rintro e w1 ⟨rfl, hb1⟩
      have HB1 := Lib.hid (below_trans2 HB.out hb1)
      clear hb1
      go_wp2
      go_roundw
      case rel => exact ⟨j + 1, by omega, by go_num, HB1.out, by rw [← hstep.out, ← ht'.out]; simp [cat_]⟩
      case measure => simp [intOf]; omega
    · have hjn : j = sups.length := by omega
      rw [hjn, List.take_length] at ht
      have hts : Hid (t0 ++ Kd.sp (sups.map Kd.hT) = t) := Lib.hid ht
      have htm : t.length ≤ 2210 := by omega
      clear ht htl hj' hLs
      subst hjn
      clear hlt hj
      have x1 := (hcW w.heap.size 2 hwz).trans X2.out
      have x2 := (hcW w.heap.size 3 hwz).trans X3.out
      have x3 := (hcW w.heap.size 4 hwz).trans X4.out
      have x4 := (hcW w.heap.size 5 hwz).trans X5.out
      have x0 := (hcW w.heap.size 1 hwz).trans X1.out
      clear hcW hfW zx
      have q1 := run_four1
      have ov0 : (9223372036854775807 < t.length + 2) = False := eq_false (by omega)
      have ov1 : (9223372036854775807 < t.length + 2 + 4) = False := eq_false (by omega)
      have ov2 : (9223372036854775807 < t.length + 2 + 4 + 2) = False := eq_false (by omega)
      have ov3 : (9223372036854775807 < t.length + 6) = False := eq_false (by omega)
      have ov4 : (9223372036854775807 < t.length + 8) = False := eq_false (by omega)
      have ov5 : (9223372036854775807 < t.length + 2 + 4 + 8) = False := eq_false (by omega)
      have ov6 : (9223372036854775807 < t.length + 2 + 4 + 8 + tr.length) = False := eq_false (by omega)
      have ov7 : (9223372036854775807 < t.length + 2 + 4 + 8 + tr.length + 1) = False := eq_false (by omega)
      have ov8 : (9223372036854775807 < t.length + 2 + 4 + 8 + tr.length + 1 + 2) = False := eq_false (by omega)
      have ov9 : (9223372036854775807 < t.length + 14) = False := eq_false (by omega)
      have ov10 : (9223372036854775807 < t.length + 14 + tr.length) = False := eq_false (by omega)
      have ov11 : (9223372036854775807 < t.length + 14 + tr.length + 1) = False := eq_false (by omega)
      have ov12 : (9223372036854775807 < t.length + 14 + tr.length + 3) = False := eq_false (by omega)
      have ov13 : (9223372036854775807 < t.length + 2 + 4 + 7) = False := eq_false (by omega)
      have ov14 : (9223372036854775807 < t.length + 2 + 4 + 7 + tp.length) = False := eq_false (by omega)
      have ov15 : (9223372036854775807 < t.length + 2 + 4 + 7 + tp.length + 1) = False := eq_false (by omega)
      have ov16 : (9223372036854775807 < t.length + 2 + 4 + 7 + tp.length + 1 + 2) = False := eq_false (by omega)
      have ov17 : (9223372036854775807 < t.length + 13) = False := eq_false (by omega)
      have ov18 : (9223372036854775807 < t.length + 13 + tp.length) = False := eq_false (by omega)
      have ov19 : (9223372036854775807 < t.length + 13 + tp.length + 1) = False := eq_false (by omega)
      have ov20 : (9223372036854775807 < t.length + 13 + tp.length + 3) = False := eq_false (by omega)
      have ov21 : (9223372036854775807 < t.length + 2 + 4 + 7 + tp.length + 1 + 8) = False := eq_false (by omega)
      have ov22 : (9223372036854775807 < t.length + 2 + 4 + 7 + tp.length + 1 + 8 + tr.length) = False := eq_false (by omega)
      have ov23 : (9223372036854775807 < t.length + 2 + 4 + 7 + tp.length + 1 + 8 + tr.length + 1) = False := eq_false (by omega)
      have ov24 : (9223372036854775807 < t.length + 2 + 4 + 7 + tp.length + 1 + 8 + tr.length + 1 + 2) = False := eq_false (by omega)
      have ov25 : (9223372036854775807 < t.length + 13 + tp.length + 9) = False := eq_false (by omega)
      have ov26 : (9223372036854775807 < t.length + 13 + tp.length + 9 + tr.length) = False := eq_false (by omega)
      have ov27 : (9223372036854775807 < t.length + 13 + tp.length + 9 + tr.length + 1) = False := eq_false (by omega)
      have ov28 : (9223372036854775807 < t.length + 13 + tp.length + 9 + tr.length + 3) = False := eq_false (by omega)
      have HBw : Hid (Below w.heap.size w (wr.alloc (.cells #[.int .i64 1, .slice A2 ps.length c2, .slice A3 rs.length c3, .slice A4 0 c4] 27))) := Lib.hid ((XB.out.trans (HB.out.mono (Nat.le_of_lt hwz))).alloc (XB.out.trans (HB.out.mono (Nat.le_of_lt hwz))).size _)
      rcases Decidable.em (ps = []) with hp0 | hp0 <;> rcases Decidable.em (rs = []) with hr0 | hr0
      · -- 0 0
        have hpn := hp0
        have hpl : ps.length = 0 := by rw [hp0]; rfl
        rw [hpl] at x2 HBw
        rw [hpl]
        have hrn := hr0
        have hrl : rs.length = 0 := by rw [hr0]; rfl
        rw [hrl] at x3 HBw
        rw [hrl]
        go_wp2
        refine wp_loop_rounds 1 ?_
        rw [rounds_succ]
        go_wp2
        go_ret
        refine ⟨?_, HBw.out⟩
        rw [← hr'.out]
        simp [cat_, ← hts.out, hpn, hrn]
      · -- 0 1
        have hpn := hp0
        have hpl : ps.length = 0 := by rw [hp0]; rfl
        rw [hpl] at x2 HBw
        rw [hpl]
        have hrn : rs ≠ [] := hr0
        have hrl : (0 : Int) < rs.length := by have := List.length_pos_iff.2 hr0; omega
        go_wp2_with fail
        refine (CR.out _ HBw.out).mono ?_
        rintro e w2 ⟨rfl, hb2⟩
        obtain ⟨hc2, hf2⟩ := bcell hb2
        have HB2 := Lib.hid (below_trans2 HBw.out hb2)
        clear hb2
        go_wp2
        refine wp_loop_rounds 1 ?_
        rw [rounds_succ]
        go_wp2
        go_ret
        refine ⟨?_, HB2.out⟩
        rw [← hr'.out]
        simp [cat_, ← hts.out, hpn, hrn]
      · -- 1 0
        have hpn : ps ≠ [] := hp0
        have hpl : (0 : Int) < ps.length := by have := List.length_pos_iff.2 hp0; omega
        have hrn := hr0
        have hrl : rs.length = 0 := by rw [hr0]; rfl
        rw [hrl] at x3 HBw
        rw [hrl]
        go_wp2_with fail
        refine (CP.out _ HBw.out).mono ?_
        rintro e w1 ⟨rfl, hb1⟩
        obtain ⟨hc1, hf1⟩ := bcell hb1
        have hz1 : wr.heap.size < w1.heap.size := by have := hb1.size; rw [World.size_alloc] at this; omega
        have HB1 := Lib.hid (below_trans2 HBw.out hb1)
        clear hb1
        go_wp2
        refine wp_loop_rounds 1 ?_
        rw [rounds_succ]
        go_wp2
        go_ret
        refine ⟨?_, HB1.out⟩
        rw [← hr'.out]
        simp [cat_, ← hts.out, hpn, hrn]
      · -- 1 1
        have hpn : ps ≠ [] := hp0
        have hpl : (0 : Int) < ps.length := by have := List.length_pos_iff.2 hp0; omega
        have hrn : rs ≠ [] := hr0
        have hrl : (0 : Int) < rs.length := by have := List.length_pos_iff.2 hr0; omega
        go_wp2_with fail
        refine (CP.out _ HBw.out).mono ?_
        rintro e w1 ⟨rfl, hb1⟩
        obtain ⟨hc1, hf1⟩ := bcell hb1
        have hz1 : wr.heap.size < w1.heap.size := by have := hb1.size; rw [World.size_alloc] at this; omega
        have HB1 := Lib.hid (below_trans2 HBw.out hb1)
        clear hb1
        go_wp2_with fail
        refine (CR.out _ HB1.out).mono ?_
        rintro e w2 ⟨rfl, hb2⟩
        obtain ⟨hc2, hf2⟩ := bcell hb2
        have HB2 := Lib.hid (below_trans2 HB1.out hb2)
        clear hb2
        go_wp2
        refine wp_loop_rounds 1 ?_
        rw [rounds_succ]
        go_wp2
        go_ret
        refine ⟨?_, HB2.out⟩
        rw [← hr'.out]
        simp [cat_, ← hts.out, hpn, hrn]
end Go.Proofs.YtabeidgkgbkliaaDoor

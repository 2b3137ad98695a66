/-
  geodelaw04.KindWriting: the walk.
-/
import Derived.Test.YtabeidgkgbkliaaDoorKdO
import Derived.Test.YtabeidgkgbkliaaDoorKdInj
import Derived.Test.YtabeidgkgbkliaaDoorKdRd
import Derived.Deep.CutRange
import Derived.Deep.CutBlock
import Derived.Deep.Cut
import Derived.Deep.RegionHeld3
import Derived.Test.YtabeidgkgbkliaaDoorKdQ
namespace Go.Proofs.YtabeidgkgbkliaaDoor
open Go.RowKit
attribute [local go_sem ↓] Go.wp_at_zero Go.wp_at_succ
set_option linter.unusedVariables false
set_option maxRecDepth 100000

theorem Kd.small_of {s : Sb} (h : Kd.great s = false) : Kd.Small s := by
  have := Kd.great_no h
  exact ⟨by omega, by omega, by omega, by omega⟩
set_option maxHeartbeats 4000000 in
theorem KindWriting_walk (w : World) (hT : Tabs w) (s : Sb) (x : Value) (hs : IsSub w w.heap.size x s) (ws : WfS s) (t : Sb) (y : Value) (ht : IsSub w w.heap.size y t) (wt : WfS t) (v : Vl) (wv : WfV v) (u : Vl) (wu : WfV u) :
    Calls Tryd.prog 5 #[x, y, v.val, u.val] w fun e w' => e = .returned (.bool true) ∧ Below w.heap.size w w' := by
  have HT := Lib.hid hT
  have HIs := Lib.hid hs
  have HIt := Lib.hid ht
  obtain ⟨A1s, c1s, A2s, c2s, A3s, c3s, A4s, c4s, rfl, _⟩ := hs
  obtain ⟨A1t, c1t, A2t, c2t, A3t, c3t, A4t, c4t, rfl, _⟩ := ht
  clear hT
  obtain ⟨w0, hw0⟩ : ∃ w0, w0 = (((w.alloc (.cells #[.bool s.fin, .slice A1s s.sups.length c1s, .int .i64 s.c.k, .slice A2s s.c.ps.length c2s, .slice A3s s.c.rs.length c3s, .slice A4s s.c.fs.length c4s] 29)).alloc (.cells #[.bool t.fin, .slice A1t t.sups.length c1t, .int .i64 t.c.k, .slice A2t t.c.ps.length c2t, .slice A3t t.c.rs.length c3t, .slice A4t t.c.fs.length c4t] 29)).alloc (.cells #[.int .i64 v.k, .bool v.nu, .int .i64 v.h.k, .int .i64 v.h.n] 35)).alloc (.cells #[.int .i64 u.k, .bool u.nu, .int .i64 u.h.k, .int .i64 u.h.n] 35) := ⟨_, rfl⟩
  have hsz : w0.heap.size = w.heap.size + 4 := by rw [hw0]; simp
  have XB : Hid (Below w.heap.size w w0) := Lib.hid (by rw [hw0]; exact ((((Below.refl _ _).alloc (Nat.le_refl _) _).alloc (by simp) _).alloc (by simp; omega) _).alloc (by simp; omega) _)
  have HW0 := Lib.hid hw0
  have HSZ := Lib.hid hsz
  clear hw0 hsz
  go_enter Tryd.func5, Tryd.ntmps5
  go_wp2_with fail
  rw [← HW0.out]
  refine (known4_any w0 (HT.out.below XB.out)).mono ?_
  rintro e w1 ⟨rfl, hb1⟩
  have hw0 := HW0.out
  have hsz := HSZ.out
  have l0 : w.heap.size < w0.heap.size := by omega
  have l1 : w.heap.size + 1 < w0.heap.size := by omega
  have l2 : w.heap.size + 1 + 1 < w0.heap.size := by omega
  have l3 : w.heap.size + 1 + 1 + 1 < w0.heap.size := by omega
  have hx0 : w1.cell? ⟨w.heap.size, 0, none⟩ = some (.bool s.fin) := (hb1.cell (p := ⟨w.heap.size, 0, none⟩) l0).trans (by rw [hw0]; go_simp)
  have hx1 : w1.cell? ⟨w.heap.size, 1, none⟩ = some (.slice A1s s.sups.length c1s) := (hb1.cell (p := ⟨w.heap.size, 1, none⟩) l0).trans (by rw [hw0]; go_simp)
  have hx2 : w1.cell? ⟨w.heap.size, 2, none⟩ = some (.int .i64 s.c.k) := (hb1.cell (p := ⟨w.heap.size, 2, none⟩) l0).trans (by rw [hw0]; go_simp)
  have hx3 : w1.cell? ⟨w.heap.size, 3, none⟩ = some (.slice A2s s.c.ps.length c2s) := (hb1.cell (p := ⟨w.heap.size, 3, none⟩) l0).trans (by rw [hw0]; go_simp)
  have hx4 : w1.cell? ⟨w.heap.size, 4, none⟩ = some (.slice A3s s.c.rs.length c3s) := (hb1.cell (p := ⟨w.heap.size, 4, none⟩) l0).trans (by rw [hw0]; go_simp)
  have hx5 : w1.cell? ⟨w.heap.size, 5, none⟩ = some (.slice A4s s.c.fs.length c4s) := (hb1.cell (p := ⟨w.heap.size, 5, none⟩) l0).trans (by rw [hw0]; go_simp)
  have hy0 : w1.cell? ⟨w.heap.size + 1, 0, none⟩ = some (.bool t.fin) := (hb1.cell (p := ⟨w.heap.size + 1, 0, none⟩) l1).trans (by rw [hw0]; go_simp)
  have hy1 : w1.cell? ⟨w.heap.size + 1, 1, none⟩ = some (.slice A1t t.sups.length c1t) := (hb1.cell (p := ⟨w.heap.size + 1, 1, none⟩) l1).trans (by rw [hw0]; go_simp)
  have hy2 : w1.cell? ⟨w.heap.size + 1, 2, none⟩ = some (.int .i64 t.c.k) := (hb1.cell (p := ⟨w.heap.size + 1, 2, none⟩) l1).trans (by rw [hw0]; go_simp)
  have hy3 : w1.cell? ⟨w.heap.size + 1, 3, none⟩ = some (.slice A2t t.c.ps.length c2t) := (hb1.cell (p := ⟨w.heap.size + 1, 3, none⟩) l1).trans (by rw [hw0]; go_simp)
  have hy4 : w1.cell? ⟨w.heap.size + 1, 4, none⟩ = some (.slice A3t t.c.rs.length c3t) := (hb1.cell (p := ⟨w.heap.size + 1, 4, none⟩) l1).trans (by rw [hw0]; go_simp)
  have hy5 : w1.cell? ⟨w.heap.size + 1, 5, none⟩ = some (.slice A4t t.c.fs.length c4t) := (hb1.cell (p := ⟨w.heap.size + 1, 5, none⟩) l1).trans (by rw [hw0]; go_simp)
  have hv0 : w1.cell? ⟨w.heap.size + 1 + 1, 0, none⟩ = some (.int .i64 v.k) := (hb1.cell (p := ⟨w.heap.size + 1 + 1, 0, none⟩) l2).trans (by rw [hw0]; go_simp)
  have hv1 : w1.cell? ⟨w.heap.size + 1 + 1, 1, none⟩ = some (.bool v.nu) := (hb1.cell (p := ⟨w.heap.size + 1 + 1, 1, none⟩) l2).trans (by rw [hw0]; go_simp)
  have hv2 : w1.cell? ⟨w.heap.size + 1 + 1, 2, none⟩ = some (.int .i64 v.h.k) := (hb1.cell (p := ⟨w.heap.size + 1 + 1, 2, none⟩) l2).trans (by rw [hw0]; go_simp)
  have hv3 : w1.cell? ⟨w.heap.size + 1 + 1, 3, none⟩ = some (.int .i64 v.h.n) := (hb1.cell (p := ⟨w.heap.size + 1 + 1, 3, none⟩) l2).trans (by rw [hw0]; go_simp)
  have hu0 : w1.cell? ⟨w.heap.size + 1 + 1 + 1, 0, none⟩ = some (.int .i64 u.k) := (hb1.cell (p := ⟨w.heap.size + 1 + 1 + 1, 0, none⟩) l3).trans (by rw [hw0]; go_simp)
  have hu1 : w1.cell? ⟨w.heap.size + 1 + 1 + 1, 1, none⟩ = some (.bool u.nu) := (hb1.cell (p := ⟨w.heap.size + 1 + 1 + 1, 1, none⟩) l3).trans (by rw [hw0]; go_simp)
  have hu2 : w1.cell? ⟨w.heap.size + 1 + 1 + 1, 2, none⟩ = some (.int .i64 u.h.k) := (hb1.cell (p := ⟨w.heap.size + 1 + 1 + 1, 2, none⟩) l3).trans (by rw [hw0]; go_simp)
  have hu3 : w1.cell? ⟨w.heap.size + 1 + 1 + 1, 3, none⟩ = some (.int .i64 u.h.n) := (hb1.cell (p := ⟨w.heap.size + 1 + 1 + 1, 3, none⟩) l3).trans (by rw [hw0]; go_simp)
  have hl : w.heap.size + 3 < w1.heap.size := by have := hb1.size; omega
  have hl0 : w.heap.size < w1.heap.size := by omega
  have hl1 : w.heap.size + 1 < w1.heap.size := by omega
  have hl2 : w.heap.size + 1 + 1 < w1.heap.size := by omega
  have hl3 : w.heap.size + 1 + 1 + 1 < w1.heap.size := by omega
  have XB1 : Hid (Below w.heap.size w w1) := Lib.hid (XB.out.trans (hb1.mono XB.out.size))
  have HT1 : Hid (Tabs w1) := Lib.hid (HT.out.below XB1.out)
  have IS : Hid (IsSub w1 w1.heap.size (.agg #[.bool s.fin, .slice A1s s.sups.length c1s, .int .i64 s.c.k, .slice A2s s.c.ps.length c2s, .slice A3s s.c.rs.length c3s, .slice A4s s.c.fs.length c4s]) s) := Lib.hid ((HIs.out.below XB1.out).more XB1.out.size)
  have IT : Hid (IsSub w1 w1.heap.size (.agg #[.bool t.fin, .slice A1t t.sups.length c1t, .int .i64 t.c.k, .slice A2t t.c.ps.length c2t, .slice A3t t.c.rs.length c3t, .slice A4t t.c.fs.length c4t]) t) := Lib.hid ((HIt.out.below XB1.out).more XB1.out.size)
  clear hb1 l0 l1 l2 l3 hw0 hsz HSZ HW0 HIs HIt XB hl
  have G1 : Hid (∀ W, Below w1.heap.size w1 W → Calls Tryd.prog 9 #[.agg #[.bool s.fin, .slice A1s s.sups.length c1s, .int .i64 s.c.k, .slice A2s s.c.ps.length c2s, .slice A3s s.c.rs.length c3s, .slice A4s s.c.fs.length c4s]] W fun e w' => e = .returned (.bool (Kd.great s)) ∧ Below W.heap.size W w') := Lib.hid fun W hW => great_any s _ W W.heap.size ((IS.out.below hW).more hW.size)
  have G2 : Hid (∀ W, Below w1.heap.size w1 W → Calls Tryd.prog 9 #[.agg #[.bool t.fin, .slice A1t t.sups.length c1t, .int .i64 t.c.k, .slice A2t t.c.ps.length c2t, .slice A3t t.c.rs.length c3t, .slice A4t t.c.fs.length c4t]] W fun e w' => e = .returned (.bool (Kd.great t)) ∧ Below W.heap.size W w') := Lib.hid fun W hW => great_any t _ W W.heap.size ((IT.out.below hW).more hW.size)
  have HB : Hid (Below w1.heap.size w1 w1) := Lib.hid (Below.refl _ _)
  dsimp only
  cases hgs : Kd.great s
  · rw [hgs] at G1
    have HSs := Lib.hid (Kd.small_of hgs)
    clear hgs
    cases hgt : Kd.great t
    · rw [hgt] at G2
      have HSt := Lib.hid (Kd.small_of hgt)
      clear hgt
      go_wp2_with (first
        | (go_at_call 9; ((with_reducible refine (G1.out _ HB.out).mono ?_); rintro e w3 ⟨rfl, hb⟩; have HB' := Lib.hid (HB.out.trans (hb.mono HB.out.size)); clear HB hb; obtain ⟨hc, hf⟩ := bcell HB'.out; have HB := HB'; clear HB' hf))
        | (go_at_call 9; ((with_reducible refine (G2.out _ HB.out).mono ?_); rintro e w3 ⟨rfl, hb⟩; have HB' := Lib.hid (HB.out.trans (hb.mono HB.out.size)); clear HB hb; obtain ⟨hc, hf⟩ := bcell HB'.out; have HB := HB'; clear HB' hf)))
      have P1 : Hid (∀ W, Below w1.heap.size w1 W → Calls Tryd.prog 11 #[.agg #[.bool s.fin, .slice A1s s.sups.length c1s, .int .i64 s.c.k, .slice A2s s.c.ps.length c2s, .slice A3s s.c.rs.length c3s, .slice A4s s.c.fs.length c4s]] W fun e w' => e = .returned (.bool (Kd.pSub s)) ∧ Below W.heap.size W w') := Lib.hid fun W hW => pSub_any s _ W ((IS.out.below hW).more hW.size) HSs.out
      have P2 : Hid (∀ W, Below w1.heap.size w1 W → Calls Tryd.prog 11 #[.agg #[.bool t.fin, .slice A1t t.sups.length c1t, .int .i64 t.c.k, .slice A2t t.c.ps.length c2t, .slice A3t t.c.rs.length c3t, .slice A4t t.c.fs.length c4t]] W fun e w' => e = .returned (.bool (Kd.pSub t)) ∧ Below W.heap.size W w') := Lib.hid fun W hW => pSub_any t _ W ((IT.out.below hW).more hW.size) HSt.out
      have T1' : Hid (Kd.pSub s = true → ∀ W, Below w1.heap.size w1 W → Calls Tryd.prog 19 #[.agg #[.bool s.fin, .slice A1s s.sups.length c1s, .int .i64 s.c.k, .slice A2s s.c.ps.length c2s, .slice A3s s.c.rs.length c3s, .slice A4s s.c.fs.length c4s]] W fun e w' => e = .returned (Str (Kd.tT s)) ∧ Below W.heap.size W w') := Lib.hid fun hp W hW => tT_any s _ W (HT1.out.below hW) ((IS.out.below hW).more hW.size) HSs.out hp
      have T2' : Hid (Kd.pSub t = true → ∀ W, Below w1.heap.size w1 W → Calls Tryd.prog 19 #[.agg #[.bool t.fin, .slice A1t t.sups.length c1t, .int .i64 t.c.k, .slice A2t t.c.ps.length c2t, .slice A3t t.c.rs.length c3t, .slice A4t t.c.fs.length c4t]] W fun e w' => e = .returned (Str (Kd.tT t)) ∧ Below W.heap.size W w') := Lib.hid fun hp W hW => tT_any t _ W (HT1.out.below hW) ((IT.out.below hW).more hW.size) HSt.out hp
      have E1 : Hid (∀ W, Below w1.heap.size w1 W → Calls Tryd.prog 14 #[.agg #[.bool s.fin, .slice A1s s.sups.length c1s, .int .i64 s.c.k, .slice A2s s.c.ps.length c2s, .slice A3s s.c.rs.length c3s, .slice A4s s.c.fs.length c4s], .agg #[.bool t.fin, .slice A1t t.sups.length c1t, .int .i64 t.c.k, .slice A2t t.c.ps.length c2t, .slice A3t t.c.rs.length c3t, .slice A4t t.c.fs.length c4t]] W fun e w' => e = .returned (.bool (decide (s = t))) ∧ Below W.heap.size W w') := Lib.hid fun W hW => same_any s t _ _ W ((IS.out.below hW).more hW.size) ((IT.out.below hW).more hW.size) HSs.out HSt.out
      have qx0 := fun n : Aft w1 => n.cell hl0 hx0
      have qx1 := fun n : Aft w1 => n.cell hl0 hx1
      have qx2 := fun n : Aft w1 => n.cell hl0 hx2
      have qx3 := fun n : Aft w1 => n.cell hl0 hx3
      have qx4 := fun n : Aft w1 => n.cell hl0 hx4
      have qx5 := fun n : Aft w1 => n.cell hl0 hx5
      have qy0 := fun n : Aft w1 => n.cell hl1 hy0
      have qy1 := fun n : Aft w1 => n.cell hl1 hy1
      have qy2 := fun n : Aft w1 => n.cell hl1 hy2
      have qy3 := fun n : Aft w1 => n.cell hl1 hy3
      have qy4 := fun n : Aft w1 => n.cell hl1 hy4
      have qy5 := fun n : Aft w1 => n.cell hl1 hy5
      have qv0 := fun n : Aft w1 => n.cell hl2 hv0
      have qv1 := fun n : Aft w1 => n.cell hl2 hv1
      have qv2 := fun n : Aft w1 => n.cell hl2 hv2
      have qv3 := fun n : Aft w1 => n.cell hl2 hv3
      have qu0 := fun n : Aft w1 => n.cell hl3 hu0
      have qu1 := fun n : Aft w1 => n.cell hl3 hu1
      have qu2 := fun n : Aft w1 => n.cell hl3 hu2
      have qu3 := fun n : Aft w1 => n.cell hl3 hu3
      clear hc
      clear hx0 hx1 hx2 hx3 hx4 hx5 hy0 hy1 hy2 hy3 hy4 hy5 hv0 hv1 hv2 hv3 hu0 hu1 hu2 hu3
      clear IS IT HT G1 G2
      have inst := Aft.ne w1
      refine region_aft w1 HB.out (by kernel_rfl) (by kernel_rfl) ?_
      have A1 : Hid (∀ W, Below w1.heap.size w1 W → Calls Tryd.prog 12 #[.agg #[.int .i64 v.k, .bool v.nu, .int .i64 v.h.k, .int .i64 v.h.n]] W fun e w' => e = .returned (.bool (Kd.pVal v)) ∧ Below W.heap.size W w') := Lib.hid fun W hW => pVal_any v W
      have A2 : Hid (∀ W, Below w1.heap.size w1 W → Calls Tryd.prog 12 #[.agg #[.int .i64 u.k, .bool u.nu, .int .i64 u.h.k, .int .i64 u.h.n]] W fun e w' => e = .returned (.bool (Kd.pVal u)) ∧ Below W.heap.size W w') := Lib.hid fun W hW => pVal_any u W
      have B1' : Hid (Kd.pVal v = true → ∀ W, Below w1.heap.size w1 W → Calls Tryd.prog 21 #[.agg #[.int .i64 v.k, .bool v.nu, .int .i64 v.h.k, .int .i64 v.h.n]] W fun e w' => e = .returned (Str (Kd.vT v)) ∧ Below W.heap.size W w') := Lib.hid fun hp W hW => vT_any v hp W (HT1.out.below hW)
      have B2' : Hid (Kd.pVal u = true → ∀ W, Below w1.heap.size w1 W → Calls Tryd.prog 21 #[.agg #[.int .i64 u.k, .bool u.nu, .int .i64 u.h.k, .int .i64 u.h.n]] W fun e w' => e = .returned (Str (Kd.vT u)) ∧ Below W.heap.size W w') := Lib.hid fun hp W hW => vT_any u hp W (HT1.out.below hW)
      have heqv : ∀ W : World, (binOp .eql 35 (.agg #[.int .i64 v.k, .bool v.nu, .int .i64 v.h.k, .int .i64 v.h.n]) (.agg #[.int .i64 u.k, .bool u.nu, .int .i64 u.h.k, .int .i64 u.h.n])).run Tryd.prog W = .ok (.bool (decide (v = u))) W := fun W => run_eqlV v u W
      have HFIN : Hid (∀ n : Aft w1, Below w.heap.size w n.W) := Lib.hid (fun n => XB1.out.trans (n.h.mono XB1.out.size))
      have HR : Hid (∀ n : Aft w1, Below w1.heap.size w1 n.W) := Lib.hid (fun n => n.h)
      clear XB1
      cases hps : Kd.pSub s
      · rw [hps] at P1
        repeat (go_big_quiet_step ((first
          | (go_at_call 11; with_reducible exact Aft.call P1.out _)
          | (go_at_call 11; with_reducible exact Aft.call P2.out _))))
        refine wpQuiet_nil ?_
        intro _ hw'
        obtain ⟨n, rfl⟩ := hw'
        go_wp2
        refine region_aft w1 (HR.out n) (by kernel_rfl) (by kernel_rfl) ?_
        cases hpv : Kd.pVal v
        · rw [hpv] at A1
          repeat (go_big_quiet_step ((first
            | (go_at_call 12; with_reducible exact Aft.call A1.out _)
            | (go_at_call 12; with_reducible exact Aft.call A2.out _))))
          refine wpQuiet_nil ?_
          intro _ hw'
          obtain ⟨n2, rfl⟩ := hw'
          go_wp2
          go_ret
          exact ⟨by first | rfl | simp, HFIN.out n2⟩
        · rw [hpv] at A1
          have B1 := Lib.hid (B1'.out hpv)
          cases hpu : Kd.pVal u
          · rw [hpu] at A2
            repeat (go_big_quiet_step ((first
              | (go_at_call 12; with_reducible exact Aft.call A1.out _)
              | (go_at_call 12; with_reducible exact Aft.call A2.out _))))
            refine wpQuiet_nil ?_
            intro _ hw'
            obtain ⟨n2, rfl⟩ := hw'
            go_wp2
            go_ret
            exact ⟨by first | rfl | simp, HFIN.out n2⟩
          · rw [hpu] at A2
            have B2 := Lib.hid (B2'.out hpu)
            have hvv : Hid ((Kd.vT v == Kd.vT u) = decide (v = u)) := Lib.hid (by rw [Bool.eq_iff_iff, beq_iff_eq, decide_eq_true_eq]; exact ⟨fun e => Kd.vT_inj hpv hpu e, fun e => by rw [e]⟩)
            repeat (go_big_quiet_step ((first
              | (go_at_call 12; with_reducible exact Aft.call A1.out _)
              | (go_at_call 12; with_reducible exact Aft.call A2.out _)
              | (go_at_call 21; with_reducible exact Aft.call B1.out _)
              | (go_at_call 21; with_reducible exact Aft.call B2.out _))))
            refine wpQuiet_nil ?_
            intro _ hw'
            obtain ⟨n2, rfl⟩ := hw'
            go_wp2
            go_ret
            exact ⟨by simp [hvv.out], HFIN.out n2⟩
      · rw [hps] at P1
        cases hpt : Kd.pSub t
        · rw [hpt] at P2
          repeat (go_big_quiet_step ((first
            | (go_at_call 11; with_reducible exact Aft.call P1.out _)
            | (go_at_call 11; with_reducible exact Aft.call P2.out _))))
          refine wpQuiet_nil ?_
          intro _ hw'
          obtain ⟨n, rfl⟩ := hw'
          go_wp2
          refine region_aft w1 (HR.out n) (by kernel_rfl) (by kernel_rfl) ?_
          cases hpv : Kd.pVal v
          · rw [hpv] at A1
            repeat (go_big_quiet_step ((first
              | (go_at_call 12; with_reducible exact Aft.call A1.out _)
              | (go_at_call 12; with_reducible exact Aft.call A2.out _))))
            refine wpQuiet_nil ?_
            intro _ hw'
            obtain ⟨n2, rfl⟩ := hw'
            go_wp2
            go_ret
            exact ⟨by first | rfl | simp, HFIN.out n2⟩
          · rw [hpv] at A1
            have B1 := Lib.hid (B1'.out hpv)
            cases hpu : Kd.pVal u
            · rw [hpu] at A2
              repeat (go_big_quiet_step ((first
                | (go_at_call 12; with_reducible exact Aft.call A1.out _)
                | (go_at_call 12; with_reducible exact Aft.call A2.out _))))
              refine wpQuiet_nil ?_
              intro _ hw'
              obtain ⟨n2, rfl⟩ := hw'
              go_wp2
              go_ret
              exact ⟨by first | rfl | simp, HFIN.out n2⟩
            · rw [hpu] at A2
              have B2 := Lib.hid (B2'.out hpu)
              have hvv : Hid ((Kd.vT v == Kd.vT u) = decide (v = u)) := Lib.hid (by rw [Bool.eq_iff_iff, beq_iff_eq, decide_eq_true_eq]; exact ⟨fun e => Kd.vT_inj hpv hpu e, fun e => by rw [e]⟩)
              repeat (go_big_quiet_step ((first
                | (go_at_call 12; with_reducible exact Aft.call A1.out _)
                | (go_at_call 12; with_reducible exact Aft.call A2.out _)
                | (go_at_call 21; with_reducible exact Aft.call B1.out _)
                | (go_at_call 21; with_reducible exact Aft.call B2.out _))))
              refine wpQuiet_nil ?_
              intro _ hw'
              obtain ⟨n2, rfl⟩ := hw'
              go_wp2
              go_ret
              exact ⟨by simp [hvv.out], HFIN.out n2⟩
        · rw [hpt] at P2
          have T1 := Lib.hid (T1'.out hps)
          have T2 := Lib.hid (T2'.out hpt)
          have hk : (!((Kd.tT s == Kd.tT t) == decide (s = t))) = false := by
            have : (Kd.tT s == Kd.tT t) = decide (s = t) := by
              rw [Bool.eq_iff_iff, beq_iff_eq, decide_eq_true_eq]; exact ⟨fun e => Kd.tT_inj hps hpt e, fun e => by rw [e]⟩
            rw [this]; simp
          repeat (go_big_quiet_step ((first
            | (go_at_call 11; with_reducible exact Aft.call P1.out _)
            | (go_at_call 11; with_reducible exact Aft.call P2.out _)
            | (go_at_call 19; with_reducible exact Aft.call T1.out _)
            | (go_at_call 19; with_reducible exact Aft.call T2.out _)
            | (go_at_call 14; with_reducible exact Aft.call E1.out _))))
          refine wpQuiet_nil ?_
          intro _ hw'
          obtain ⟨n, rfl⟩ := hw'
          go_wp2
          refine region_aft w1 (HR.out n) (by kernel_rfl) (by kernel_rfl) ?_
          cases hpv : Kd.pVal v
          · rw [hpv] at A1
            repeat (go_big_quiet_step ((first
              | (go_at_call 12; with_reducible exact Aft.call A1.out _)
              | (go_at_call 12; with_reducible exact Aft.call A2.out _))))
            refine wpQuiet_nil ?_
            intro _ hw'
            obtain ⟨n2, rfl⟩ := hw'
            go_wp2
            go_ret
            exact ⟨by first | rfl | simp, HFIN.out n2⟩
          · rw [hpv] at A1
            have B1 := Lib.hid (B1'.out hpv)
            cases hpu : Kd.pVal u
            · rw [hpu] at A2
              repeat (go_big_quiet_step ((first
                | (go_at_call 12; with_reducible exact Aft.call A1.out _)
                | (go_at_call 12; with_reducible exact Aft.call A2.out _))))
              refine wpQuiet_nil ?_
              intro _ hw'
              obtain ⟨n2, rfl⟩ := hw'
              go_wp2
              go_ret
              exact ⟨by first | rfl | simp, HFIN.out n2⟩
            · rw [hpu] at A2
              have B2 := Lib.hid (B2'.out hpu)
              have hvv : Hid ((Kd.vT v == Kd.vT u) = decide (v = u)) := Lib.hid (by rw [Bool.eq_iff_iff, beq_iff_eq, decide_eq_true_eq]; exact ⟨fun e => Kd.vT_inj hpv hpu e, fun e => by rw [e]⟩)
              repeat (go_big_quiet_step ((first
                | (go_at_call 12; with_reducible exact Aft.call A1.out _)
                | (go_at_call 12; with_reducible exact Aft.call A2.out _)
                | (go_at_call 21; with_reducible exact Aft.call B1.out _)
                | (go_at_call 21; with_reducible exact Aft.call B2.out _))))
              refine wpQuiet_nil ?_
              intro _ hw'
              obtain ⟨n2, rfl⟩ := hw'
              go_wp2
              go_ret
              exact ⟨by simp [hvv.out], HFIN.out n2⟩
    · rw [hgt] at G2
      clear hgt
      go_wp2_with (first
        | (go_at_call 9; ((with_reducible refine (G1.out _ HB.out).mono ?_); rintro e w3 ⟨rfl, hb⟩; have HB' := Lib.hid (HB.out.trans (hb.mono HB.out.size)); clear HB hb; obtain ⟨hc, hf⟩ := bcell HB'.out; have HB := HB'; clear HB' hf))
        | (go_at_call 9; ((with_reducible refine (G2.out _ HB.out).mono ?_); rintro e w3 ⟨rfl, hb⟩; have HB' := Lib.hid (HB.out.trans (hb.mono HB.out.size)); clear HB hb; obtain ⟨hc, hf⟩ := bcell HB'.out; have HB := HB'; clear HB' hf)))
      go_ret
      exact ⟨rfl, XB1.out.trans (HB.out.mono XB1.out.size)⟩
  · rw [hgs] at G1
    clear hgs
    go_wp2_with (go_at_call 9; ((with_reducible refine (G1.out _ HB.out).mono ?_); rintro e w3 ⟨rfl, hb⟩; have HB' := Lib.hid (HB.out.trans (hb.mono HB.out.size)); clear HB hb; have HB := HB'; clear HB'))
    go_ret
    exact ⟨rfl, XB1.out.trans (HB.out.mono XB1.out.size)⟩
end Go.Proofs.YtabeidgkgbkliaaDoor

/-
  Layer 4, the document's side: the same.
-/
import Derived.Test.YtabeidgkgbkliaaDoorKdE
import Derived.Deep.Draws
namespace Go.Proofs.YtabeidgkgbkliaaDoor
open Go.RowKit
set_option linter.unusedVariables false
set_option maxRecDepth 100000

theorem take_next {α : Type} {l m : List α} {k : Nat} (h1 : k < l.length) (h2 : k < m.length) (ht : l.take k = m.take k) (he : l[k] = m[k]) : l.take (k + 1) = m.take (k + 1) := by
  rw [List.take_succ_eq_append_getElem h1, List.take_succ_eq_append_getElem h2, ht, he]
theorem rSameVals_any (l m : List Vl) (A A' : Option Addr) (c c' : Nat) (w : World) (hl : l.length ≤ 100) (hm : m.length ≤ 100) (C : Nat) (hs : Seg 4 Vl.cs w C A c l) (hs' : Seg 4 Vl.cs w C A' c' m) :
    Calls Tryd.prog 18 #[.slice A l.length c, .slice A' m.length c'] w fun e w' => e = .returned (.bool (decide (l = m))) ∧ ∃ n, w' = w.drewN n := by
  obtain ⟨r, hr⟩ : ∃ r, decide (l = m) = r := ⟨_, rfl⟩
  rw [hr]
  have hr' := Lib.hid hr
  clear hr
  have HS := Lib.hid hs
  have HS' := Lib.hid hs'
  clear hs hs'
  by_cases hlen : l.length = m.length
  · have hlen' := Lib.hid hlen
    rw [hlen]
    clear hlen
    go_enter Tryd.func18, Tryd.ntmps18
    go_wp2
    go_loopw [5] (fun i wr => ∃ k : Nat, k ≤ m.length ∧ i = .int .i64 k ∧ (∃ n, wr = w.drewN n) ∧ l.take k = m.take k) (fun i _ => m.length - (intOf i).toNat)
    case atStart => exact ⟨0, Nat.zero_le _, rfl, ⟨0, rfl⟩, by simp⟩
    case round =>
      obtain ⟨k, hk, rfl, ⟨n, rfl⟩, htk⟩ := hrel
      have htk' := Lib.hid htk
      clear htk
      by_cases hlt : k < m.length
      · have hltl : Hid (k < l.length) := Lib.hid (by rw [hlen'.out]; exact hlt)
        obtain ⟨b, off, rfl, hb, hc⟩ := HS.out.2.2 (by have := hltl.out; omega)
        obtain ⟨b', off', rfl, hb', hc'⟩ := HS'.out.2.2 (by omega)
        obtain ⟨x, hx⟩ : ∃ x, x = l[k]'hltl.out := ⟨_, rfl⟩
        obtain ⟨y, hy⟩ : ∃ y, y = m[k] := ⟨_, rfl⟩
        have g0 := hc k hltl.out 0 _ rfl
        have g1 := hc k hltl.out 1 _ rfl
        have g2 := hc k hltl.out 2 _ rfl
        have g3 := hc k hltl.out 3 _ rfl
        have h0 := hc' k hlt 0 _ rfl
        have h1 := hc' k hlt 1 _ rfl
        have h2 := hc' k hlt 2 _ rfl
        have h3 := hc' k hlt 3 _ rfl
        rw [← hx] at g0 g1 g2 g3
        rw [← hy] at h0 h1 h2 h3
        have hx' := Lib.hid hx
        have hy' := Lib.hid hy
        clear hx hy
        simp only [Nat.add_zero] at g0 h0
        clear hc HS hc' HS'
        have i0 : (0 : Int) ≤ k := by omega
        have i1 : (k : Int) < m.length := by omega
        cases hxy : decide (x = y)
        · have hne := fun w => run_neqV x y w
          rw [hxy] at hne
          unfold Vl.val at hne
          have hxy' := Lib.hid hxy
          clear hxy
          go_wp2
          go_quiet (fail)
          go_wp2
          go_ret
          refine ⟨ret_bool ?_, _, World.drewN_drewN _ _ _⟩
          rw [← hr'.out]
          refine (decide_eq_false fun e => ?_).symm
          subst e
          exact absurd (hx'.out.trans hy'.out.symm) (of_decide_eq_false hxy'.out)
        · have hxy := of_decide_eq_true hxy
          have hsx : Hid (l.take (k + 1) = m.take (k + 1)) := Lib.hid (take_next hltl.out hlt htk'.out (by rw [← hx'.out, ← hy'.out, hxy]))
          clear hx' hy' htk'
          subst hxy
          have hne := fun w => run_neqV x x w
          rw [decide_eq_true rfl] at hne
          unfold Vl.val at hne
          go_wp2
          go_quiet (fail)
          go_wp2
          go_roundw
          case rel => exact ⟨k + 1, by omega, by go_num, ⟨_, rfl⟩, hsx.out⟩
          case measure => simp [intOf]; omega
      · clear HS HS'
        go_wp2
        go_ret
        refine ⟨ret_bool ?_, _, rfl⟩
        rw [← hr'.out]
        refine (decide_eq_true ?_).symm
        have h := htk'.out
        rwa [List.take_of_length_le (by have := hlen'.out; omega), List.take_of_length_le (by omega)] at h
  · have hbm : ((l.length : Int) != (m.length : Int)) = true := by simp; omega
    go_enter Tryd.func18, Tryd.ntmps18
    go_wp2
    go_ret
    refine ⟨ret_bool ?_, 0, rfl⟩
    rw [← hr'.out]
    refine (decide_eq_false fun e => ?_).symm
    exact hlen (by rw [e])
set_option maxHeartbeats 4000000 in
theorem rSame_any (s t : Sb) (x y : Value) (w : World) (hx : IsSub w w.heap.size x s) (hy : IsSub w w.heap.size y t) (hS : Kd.Small s) (hT : Kd.Small t) :
    Calls Tryd.prog 15 #[x, y] w fun e w' => e = .returned (.bool (decide (s = t))) ∧ Below w.heap.size w w' := by
  obtain ⟨r, hr⟩ : ∃ r, decide (s = t) = r := ⟨_, rfl⟩
  rw [hr]
  have hr' := Lib.hid hr
  clear hr
  obtain ⟨A1, c1, A2, c2, A3, c3, A4, c4, rfl, s1, s2, s3, s4⟩ := hx
  obtain ⟨B1, d1, B2, d2, B3, d3, B4, d4, rfl, t1, t2, t3, t4⟩ := hy
  obtain ⟨fin, sups, k, ps, rs, fs⟩ := s
  obtain ⟨fin', sups', k', ps', rs', fs'⟩ := t
  obtain ⟨la, lp, lr, lf⟩ := hS
  obtain ⟨la', lp', lr', lf'⟩ := hT
  dsimp only at *
  obtain ⟨W, hW⟩ : ∃ W, W = (w.alloc (.cells #[.bool fin, .slice A1 sups.length c1, .int .i64 k, .slice A2 ps.length c2, .slice A3 rs.length c3, .slice A4 fs.length c4] 29)).alloc (.cells #[.bool fin', .slice B1 sups'.length d1, .int .i64 k', .slice B2 ps'.length d2, .slice B3 rs'.length d3, .slice B4 fs'.length d4] 29) := ⟨_, rfl⟩
  have XB : Hid (Below w.heap.size w W) := Lib.hid (by rw [hW]; exact ((Below.refl _ _).alloc (Nat.le_refl _) _).alloc (by simp) _)
  have HS1 := Lib.hid (s1.below XB.out)
  have HS2 := Lib.hid (s2.below XB.out)
  have HS3 := Lib.hid (s3.below XB.out)
  have HS4 := Lib.hid (s4.below XB.out)
  have HT1 := Lib.hid (t1.below XB.out)
  have HT2 := Lib.hid (t2.below XB.out)
  have HT3 := Lib.hid (t3.below XB.out)
  have HT4 := Lib.hid (t4.below XB.out)
  have GP : Hid (∀ n, Calls Tryd.prog 18 #[.slice A2 ps.length c2, .slice B2 ps'.length d2] (W.drewN n) fun e w' => e = .returned (.bool (decide (ps = ps'))) ∧ ∃ m, w' = (W.drewN n).drewN m) := Lib.hid fun n => rSameVals_any ps ps' A2 B2 c2 d2 _ lp lp' _ HS2.out HT2.out
  have GR : Hid (∀ n, Calls Tryd.prog 18 #[.slice A3 rs.length c3, .slice B3 rs'.length d3] (W.drewN n) fun e w' => e = .returned (.bool (decide (rs = rs'))) ∧ ∃ m, w' = (W.drewN n).drewN m) := Lib.hid fun n => rSameVals_any rs rs' A3 B3 c3 d3 _ lr lr' _ HS3.out HT3.out
  clear s1 s2 s3 s4 t1 t2 t3 t4 lp lr lp' lr' HS2 HS3 HT2 HT3
  have X1 : Hid (W.cell? ⟨w.heap.size, 1, none⟩ = some (.slice A1 sups.length c1)) := Lib.hid (by rw [hW]; go_simp)
  have X3 : Hid (W.cell? ⟨w.heap.size, 3, none⟩ = some (.slice A2 ps.length c2)) := Lib.hid (by rw [hW]; go_simp)
  have X4 : Hid (W.cell? ⟨w.heap.size, 4, none⟩ = some (.slice A3 rs.length c3)) := Lib.hid (by rw [hW]; go_simp)
  have X5 : Hid (W.cell? ⟨w.heap.size, 5, none⟩ = some (.slice A4 fs.length c4)) := Lib.hid (by rw [hW]; go_simp)
  have Y1 : Hid (W.cell? ⟨w.heap.size + 1, 1, none⟩ = some (.slice B1 sups'.length d1)) := Lib.hid (by rw [hW]; go_simp)
  have Y3 : Hid (W.cell? ⟨w.heap.size + 1, 3, none⟩ = some (.slice B2 ps'.length d2)) := Lib.hid (by rw [hW]; go_simp)
  have Y4 : Hid (W.cell? ⟨w.heap.size + 1, 4, none⟩ = some (.slice B3 rs'.length d3)) := Lib.hid (by rw [hW]; go_simp)
  have Y5 : Hid (W.cell? ⟨w.heap.size + 1, 5, none⟩ = some (.slice B4 fs'.length d4)) := Lib.hid (by rw [hW]; go_simp)
  have HW := Lib.hid hW
  clear hW
  rcases Decidable.em (fin = fin') with e1 | e1
  · rcases Decidable.em (k = k') with e2 | e2
    · rcases Decidable.em (sups.length = sups'.length) with e3 | e3
      · rcases Decidable.em (fs.length = fs'.length) with e4 | e4
        · subst e1 e2
          have E3 := Lib.hid e3
          have E4 := Lib.hid e4
          have n3 : ((sups.length : Int) != (sups'.length : Int)) = false := by simp; omega
          have n4 : ((fs.length : Int) != (fs'.length : Int)) = false := by simp; omega
          clear e3 e4
          go_enter Tryd.func15, Tryd.ntmps15
          go_wp2
          rw [← HW.out]
          have zx := X1.out
          have zy := Y1.out
          go_loopw [5] (fun i wr => ∃ j : Nat, j ≤ sups'.length ∧ i = .int .i64 j ∧ (∃ n, wr = W.drewN n) ∧ sups.take j = sups'.take j) (fun i _ => sups'.length - (intOf i).toNat)
          case atStart => exact ⟨0, Nat.zero_le _, rfl, ⟨0, rfl⟩, by simp⟩
          case round =>
          obtain ⟨j, hj, rfl, ⟨n, rfl⟩, htk⟩ := hrel
          have htk' := Lib.hid htk
          clear htk
          by_cases hlt : j < sups'.length
          · have hltl : Hid (j < sups.length) := Lib.hid (by rw [E3.out]; exact hlt)
            obtain ⟨b, off, rfl, hb, hc⟩ := HS1.out.2.2 (by have := hltl.out; omega)
            obtain ⟨b', off', rfl, hb', hc'⟩ := HT1.out.2.2 (by omega)
            obtain ⟨x, hx⟩ : ∃ x, x = sups[j]'hltl.out := ⟨_, rfl⟩
            obtain ⟨y, hy⟩ : ∃ y, y = sups'[j] := ⟨_, rfl⟩
            have g0 := hc j hltl.out 0 _ rfl
            have g1 := hc j hltl.out 1 _ rfl
            have h0 := hc' j hlt 0 _ rfl
            have h1 := hc' j hlt 1 _ rfl
            rw [← hx] at g0 g1
            rw [← hy] at h0 h1
            have hx' := Lib.hid hx
            have hy' := Lib.hid hy
            clear hx hy
            simp only [Nat.add_zero] at g0 h0
            clear hc hc'
            have hll := E3.out
            have i0 : (0 : Int) ≤ j := by omega
            have i1 : (j : Int) < sups'.length := by omega
            have i2 : (j : Int) < sups.length := by omega
            clear hll
            cases hxy : decide (x = y)
            · have hne := fun w => run_neqH x y w
              rw [hxy] at hne
              unfold Hp.val at hne
              have hxy' := Lib.hid hxy
              clear hxy
              go_wp2
              go_quiet (fail)
              go_wp2
              go_ret
              refine ⟨ret_bool ?_, below_drewN (below_drewN XB.out _) _⟩
              rw [← hr'.out]
              refine (decide_eq_false fun e => ?_).symm
              have e9 : sups = sups' := congrArg (fun s : Sb => s.sups) e
              subst e9
              exact absurd (hx'.out.trans hy'.out.symm) (of_decide_eq_false hxy'.out)
            · have hxy := of_decide_eq_true hxy
              have hsx : Hid (sups.take (j + 1) = sups'.take (j + 1)) := Lib.hid (take_next hltl.out hlt htk'.out (by rw [← hx'.out, ← hy'.out, hxy]))
              clear hx' hy' htk'
              subst hxy
              have hne := fun w => run_neqH x x w
              rw [decide_eq_true rfl] at hne
              unfold Hp.val at hne
              go_wp2
              go_quiet (fail)
              go_wp2
              go_roundw
              case rel => exact ⟨j + 1, by omega, by go_num, ⟨_, rfl⟩, hsx.out⟩
              case measure => simp [intOf]; omega
          · have supse : Hid (sups = sups') := Lib.hid (by
              have h := htk'.out
              rwa [List.take_of_length_le (by have := E3.out; omega), List.take_of_length_le (by omega)] at h)
            have hjn : j = sups'.length := by omega
            subst hjn
            clear hlt hj
            have zx5 := X5.out
            have zy5 := Y5.out
            have i3 : ¬ ((sups'.length : Int) < sups.length) := by have := E3.out; omega
            go_wp2
            go_loopw [6] (fun i wr => ∃ j : Nat, j ≤ fs'.length ∧ i = .int .i64 j ∧ (∃ n, wr = W.drewN n) ∧ fs.take j = fs'.take j) (fun i _ => fs'.length - (intOf i).toNat)
            case atStart => exact ⟨0, Nat.zero_le _, rfl, ⟨_, rfl⟩, by simp⟩
            case round =>
            obtain ⟨j, hj, rfl, ⟨n, rfl⟩, htk⟩ := hrel
            have htk' := Lib.hid htk
            clear htk
            by_cases hlt : j < fs'.length
            · have hltl : Hid (j < fs.length) := Lib.hid (by rw [E4.out]; exact hlt)
              obtain ⟨b, off, rfl, hb, hc⟩ := HS4.out.2.2 (by have := hltl.out; omega)
              obtain ⟨b', off', rfl, hb', hc'⟩ := HT4.out.2.2 (by omega)
              obtain ⟨x, hx⟩ : ∃ x, x = fs[j]'hltl.out := ⟨_, rfl⟩
              obtain ⟨y, hy⟩ : ∃ y, y = fs'[j] := ⟨_, rfl⟩
              have g0 := hc j hltl.out 0 _ rfl
              have g1 := hc j hltl.out 1 _ rfl
              have g2 := hc j hltl.out 2 _ rfl
              have g3 := hc j hltl.out 3 _ rfl
              have g4 := hc j hltl.out 4 _ rfl
              have g5 := hc j hltl.out 5 _ rfl
              have h0 := hc' j hlt 0 _ rfl
              have h1 := hc' j hlt 1 _ rfl
              have h2 := hc' j hlt 2 _ rfl
              have h3 := hc' j hlt 3 _ rfl
              have h4 := hc' j hlt 4 _ rfl
              have h5 := hc' j hlt 5 _ rfl
              rw [← hx] at g0 g1 g2 g3 g4 g5
              rw [← hy] at h0 h1 h2 h3 h4 h5
              have hx' := Lib.hid hx
              have hy' := Lib.hid hy
              clear hx hy
              simp only [Nat.add_zero] at g0 h0
              clear hc hc'
              have hll := E4.out
              have i0 : (0 : Int) ≤ j := by omega
              have i1 : (j : Int) < fs'.length := by omega
              have i2 : (j : Int) < fs.length := by omega
              clear hll
              cases hxy : decide (x = y)
              · have hne := fun w => run_neqF x y w
                rw [hxy] at hne
                unfold Fd.val at hne
                have hxy' := Lib.hid hxy
                clear hxy
                go_wp2
                go_quiet (fail)
                go_wp2
                go_ret
                refine ⟨ret_bool ?_, below_drewN (below_drewN XB.out _) _⟩
                rw [← hr'.out]
                refine (decide_eq_false fun e => ?_).symm
                have e9 : fs = fs' := congrArg (fun s : Sb => s.c.fs) e
                subst e9
                exact absurd (hx'.out.trans hy'.out.symm) (of_decide_eq_false hxy'.out)
              · have hxy := of_decide_eq_true hxy
                have hsx : Hid (fs.take (j + 1) = fs'.take (j + 1)) := Lib.hid (take_next hltl.out hlt htk'.out (by rw [← hx'.out, ← hy'.out, hxy]))
                clear hx' hy' htk'
                subst hxy
                have hne := fun w => run_neqF x x w
                rw [decide_eq_true rfl] at hne
                unfold Fd.val at hne
                go_wp2
                go_quiet (fail)
                go_wp2
                go_roundw
                case rel => exact ⟨j + 1, by omega, by go_num, ⟨_, rfl⟩, hsx.out⟩
                case measure => simp [intOf]; omega
            · have fse : Hid (fs = fs') := Lib.hid (by
                have h := htk'.out
                rwa [List.take_of_length_le (by have := E4.out; omega), List.take_of_length_le (by omega)] at h)
              have hjn : j = fs'.length := by omega
              subst hjn
              clear hlt hj
              have i4 : ¬ ((fs'.length : Int) < fs.length) := by have := E4.out; omega
              have zp := X3.out
              have zp' := Y3.out
              have zr := X4.out
              have zr' := Y4.out
              cases hpp : decide (ps = ps')
              · rw [hpp] at GP
                go_wp2_with fail
                refine (GP.out _).mono ?_
                rintro e w1 ⟨rfl, m, rfl⟩
                go_wp2
                go_ret
                refine ⟨ret_bool ?_, below_drewN XB.out _⟩
                rw [← hr'.out]
                exact (decide_eq_false fun e => of_decide_eq_false hpp (congrArg (fun s : Sb => s.c.ps) e)).symm
              · rw [hpp] at GP
                go_wp2_with fail
                refine (GP.out _).mono ?_
                rintro e w1 ⟨rfl, m, rfl⟩
                go_wp2_with fail
                refine (GR.out _).mono ?_
                rintro e w2 ⟨rfl, m2, rfl⟩
                go_wp2
                go_ret
                refine ⟨ret_bool ?_, below_drewN XB.out _⟩
                rw [← hr'.out, supse.out, fse.out, of_decide_eq_true hpp]
                simp
        · have n3 : ((sups.length : Int) != (sups'.length : Int)) = false := by simp; omega
          have n4 : ((fs.length : Int) != (fs'.length : Int)) = true := by simp; omega
          subst e1 e2
          have e3' := Lib.hid e3
          clear e3
          go_enter Tryd.func15, Tryd.ntmps15
          go_wp2
          go_ret
          refine ⟨ret_bool ?_, ((Below.refl _ _).alloc (Nat.le_refl _) _).alloc (by simp) _⟩
          rw [← hr'.out]
          exact (decide_eq_false fun e => e4 (congrArg (fun s : Sb => s.c.fs.length) e)).symm
      · have n3 : ((sups.length : Int) != (sups'.length : Int)) = true := by simp; omega
        subst e1 e2
        go_enter Tryd.func15, Tryd.ntmps15
        go_wp2
        go_ret
        refine ⟨ret_bool ?_, ((Below.refl _ _).alloc (Nat.le_refl _) _).alloc (by simp) _⟩
        rw [← hr'.out]
        exact (decide_eq_false fun e => e3 (congrArg (fun s : Sb => s.sups.length) e)).symm
    · have n2 : (k != k') = true := by simpa using e2
      subst e1
      go_enter Tryd.func15, Tryd.ntmps15
      go_wp2
      go_ret
      refine ⟨ret_bool ?_, ((Below.refl _ _).alloc (Nat.le_refl _) _).alloc (by simp) _⟩
      rw [← hr'.out]
      exact (decide_eq_false fun e => e2 (congrArg (fun s : Sb => s.c.k) e)).symm
  · have n1 : (!(fin == fin')) = true := by simpa using e1
    go_enter Tryd.func15, Tryd.ntmps15
    go_wp2
    go_ret
    refine ⟨ret_bool ?_, ((Below.refl _ _).alloc (Nat.le_refl _) _).alloc (by simp) _⟩
    rw [← hr'.out]
    exact (decide_eq_false fun e => e1 (congrArg (fun s : Sb => s.fin) e)).symm
end Go.Proofs.YtabeidgkgbkliaaDoor

/-
  Layer 4, code: PlainSub, SameVals, Same; the statements' own 'great'.
-/
import Derived.Test.YtlflmobaegfnaaaDoorKdD
namespace Go.Proofs.YtlflmobaegfnaaaDoor
open Go.RowKit
set_option linter.unusedVariables false
set_option maxRecDepth 100000

theorem Kd.Small.c {s : Sb} (h : Kd.Small s) : SmallC s.c := ⟨h.p, h.r, h.f⟩
theorem pSub_any (s : Sb) (v : Value) (w : World) (h : IsSub w w.heap.size v s) (hS : Kd.Small s) :
    Calls Tryd.prog 24 #[v] w fun e w' => e = .returned (.bool (Kd.pSub s)) ∧ Below w.heap.size w w' := by
  obtain ⟨A1, c1, A2, c2, A3, c3, A4, c4, rfl, s1, s2, s3, s4⟩ := h
  have S1 := Lib.hid s1
  have S2 := Lib.hid s2
  have S3 := Lib.hid s3
  have S4 := Lib.hid s4
  clear s1 s2 s3 s4
  obtain ⟨r, hr⟩ : ∃ r, Kd.pSub s = r := ⟨_, rfl⟩
  rw [hr]
  have hr' := Lib.hid hr
  clear hr
  have hb0 : Below w.heap.size w (w.alloc (.cells #[.bool s.fin, .slice A1 s.sups.length c1, .int .i64 s.c.k, .slice A2 s.c.ps.length c2, .slice A3 s.c.rs.length c3, .slice A4 s.c.fs.length c4] 29)) := (Below.refl _ _).alloc (Nat.le_refl _) _
  have CP : Hid (∀ W, Below w.heap.size w W → Calls Tryd.prog 48 #[.slice A1 s.sups.length c1, .func (.func 49) #[] #[]] W fun e w' => e = .returned (.bool (s.sups.all Kd.pIdx)) ∧ Below W.heap.size W w') :=
    Lib.hid fun W hW => all_h s.sups A1 c1 W hS.a ((S1.out.below hW).more hW.size)
  have CC : Hid (∀ W, Below w.heap.size w W → Calls Tryd.prog 50 #[.agg #[.int .i64 s.c.k, .slice A2 s.c.ps.length c2, .slice A3 s.c.rs.length c3, .slice A4 s.c.fs.length c4]] W fun e w' => e = .returned (.bool (Kd.pComp s.c)) ∧ Below W.heap.size W w') :=
    Lib.hid fun W hW => pComp_any s.c _ W ⟨A2, c2, A3, c3, A4, c4, rfl, (S2.out.below hW).more hW.size, (S3.out.below hW).more hW.size, (S4.out.below hW).more hW.size⟩ hS.c
  clear hS
  cases ha : s.sups.all Kd.pIdx
  · rw [ha] at CP
    go_enter Tryd.func24, Tryd.ntmps24
    go_wp2_with fail
    refine (CP.out _ hb0).mono ?_
    rintro e w1 ⟨rfl, hb1⟩
    go_wp2
    go_ret
    exact ⟨ret_bool (by rw [← hr'.out]; simp [Kd.pSub, ha]), below_trans hb0 hb1⟩
  · rw [ha] at CP
    go_enter Tryd.func24, Tryd.ntmps24
    go_wp2_with fail
    refine (CP.out _ hb0).mono ?_
    rintro e w1 ⟨rfl, hb1⟩
    obtain ⟨hc1, hf1⟩ := bcell hb1
    have hB1 := below_trans hb0 hb1
    go_wp2_with fail
    refine (CC.out _ hB1).mono ?_
    rintro e w2 ⟨rfl, hb2⟩
    go_wp2
    go_ret
    exact ⟨ret_bool (by rw [← hr'.out]; simp [Kd.pSub, ha]), below_trans hB1 hb2⟩

theorem below_drew {w : World} (n : Nat) : Below w.heap.size w (w.drewN n) := below_drewN (Below.refl _ _) n
theorem sameVals_any (l m : List Vl) (A A' : Option Addr) (c c' : Nat) (w : World) (hl : l.length ≤ 100) (hm : m.length ≤ 100) (C : Nat) (hs : Seg 4 Vl.cs w C A c l) (hs' : Seg 4 Vl.cs w C A' c' m) :
    Calls Tryd.prog 69 #[.slice A l.length c, .slice A' m.length c'] w fun e w' => e = .returned (.bool (decide (l = m))) ∧ ∃ n, w' = w.drewN n := by
  have S := Lib.hid hs
  have S' := Lib.hid hs'
  clear hs hs'
  go_enter Tryd.func69, Tryd.ntmps69
  go_wp2_with fail
  refine (eq_v l m A A' c c' _ hl hm C S.out S'.out).mono ?_
  rintro e w1 ⟨rfl, n, rfl⟩
  go_wp2
  go_ret
  exact ⟨rfl, n, rfl⟩
set_option maxHeartbeats 800000 in
theorem sameComp_any (a b : Cp) (x y : Value) (w : World) (C : Nat) (hx : IsComp w C x a) (hy : IsComp w C y b) (ha : SmallC a) (hb : SmallC b) (hC : C ≤ w.heap.size) :
    Calls Tryd.prog 47 #[x, y] w fun e w' => e = .returned (.bool (decide (a = b))) ∧ Below w.heap.size w w' := by
  obtain ⟨A2, c2, A3, c3, A4, c4, rfl, s2, s3, s4⟩ := hx
  obtain ⟨B2, d2, B3, d3, B4, d4, rfl, t2, t3, t4⟩ := hy
  have b0 : Below C w ((w.alloc (.cells #[.int .i64 a.k, .slice A2 a.ps.length c2, .slice A3 a.rs.length c3, .slice A4 a.fs.length c4] 27)).alloc (.cells #[.int .i64 b.k, .slice B2 b.ps.length d2, .slice B3 b.rs.length d3, .slice B4 b.fs.length d4] 27)) := ((Below.refl _ _).alloc hC _).alloc (by simp; omega) _
  have e0 : Below w.heap.size w ((w.alloc (.cells #[.int .i64 a.k, .slice A2 a.ps.length c2, .slice A3 a.rs.length c3, .slice A4 a.fs.length c4] 27)).alloc (.cells #[.int .i64 b.k, .slice B2 b.ps.length d2, .slice B3 b.rs.length d3, .slice B4 b.fs.length d4] 27)) := ((Below.refl _ _).alloc (Nat.le_refl _) _).alloc (by simp) _
  have CP : Hid (∀ W, Below C w W → Calls Tryd.prog 69 #[.slice A2 a.ps.length c2, .slice B2 b.ps.length d2] W fun e w' => e = .returned (.bool (decide (a.ps = b.ps))) ∧ ∃ n, w' = W.drewN n) :=
    Lib.hid fun W hW => sameVals_any a.ps b.ps A2 B2 c2 d2 W ha.p hb.p C (s2.below hW) (t2.below hW)
  have CR : Hid (∀ W, Below C w W → Calls Tryd.prog 69 #[.slice A3 a.rs.length c3, .slice B3 b.rs.length d3] W fun e w' => e = .returned (.bool (decide (a.rs = b.rs))) ∧ ∃ n, w' = W.drewN n) :=
    Lib.hid fun W hW => sameVals_any a.rs b.rs A3 B3 c3 d3 W ha.r hb.r C (s3.below hW) (t3.below hW)
  have CF : Hid (∀ W, Below C w W → Calls Tryd.prog 70 #[.slice A4 a.fs.length c4, .slice B4 b.fs.length d4] W fun e w' => e = .returned (.bool (decide (a.fs = b.fs))) ∧ ∃ n, w' = W.drewN n) :=
    Lib.hid fun W hW => eq_f a.fs b.fs A4 B4 c4 d4 W ha.f hb.f C (s4.below hW) (t4.below hW)
  clear s2 s3 s4 t2 t3 t4 ha hb
  have B0 := Lib.hid b0
  have E0 := Lib.hid e0
  clear b0 e0
  obtain ⟨r, hr⟩ : ∃ r, decide (a = b) = r := ⟨_, rfl⟩
  rw [hr]
  have hr' := Lib.hid hr
  clear hr
  have hk : ∀ {x y : Bool}, x = y → x = y := fun h => h
  rcases Decidable.em (a.k = b.k) with h1 | h1
  · have H1 := Lib.hid h1
    rw [h1] at E0 B0 ⊢
    clear h1
    cases h2 : decide (a.ps = b.ps)
    · rw [h2] at CP
      have H2 := Lib.hid h2
      clear h2
      go_enter Tryd.func47, Tryd.ntmps47
      go_wp2_with fail
      refine (CP.out _ B0.out).mono ?_
      rintro e w1 ⟨rfl, n1, rfl⟩
      go_wp2
      go_ret
      refine ⟨ret_bool ?_, below_drewN E0.out _⟩
      rw [← hr'.out]
      exact (decide_eq_false fun e => of_decide_eq_false H2.out (by rw [e])).symm
    · rw [h2] at CP
      have H2 := Lib.hid h2
      clear h2
      cases h3 : decide (a.rs = b.rs)
      · rw [h3] at CR
        have H3 := Lib.hid h3
        clear h3
        go_enter Tryd.func47, Tryd.ntmps47
        go_wp2_with fail
        refine (CP.out _ B0.out).mono ?_
        rintro e w1 ⟨rfl, n1, rfl⟩
        go_wp2_with fail
        refine (CR.out _ (below_drewN B0.out _)).mono ?_
        rintro e w2 ⟨rfl, n2, rfl⟩
        go_wp2
        go_ret
        refine ⟨ret_bool ?_, below_drewN E0.out _⟩
        rw [← hr'.out]
        exact (decide_eq_false fun e => of_decide_eq_false H3.out (by rw [e])).symm
      · rw [h3] at CR
        have H3 := Lib.hid h3
        clear h3
        go_enter Tryd.func47, Tryd.ntmps47
        go_wp2_with fail
        refine (CP.out _ B0.out).mono ?_
        rintro e w1 ⟨rfl, n1, rfl⟩
        go_wp2_with fail
        refine (CR.out _ (below_drewN B0.out _)).mono ?_
        rintro e w2 ⟨rfl, n2, rfl⟩
        go_wp2_with fail
        refine (CF.out _ (below_drewN B0.out _)).mono ?_
        rintro e w3 ⟨rfl, n3, rfl⟩
        go_wp2
        go_ret
        refine ⟨ret_bool ?_, below_drewN E0.out _⟩
        rw [← hr'.out]
        have h1 := H1.out
        have h2 := of_decide_eq_true H2.out
        have h3 := of_decide_eq_true H3.out
        obtain ⟨k, p, r, f⟩ := a
        obtain ⟨k', p', r', f'⟩ := b
        dsimp only at h1 h2 h3 ⊢
        subst h1 h2 h3
        simp
  · have hk : (a.k == b.k) = false := by simpa using h1
    go_enter Tryd.func47, Tryd.ntmps47
    go_wp2
    go_ret
    refine ⟨ret_bool ?_, E0.out⟩
    rw [← hr'.out]
    exact (decide_eq_false fun e => h1 (by rw [e])).symm

set_option maxHeartbeats 800000 in
theorem same_any (a b : Sb) (x y : Value) (w : World) (hx : IsSub w w.heap.size x a) (hy : IsSub w w.heap.size y b) (ha : Kd.Small a) (hb : Kd.Small b) :
    Calls Tryd.prog 23 #[x, y] w fun e w' => e = .returned (.bool (decide (a = b))) ∧ Below w.heap.size w w' := by
  obtain ⟨A1, c1, A2, c2, A3, c3, A4, c4, rfl, s1, s2, s3, s4⟩ := hx
  obtain ⟨B1, d1, B2, d2, B3, d3, B4, d4, rfl, t1, t2, t3, t4⟩ := hy
  have E0 : Hid (Below w.heap.size w ((w.alloc (.cells #[.bool a.fin, .slice A1 a.sups.length c1, .int .i64 a.c.k, .slice A2 a.c.ps.length c2, .slice A3 a.c.rs.length c3, .slice A4 a.c.fs.length c4] 29)).alloc (.cells #[.bool b.fin, .slice B1 b.sups.length d1, .int .i64 b.c.k, .slice B2 b.c.ps.length d2, .slice B3 b.c.rs.length d3, .slice B4 b.c.fs.length d4] 29))) := Lib.hid (((Below.refl _ _).alloc (Nat.le_refl _) _).alloc (by simp) _)
  have CP : Hid (∀ W, Below w.heap.size w W → Calls Tryd.prog 46 #[.slice A1 a.sups.length c1, .slice B1 b.sups.length d1] W fun e w' => e = .returned (.bool (decide (a.sups = b.sups))) ∧ ∃ n, w' = W.drewN n) :=
    Lib.hid fun W hW => eq_h a.sups b.sups A1 B1 c1 d1 W ha.a hb.a _ (s1.below hW) (t1.below hW)
  have CC : Hid (∀ W, Below w.heap.size w W → Calls Tryd.prog 47 #[.agg #[.int .i64 a.c.k, .slice A2 a.c.ps.length c2, .slice A3 a.c.rs.length c3, .slice A4 a.c.fs.length c4], .agg #[.int .i64 b.c.k, .slice B2 b.c.ps.length d2, .slice B3 b.c.rs.length d3, .slice B4 b.c.fs.length d4]] W fun e w' => e = .returned (.bool (decide (a.c = b.c))) ∧ Below W.heap.size W w') :=
    Lib.hid fun W hW => sameComp_any a.c b.c _ _ W w.heap.size ⟨A2, c2, A3, c3, A4, c4, rfl, s2.below hW, s3.below hW, s4.below hW⟩ ⟨B2, d2, B3, d3, B4, d4, rfl, t2.below hW, t3.below hW, t4.below hW⟩ ha.c hb.c hW.size
  clear s1 s2 s3 s4 t1 t2 t3 t4 ha hb
  obtain ⟨r, hr⟩ : ∃ r, decide (a = b) = r := ⟨_, rfl⟩
  rw [hr]
  have hr' := Lib.hid hr
  clear hr
  rcases Decidable.em (a.fin = b.fin) with h1 | h1
  · have H1 := Lib.hid h1
    rw [h1] at E0 ⊢
    clear h1
    have hbb : (b.fin == b.fin) = true := by simp
    cases h2 : decide (a.sups = b.sups)
    · rw [h2] at CP
      have H2 := Lib.hid h2
      clear h2
      go_enter Tryd.func23, Tryd.ntmps23
      go_wp2_with fail
      refine (CP.out _ E0.out).mono ?_
      rintro e w1 ⟨rfl, n1, rfl⟩
      go_wp2
      go_ret
      refine ⟨ret_bool ?_, below_drewN E0.out _⟩
      rw [← hr'.out]
      exact (decide_eq_false fun e => of_decide_eq_false H2.out (by rw [e])).symm
    · rw [h2] at CP
      have H2 := Lib.hid h2
      clear h2
      go_enter Tryd.func23, Tryd.ntmps23
      go_wp2_with fail
      refine (CP.out _ E0.out).mono ?_
      rintro e w1 ⟨rfl, n1, rfl⟩
      go_wp2_with fail
      refine (CC.out _ (below_drewN E0.out _)).mono ?_
      rintro e w2 ⟨rfl, hb2⟩
      go_wp2
      go_ret
      refine ⟨ret_bool ?_, below_trans (below_drewN E0.out _) hb2⟩
      rw [← hr'.out]
      have h1 := H1.out
      have h2 := of_decide_eq_true H2.out
      obtain ⟨f, p, c⟩ := a
      obtain ⟨f', p', c'⟩ := b
      dsimp only at h1 h2 ⊢
      subst h1 h2
      simp
  · have hk : (a.fin == b.fin) = false := by simpa using h1
    go_enter Tryd.func23, Tryd.ntmps23
    go_wp2
    go_ret
    refine ⟨ret_bool ?_, E0.out⟩
    rw [← hr'.out]
    exact (decide_eq_false fun e => h1 (by rw [e])).symm

def Kd.great (s : Sb) : Bool := decide (20 < s.sups.length) || (decide (60 < s.c.ps.length) || (decide (60 < s.c.rs.length) || decide (60 < s.c.fs.length)))
theorem Kd.great_no {s : Sb} (h : Kd.great s = false) : s.sups.length ≤ 20 ∧ s.c.ps.length ≤ 60 ∧ s.c.rs.length ≤ 60 ∧ s.c.fs.length ≤ 60 := by
  unfold Kd.great at h
  simp only [Bool.or_eq_false_iff, decide_eq_false_iff_not] at h
  omega
theorem great_any (s : Sb) (v : Value) (w : World) (C : Nat) (h : IsSub w C v s) :
    Calls Tryd.prog 10 #[v] w fun e w' => e = .returned (.bool (Kd.great s)) ∧ Below w.heap.size w w' := by
  obtain ⟨A1, c1, A2, c2, A3, c3, A4, c4, rfl, s1, s2, s3, s4⟩ := h
  clear s1 s2 s3 s4
  obtain ⟨r, hr⟩ : ∃ r, Kd.great s = r := ⟨_, rfl⟩
  rw [hr]
  have hr' := Lib.hid hr
  clear hr
  go_enter Tryd.func10, Tryd.ntmps10
  go_wp2
  all_goals
    go_ret
    refine ⟨ret_bool ?_, (Below.refl _ _).alloc (Nat.le_refl _) _⟩
    rw [← hr'.out]
    unfold Kd.great
    rw [Bool.eq_iff_iff]
    simp only [Bool.or_eq_true, decide_eq_true_eq, true_iff]
    omega
end Go.Proofs.YtlflmobaegfnaaaDoor

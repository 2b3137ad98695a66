/-
  Layer 4, code: whether composite and declared types are plain, and the same; what is more than a statement looks at.
-/
import Derived.Test.YtlflmobaegfnaaaDoorKdB
import Derived.Test.YtlflmobaegfnaaaDoorKdC
namespace Go.Proofs.YtlflmobaegfnaaaDoor
open Go.RowKit
set_option linter.unusedVariables false
set_option maxRecDepth 100000

/-- A composite type as a value, its lists below block C. -/
def IsComp (w : World) (C : Nat) (v : Value) (c : Cp) : Prop :=
  ∃ A2 c2 A3 c3 A4 c4, v = .agg #[.int .i64 c.k, .slice A2 c.ps.length c2, .slice A3 c.rs.length c3, .slice A4 c.fs.length c4] ∧
    Seg 4 Vl.cs w C A2 c2 c.ps ∧ Seg 4 Vl.cs w C A3 c3 c.rs ∧ Seg 6 Fd.cs w C A4 c4 c.fs
structure SmallC (c : Cp) : Prop where
  p : c.ps.length ≤ 100
  r : c.rs.length ≤ 100
  f : c.fs.length ≤ 100

theorem len0 {α : Type} (l : List α) : ((l.length : Int) == 0) = decide (l.length = 0) := by
  rw [Bool.eq_iff_iff]; simp
theorem takes_any (c : Cp) (v : Value) (w : World) (C : Nat) (h : IsComp w C v c) (hS : SmallC c) :
    Calls Tryd.prog 74 #[v] w fun e w' => e = .returned (.bool (Kd.takes c)) ∧ Below w.heap.size w w' := by
  obtain ⟨A2, c2, A3, c3, A4, c4, rfl, s2, s3, s4⟩ := h
  obtain ⟨hp, hr, hf⟩ := hS
  have hp' : ((c.ps.length : Nat) : Int) ≤ 100 := by omega
  have hr' : ((c.rs.length : Nat) : Int) ≤ 100 := by omega
  clear hp hr hf s2 s3 s4
  go_enter Tryd.func74, Tryd.ntmps74
  go_wp2
  go_ret
  refine ⟨ret_bool ?_, (Below.refl _ _).alloc (Nat.le_refl _) _⟩
  unfold Kd.takes
  simp only [decide_eq_decide]
  omega

set_option maxHeartbeats 800000 in
theorem pComp_any (c : Cp) (v : Value) (w : World) (h : IsComp w w.heap.size v c) (hS : SmallC c) :
    Calls Tryd.prog 50 #[v] w fun e w' => e = .returned (.bool (Kd.pComp c)) ∧ Below w.heap.size w w' := by
  obtain ⟨r, hr⟩ : ∃ r, Kd.pComp c = r := ⟨_, rfl⟩
  rw [hr]
  have hr' := Lib.hid hr
  clear hr
  obtain ⟨A2, c2, A3, c3, A4, c4, rfl, s2, s3, s4⟩ := h
  obtain ⟨k, ps, rs, fs⟩ := c
  obtain ⟨hp, hr, hf⟩ := hS
  dsimp only at hp hr hf s2 s3 s4 ⊢
  have S2 := Lib.hid s2
  have S3 := Lib.hid s3
  have S4 := Lib.hid s4
  have HP := Lib.hid hp
  have HR := Lib.hid hr
  have HF := Lib.hid hf
  clear s2 s3 s4 hp hr hf
  have hb0 : Below w.heap.size w (w.alloc (.cells #[.int .i64 k, .slice A2 ps.length c2, .slice A3 rs.length c3, .slice A4 fs.length c4] 27)) := (Below.refl _ _).alloc (Nat.le_refl _) _
  have CP : Hid (∀ W, Below w.heap.size w W → Calls Tryd.prog 73 #[.slice A2 ps.length c2, .func (.func 25) #[] #[]] W fun e w' => e = .returned (.bool (ps.all Kd.pVal)) ∧ Below W.heap.size W w') :=
    Lib.hid fun W hW => all_v ps A2 c2 W HP.out ((S2.out.below hW).more hW.size)
  have CR : Hid (∀ W, Below w.heap.size w W → Calls Tryd.prog 73 #[.slice A3 rs.length c3, .func (.func 25) #[] #[]] W fun e w' => e = .returned (.bool (rs.all Kd.pVal)) ∧ Below W.heap.size W w') :=
    Lib.hid fun W hW => all_v rs A3 c3 W HR.out ((S3.out.below hW).more hW.size)
  have CF : Hid (∀ W, Below w.heap.size w W → Calls Tryd.prog 75 #[.slice A4 fs.length c4, .func (.func 76) #[] #[]] W fun e w' => e = .returned (.bool (fs.all Kd.pField)) ∧ Below W.heap.size W w') :=
    Lib.hid fun W hW => all_f fs A4 c4 W HF.out ((S4.out.below hW).more hW.size)
  have CT : Hid (∀ W, Below w.heap.size w W → Calls Tryd.prog 74 #[.agg #[.int .i64 k, .slice A2 ps.length c2, .slice A3 rs.length c3, .slice A4 fs.length c4]] W fun e w' => e = .returned (.bool (Kd.takes ⟨k, ps, rs, fs⟩)) ∧ Below W.heap.size W w') :=
    Lib.hid fun W hW => takes_any ⟨k, ps, rs, fs⟩ _ W W.heap.size ⟨A2, c2, A3, c3, A4, c4, rfl, (S2.out.below hW).more hW.size, (S3.out.below hW).more hW.size, (S4.out.below hW).more hW.size⟩ ⟨HP.out, HR.out, HF.out⟩
  by_cases h1 : k = 1
  · subst h1
    cases hps : ps.all Kd.pVal
    · rw [hps] at CP
      go_enter Tryd.func50, Tryd.ntmps50
      go_wp2_with fail
      refine (CP.out _ hb0).mono ?_
      rintro e w1 ⟨rfl, hb1⟩
      go_wp2
      go_ret
      exact ⟨ret_bool (by rw [← hr'.out]; simp [Kd.pComp, hps]), below_trans hb0 hb1⟩
    · rw [hps] at CP
      cases hrs : rs.all Kd.pVal
      all_goals
        rw [hrs] at CR
        go_enter Tryd.func50, Tryd.ntmps50
        go_wp2_with fail
        refine (CP.out _ hb0).mono ?_
        rintro e w1 ⟨rfl, hb1⟩
        obtain ⟨hc1, hf1⟩ := bcell hb1
        have hB1 := below_trans hb0 hb1
        have hz2 : w.heap.size < w1.heap.size := by have := hb1.size; simp at this; omega
        go_wp2_with fail
        refine (CR.out _ hB1).mono ?_
        rintro e w2 ⟨rfl, hb2⟩
        obtain ⟨hc2, hf2⟩ := bcell hb2
        have hB2 := below_trans hB1 hb2
        go_wp2
        go_ret
        exact ⟨ret_bool (by rw [← hr'.out]; simp only [Kd.pComp, hps, hrs, len0]; simp), hB2⟩
  · by_cases h2 : k = 2
    · subst h2
      cases ht : Kd.takes ⟨2, ps, rs, fs⟩
      · rw [ht] at CT
        go_enter Tryd.func50, Tryd.ntmps50
        go_wp2_with fail
        refine (CT.out _ hb0).mono ?_
        rintro e w1 ⟨rfl, hb1⟩
        obtain ⟨hc1, hf1⟩ := bcell hb1
        have hB1 := below_trans hb0 hb1
        go_wp2_with fail
        refine (CF.out _ hB1).mono ?_
        rintro e w2 ⟨rfl, hb2⟩
        have hB2 := below_trans hB1 hb2
        go_wp2
        go_ret
        exact ⟨ret_bool (by rw [← hr'.out]; simp [Kd.pComp, ht]), hB2⟩
      · rw [ht] at CT
        go_enter Tryd.func50, Tryd.ntmps50
        go_wp2_with fail
        refine (CT.out _ hb0).mono ?_
        rintro e w1 ⟨rfl, hb1⟩
        go_wp2
        go_ret
        exact ⟨ret_bool (by rw [← hr'.out]; simp [Kd.pComp, ht]), below_trans hb0 hb1⟩
    · by_cases h3 : k = 3
      · subst h3
        cases ht : Kd.takes ⟨3, ps, rs, fs⟩
        · rw [ht] at CT
          rcases Decidable.em (fs.length = 1) with hl | hl
          · obtain ⟨f, hfs⟩ := List.length_eq_one_iff.1 hl
            obtain ⟨b, off, hA, hbb, hc⟩ := S4.out.2.2 (by omega)
            have g0 := hc 0 (by omega) 0 _ rfl
            have g1 := hc 0 (by omega) 1 _ rfl
            have g2 := hc 0 (by omega) 2 _ rfl
            have g3 := hc 0 (by omega) 3 _ rfl
            have g4 := hc 0 (by omega) 4 _ rfl
            have g5 := hc 0 (by omega) 5 _ rfl
            subst hfs
            subst hA
            clear hc CF
            simp only [Nat.zero_mul, Nat.add_zero, List.getElem_cons_zero] at g0 g1 g2 g3 g4 g5
            go_enter Tryd.func50, Tryd.ntmps50
            go_wp2_with fail
            refine (CT.out _ hb0).mono ?_
            rintro e w1 ⟨rfl, hb1⟩
            obtain ⟨hc1, hf1⟩ := bcell hb1
            have hB1 := below_trans hb0 hb1
            have g0 := (hB1.cell (p := ⟨b, off, none⟩) hbb).trans g0
            have g1 := (hB1.cell (p := ⟨b, off + 1, none⟩) hbb).trans g1
            have g2 := (hB1.cell (p := ⟨b, off + 2, none⟩) hbb).trans g2
            have g3 := (hB1.cell (p := ⟨b, off + 3, none⟩) hbb).trans g3
            have g4 := (hB1.cell (p := ⟨b, off + 4, none⟩) hbb).trans g4
            have g5 := (hB1.cell (p := ⟨b, off + 5, none⟩) hbb).trans g5
            go_wp2_with fail
            refine (pField_any f _).mono ?_
            rintro e w2 ⟨rfl, hb2⟩
            have hB2 := below_trans hB1 hb2
            go_wp2
            go_ret
            exact ⟨ret_bool (by rw [← hr'.out]; simp [Kd.pComp, ht]), hB2⟩
          · have hl' : ((fs.length : Int) == 1) = false := by simp; omega
            go_enter Tryd.func50, Tryd.ntmps50
            go_wp2_with fail
            refine (CT.out _ hb0).mono ?_
            rintro e w1 ⟨rfl, hb1⟩
            obtain ⟨hc1, hf1⟩ := bcell hb1
            have hB1 := below_trans hb0 hb1
            go_wp2
            go_ret
            exact ⟨ret_bool (by rw [← hr'.out]; simp [Kd.pComp, ht, hl]), hB1⟩
        · rw [ht] at CT
          go_enter Tryd.func50, Tryd.ntmps50
          go_wp2_with fail
          refine (CT.out _ hb0).mono ?_
          rintro e w1 ⟨rfl, hb1⟩
          go_wp2
          go_ret
          exact ⟨ret_bool (by rw [← hr'.out]; simp [Kd.pComp, ht]), below_trans hb0 hb1⟩
      · go_enter Tryd.func50, Tryd.ntmps50
        go_wp2
        go_ret
        exact ⟨ret_bool (by rw [← hr'.out]; simp [Kd.pComp, h1, h2, h3]), hb0⟩
end Go.Proofs.YtlflmobaegfnaaaDoor

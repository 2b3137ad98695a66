/-
  The document's own Read, and both Puts, walked.
-/
import Derived.Test.YtkpobcomaocfpaaNmC
import Derived.Test.YtkpobcomaocfpaaLebF
import Derived.Test.YtkpobcomaocfpaaKitS
namespace Go.Proofs.Ytkpobcomaocfpaa
open Go.RowKit
set_option linter.unusedVariables false

set_option maxHeartbeats 1000000 in
theorem refRead_any (A : Option Addr) (n c : Nat) (l : List Nat) (at0 : Int) (w : World) (hy : Bytes w w.heap.size A n c l) (hn : n ≤ 100000) :
    Calls Try.prog 10 #[.slice A n c, .int .i64 at0] w (NameTold (readName l at0) w) := by
  have hm := hy.2.2.1
  have hnc := hy.2.1
  unfold maxLen at hm
  have HU := Lib.hid (refUall A n c l at0 32 w hy hn)
  obtain ⟨r, hr⟩ : ∃ r, readName l at0 = r := ⟨_, rfl⟩
  rw [hr]
  unfold readName at hr
  have hnx := told_next l at0
  have hlt := told_lt false l at0 32
  by_cases hbad : at0 < 0 ∨ (n : Int) < at0
  · have hT : told false l at0 32 = (0, 0, 2) := by unfold told; rw [if_pos (by rw [hy.1]; omega)]
    rw [hT] at hr
    rw [if_pos (show ((0, 0, 2) : Nat × Nat × Nat).2.2 ≠ 0 by decide)] at hr
    have HR := Lib.hid hr
    clear hT hr hnx hlt HU
    have HB := Lib.hid hbad
    by_cases h1 : at0 < 0
    · have t1 : decide (at0 < 0) = true := by simpa using h1
      clear hbad
      go_enter Try.func10, Try.ntmps10
      go_wp2_with fail
      go_ret3
      exact ⟨by rw [← HR.out]; rfl, Below.refl _ _⟩
    · have t1 : decide (at0 < 0) = false := by simpa using h1
      have t2 : decide ((n : Int) < at0) = true := by simp; omega
      clear hbad
      go_enter Try.func10, Try.ntmps10
      go_wp2_with fail
      go_ret3
      exact ⟨by rw [← HR.out]; rfl, Below.refl _ _⟩
  have t1 : decide (at0 < 0) = false := by simp; omega
  have t2 : decide ((n : Int) < at0) = false := by simp; omega
  have t3 : at0 ≤ (n : Int) := by omega
  clear hbad
  obtain ⟨⟨v, nx, er⟩, hT⟩ : ∃ q, told false l at0 32 = q := ⟨_, rfl⟩
  rw [hT] at HU hr hnx hlt
  simp only at hr hnx hlt
  clear hT
  rw [hy.1] at hr hnx
  by_cases he : er = 0
  · subst he
    rw [if_neg (by omega)] at hr
    have hnx := hnx rfl
    by_cases hv : n - nx < v
    · rw [if_pos hv] at hr
      have HR := Lib.hid hr
      have hv2 : (n : Int) - (nx : Int) < (v : Int) := by omega
      clear hr hv hy
      go_enter Try.func10, Try.ntmps10
      go_wp2_with fail
      refine HU.out.mono ?_
      rintro e w1 ⟨rfl, hb1⟩
      go_wp2_with fail
      go_ret3
      exact ⟨by rw [← HR.out]; rfl, hb1⟩
    · rw [if_neg hv] at hr
      have hv2 : (v : Int) ≤ (n : Int) - (nx : Int) := by omega
      have hyt := (hy.from_ hnx).take (show v ≤ n - nx by omega)
      have hmax : ((l.drop nx).take v).length ≤ maxLen := by rw [List.length_take, List.length_drop]; unfold maxLen; omega
      have hwl := bs_str ((l.drop nx).take v) hyt.2.2.2.1
      have hcap2 : nx ≤ c := by omega
      have hto : nx + v ≤ c := by omega
      have HV := Lib.hid hv
      clear hv
      generalize (l.drop nx).take v = t at hr hyt hmax hwl
      have HY := Lib.hid hyt
      have HM := Lib.hid hmax
      have HW := Lib.hid hwl
      clear hyt hmax hwl hy
      by_cases hcap : c = nx
      · rw [if_pos hcap] at HY
        obtain rfl : n = c := by omega
        obtain rfl : v = 0 := by omega
        subst hcap
        rw [Nat.sub_self] at HY
        by_cases hw : Nm.well t = true
        · rw [if_pos hw] at hr
          have HR := Lib.hid hr
          have hw2 : ¬ Nm.cnt t < 0 := by simpa [Nm.well] using hw
          clear hr hw
          go_enter Try.func10, Try.ntmps10
          go_wp2_with fail
          refine HU.out.mono ?_
          rintro e w1 ⟨rfl, hb1⟩
          have c1 := run_str w1 (HY.out.below hb1)
          go_wp2_with fail
          refine (refCount_any _ _ (by rw [str_size]; exact HM.out)).mono ?_
          rw [HW.out]
          rintro e w2 ⟨rfl, hb2⟩
          go_wp2_with fail
          go_ret3
          exact ⟨by rw [← HR.out]; rfl, below_trans hb1 hb2⟩
        · rw [if_neg hw] at hr
          have HR := Lib.hid hr
          have hw2 : Nm.cnt t < 0 := by simpa [Nm.well] using hw
          clear hr hw
          go_enter Try.func10, Try.ntmps10
          go_wp2_with fail
          refine HU.out.mono ?_
          rintro e w1 ⟨rfl, hb1⟩
          have c1 := run_str w1 (HY.out.below hb1)
          go_wp2_with fail
          refine (refCount_any _ _ (by rw [str_size]; exact HM.out)).mono ?_
          rw [HW.out]
          rintro e w2 ⟨rfl, hb2⟩
          go_wp2_with fail
          go_ret3
          exact ⟨by rw [← HR.out]; rfl, below_trans hb1 hb2⟩
      · rw [if_neg hcap] at HY
        by_cases hw : Nm.well t = true
        · rw [if_pos hw] at hr
          have HR := Lib.hid hr
          have hw2 : ¬ Nm.cnt t < 0 := by simpa [Nm.well] using hw
          clear hr hw
          go_enter Try.func10, Try.ntmps10
          go_wp2_with fail
          refine HU.out.mono ?_
          rintro e w1 ⟨rfl, hb1⟩
          have c1 := run_str w1 (HY.out.below hb1)
          go_wp2_with fail
          refine (refCount_any _ _ (by rw [str_size]; exact HM.out)).mono ?_
          rw [HW.out]
          rintro e w2 ⟨rfl, hb2⟩
          go_wp2_with fail
          go_ret3
          exact ⟨by rw [← HR.out]; rfl, below_trans hb1 hb2⟩
        · rw [if_neg hw] at hr
          have HR := Lib.hid hr
          have hw2 : Nm.cnt t < 0 := by simpa [Nm.well] using hw
          clear hr hw
          go_enter Try.func10, Try.ntmps10
          go_wp2_with fail
          refine HU.out.mono ?_
          rintro e w1 ⟨rfl, hb1⟩
          have c1 := run_str w1 (HY.out.below hb1)
          go_wp2_with fail
          refine (refCount_any _ _ (by rw [str_size]; exact HM.out)).mono ?_
          rw [HW.out]
          rintro e w2 ⟨rfl, hb2⟩
          go_wp2_with fail
          go_ret3
          exact ⟨by rw [← HR.out]; rfl, below_trans hb1 hb2⟩
  · rw [if_pos he] at hr
    have HR := Lib.hid hr
    have he2 : ((er : Int) != 0) = true := by simp; exact he
    clear hr he hy
    go_enter Try.func10, Try.ntmps10
    go_wp2_with fail
    refine HU.out.mono ?_
    rintro e w1 ⟨rfl, hb1⟩
    go_wp2_with fail
    go_ret3
    exact ⟨by rw [← HR.out]; rfl, hb1⟩

/-- What Put tells: the bytes, the error. -/
def putName (l : List Nat) : List Nat × Nat := if Nm.well l = false then ([], 20) else if 100000 < l.length then ([], 3) else (Leb.putU l.length ++ l, 0)
def PutTold (r : List Nat × Nat) (w : World) (e : Ending) (w' : World) : Prop :=
  ∃ A c, e = .returned (.tuple #[.slice A r.1.length c, .int .i64 r.2]) ∧ Own w.heap.size w' (.slice A r.1.length c) r.1 ∧ Below w.heap.size w w'
theorem putName_lt (s : ByteArray) : ∀ x ∈ (putName (bs s)).1, x < 256 := by
  unfold putName
  intro x hx
  split at hx
  · simp at hx
  · split at hx
    · simp at hx
    · rcases List.mem_append.1 hx with h | h
      · exact Leb.putU_lt _ x h
      · exact bs_lt s x h
theorem putName_len (s : ByteArray) : (putName (bs s)).1.length ≤ 100010 := by
  unfold putName
  split
  · simp
  · split
    · simp
    · next h1 h2 =>
      have := Leb.putU_len10 (bs s).length (by omega)
      rw [List.length_append]; omega

set_option maxHeartbeats 1000000 in
theorem Put_any (s : ByteArray) (w : World) (hs : s.size ≤ maxLen) :
    Calls Try.prog 14 #[.string s] w (PutTold (putName (bs s)) w) := by
  have HS := Lib.hid hs
  unfold maxLen at hs
  have HL := Lib.hid (bs_len s)
  obtain ⟨r, hr⟩ : ∃ r, putName (bs s) = r := ⟨_, rfl⟩
  rw [hr]
  unfold putName at hr
  rw [HL.out] at hr
  by_cases hw : Nm.well (bs s) = false
  · rw [if_pos hw] at hr
    have HR := Lib.hid hr
    have HW := Lib.hid hw
    clear hr hw
    go_enter Try.func14, Try.ntmps14
    go_wp2_with fail
    refine (Well_any _ _ HS.out).mono ?_
    rw [HW.out]
    rintro e w1 ⟨rfl, hb1⟩
    go_wp2_with fail
    go_ret2
    rw [← HR.out]
    exact ⟨none, 0, rfl, Own.nil _ _, hb1⟩
  · rw [if_neg hw] at hr
    have HW : Hid (Nm.well (bs s) = true) := by rw [Hid]; simpa using hw
    clear hw
    by_cases hl : 100000 < s.size
    · rw [if_pos hl] at hr
      have HR := Lib.hid hr
      have hl2 : (100000 : Int) < (s.size : Int) := by omega
      clear hr hl
      go_enter Try.func14, Try.ntmps14
      go_wp2_with fail
      refine (Well_any _ _ HS.out).mono ?_
      rw [HW.out]
      rintro e w1 ⟨rfl, hb1⟩
      go_wp2_with fail
      go_ret2
      rw [← HR.out]
      exact ⟨none, 0, rfl, Own.nil _ _, hb1⟩
    · rw [if_neg hl] at hr
      have HR := Lib.hid hr
      have hl2 : (s.size : Int) ≤ 100000 := by omega
      have HP := Lib.hid (Leb.putU_len10 s.size (by omega))
      have HLE : Hid (s.size ≤ 100000) := by rw [Hid]; omega
      clear hr hl hs
      go_enter Try.func14, Try.ntmps14
      go_wp2_with fail
      refine (Well_any _ _ HS.out).mono ?_
      rw [HW.out]
      rintro e w1 ⟨rfl, hb1⟩
      go_wp2_with fail
      refine (PutU_any s.size _ (by omega)).mono ?_
      rintro e w2 ⟨v2, rfl, ho2, hb2⟩
      go_wp2_with (at_builtin; refine cat_str rfl (.tmp 13) (.tmp 14) rfl w2 s rfl rfl ho2 hb2.size ((Leb.putU s.size).length + s.size) (by have := HP.out; have := HLE.out; omega) rfl ?_; intro A3 c3 w3 ho3 hg3)
      go_ret2
      have hb12 := below_trans hb1 hb2
      have e : (Leb.putU s.size ++ bs s).length = (Leb.putU s.size).length + s.size := by rw [List.length_append, HL.out]
      rw [← HR.out]
      refine ⟨A3, c3, by rw [e]; rfl, ?_, ho2.grown hg3 hb1.size hb12.size hb12⟩
      rw [e]
      exact ho3.base hb1.size
end Go.Proofs.Ytkpobcomaocfpaa

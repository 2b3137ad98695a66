/-
  The document's own Count, and Read and Put, walked.
-/
import Derived.Test.YtphmknhlibampaaDoorNmB
namespace Go.Proofs.YtphmknhlibampaaDoor
open Go.RowKit
set_option linter.unusedVariables false
set_option maxRecDepth 100000

theorem below_trans {w b c : World} (h : Below w.heap.size w b) (k : Below b.heap.size b c) : Below w.heap.size w c := h.trans (k.mono h.size)
set_option maxHeartbeats 1000000 in
theorem refCount_any (s : ByteArray) (w : World) (hs : s.size ≤ maxLen) :
    Calls Tryd.prog 82 #[.string s] w fun e w' => e = .returned (.int .i64 (Nm.cnt (bs s))) ∧ Below w.heap.size w w' := by
  have hs2 := hs
  unfold maxLen at hs2
  have HL := Lib.hid (bs_len s)
  have HS := Lib.hid hs
  clear hs
  go_enter Tryd.func82, Tryd.ntmps82
  go_wp2_with fail
  go_loopw [3, 4] (fun n at_ wr => ∃ (pos acc : Nat), Below w.heap.size w wr ∧ n = .int .i64 acc ∧ at_ = .int .i64 pos ∧ acc ≤ pos ∧ pos ≤ s.size ∧ Hid (Nm.cnt (bs s) = if Nm.cnt ((bs s).drop pos) < 0 then -1 else acc + Nm.cnt ((bs s).drop pos))) (fun _ at_ _ => s.size - (intOf at_).toNat)
  case atStart => exact ⟨0, 0, Below.refl _ _, rfl, rfl, by omega, by omega, by have := Nm.cnt_ge (bs s); rw [Hid, List.drop_zero]; split <;> omega⟩
  case round =>
    obtain ⟨pos, acc, hb, rfl, rfl, ha, hle, H⟩ := hrel
    by_cases hp : pos < s.size
    · have hone := Nm.one_le ((bs s).drop pos)
      rw [List.length_drop, HL.out] at hone
      have e := H.out
      have hsz : (s.extract pos s.size).size ≤ maxLen := by have := HS.out; simp; omega
      have HO := Lib.hid (bs_drop s pos)
      have HSZ := Lib.hid hsz
      by_cases d1 : Nm.one ((bs s).drop pos) = 0
      · rw [Nm.cnt_bad (by rw [List.length_drop, HL.out]; omega) d1] at e
        have E := Lib.hid e
        have D1 := Lib.hid d1
        clear e H d1 hsz
        go_wp2_with (go_at_call 106; refine (One_any _ _ HSZ.out).mono ?_; rw [HO.out, D1.out]; rintro e w' ⟨rfl, hb1⟩)
        go_ret
        exact ⟨ret_int (by rw [E.out]; rfl), below_trans hb hb1⟩
      · rw [Nm.cnt_step d1, List.drop_drop] at e
        have hd : ∃ d, Nm.one ((bs s).drop pos) = d := ⟨_, rfl⟩
        obtain ⟨d, hd⟩ := hd
        rw [hd] at e d1 hone
        have hd0 : ((d : Int) == 0) = false := beq_eq_false_iff_ne.2 (by omega)
        have E := Lib.hid e
        have HD := Lib.hid hd
        have HD1 : Hid (1 ≤ d) := by rw [Hid]; omega
        clear e H hsz hd d1
        go_wp2_with (go_at_call 106; refine (One_any _ _ HSZ.out).mono ?_; rw [HO.out, HD.out]; rintro e w' ⟨rfl, hb1⟩)
        have := HD1.out
        go_roundw
        case rel =>
          refine ⟨pos + d, acc + 1, below_trans hb hb1, rfl, rfl, by omega, by omega, ?_⟩
          have := E.out
          rw [Hid, this]
          split <;> split <;> omega
        case measure => simp [intOf]; omega
    · have e := H.out
      rw [cnt_end (by rw [HL.out]; omega)] at e
      have E := Lib.hid e
      clear e H
      go_wp2_with fail
      go_ret
      exact ⟨ret_int (by rw [E.out]; simp), hb⟩

theorem told_next (l : List Nat) (at0 : Int) (h : (told false l at0 32).2.2 = 0) : (told false l at0 32).2.1 ≤ l.length := by
  unfold told at h ⊢
  split
  · exact Nat.zero_le _
  · next h1 =>
    rw [if_neg h1] at h
    obtain ⟨⟨v, nx, er⟩, hq⟩ : ∃ q, Leb.rd (32 : Int).toNat false (l.drop at0.toNat) at0.toNat 0 0 = q := ⟨_, rfl⟩
    rw [hq] at h ⊢
    simp only at h ⊢
    subst h
    have := Leb.rd_next _ _ _ _ _ _ _ _ hq
    rw [List.length_drop] at this
    omega

/-- What Read tells: the name's bytes, the place behind it, the error. -/
def readName (l : List Nat) (at0 : Int) : List Nat × Nat × Nat :=
  if (told false l at0 32).2.2 ≠ 0 then ([], 0, (told false l at0 32).2.2)
  else if l.length - (told false l at0 32).2.1 < (told false l at0 32).1 then ([], 0, 10)
  else if Nm.well ((l.drop (told false l at0 32).2.1).take (told false l at0 32).1) then ((l.drop (told false l at0 32).2.1).take (told false l at0 32).1, (told false l at0 32).2.1 + (told false l at0 32).1, 0)
  else ([], 0, 20)
def NameTold (r : List Nat × Nat × Nat) (w : World) (e : Ending) (w' : World) : Prop := e = .returned (.tuple #[.string (str r.1), .int .i64 r.2.1, .int .i64 r.2.2]) ∧ Below w.heap.size w w'

set_option maxHeartbeats 1000000 in
theorem Read_any (A : Option Addr) (n c : Nat) (l : List Nat) (C : Nat) (at0 : Int) (w : World) (hy : Bytes w C A n c l) :
    Calls Tryd.prog 52 #[.slice A n c, .int .i64 at0] w (NameTold (readName l at0) w) := by
  have hm := hy.2.2.1
  have hnc := hy.2.1
  unfold maxLen at hm
  have HU := Lib.hid (U_any A n c l C at0 32 w hy)
  obtain ⟨r, hr⟩ : ∃ r, readName l at0 = r := ⟨_, rfl⟩
  rw [hr]
  unfold readName at hr
  have hnx := told_next l at0
  have hlt := told_lt false l at0 32
  obtain ⟨⟨v, nx, er⟩, hT⟩ : ∃ q, told false l at0 32 = q := ⟨_, rfl⟩
  rw [hT] at HU hr hnx hlt
  simp only at hr hnx hlt
  clear hT
  rw [hy.1] at hr hnx
  by_cases he : er = 0
  · subst he
    rw [if_neg (by omega)] at hr
    have hnx := hnx rfl
    by_cases hv : n - nx < v
    · rw [if_pos hv] at hr
      have HR := Lib.hid hr
      have hv2 : (n : Int) - (nx : Int) < (v : Int) := by omega
      clear hr hv hy
      go_enter Tryd.func52, Tryd.ntmps52
      go_wp2_with fail
      refine HU.out.mono ?_
      rintro e w1 ⟨rfl, k1, rfl⟩
      go_wp2_with fail
      go_ret3
      exact ⟨by rw [← HR.out]; rfl, below_drewN (Below.refl _ _) _⟩
    · rw [if_neg hv] at hr
      have hv2 : (v : Int) ≤ (n : Int) - (nx : Int) := by omega
      have hyt := (hy.from_ hnx).take (show v ≤ n - nx by omega)
      have hmax : ((l.drop nx).take v).length ≤ maxLen := by rw [List.length_take, List.length_drop]; unfold maxLen; omega
      have hwl := bs_str ((l.drop nx).take v) hyt.2.2.2.1
      have hcap2 : nx ≤ c := by omega
      have hto : nx + v ≤ c := by omega
      have HV := Lib.hid hv
      clear hv
      generalize (l.drop nx).take v = t at hr hyt hmax hwl
      have HY := Lib.hid hyt
      have HM := Lib.hid hmax
      have HW := Lib.hid hwl
      clear hyt hmax hwl hy
      by_cases hcap : c = nx
      · rw [if_pos hcap] at HY
        obtain rfl : n = c := by omega
        obtain rfl : v = 0 := by omega
        subst hcap
        rw [Nat.sub_self] at HY
        by_cases hw : Nm.well t = true
        · rw [if_pos hw] at hr
          have HR := Lib.hid hr
          have HWW := Lib.hid hw
          clear hr hw
          go_enter Tryd.func52, Tryd.ntmps52
          go_wp2_with fail
          refine HU.out.mono ?_
          rintro e w1 ⟨rfl, k1, rfl⟩
          have c1 := run_str (w.drewN k1) (HY.out.drewN k1)
          go_wp2_with fail
          refine (Well_any _ _ (by rw [str_size]; exact HM.out)).mono ?_
          rw [HW.out, HWW.out]
          rintro e w2 ⟨rfl, hb2⟩
          go_wp2_with fail
          go_ret3
          exact ⟨by rw [← HR.out]; rfl, below_trans (below_drewN (Below.refl _ _) k1) hb2⟩
        · rw [if_neg hw] at hr
          have HR := Lib.hid hr
          have HWW : Hid (Nm.well t = false) := by rw [Hid]; simpa using hw
          clear hr hw
          go_enter Tryd.func52, Tryd.ntmps52
          go_wp2_with fail
          refine HU.out.mono ?_
          rintro e w1 ⟨rfl, k1, rfl⟩
          have c1 := run_str (w.drewN k1) (HY.out.drewN k1)
          go_wp2_with fail
          refine (Well_any _ _ (by rw [str_size]; exact HM.out)).mono ?_
          rw [HW.out, HWW.out]
          rintro e w2 ⟨rfl, hb2⟩
          go_wp2_with fail
          go_ret3
          exact ⟨by rw [← HR.out]; rfl, below_trans (below_drewN (Below.refl _ _) k1) hb2⟩
      · rw [if_neg hcap] at HY
        by_cases hw : Nm.well t = true
        · rw [if_pos hw] at hr
          have HR := Lib.hid hr
          have HWW := Lib.hid hw
          clear hr hw
          go_enter Tryd.func52, Tryd.ntmps52
          go_wp2_with fail
          refine HU.out.mono ?_
          rintro e w1 ⟨rfl, k1, rfl⟩
          have c1 := run_str (w.drewN k1) (HY.out.drewN k1)
          go_wp2_with fail
          refine (Well_any _ _ (by rw [str_size]; exact HM.out)).mono ?_
          rw [HW.out, HWW.out]
          rintro e w2 ⟨rfl, hb2⟩
          go_wp2_with fail
          go_ret3
          exact ⟨by rw [← HR.out]; rfl, below_trans (below_drewN (Below.refl _ _) k1) hb2⟩
        · rw [if_neg hw] at hr
          have HR := Lib.hid hr
          have HWW : Hid (Nm.well t = false) := by rw [Hid]; simpa using hw
          clear hr hw
          go_enter Tryd.func52, Tryd.ntmps52
          go_wp2_with fail
          refine HU.out.mono ?_
          rintro e w1 ⟨rfl, k1, rfl⟩
          have c1 := run_str (w.drewN k1) (HY.out.drewN k1)
          go_wp2_with fail
          refine (Well_any _ _ (by rw [str_size]; exact HM.out)).mono ?_
          rw [HW.out, HWW.out]
          rintro e w2 ⟨rfl, hb2⟩
          go_wp2_with fail
          go_ret3
          exact ⟨by rw [← HR.out]; rfl, below_trans (below_drewN (Below.refl _ _) k1) hb2⟩
  · rw [if_pos he] at hr
    have HR := Lib.hid hr
    have he2 : ((er : Int) != 0) = true := by simp; exact he
    clear hr he hy
    go_enter Tryd.func52, Tryd.ntmps52
    go_wp2_with fail
    refine HU.out.mono ?_
    rintro e w1 ⟨rfl, k1, rfl⟩
    go_wp2_with fail
    go_ret3
    exact ⟨by rw [← HR.out]; rfl, below_drewN (Below.refl _ _) _⟩
end Go.Proofs.YtphmknhlibampaaDoor

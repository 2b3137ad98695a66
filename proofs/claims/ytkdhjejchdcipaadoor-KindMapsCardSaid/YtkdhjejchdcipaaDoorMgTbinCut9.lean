/-
  Texts of this claim, one behind the other: part 9.
-/
import Derived.Test.YtkdhjejchdcipaaDoorRows
import Derived.LaidMore
import Derived.Lib.LaidTab
import Derived.Stop.Joined
import Derived.Stop.LaidErr
import Derived.ChangeSame
import Derived.OpenShut
import Derived.Test.YtkdhjejchdcipaaDoorMgTbinCut8
/-
  geodelaw06.TbinCut: the walk.
-/
namespace Go.Proofs.YtkdhjejchdcipaaDoor
open Go.RowKit
set_option linter.unusedVariables false
set_option linter.unusedSimpArgs false
set_option maxRecDepth 100000

set_option maxHeartbeats 8000000 in
theorem TbinCut_walk (w : World) (hT : Tab6 w) (A : Option Addr) (c : Nat) (xs : List Sr) (l : List Sb) (hs : Subs w w.heap.size A c xs l) (_ : True) (a : Int) (wa : (Lit.int .i64 a).wf = true) :
    Calls Tryd.prog 7 #[.slice A l.length c, .int .i64 a] w fun e w' => e = .returned (.bool true) ∧ Below w.heap.size w w' := by
  obtain ⟨Q, hQ⟩ : ∃ Q : Ending → World → Prop, Q = (fun e w' => e = .returned (.bool true) ∧ Below w.heap.size w w') := ⟨_, rfl⟩
  rw [← hQ]
  have HQ := Lib.hid hQ
  have HT := Lib.hid hT
  have HK := Lib.hid (known6_any w hT)
  have HS := Lib.hid hs
  clear hQ hT wa
  by_cases hbig : 30 < l.length
  · have hg : (30 : Int) < (l.length : Int) := by omega
    clear hbig hs
    go_enter Tryd.func7, Tryd.ntmps7
    go_wp2_with fail
    refine HK.out.mono ?_
    rintro e y ⟨rfl, hb⟩
    have HB := Lib.hid hb
    clear hb
    go_wp2_with fail
    rw [HQ.out]
    exact ⟨rfl, HB.out⟩
  have hg : (l.length : Int) ≤ 30 := by omega
  have HL : Hid (l.length ≤ 30) := Lib.hid (by omega)
  have HLX : Hid (xs.length = l.length) := Lib.hid hs.len
  have HX := Lib.hid hs.seg
  clear hs hbig
  go_enter Tryd.func7, Tryd.ntmps7
  go_wp2_with fail
  refine HK.out.mono ?_
  rintro e w1 ⟨rfl, hb⟩
  have HB := Lib.hid hb
  clear hb
  go_wp2_with fail
  clear hg
  go_loopw [5] (fun i wr => wr = w1 ∧ ∃ k : Nat, k ≤ l.length ∧ i = .int .i64 k ∧ Hid (∀ x ∈ l.take k, Sixty x)) (fun i _ => l.length - (intOf i).toNat)
  case atStart => exact ⟨rfl, 0, Nat.zero_le _, rfl, by intro x hx; simp at hx⟩
  case round =>
    obtain ⟨hwr, k, hk, rfl, HM⟩ := hrel
    subst hwr
    by_cases hlt : k < l.length
    · have h1 : k < xs.length := by rw [HLX.out]; exact hlt
      obtain ⟨b, off, rfl, hb, hc⟩ := HX.out.2.2 (by omega)
      have hln := HS.out.lens k h1 hlt
      have g1 := (HB.out.cell (p := ⟨b, off + k * 6 + 1, none⟩) hb).trans (hc k h1 1 _ rfl)
      have g3 := (HB.out.cell (p := ⟨b, off + k * 6 + 3, none⟩) hb).trans (hc k h1 3 _ rfl)
      have g4 := (HB.out.cell (p := ⟨b, off + k * 6 + 4, none⟩) hb).trans (hc k h1 4 _ rfl)
      have g5 := (HB.out.cell (p := ⟨b, off + k * 6 + 5, none⟩) hb).trans (hc k h1 5 _ rfl)
      have HT1 := Lib.hid (List.take_succ_eq_append_getElem hlt)
      rw [hln.1] at g1
      rw [hln.2.1] at g3
      rw [hln.2.2.1] at g4
      rw [hln.2.2.2] at g5
      obtain ⟨s, hsv⟩ : ∃ s, s = l[k] := ⟨_, rfl⟩
      rw [← hsv] at g1 g3 g4 g5 HT1
      obtain ⟨n1, e1⟩ : ∃ n, n = s.sups.length := ⟨_, rfl⟩
      obtain ⟨n2, e2⟩ : ∃ n, n = s.c.ps.length := ⟨_, rfl⟩
      obtain ⟨n3, e3⟩ : ∃ n, n = s.c.rs.length := ⟨_, rfl⟩
      obtain ⟨n4, e4⟩ : ∃ n, n = s.c.fs.length := ⟨_, rfl⟩
      rw [← e1] at g1
      rw [← e2] at g3
      rw [← e3] at g4
      rw [← e4] at g5
      have E1 := Lib.hid e1
      have E2 := Lib.hid e2
      have E3 := Lib.hid e3
      have E4 := Lib.hid e4
      clear hc hln hsv e1 e2 e3 e4 HX HK
      by_cases q1 : (60 : Int) < (n1 : Int)
      · go_wp2
        rw [HQ.out]
        exact ⟨rfl, HB.out⟩
      have q1 : (n1 : Int) ≤ 60 := by omega
      by_cases q2 : (60 : Int) < (n2 : Int)
      · go_wp2
        rw [HQ.out]
        exact ⟨rfl, HB.out⟩
      have q2 : (n2 : Int) ≤ 60 := by omega
      by_cases q3 : (60 : Int) < (n3 : Int)
      · go_wp2
        rw [HQ.out]
        exact ⟨rfl, HB.out⟩
      have q3 : (n3 : Int) ≤ 60 := by omega
      by_cases q4 : (60 : Int) < (n4 : Int)
      · go_wp2
        rw [HQ.out]
        exact ⟨rfl, HB.out⟩
      have q4 : (n4 : Int) ≤ 60 := by omega
      have HSx : Hid (Sixty s) := Lib.hid ⟨by have := E1.out; omega, by have := E2.out; omega, by have := E3.out; omega, by have := E4.out; omega⟩
      have hw : wrap64 ((k : Int) + 1) = (k : Int) + 1 := IntWalk.wrap64_in _ (by have := HL.out; omega)
      go_wp2
      go_roundw
      case rel => exact ⟨trivial, k + 1, by omega, by go_num, by
        intro x hx
        rw [HT1.out] at hx
        rcases List.mem_append.1 hx with hx | hx
        · exact HM.out x hx
        · rw [List.mem_singleton.1 hx]; exact HSx.out⟩
      case measure =>
        try simp only [hw]
        clear hw q1 q2 q3 q4
        simp [intOf]
        omega
    · have hkn : k = l.length := by omega
      have HM2 : Hid (∀ x ∈ l, Sixty x) := Lib.hid (by have := HM.out; rw [hkn, List.take_length] at this; exact this)
      have HP := Lib.hid (PutRec_any l xs A c wr (HT.out.below HB.out) (by have := HL.out; omega) (fun x hx => (HM2.out x hx).small) ((HS.out.below HB.out).more HB.out.size))
      have HP256 := Lib.hid (Tb.putRec_lt l)
      have HPL := Lib.hid (Tb.putRec_len60 HL.out HM2.out)
      have HCUT : Hid (∀ n < (Tb.putRec l).length, ∃ q : Rd, Tb.rec_ (Tb.opened ((Tb.putRec l).take n)) = ([], q) ∧ q.e = 10 ∧ 0 ≤ q.bad ∧ q.bad ≤ (n : Int)) := Lib.hid fun n hn => Tb.rec_cut (by have := HL.out; omega) (fun x hx => (HM2.out x hx).small) n hn
      generalize Tb.putRec l = pl at HP HP256 HPL HCUT
      clear HM HM2 HX HS HK HLX
      go_wp2_with fail
      refine HP.out.mono ?_
      rintro e w2 ⟨v2, rfl, ho, hb2⟩
      obtain ⟨A1, c1, rfl, hy, -⟩ := ho.bs HP256.out
      have HB2 := Lib.hid (below_trans HB.out hb2)
      have HT2 := Lib.hid ((HT.out.below HB.out).below hb2)
      have HY := Lib.hid hy
      clear ho hb2 hy
      by_cases ha : a < 0
      · clear HCUT
        go_wp2
        rw [HQ.out]
        exact ⟨rfl, HB2.out⟩
      obtain ⟨n, rfl⟩ : ∃ n : Nat, a = (n : Int) := ⟨a.toNat, by omega⟩
      clear ha
      by_cases hn : (pl.length : Int) ≤ (n : Int)
      · clear HCUT
        go_wp2
        rw [HQ.out]
        exact ⟨rfl, HB2.out⟩
      have hn1 : (n : Int) < (pl.length : Int) := by omega
      obtain ⟨⟨bs, p, e, bad⟩, hq1, hq2, hq3, hq4⟩ := HCUT.out n (by omega)
      dsimp only at hq2 hq3 hq4
      subst hq2
      have HQ1 := Lib.hid hq1
      have hnc : n ≤ c1 := by have := HY.out.2.1; omega
      have hc2 : c1 ≤ 9223372036854775807 := by have := HY.out.2.2.1; unfold maxLen at this; omega
      have hnL : n < 1000000 := by have := HPL.out; omega
      have HO : Hid (Bytes w2 w2.heap.size A1 n c1 (pl.take n)) := Lib.hid (HY.out.take (by omega))
      have HN := Lib.hid hnL
      clear hq1 HCUT hnL hn
      go_wp2_with fail
      refine (Open_any HO.out HN.out).mono ?_
      rintro e w3 ⟨b, A3, c3, rfl, hz, hr, hb3⟩
      have HR := Lib.hid hr
      have HB3 := Lib.hid (below_trans HB2.out hb3)
      have HZ := Lib.hid (Nat.le_trans HB2.out.size hz)
      have HT3 := Lib.hid (HT2.out.below hb3)
      clear hr hb3 hz
      go_wp2_with fail
      refine (Rec_any HR.out HN.out HT3.out).mono ?_
      rintro e w4 ⟨x, ys, rfl, hown, hall, hrd, hkp⟩
      rw [HQ1.out] at hall hrd
      have hx0 : x.n = 0 := by
        have h1 := hall.len
        obtain ⟨A9, c9, e9⟩ := hown.form
        injection e9 with _ e9 _
        rw [e9, h1]; rfl
      have HB4 : Hid (Below w.heap.size w w4) := Lib.hid (HB3.out.trans (hkp.below HB3.out.size (fun k o hk' e => by have : k = b := e; have := HZ.out; omega)))
      have HRD := Lib.hid hrd
      clear hown hall hrd hkp
      go_wp2_with fail
      refine (Err_any HRD.out).mono ?_
      rintro e w5 ⟨rfl, m, rfl⟩
      obtain ⟨xa, xn, xc⟩ := x
      dsimp only at hx0
      subst hx0
      go_wp2
      rw [HQ.out]
      exact ⟨rfl, below_drewN HB4.out m⟩
end Go.Proofs.YtkdhjejchdcipaaDoor
/-
  Layer 6: the listed table, read off a row's condition; a start that meets it; an argument that is a slice of bytes.
-/
namespace Go.Proofs.YtkdhjejchdcipaaDoor
open Go.RowKit Go.ChangeShapes Go.WideShapes Go.ChangeAt
set_option linter.unusedVariables false
set_option maxRecDepth 100000

def laidTab6 : List (String × DataW Unit) := [("geode/tbin.heapKinds", Rows.laid_geode_tbin_heapKinds)]
theorem gHK : Tryd.prog.globalNamed "geode/tbin.heapKinds" = some 1 := by kernel_rfl
theorem tHK : (Tryd.prog.globals[1]?).map (·.type) = some 181 := by kernel_rfl
theorem c1HK : Tryd.prog.cellsOf 37 = 1 := by kernel_rfl
theorem c12HK : Tryd.prog.cellsOf 181 = 12 := by kernel_rfl
theorem laid6_eq : laidTab6 = [("geode/tbin.heapKinds", Lib.tabData .i64 Tb.kinds)] := rfl
theorem tab6_of_laid {W : World} (h : laidMetH Tryd.prog laidTab6 W) : Tab6 W := by
  rw [MakeChecks.laidMetH_plain _ _ _ (by kernel_rfl)] at h
  rw [laid6_eq] at h
  have hT := Lib.tabIs_of_head gHK tHK Tryd.underlying181 Tryd.underlying37 c1HK c12HK h
  intro j hj
  exact hT.cell gHK j hj
theorem door6_met (os : Os) (args : Array Value) : laidMetH Tryd.prog laidTab6 ((World.doorLaid Tryd.prog 400 os).forCall (fun _ _ => 0) ⟨#[], args, []⟩).memory :=
  laidMetH_of_parts3 (fuel := 8) (laidMet_of_run' 8 (by kernel_rfl) (by kernel_rfl)) (by kernel_rfl) (by kernel_rfl)
theorem laidOut6 : laidOutB Tryd.prog = true := by kernel_rfl
section
variable {H : Type} {enc : TypeId × Value → H} {w : World} {base : Nat} {held : Bool}
/-- An argument that is a slice of bytes. -/
theorem open_bytes {r : Reach} {b0 : Nat} {v : Value} {d : DataW H} {p : List MemPlace} (hv : Value.okWide Tryd.prog w r b0 54 v) (h : DataW.Trod enc Tryd.prog w base (fun _ => true) held 54 v d p) :
    ∃ (A : Option Addr) (n c : Nat) (l : List Nat), v = .slice A n c ∧ Bytes w w.heap.size A n c l := by
  obtain ⟨a, len, cap, rfl⟩ := okWide_slice Tryd.underlying54 hv
  obtain ⟨fuel, hf⟩ := h
  rcases open_ints Tryd.underlying54 Tryd.underlying5 (by kernel_rfl) hf with ⟨hcs, _⟩ | ⟨x, l, c, zs, hcs, _, hl, hm, hz, _, hcell, hwz⟩
  · simp [Value.cells] at hcs
    obtain ⟨rfl, rfl, rfl⟩ := hcs
    exact ⟨none, 0, 0, [], rfl, Bytes.none_ w _⟩
  · simp [Value.cells] at hcs
    obtain ⟨rfl, rfl, rfl⟩ := hcs
    exact ⟨_, _, _, _, rfl, bytes_of_row w _ _ _ zs (.inr ⟨_, rfl, hl, hm, by simpa using hz, hcell, hwz⟩)⟩
end
end Go.Proofs.YtkdhjejchdcipaaDoor

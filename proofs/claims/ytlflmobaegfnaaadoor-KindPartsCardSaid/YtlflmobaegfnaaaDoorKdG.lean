/-
  Layer 4, code: 'texts' at the three element types.
-/
import Derived.Test.YtlflmobaegfnaaaDoorKdA
import Derived.Test.YtlflmobaegfnaaaDoorKdF
import Derived.Test.YtlflmobaegfnaaaDoorKitG
namespace Go.Proofs.YtlflmobaegfnaaaDoor
open Go.RowKit
set_option linter.unusedVariables false
set_option maxRecDepth 100000
theorem fill_next {α : Type} (T : α → List UInt8) (l : List α) (k : Nat) (h : k < l.length) : ((l.take k).map T ++ List.replicate (l.length - k) []).set k (T l[k]) = (l.take (k + 1)).map T ++ List.replicate (l.length - (k + 1)) [] := by
  have e : (l.take k).length = k := by rw [List.length_take]; omega
  rw [List.set_append_right _ _ (by rw [List.length_map, e]; exact Nat.le_refl _), List.length_map, e, Nat.sub_self, show l.length - k = (l.length - (k + 1)) + 1 by omega, List.replicate_succ, List.set_cons_zero,
    List.take_succ_eq_append_getElem h, List.map_append, List.append_assoc]
  rfl

theorem tx_h (l : List Hp) (A : Option Addr) (c : Nat) (w : World) (hT : Tabs w) (hl : l.length ≤ 100) (hp : ∀ x ∈ l, Kd.pHeap x = true) (hs : Seg 2 Hp.cs w w.heap.size A c l) :
    Calls Tryd.prog 63 #[.slice A l.length c, .func (.func 64) #[] #[]] w fun e w' => (∃ v, e = .returned v ∧ OwnG 9 1 Sx w.heap.size w' v (l.map Kd.hT)) ∧ Below w.heap.size w w' := by
  obtain ⟨Q, hQ⟩ : ∃ Q : Ending → World → Prop, Q = (fun e w' => (∃ v, e = .returned v ∧ OwnG 9 1 Sx w.heap.size w' v (l.map Kd.hT)) ∧ Below w.heap.size w w') := ⟨_, rfl⟩
  rw [← hQ]
  have hQ' := Lib.hid hQ
  clear hQ
  obtain ⟨w2, hrun, hown, hgrow⟩ := run_make_strs w w.heap.size l.length (by omega) (Nat.le_refl _)
  have hb2 : Below w.heap.size w w2 := grownNone hgrow (Nat.le_refl _) (Below.refl _ _)
  have HP := Lib.hid hp
  have HT := Lib.hid hT
  have HS := Lib.hid hs
  clear hp hT hs hgrow
  go_enter Tryd.func63, Tryd.ntmps63
  go_wp2
  clear hrun
  go_loopw [6, 7, 13] (fun _ _ i wr => ∃ k : Nat, k ≤ l.length ∧ i = .int .i64 k ∧ Below w.heap.size w wr ∧ OwnG 9 1 Sx w.heap.size wr (.slice (some ⟨w.heap.size, 0, none⟩) l.length l.length) ((l.take k).map Kd.hT ++ List.replicate (l.length - k) [])) (fun _ _ i _ => l.length - (intOf i).toNat)
  case atStart => exact ⟨0, Nat.zero_le _, rfl, hb2, by simpa using hown⟩
  case round =>
    obtain ⟨k, hk, rfl, hB, hown⟩ := hrel
    have HO := Lib.hid hown
    clear hown
    by_cases hlt : k < l.length
    · obtain ⟨b, off, rfl, hb, hc⟩ := HS.out.2.2 (by omega)
      have g0 := (hB.cell (p := ⟨b, off + k * 2 + 0, none⟩) hb).trans (hc k hlt 0 _ rfl)
      have g1 := (hB.cell (p := ⟨b, off + k * 2 + 1, none⟩) hb).trans (hc k hlt 1 _ rfl)
      simp only [Nat.add_zero] at g0
      clear hc HS
      obtain ⟨x, hx⟩ : ∃ x, x = l[k] := ⟨_, rfl⟩
      rw [← hx] at g0 g1
      have hpx := Lib.hid (HP.out l[k] (List.getElem_mem hlt))
      rw [← hx] at hpx
      have hx' := Lib.hid hx
      clear hx
      have hB' := Lib.hid hB
      have HC : Hid (∀ W, Tabs W → Calls Tryd.prog 64 #[x.val] W fun e w' => e = .returned (Str (Kd.hT x)) ∧ Below W.heap.size W w') := Lib.hid fun W hW => hT_any x (Kd.okH_of hpx.out) W hW
      have hTr := Lib.hid (HT.out.below hB)
      have hz : w.heap.size < wr.heap.size := (HO.out.openS).2.2.1
      go_wp2_with fail
      refine (HC.out _ (hTr.out.below ((Below.refl _ _).alloc (Nat.le_refl _) _))).mono ?_
      rintro e w1 ⟨rfl, hb1⟩
      have hbw : Below wr.heap.size wr w1 := below_trans ((Below.refl _ _).alloc (Nat.le_refl _) _) hb1
      obtain ⟨-, -, hz1, hcell, hfro, hset⟩ := (HO.out.below hbw).openS
      have hck := hcell k (by simp; omega)
      have hfk := hfro k
      have HS1 := Lib.hid (hset k (Kd.hT x))
      have HB1 := Lib.hid (below_trans2 hB hbw)
      clear hcell hfro hset HO hbw
      go_wp2
      go_roundw
      case rel =>
        refine ⟨k + 1, by omega, by go_num, HB1.out.setCell (Nat.le_refl _) _, ?_⟩
        have h := HS1.out
        rw [hx'.out, fill_next Kd.hT l k hlt] at h
        rw [hx'.out]
        exact h
      case measure => simp [intOf]; omega
    · have hkn : k = l.length := by omega
      clear HS
      go_wp2
      rw [hQ'.out]
      refine ⟨⟨_, rfl, ?_⟩, hB⟩
      have h := HO.out
      rw [hkn] at h
      simpa using h

theorem tx_v (l : List Vl) (A : Option Addr) (c : Nat) (w : World) (hT : Tabs w) (hl : l.length ≤ 100) (hp : ∀ x ∈ l, Kd.pVal x = true) (hs : Seg 4 Vl.cs w w.heap.size A c l) :
    Calls Tryd.prog 99 #[.slice A l.length c, .func (.func 40) #[] #[]] w fun e w' => (∃ v, e = .returned v ∧ OwnG 9 1 Sx w.heap.size w' v (l.map Kd.vT)) ∧ Below w.heap.size w w' := by
  obtain ⟨Q, hQ⟩ : ∃ Q : Ending → World → Prop, Q = (fun e w' => (∃ v, e = .returned v ∧ OwnG 9 1 Sx w.heap.size w' v (l.map Kd.vT)) ∧ Below w.heap.size w w') := ⟨_, rfl⟩
  rw [← hQ]
  have hQ' := Lib.hid hQ
  clear hQ
  obtain ⟨w2, hrun, hown, hgrow⟩ := run_make_strs w w.heap.size l.length (by omega) (Nat.le_refl _)
  have hb2 : Below w.heap.size w w2 := grownNone hgrow (Nat.le_refl _) (Below.refl _ _)
  have HP := Lib.hid hp
  have HT := Lib.hid hT
  have HS := Lib.hid hs
  clear hp hT hs hgrow
  go_enter Tryd.func99, Tryd.ntmps99
  go_wp2
  clear hrun
  go_loopw [6, 7, 13] (fun _ _ i wr => ∃ k : Nat, k ≤ l.length ∧ i = .int .i64 k ∧ Below w.heap.size w wr ∧ OwnG 9 1 Sx w.heap.size wr (.slice (some ⟨w.heap.size, 0, none⟩) l.length l.length) ((l.take k).map Kd.vT ++ List.replicate (l.length - k) [])) (fun _ _ i _ => l.length - (intOf i).toNat)
  case atStart => exact ⟨0, Nat.zero_le _, rfl, hb2, by simpa using hown⟩
  case round =>
    obtain ⟨k, hk, rfl, hB, hown⟩ := hrel
    have HO := Lib.hid hown
    clear hown
    by_cases hlt : k < l.length
    · obtain ⟨b, off, rfl, hb, hc⟩ := HS.out.2.2 (by omega)
      have g0 := (hB.cell (p := ⟨b, off + k * 4 + 0, none⟩) hb).trans (hc k hlt 0 _ rfl)
      have g1 := (hB.cell (p := ⟨b, off + k * 4 + 1, none⟩) hb).trans (hc k hlt 1 _ rfl)
      have g2 := (hB.cell (p := ⟨b, off + k * 4 + 2, none⟩) hb).trans (hc k hlt 2 _ rfl)
      have g3 := (hB.cell (p := ⟨b, off + k * 4 + 3, none⟩) hb).trans (hc k hlt 3 _ rfl)
      simp only [Nat.add_zero] at g0
      clear hc HS
      obtain ⟨x, hx⟩ : ∃ x, x = l[k] := ⟨_, rfl⟩
      rw [← hx] at g0 g1 g2 g3
      have hpx := Lib.hid (HP.out l[k] (List.getElem_mem hlt))
      rw [← hx] at hpx
      have hx' := Lib.hid hx
      clear hx
      have hB' := Lib.hid hB
      have HC : Hid (∀ W, Tabs W → Calls Tryd.prog 40 #[x.val] W fun e w' => e = .returned (Str (Kd.vT x)) ∧ Below W.heap.size W w') := Lib.hid fun W hW => vT_any x hpx.out W hW
      have hTr := Lib.hid (HT.out.below hB)
      have hz : w.heap.size < wr.heap.size := (HO.out.openS).2.2.1
      go_wp2_with fail
      refine (HC.out _ (hTr.out.below ((Below.refl _ _).alloc (Nat.le_refl _) _))).mono ?_
      rintro e w1 ⟨rfl, hb1⟩
      have hbw : Below wr.heap.size wr w1 := below_trans ((Below.refl _ _).alloc (Nat.le_refl _) _) hb1
      obtain ⟨-, -, hz1, hcell, hfro, hset⟩ := (HO.out.below hbw).openS
      have hck := hcell k (by simp; omega)
      have hfk := hfro k
      have HS1 := Lib.hid (hset k (Kd.vT x))
      have HB1 := Lib.hid (below_trans2 hB hbw)
      clear hcell hfro hset HO hbw
      go_wp2
      go_roundw
      case rel =>
        refine ⟨k + 1, by omega, by go_num, HB1.out.setCell (Nat.le_refl _) _, ?_⟩
        have h := HS1.out
        rw [hx'.out, fill_next Kd.vT l k hlt] at h
        rw [hx'.out]
        exact h
      case measure => simp [intOf]; omega
    · have hkn : k = l.length := by omega
      clear HS
      go_wp2
      rw [hQ'.out]
      refine ⟨⟨_, rfl, ?_⟩, hB⟩
      have h := HO.out
      rw [hkn] at h
      simpa using h

theorem tx_f (l : List Fd) (A : Option Addr) (c : Nat) (w : World) (hT : Tabs w) (hl : l.length ≤ 100) (hp : ∀ x ∈ l, Kd.pField x = true) (hs : Seg 6 Fd.cs w w.heap.size A c l) :
    Calls Tryd.prog 83 #[.slice A l.length c, .func (.func 84) #[] #[]] w fun e w' => (∃ v, e = .returned v ∧ OwnG 9 1 Sx w.heap.size w' v (l.map Kd.fT)) ∧ Below w.heap.size w w' := by
  obtain ⟨Q, hQ⟩ : ∃ Q : Ending → World → Prop, Q = (fun e w' => (∃ v, e = .returned v ∧ OwnG 9 1 Sx w.heap.size w' v (l.map Kd.fT)) ∧ Below w.heap.size w w') := ⟨_, rfl⟩
  rw [← hQ]
  have hQ' := Lib.hid hQ
  clear hQ
  obtain ⟨w2, hrun, hown, hgrow⟩ := run_make_strs w w.heap.size l.length (by omega) (Nat.le_refl _)
  have hb2 : Below w.heap.size w w2 := grownNone hgrow (Nat.le_refl _) (Below.refl _ _)
  have HP := Lib.hid hp
  have HT := Lib.hid hT
  have HS := Lib.hid hs
  clear hp hT hs hgrow
  go_enter Tryd.func83, Tryd.ntmps83
  go_wp2
  clear hrun
  go_loopw [6, 7, 13] (fun _ _ i wr => ∃ k : Nat, k ≤ l.length ∧ i = .int .i64 k ∧ Below w.heap.size w wr ∧ OwnG 9 1 Sx w.heap.size wr (.slice (some ⟨w.heap.size, 0, none⟩) l.length l.length) ((l.take k).map Kd.fT ++ List.replicate (l.length - k) [])) (fun _ _ i _ => l.length - (intOf i).toNat)
  case atStart => exact ⟨0, Nat.zero_le _, rfl, hb2, by simpa using hown⟩
  case round =>
    obtain ⟨k, hk, rfl, hB, hown⟩ := hrel
    have HO := Lib.hid hown
    clear hown
    by_cases hlt : k < l.length
    · obtain ⟨b, off, rfl, hb, hc⟩ := HS.out.2.2 (by omega)
      have g0 := (hB.cell (p := ⟨b, off + k * 6 + 0, none⟩) hb).trans (hc k hlt 0 _ rfl)
      have g1 := (hB.cell (p := ⟨b, off + k * 6 + 1, none⟩) hb).trans (hc k hlt 1 _ rfl)
      have g2 := (hB.cell (p := ⟨b, off + k * 6 + 2, none⟩) hb).trans (hc k hlt 2 _ rfl)
      have g3 := (hB.cell (p := ⟨b, off + k * 6 + 3, none⟩) hb).trans (hc k hlt 3 _ rfl)
      have g4 := (hB.cell (p := ⟨b, off + k * 6 + 4, none⟩) hb).trans (hc k hlt 4 _ rfl)
      have g5 := (hB.cell (p := ⟨b, off + k * 6 + 5, none⟩) hb).trans (hc k hlt 5 _ rfl)
      simp only [Nat.add_zero] at g0
      clear hc HS
      obtain ⟨x, hx⟩ : ∃ x, x = l[k] := ⟨_, rfl⟩
      rw [← hx] at g0 g1 g2 g3 g4 g5
      have hpx := Lib.hid (HP.out l[k] (List.getElem_mem hlt))
      rw [← hx] at hpx
      have hx' := Lib.hid hx
      clear hx
      have hB' := Lib.hid hB
      have HC : Hid (∀ W, Tabs W → Calls Tryd.prog 84 #[x.val] W fun e w' => e = .returned (Str (Kd.fT x)) ∧ Below W.heap.size W w') := Lib.hid fun W hW => fT_any x hpx.out W hW
      have hTr := Lib.hid (HT.out.below hB)
      have hz : w.heap.size < wr.heap.size := (HO.out.openS).2.2.1
      go_wp2_with fail
      refine (HC.out _ (hTr.out.below ((Below.refl _ _).alloc (Nat.le_refl _) _))).mono ?_
      rintro e w1 ⟨rfl, hb1⟩
      have hbw : Below wr.heap.size wr w1 := below_trans ((Below.refl _ _).alloc (Nat.le_refl _) _) hb1
      obtain ⟨-, -, hz1, hcell, hfro, hset⟩ := (HO.out.below hbw).openS
      have hck := hcell k (by simp; omega)
      have hfk := hfro k
      have HS1 := Lib.hid (hset k (Kd.fT x))
      have HB1 := Lib.hid (below_trans2 hB hbw)
      clear hcell hfro hset HO hbw
      go_wp2
      go_roundw
      case rel =>
        refine ⟨k + 1, by omega, by go_num, HB1.out.setCell (Nat.le_refl _) _, ?_⟩
        have h := HS1.out
        rw [hx'.out, fill_next Kd.fT l k hlt] at h
        rw [hx'.out]
        exact h
      case measure => simp [intOf]; omega
    · have hkn : k = l.length := by omega
      clear HS
      go_wp2
      rw [hQ'.out]
      refine ⟨⟨_, rfl, ?_⟩, hB⟩
      have h := HO.out
      rw [hkn] at h
      simpa using h
end Go.Proofs.YtlflmobaegfnaaaDoor

/-
  The document's own Put, and what the statements ask first ('known').
-/
import Derived.Test.YtkpobcomaocfpaaNmE
import Derived.Deep.RegionWith
namespace Go.Proofs.Ytkpobcomaocfpaa
open Go.RowKit
set_option linter.unusedVariables false

set_option maxHeartbeats 1000000 in
theorem refPut_any (s : ByteArray) (w : World) (hs : s.size ≤ maxLen) :
    Calls Try.prog 15 #[.string s] w (PutTold (putName (bs s)) w) := by
  have HS := Lib.hid hs
  unfold maxLen at hs
  have HL := Lib.hid (bs_len s)
  obtain ⟨r, hr⟩ : ∃ r, putName (bs s) = r := ⟨_, rfl⟩
  rw [hr]
  unfold putName at hr
  rw [HL.out] at hr
  by_cases hw : Nm.well (bs s) = false
  · rw [if_pos hw] at hr
    have HR := Lib.hid hr
    have hw2 : Nm.cnt (bs s) < 0 := by simpa [Nm.well] using hw
    clear hr hw
    go_enter Try.func15, Try.ntmps15
    go_wp2_with fail
    refine (refCount_any _ _ HS.out).mono ?_
    rintro e w1 ⟨rfl, hb1⟩
    go_wp2_with fail
    go_ret2
    rw [← HR.out]
    exact ⟨none, 0, rfl, Own.nil _ _, hb1⟩
  · rw [if_neg hw] at hr
    have hw2 : ¬ Nm.cnt (bs s) < 0 := by simpa [Nm.well] using hw
    clear hw
    by_cases hl : 100000 < s.size
    · rw [if_pos hl] at hr
      have HR := Lib.hid hr
      have hl2 : (100000 : Int) < (s.size : Int) := by omega
      clear hr hl
      go_enter Try.func15, Try.ntmps15
      go_wp2_with fail
      refine (refCount_any _ _ HS.out).mono ?_
      rintro e w1 ⟨rfl, hb1⟩
      go_wp2_with fail
      go_ret2
      rw [← HR.out]
      exact ⟨none, 0, rfl, Own.nil _ _, hb1⟩
    · rw [if_neg hl] at hr
      have HR := Lib.hid hr
      have hl2 : (s.size : Int) ≤ 100000 := by omega
      have HP := Lib.hid (Leb.putU_len10 s.size (by omega))
      have HLE : Hid (s.size ≤ 100000) := by rw [Hid]; omega
      clear hr hl hs
      go_enter Try.func15, Try.ntmps15
      go_wp2_with fail
      refine (refCount_any _ _ HS.out).mono ?_
      rintro e w1 ⟨rfl, hb1⟩
      go_wp2_with fail
      refine (refU_any s.size _ (by have := HLE.out; omega)).mono ?_
      rintro e w2 ⟨v2, rfl, ho2, hb2⟩
      have hb12 := below_trans hb1 hb2
      obtain ⟨c5, hc5, hy5⟩ := run_bytes w2 s (by have := HLE.out; omega)
      have hbw := bytesWorld_below w2 s
      have hb13 := below_trans hb12 hbw
      have ho3 := ho2.below hbw
      go_wp2_with (at_builtin; refine cat_slice rfl (.tmp 13) (.tmp 15) rfl (Lib.bytesWorld w2 5 s) (bs s) s.size rfl rfl ho3 hy5 (Nat.le_trans hb2.size hbw.size) ((Leb.putU s.size).length + s.size) (by have := HP.out; have := HLE.out; omega) rfl ?_; intro A3 c3 w3 ho4 hg3)
      go_ret2
      have e : (Leb.putU s.size ++ bs s).length = (Leb.putU s.size).length + s.size := by rw [List.length_append, HL.out]
      rw [← HR.out]
      refine ⟨A3, c3, by rw [e]; rfl, ?_, ho3.grown hg3 hb1.size hb13.size hb13⟩
      rw [e]
      exact ho4.base hb1.size

theorem Read_lit (l : List Nat) (hl : ∀ x ∈ l, x < 256) (hm : l.length < 1000000) (r : List Nat × Nat × Nat) (hr : readName l 0 = r) (w : World) :
    Calls Try.prog 9 #[.slice (some ⟨w.heap.size, 0, none⟩) l.length l.length, .int .i64 0] (w.alloc (.cells (l.map U8).toArray 5)) fun e w' =>
      e = .returned (.tuple #[.string (str r.1), .int .i64 r.2.1, .int .i64 r.2.2]) ∧ Below w.heap.size w w' := by
  refine (Read_any _ _ _ l _ 0 _ (bytes_new w l hl hm)).mono ?_
  rintro e w' ⟨rfl, hb⟩
  rw [hr]
  exact ⟨rfl, ((Below.refl _ _).alloc (Nat.le_refl _) _).trans (hb.mono (by simp))⟩
theorem Well_lit (s : ByteArray) (b : Bool) (hs : s.size ≤ 100) (hb : Nm.well (bs s) = b) (w : World) :
    Calls Try.prog 11 #[.string s] w fun e w' => e = .returned (.bool b) ∧ Below w.heap.size w w' := by
  have := Well_any s w (by simp only [maxLen]; omega)
  rw [hb] at this
  exact this
theorem cnt_one {l : List Nat} (h0 : Nm.one l ≠ 0) (ht : l.drop (Nm.one l) = []) : Nm.cnt l = 1 := by
  rw [Nm.cnt_step h0, ht, Nm.cnt_nil]; rfl
theorem well_lit1 {l : List Nat} (h0 : Nm.one l ≠ 0) (ht : l.drop (Nm.one l) = []) : Nm.well l = true := by
  unfold Nm.well; rw [cnt_one h0 ht]; rfl
theorem readName_1 : readName [2, 195, 169] 0 = ([195, 169], 3, 0) := by
  have hT : told false [2, 195, 169] 0 32 = (2, 1, 0) := by decide +kernel
  unfold readName
  rw [hT, if_neg (by decide), if_neg (by decide), if_pos (well_lit1 (by decide +kernel) (by decide +kernel))]
  rfl
theorem readName_2 : readName [3, 195, 169] 0 = ([], 0, 10) := by
  have hT : told false [3, 195, 169] 0 32 = (3, 1, 0) := by decide +kernel
  unfold readName
  rw [hT, if_neg (by decide), if_pos (by decide)]
theorem readName_3 : readName [1, 195] 0 = ([], 0, 20) := by
  have hT : told false [1, 195] 0 32 = (1, 1, 0) := by decide +kernel
  have hw : Nm.well ((List.drop 1 [1, 195]).take 1) = false := Nm.well_bad (by decide) (by decide +kernel)
  unfold readName
  rw [hT, if_neg (by decide), if_neg (by decide), if_neg (by rw [hw]; decide)]
theorem Count_lit (w : World) : Calls Try.prog 13 #[.string (str [195, 169])] w fun e w' => e = .returned (.int .i64 1) ∧ Below w.heap.size w w' := by
  have := Count_any (str [195, 169]) w (by decide)
  rw [bs_str _ (by decide), cnt_one (by decide +kernel) (by decide +kernel)] at this
  exact this
theorem known2_any (w : World) : Calls Try.prog 8 #[] w fun e w' => e = .returned (.bool true) ∧ Below w.heap.size w w' := by
  go_enter Try.func8, Try.ntmps8
  go_wp2_with fail
  refine (Read_lit [2, 195, 169] (by decide) (by decide) ([195, 169], 3, 0) readName_1 _).mono ?_
  rintro e w1 ⟨rfl, hb1⟩
  go_wp2_with fail
  refine (Read_lit [3, 195, 169] (by decide) (by decide) ([], 0, 10) readName_2 _).mono ?_
  rintro e w2 ⟨rfl, hb2⟩
  go_wp2_with fail
  refine (Read_lit [1, 195] (by decide) (by decide) ([], 0, 20) readName_3 _).mono ?_
  rintro e w3 ⟨rfl, hb3⟩
  go_wp2_with fail
  refine (Count_lit _).mono ?_
  rintro e w4 ⟨rfl, hb4⟩
  go_wp2_with fail
  refine (Well_lit ⟨#[240, 159, 152, 128]⟩ true (by decide) (well_lit1 (by decide +kernel) (by decide +kernel)) _).mono ?_
  rintro e w5 ⟨rfl, hb5⟩
  go_wp2_with fail
  refine (Well_lit ⟨#[237, 160, 128]⟩ false (by decide) (Nm.well_bad (by decide) (by decide +kernel)) _).mono ?_
  rintro e w6 ⟨rfl, hb6⟩
  go_wp2_with fail
  refine (Well_lit ⟨#[192, 128]⟩ false (by decide) (Nm.well_bad (by decide) (by decide +kernel)) _).mono ?_
  rintro e w7 ⟨rfl, hb7⟩
  go_wp2_with fail
  refine (Well_lit ⟨#[244, 144, 128, 128]⟩ false (by decide) (Nm.well_bad (by decide) (by decide +kernel)) _).mono ?_
  rintro e w8 ⟨rfl, hb8⟩
  go_wp2
  go_ret
  exact ⟨rfl, below_trans (below_trans (below_trans (below_trans (below_trans (below_trans (below_trans hb1 hb2) hb3) hb4) hb5) hb6) hb7) hb8⟩
end Go.Proofs.Ytkpobcomaocfpaa

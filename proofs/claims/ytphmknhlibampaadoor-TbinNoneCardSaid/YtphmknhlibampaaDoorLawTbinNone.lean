/-
  geodelaw06.TbinNone: the walk.
-/
import Derived.Test.YtphmknhlibampaaDoorTbR
import Derived.Test.YtphmknhlibampaaDoorTbS
namespace Go.Proofs.YtphmknhlibampaaDoor
open Go.RowKit
set_option linter.unusedVariables false
set_option linter.unusedSimpArgs false
set_option maxRecDepth 100000

set_option maxHeartbeats 8000000 in
theorem TbinNone_walk (w : World) (hT : Tab6 w) (n : Int) (wn : (Lit.int .i64 n).wf = true) (e : Int) (we : (Lit.int .i64 e).wf = true) : Calls Tryd.prog 4 #[.int .i64 n, .int .i64 e] w fun e w' => e = .returned (.bool true) ∧ Below w.heap.size w w' := by
  obtain ⟨Q, hQ⟩ : ∃ Q : Ending → World → Prop, Q = (fun e w' => e = .returned (.bool true) ∧ Below w.heap.size w w') := ⟨_, rfl⟩
  rw [← hQ]
  have HQ := Lib.hid hQ
  have HT := Lib.hid hT
  obtain ⟨W0, hW0⟩ : ∃ W0, W0 = (w.alloc (.cells #[.slice none 0 0, .bool false, .int .i64 0, .int .i64 0, .int .i64 0] 61)).alloc (.cells #[.pointer none, .pointer (some ⟨w.heap.size, 0, none⟩)] 62) := ⟨_, rfl⟩
  have HW0 := Lib.hid hW0
  have HB0 : Hid (Below w.heap.size w W0) := Lib.hid (by rw [hW0]; exact ((Below.refl _ _).alloc (Nat.le_refl _) _).alloc (by simp) _)
  have HX : Hid (∀ y, Below W0.heap.size W0 y → y.cell? ⟨w.heap.size + 1, 0, none⟩ = some (.pointer none) ∧ y.cell? ⟨w.heap.size + 1, 1, none⟩ = some (.pointer (some ⟨w.heap.size, 0, none⟩))) := Lib.hid fun y hb =>
    ⟨(hb.cell (p := ⟨w.heap.size + 1, 0, none⟩) (by rw [hW0]; simp)).trans (by rw [hW0]; go_simp), (hb.cell (p := ⟨w.heap.size + 1, 1, none⟩) (by rw [hW0]; simp)).trans (by rw [hW0]; go_simp)⟩
  have DN : Hid (∀ y, Dead y (.pointer none)) := Lib.hid fun y => .inl rfl
  have DB : Hid (∀ y, Below W0.heap.size W0 y → Dead y (.pointer (some ⟨w.heap.size, 0, none⟩))) := Lib.hid fun y hb => .inr ⟨_, rfl, (hb.cell (p := ⟨w.heap.size, 1, none⟩) (by rw [hW0]; simp; omega)).trans (by rw [hW0]; go_simp)⟩
  have hB : Hid (Below W0.heap.size W0 W0) := Lib.hid (Below.refl _ _)
  have p := HX.out _ hB.out
  obtain ⟨p0, p1⟩ := p
  clear hQ hT hW0 wn we
  go_enter Tryd.func4, Tryd.ntmps4
  go_wp2_with fail
  rw [← HW0.out]
  go_loopw [7] (fun i wr => ∃ k : Nat, k ≤ 2 ∧ i = .int .i64 (k : Int) ∧ Below W0.heap.size W0 wr) (fun i _ => 2 - (intOf i).toNat)
  case atStart => exact ⟨0, by omega, rfl, hB.out⟩
  case round =>
    obtain ⟨k, hk, rfl, hb⟩ := hrel
    have hB := Lib.hid hb
    have p := HX.out _ hb
    obtain ⟨p0, p1⟩ := p
    clear hb
    have hk3 : k = 0 ∨ k = 1 ∨ k = 2 := by omega
    rcases hk3 with rfl | rfl | rfl
    · go_wp2_with (first
          | (go_at_call 32; (with_reducible refine (Fail_dead (DN.out _) _ _).mono ?_); rintro e y ⟨rfl, hb⟩; have hB := Lib.hid (below_trans hB.out hb); clear hb)
          | (go_at_call 10; (with_reducible refine (Byte_dead (DN.out _)).mono ?_); rintro e y ⟨rfl, hb⟩; have hB := Lib.hid (below_trans hB.out hb); clear hb)
          | (go_at_call 12; (with_reducible refine (U_dead (DN.out _) _).mono ?_); rintro e y ⟨rfl, hb⟩; have hB := Lib.hid (below_trans hB.out hb); clear hb)
          | (go_at_call 14; (with_reducible refine (S_dead (DN.out _) _).mono ?_); rintro e y ⟨rfl, hb⟩; have hB := Lib.hid (below_trans hB.out hb); clear hb)
          | (go_at_call 16; (with_reducible refine (Name_dead (DN.out _)).mono ?_); rintro e y ⟨rfl, hb⟩; have hB := Lib.hid (below_trans hB.out hb); clear hb)
          | (go_at_call 18; (with_reducible refine (Count_dead (DN.out _)).mono ?_); rintro e y ⟨rfl, hb⟩; have hB := Lib.hid (below_trans hB.out hb); clear hb)
          | (go_at_call 20; (with_reducible refine (Take_dead (DN.out _) _).mono ?_); rintro e y ⟨rfl, hb⟩; have hB := Lib.hid (below_trans hB.out hb); clear hb)
          | (go_at_call 22; (with_reducible refine (Heap_dead (DN.out _)).mono ?_); rintro e y ⟨rfl, hb⟩; have hB := Lib.hid (below_trans hB.out hb); clear hb)
          | (go_at_call 24; (with_reducible refine (Val_dead (DN.out _)).mono ?_); rintro e y ⟨rfl, hb⟩; have hB := Lib.hid (below_trans hB.out hb); clear hb)
          | (go_at_call 27; (with_reducible refine (Vals_dead (DN.out _)).mono ?_); rintro e y ⟨rfl, hb⟩; have hB := Lib.hid (below_trans hB.out hb); clear hb)
          | (go_at_call 30; (with_reducible refine (Rec_dead (DN.out _)).mono ?_); rintro e y ⟨rfl, hb⟩; have hB := Lib.hid (below_trans hB.out hb); clear hb)
          | (go_at_call 35; (with_reducible refine (At_dead (DN.out _)).mono ?_); rintro e y ⟨rfl, hb⟩; have hB := Lib.hid (below_trans hB.out hb); clear hb)
          | (go_at_call 36; (with_reducible refine (Left_dead (DN.out _)).mono ?_); rintro e y ⟨rfl, hb⟩; have hB := Lib.hid (below_trans hB.out hb); clear hb)
          | (go_at_call 34; (with_reducible refine (Err_dead (DN.out _)).mono ?_); rintro e y ⟨rfl, hb⟩; have hB := Lib.hid (below_trans hB.out hb); clear hb))
      go_roundw
      case rel => exact ⟨1, by omega, by go_num, hB.out⟩
      case measure => simp [intOf]
    · go_wp2_with (first
          | (go_at_call 32; (with_reducible refine (Fail_dead (DB.out _ hB.out) _ _).mono ?_); rintro e y ⟨rfl, hb⟩; have hB := Lib.hid (below_trans hB.out hb); clear hb)
          | (go_at_call 10; (with_reducible refine (Byte_dead (DB.out _ hB.out)).mono ?_); rintro e y ⟨rfl, hb⟩; have hB := Lib.hid (below_trans hB.out hb); clear hb)
          | (go_at_call 12; (with_reducible refine (U_dead (DB.out _ hB.out) _).mono ?_); rintro e y ⟨rfl, hb⟩; have hB := Lib.hid (below_trans hB.out hb); clear hb)
          | (go_at_call 14; (with_reducible refine (S_dead (DB.out _ hB.out) _).mono ?_); rintro e y ⟨rfl, hb⟩; have hB := Lib.hid (below_trans hB.out hb); clear hb)
          | (go_at_call 16; (with_reducible refine (Name_dead (DB.out _ hB.out)).mono ?_); rintro e y ⟨rfl, hb⟩; have hB := Lib.hid (below_trans hB.out hb); clear hb)
          | (go_at_call 18; (with_reducible refine (Count_dead (DB.out _ hB.out)).mono ?_); rintro e y ⟨rfl, hb⟩; have hB := Lib.hid (below_trans hB.out hb); clear hb)
          | (go_at_call 20; (with_reducible refine (Take_dead (DB.out _ hB.out) _).mono ?_); rintro e y ⟨rfl, hb⟩; have hB := Lib.hid (below_trans hB.out hb); clear hb)
          | (go_at_call 22; (with_reducible refine (Heap_dead (DB.out _ hB.out)).mono ?_); rintro e y ⟨rfl, hb⟩; have hB := Lib.hid (below_trans hB.out hb); clear hb)
          | (go_at_call 24; (with_reducible refine (Val_dead (DB.out _ hB.out)).mono ?_); rintro e y ⟨rfl, hb⟩; have hB := Lib.hid (below_trans hB.out hb); clear hb)
          | (go_at_call 27; (with_reducible refine (Vals_dead (DB.out _ hB.out)).mono ?_); rintro e y ⟨rfl, hb⟩; have hB := Lib.hid (below_trans hB.out hb); clear hb)
          | (go_at_call 30; (with_reducible refine (Rec_dead (DB.out _ hB.out)).mono ?_); rintro e y ⟨rfl, hb⟩; have hB := Lib.hid (below_trans hB.out hb); clear hb)
          | (go_at_call 35; (with_reducible refine (At_dead (DB.out _ hB.out)).mono ?_); rintro e y ⟨rfl, hb⟩; have hB := Lib.hid (below_trans hB.out hb); clear hb)
          | (go_at_call 36; (with_reducible refine (Left_dead (DB.out _ hB.out)).mono ?_); rintro e y ⟨rfl, hb⟩; have hB := Lib.hid (below_trans hB.out hb); clear hb)
          | (go_at_call 34; (with_reducible refine (Err_dead (DB.out _ hB.out)).mono ?_); rintro e y ⟨rfl, hb⟩; have hB := Lib.hid (below_trans hB.out hb); clear hb))
      go_roundw
      case rel => exact ⟨2, by omega, by go_num, hB.out⟩
      case measure => simp [intOf]
    · clear hk
      have HK := Lib.hid (known6_any wr (HT.out.below (HB0.out.trans (hB.out.mono HB0.out.size))))
      go_wp2_with (refine HK.out.mono ?_; rintro e y ⟨rfl, hb⟩; have hB := Lib.hid (below_trans hB.out hb); clear hb)
      rw [HQ.out]
      exact ⟨rfl, HB0.out.trans (hB.out.mono HB0.out.size)⟩
end Go.Proofs.YtphmknhlibampaaDoor

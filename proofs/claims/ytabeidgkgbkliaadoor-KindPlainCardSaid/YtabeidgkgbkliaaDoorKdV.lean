/-
  Layer 4, the document's side: the writing of heap types and value types.
-/
import Derived.Test.YtabeidgkgbkliaaDoorKdU
import Derived.Test.YtabeidgkgbkliaaDoorKdV0
import Derived.Test.YtabeidgkgbkliaaDoorKdP
namespace Go.Proofs.YtabeidgkgbkliaaDoor
open Go.RowKit
set_option linter.unusedVariables false
set_option maxRecDepth 100000

theorem run_three (W : World) : (Instr.index 92 (.agg #[.string { data := #[] }, .string { data := #[114, 101, 99, 46] }, .string { data := #[100, 101, 102, 46] }]) (.int .i64 0)).run Tryd.prog W = .ok (.string { data := #[] }) W := by
  first | rfl | (simp [Instr.run]; done) | (go_simp)
set_option maxHeartbeats 8000000 in
theorem rHeapText_any (h : Hp) (hp : Kd.pHeap h = true) (w : World) :
    Calls Tryd.prog 47 #[h.val] w fun e w' => e = .returned (Str (Kd.hT h)) ∧ Below w.heap.size w w' := by
  obtain ⟨k, n⟩ := h
  unfold Hp.val
  rw [Kd.pHeap_iff] at hp
  dsimp only
  rcases hp with ⟨h1, h2, rfl⟩ | ⟨rfl, h1, h2⟩
  · rw [show Kd.hT ⟨k, 0⟩ = Kd.nm k by unfold Kd.hT; rw [if_neg (by dsimp only; omega)]]
    exact rHeapName_any k h1 h2 w
  · obtain ⟨m, rfl⟩ : ∃ m : Nat, n = m := ⟨n.toNat, by omega⟩
    have hB : Below w.heap.size w (w.alloc (.cells #[.int .i64 13, .int .i64 m] 33)) := (Below.refl _ _).alloc (Nat.le_refl _) _
    have HB := Lib.hid hB
    have HD := Lib.hid (rDigits_any m (by omega))
    have hlm : (Lib.decDigits m).length ≤ 21 := by
      have h := Lib.itoa_length_le (m : Int) (by omega) (by omega)
      unfold Lib.itoa at h
      rw [if_neg (by omega)] at h
      simpa using h
    obtain ⟨t, ht⟩ : ∃ t, Lib.decDigits m = t := ⟨_, rfl⟩
    rw [ht] at HD hlm
    have ht' := Lib.hid ht
    have q0 : IntKind.i64.wrap 0 = 0 := rfl
    have q1 := run_three
    have s1 : (9223372036854775807 < t.length) = False := eq_false (by omega)
    have hit : Lib.itoa (m : Int) = t := by
      unfold Lib.itoa
      rw [if_neg (by omega), ← ht'.out]
      simp
    clear ht hB
    go_enter Tryd.func47, Tryd.ntmps47
    go_wp2_with fail
    go_region_with (go_at_call 49; (with_reducible refine (HD.out _).mono ?_); rintro e w1 ⟨rfl, hb⟩; obtain ⟨hc, hf⟩ := bcell hb)
    all_goals
      go_wp2
      go_ret
      refine ⟨(show Ending.returned (.string ((⟨#[]⟩ : ByteArray) ++ ⟨t.toArray⟩)) = Ending.returned (Str (Kd.hT ⟨13, (m : Int)⟩)) by rw [show Kd.hT ⟨13, (m : Int)⟩ = t from hit]; simp [cat_]), ?_⟩
      exact below_trans ((HB.out.alloc (by simp) _).drew) hb
end Go.Proofs.YtabeidgkgbkliaaDoor

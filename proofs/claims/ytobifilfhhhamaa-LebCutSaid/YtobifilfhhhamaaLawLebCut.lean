/-
  The walk of the statement LebCut: a number's bytes without the last one end too early.
-/
import Derived.Test.YtobifilfhhhamaaLebK
namespace Go.Proofs.Ytobifilfhhhamaa
open Go.RowKit
set_option linter.unusedVariables false

set_option maxRecDepth 100000 in
set_option maxHeartbeats 1000000 in
theorem LebCut_walk (w : World) (a0 : Int) (wf0 : (Lit.int .u64 a0).wf = true) (a1 : Int) (wf1 : (Lit.int .i64 a1).wf = true) :
    Calls Try.prog 7 #[.int .u64 a0, .int .i64 a1] w fun e w' => e = .returned (.bool true) ∧ Below w.heap.size w w' := by
  obtain ⟨h0, h0'⟩ := u64_wf wf0
  obtain ⟨h1, h1'⟩ := i64_wf wf1
  obtain ⟨n, rfl⟩ := Int.eq_ofNat_of_zero_le h0
  have hn64 : n < 18446744073709551616 := by omega
  clear wf0 wf1 h0 h0'
  by_cases ha : a1 < 0
  · have t1 : decide (a1 < 0) = true := by simpa using ha
    go_enter Try.func7, Try.ntmps7
    go_wp2_with (go_at_call 10; refine (known_any _).mono ?_; rintro e w' ⟨rfl, hb⟩)
    go_ret
    exact ⟨rfl, hb⟩
  by_cases ha' : 9 < a1
  · have t1 : decide (a1 < 0) = false := by simpa using ha
    have t2 : decide (9 < a1) = true := by simpa using ha'
    go_enter Try.func7, Try.ntmps7
    go_wp2_with (go_at_call 10; refine (known_any _).mono ?_; rintro e w' ⟨rfl, hb⟩)
    go_ret
    exact ⟨rfl, hb⟩
  have t1 : decide (a1 < 0) = false := by simpa using ha
  have t2 : decide (9 < a1) = false := by simpa using ha'
  have hm9 : a1 ≤ 9 := by omega
  have hm0 : 0 ≤ a1 := by omega
  clear ha ha' h1 h1'
  obtain ⟨k0, e0, hk0, hk0'⟩ := Leb.putU_long n
  have hk09 : k0 ≤ 9 := by
    rcases hk0' with h | h
    · omega
    · rcases Nat.lt_or_ge 9 k0 with h9 | h9
      · have := Nat.pow_le_pow_right (n := 128) (by omega) h9
        omega
      · exact h9
  have E0 := Lib.hid e0
  have HK0 := Lib.hid hk0
  clear e0 hk0 hk0'
  go_enter Try.func7, Try.ntmps7
  go_wp2_with (first
    | (go_at_call 10; refine (known_any _).mono ?_; rintro e w1 ⟨rfl, hb1⟩)
    | (go_at_call 15; refine (PutU_any n _ (by omega)).mono ?_; rintro e w2 ⟨v, rfl, ho, hb2⟩))
  rw [E0.out] at ho
  have hs1 := hb1.size
  have ho' := ho.base hs1
  clear ho
  go_loopw [5, 6] (fun v i wr => ∃ (k j : Nat) (A : Option Addr) (c : Nat), v = .slice A (k + 1) c ∧ i = .int .i64 j ∧ (j : Int) ≤ 9 ∧ k ≤ 9 ∧ Hid (n < 128 ^ (k + 1)) ∧ Own w.heap.size wr (.slice A (k + 1) c) (Leb.long k n) ∧ Below w.heap.size w wr)
    (fun _ i _ => 9 - (intOf i).toNat)
  case atStart =>
    obtain ⟨A, c, rfl⟩ := ho'.form
    rw [Leb.long_len] at *
    exact ⟨k0, 0, A, c, rfl, rfl, by omega, hk09, HK0, ho', hb1.trans (hb2.mono hs1)⟩
  case round =>
    obtain ⟨k, j, A, c, rfl, rfl, hj, hk, HK, ho, hb⟩ := hrel
    clear t1 t2 ho' hb2 hb1
    have hbs := hb.size
    have hby := ho.toBytes (Leb.long_lt k n HK.out)
    have hc2 := hby.2.1
    have hc3 := hby.2.2.1
    unfold maxLen at hc3
    have hu1 : told false (Leb.long k n) (0 : Nat) (64 : Nat) = (n, k + 1, 0) := by
      rw [told_eq _ _ _ _ (by omega) (by omega) (by omega), List.drop_zero]
      have := Leb.rd_long 64 (by omega) k n [] 0 0 0 (by omega) HK.out (by omega) (by omega)
      simpa using this
    have hu2 : told false ((Leb.long k n).take k) (0 : Nat) (64 : Nat) = (0, 0, 10) := by
      rw [told_eq _ _ _ _ (by omega) (by omega) (by omega), List.drop_zero]
      exact Leb.rd_cut 64 (by omega) k n 0 0 0 (by omega) HK.out (by omega) (by omega)
    have Hu1 := Lib.hid hu1
    have Hu2 := Lib.hid hu2
    clear hu1 hu2
    by_cases hgo : (j : Int) < a1 ∧ k + 1 < 10
    · obtain ⟨hg1, hg2⟩ := hgo
      obtain ⟨pre, e1, e2, e3⟩ := Leb.long_snoc k n HK.out
      have hpl : pre.length = k := by have := congrArg List.length e1; rw [Leb.long_len] at this; simpa using this.symm
      generalize n / 128 ^ k = x at e1 e2 e3
      rw [e1] at ho
      obtain ⟨g, rfl, hg, hgs, hcell, hfr, hset⟩ := ho.open_ (by omega)
      have hcl := hcell k (by simp [hpl])
      have hfk := hfr k
      have hsk := hset k (x + 128)
      have hor := or128 x e2
      have E3 := Lib.hid e3
      have HP := Lib.hid hpl
      simp [hpl] at hcl hsk
      clear hcell hfr hset e1 e3 hpl
      have HSK := Lib.hid hsk
      clear hsk
      have HB2 : Hid (Below w.heap.size w (wr.setCell ⟨g, k, none⟩ (.int .u8 ((x : Int) + 128)))) := hb.setCell hg _
      go_wp2_with (at_builtin; go_loud (refine push_slice rfl (.tmp 41) (.tmp 42) rfl (wr.setCell ⟨g, k, none⟩ (.int .u8 ((x : Int) + 128))) wr.heap.size (by simp [World.setCell]) 0 _ rfl rfl HSK.out HB2.out.size (by simp [HP.out]; omega) (k + 1 + 1) (by simp; exact HP.out) ?_ rfl); intro A' c' w' hown' hg')
      have hown2 := hown'
      rw [show pre ++ [x + 128] ++ [0] = Leb.long (k + 1) n by rw [E3.out]; simp] at hown2
      go_roundw
      case rel => exact ⟨k + 1, j + 1, A', c', rfl, by congr 1, by omega, by omega, by rw [Hid, Nat.pow_succ]; have := HK.out; omega, hown2, Own.grown HSK.out hg' (Nat.le_refl _) HB2.out.size HB2.out⟩
      case measure => simp [intOf]; omega
    · have hg0 : k < c := by omega
      have hk1 : k ≤ c := by omega
      by_cases hj1 : (j : Int) < a1
      all_goals
        go_wp2_with fail
        refine (U_at A (k + 1) c _ _ 0 64 _ n (k + 1) 0 hby Hu1.out).mono ?_
        rintro e w' ⟨rfl, q, rfl⟩
        go_wp2_with fail
        refine (U_at A k c _ _ 0 64 _ 0 0 10 ((hby.take (by omega)).drewN q) Hu2.out).mono ?_
        rintro e w' ⟨rfl, q', rfl⟩
        go_wp2
        go_ret
        exact ⟨rfl, below_drewN hb _⟩
end Go.Proofs.Ytobifilfhhhamaa

/-
  geodelaw05.OpsAll: the walk.
-/
import Derived.Test.YtlflmobaegfnaaaDoorOpK
import Derived.Test.YtlflmobaegfnaaaDoorOpQ
import Derived.BigQuiet
import Derived.Deep.QuietTactic
namespace Go.Proofs.YtlflmobaegfnaaaDoor
open Go.RowKit
set_option linter.unusedVariables false
set_option linter.unusedSimpArgs false
set_option maxRecDepth 100000

theorem Op5.codes_up (k : Nat) (h : k + 1 < (Op5.codes Op5.table).length) : (Op5.codes Op5.table)[k]'(by omega) < (Op5.codes Op5.table)[k + 1] := by
  have h1 := List.pairwise_iff_getElem.1 Op5.table_up k (k + 1) (by simpa [Op5.codes] using (show k < (Op5.codes Op5.table).length by omega)) (by simpa [Op5.codes] using h) (by omega)
  simpa [Op5.codes] using h1
set_option maxHeartbeats 4000000 in
theorem OpsAll_walk (w : World) (hT : Tab5 w) :
    Calls Tryd.prog 8 #[] w fun e w' => e = .returned (.bool true) ∧ Below w.heap.size w w' := by
  have hT0 := Lib.hid hT
  have hlt := hT.lt
  have KN := Lib.hid (fun W hT => known5_any W hT)
  have AL := Lib.hid (fun W => all_any W)
  have OP := Lib.hid (fun W => ops_any W)
  obtain ⟨cd, hcd⟩ : ∃ cd, Op5.codes Op5.table = cd := ⟨_, rfl⟩
  have hlen : cd.length = 167 := by rw [← hcd]; unfold Op5.codes; rw [List.length_map]; exact Op5.table_len
  have hup : ∀ k (h0 : k < cd.length) (h : k + 1 < cd.length), cd[k] < cd[k + 1] := by subst hcd; exact fun k _ h => Op5.codes_up k h
  rw [hcd] at AL OP
  have HLn := Lib.hid hlen
  have HUP := Lib.hid hup
  clear hT hcd hlen hup
  go_enter Tryd.func8, Tryd.ntmps8
  go_wp2_with (first
    | (go_at_call 37; ((with_reducible refine (AL.out _).mono ?_); rintro e w1 ⟨⟨A, c, rfl, o1⟩, hb1⟩; have O1 := Lib.hid o1; have HB1 := Lib.hid hb1; clear o1 hb1))
    | (go_at_call 38; ((with_reducible refine (OP.out _).mono ?_); rintro e w2 ⟨⟨A2, c2, A3, c3, rfl, o2, -⟩, hb2⟩; have O2 := Lib.hid o2; have HB2 := Lib.hid (HB1.out.trans (hb2.mono HB1.out.size)); have O1' := Lib.hid (O1.out.below hb2); clear o2 hb2))
    | (go_at_call 34; ((with_reducible refine (KN.out _ (hT0.out.below HB2.out hlt)).mono ?_); rintro e w3 ⟨rfl, hb3⟩; have HB3 := Lib.hid (HB2.out.trans (hb3.mono HB2.out.size)); have O1'' := Lib.hid (O1'.out.below hb3); have O2' := Lib.hid (O2.out.below hb3); clear hb3)))
  obtain ⟨A4, c4, e4, s1⟩ := O1''.out.seg elemO
  obtain ⟨A5, c5, e5, s2⟩ := O2'.out.seg elemO
  rw [HLn.out] at e4 e5
  injection e4 with e4a e4b e4c
  injection e5 with e5a e5b e5c
  subst e4a e4c e5a e5c
  obtain ⟨b1, o1, rfl, _, q1⟩ := s1.2.2 (by rw [HLn.out]; decide)
  obtain ⟨b2, o2, rfl, _, q2⟩ := s2.2.2 (by rw [HLn.out]; decide)
  have Q1 := Lib.hid q1
  have Q2 := Lib.hid q2
  clear s1 s2 q1 q2
  go_loopw [4] (fun i wr => ∃ (k n : Nat), k ≤ 167 ∧ i = .int .i64 k ∧ wr = w3.drewN n) (fun i _ => 167 - (intOf i).toNat)
  case atStart => exact ⟨0, 0, by omega, rfl, rfl⟩
  case round =>
    obtain ⟨k, n, hk, rfl, rfl⟩ := hrel
    have cell1 : ∀ j (h : j < cd.length), w3.cell? ⟨b1, o1 + j, none⟩ = some (.int .i64 (cd[j] : Int)) := fun j h => by
      have h2 := Q1.out j h 0 (.int .i64 (cd[j] : Int)) (by simp [Ox])
      simpa using h2
    have cell2 : ∀ j (h : j < cd.length), w3.cell? ⟨b2, o2 + j, none⟩ = some (.int .i64 (cd[j] : Int)) := fun j h => by
      have h2 := Q2.out j h 0 (.int .i64 (cd[j] : Int)) (by simp [Ox])
      simpa using h2
    have CE1 := Lib.hid cell1
    have CE2 := Lib.hid cell2
    clear cell1 cell2
    by_cases hk1 : k < 167
    · have hkc : k < cd.length := by rw [HLn.out]; exact hk1
      obtain ⟨x, hx⟩ : ∃ x, cd[k] = x := ⟨_, rfl⟩
      have g1 := CE1.out k hkc
      have g2 := CE2.out k hkc
      rw [hx] at g1 g2
      have HX := Lib.hid hx
      clear hx
      have hne : ((x : Int) != (x : Int)) = false := by simp
      have i0 : (0 : Int) ≤ k := by omega
      have i1 : (k : Int) < 167 := by omega
      by_cases h0 : 0 < k
      · have hkm : k - 1 < cd.length := by omega
        obtain ⟨y, hy⟩ : ∃ y, cd[k - 1] = y := ⟨_, rfl⟩
        have g3 := CE1.out (k - 1) hkm
        rw [hy] at g3
        have hxy : y < x := by
          have h := HUP.out (k - 1) hkm (by rw [show k - 1 + 1 = k by omega]; exact hkc)
          rw [hy] at h
          have e : cd[k - 1 + 1]'(by rw [show k - 1 + 1 = k by omega]; exact hkc) = x := by
            rw [← HX.out]
            congr 1
            omega
          omega
        have hle : decide (x ≤ y) = false := by simp; omega
        have hle2 : decide ((x : Int) ≤ (y : Int)) = false := by simp; omega
        have hgt : decide ((0 : Int) < (k : Int)) = true := by simp; omega
        have hm : ((k : Int) - 1).toNat = k - 1 := by omega
        have hm0 : (0 : Int) ≤ (k : Int) - 1 := by omega
        have hwr : IntKind.i64.wrap ((k : Int) - 1) = (k : Int) - 1 := IntWalk.i64_in _ (by omega)
        clear hy hxy
        go_wp2
        go_quiet (fail)
        go_wp2
        exact ⟨⟨k + 1, _, by omega, by go_num, rfl⟩, by simp [intOf]; omega⟩
      · obtain rfl : k = 0 := by omega
        simp only [Nat.add_zero] at g1 g2
        have hgt : decide ((0 : Int) < ((0 : Nat) : Int)) = false := by simp
        have hgt2 : decide ((0 : Int) < (0 : Int)) = false := by simp
        go_wp2
        go_quiet (fail)
        go_wp2
        exact ⟨⟨1, _, by omega, by go_num, rfl⟩, by simp [intOf]⟩
    · obtain rfl : k = 167 := by omega
      go_wp2
      go_ret
      exact ⟨rfl, below_drewN HB3.out n⟩
end Go.Proofs.YtlflmobaegfnaaaDoor

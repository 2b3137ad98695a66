/-
  Layer 5, the document's side: Find, Name.
-/
import Derived.Test.YtlflmobaegfnaaaDoorOpQ
import Derived.Test.YtlflmobaegfnaaaDoorOpN
namespace Go.Proofs.YtlflmobaegfnaaaDoor
open Go.RowKit Go.Great
set_option linter.unusedVariables false
set_option linter.unusedSimpArgs false
set_option maxRecDepth 100000

set_option maxHeartbeats 2000000 in
theorem rfind_any (s : ByteArray) (w : World) :
    Calls Tryd.prog 36 #[.string s] w fun e w' => e = .returned (.int .i64 (Op5.findOf s.data.toList)) ∧ Below w.heap.size w w' := by
  obtain ⟨Q, hQ⟩ : ∃ Q : Ending → World → Prop, Q = (fun e w' => e = .returned (.int .i64 (Op5.findOf s.data.toList)) ∧ Below w.heap.size w w') := ⟨_, rfl⟩
  rw [← hQ]
  have HQ := Lib.hid hQ
  clear hQ
  have HO := Lib.hid ops_any
  have HTL := Lib.hid Op5.table_len
  go_enter Tryd.func36, Tryd.ntmps36
  go_wp2_with (go_at_call 38; refine (HO.out _).mono ?_; rintro e w1 ⟨⟨A, c, A2, c2, rfl, h1, h2⟩, hb⟩; have HO1 := Lib.hid h1; have HO2 := Lib.hid h2; have HB := Lib.hid hb; clear h1 h2 hb)
  have e1 : Hid ((Op5.codes Op5.table).length = 167) := Lib.hid (by unfold Op5.codes; rw [List.length_map]; exact HTL.out)
  have e2 : Hid ((Op5.table.map (·.2)).length = 167) := Lib.hid (by rw [List.length_map]; exact HTL.out)
  obtain ⟨A3, c3, e3, s1⟩ := HO1.out.seg elemO
  obtain ⟨A4, c4, e4, s2⟩ := HO2.out.seg elemS
  rw [e1.out] at e3
  rw [e2.out] at e4
  injection e3 with e3a e3b e3c
  injection e4 with e4a e4b e4c
  subst e3a e3c e4a e4c
  obtain ⟨b1, o1, rfl, _, q1⟩ := s1.2.2 (by rw [e1.out]; decide)
  obtain ⟨b2, o2, rfl, _, q2⟩ := s2.2.2 (by rw [e2.out]; decide)
  have Q1 := Lib.hid q1
  have Q2 := Lib.hid q2
  clear s1 s2 q1 q2
  go_loop [5] (fun i => ∃ k : Nat, k ≤ 167 ∧ i = .int .i64 k ∧ ∀ p ∈ Op5.table.take k, p.2 ≠ s.data.toList) (fun i => 167 - (intOf i).toNat)
  case atStart => exact ⟨0, by omega, rfl, fun p hp => by simp at hp⟩
  case round =>
    obtain ⟨k, hk, rfl, hn⟩ := hrel
    have HN := Lib.hid hn
    clear hn
    by_cases hlt : k < 167
    · have hkt : k < Op5.table.length := by rw [HTL.out]; exact hlt
      obtain ⟨f, x, hfx⟩ : ∃ f x, Op5.table[k] = (f, x) := ⟨_, _, rfl⟩
      have g1 : w1.cell? ⟨b1, o1 + k, none⟩ = some (.int .i64 (f : Int)) := by
        have h := Q1.out k (by rw [e1.out]; exact hlt) 0 (.int .i64 (f : Int)) (by simp [Op5.codes, hfx, Ox])
        simpa using h
      have g2 : w1.cell? ⟨b2, o2 + k, none⟩ = some (Sv x) := by
        have h := Q2.out k (by rw [e2.out]; exact hlt) 0 (Sv x) (by simp [hfx, Sx])
        simpa using h
      have HFX := Lib.hid hfx
      have htk : Hid (Op5.table.take (k + 1) = Op5.table.take k ++ [(f, x)]) := Lib.hid (by rw [List.take_succ_eq_append_getElem hkt, HFX.out])
      clear hfx
      by_cases hx : x = s.data.toList
      · have hx1 : (x == s.toList) = true := by rw [ByteArray.toList_eq]; simpa using hx
        have HX := Lib.hid hx
        clear hx
        go_wp2
        rw [HQ.out]
        refine ⟨?_, HB.out⟩
        have h := Op5.find_at (pre := Op5.table.take k) (f := f) (x := s.data.toList) (by rw [← HX.out, ← htk.out]; exact List.take_prefix _ _) HN.out
        rw [h]
      · have hx1 : (x == s.toList) = false := by rw [ByteArray.toList_eq]; simpa using hx
        have HX := Lib.hid hx
        clear hx
        go_wp2
        go_round
        case rel =>
          refine ⟨k + 1, by omega, by go_num, fun p hp => ?_⟩
          rw [htk.out] at hp
          rcases List.mem_append.1 hp with hp | hp
          · exact HN.out p hp
          · rw [List.mem_singleton.1 hp]; exact HX.out
        case measure => simp [intOf]; omega
    · obtain rfl : k = 167 := by omega
      go_wp2
      rw [HQ.out]
      refine ⟨?_, HB.out⟩
      have h := Op5.find_none (x := s.data.toList) (fun p hp => HN.out p (by rw [List.take_of_length_le (by rw [HTL.out]; exact Nat.le_refl _)]; exact hp))
      rw [h]
end Go.Proofs.YtlflmobaegfnaaaDoor

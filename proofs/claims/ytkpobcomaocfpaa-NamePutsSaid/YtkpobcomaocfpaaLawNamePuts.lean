/-
  The walk of the statement NamePuts: the bytes of any name are the document's, or it is refused.
-/
import Derived.Test.YtkpobcomaocfpaaNmG
import Derived.Test.YtkpobcomaocfpaaKitM
namespace Go.Proofs.Ytkpobcomaocfpaa
open Go.RowKit
set_option linter.unusedVariables false

theorem NamePuts_out (w : World) (a0 : ByteArray) (a1 : Int) (h : 3000 < a0.size ∨ a1 < 0 ∨ 110000 < a1) :
    Calls Try.prog 4 #[.string a0, .int .i64 a1] w fun e w' => e = .returned (.bool true) ∧ Below w.heap.size w w' := by
  have H := Lib.hid h
  clear h
  by_cases h1 : 3000 < a0.size
  · have t1 : (3000 : Int) < (a0.size : Int) := by omega
    clear h1
    go_enter Try.func4, Try.ntmps4
    go_wp2_with (go_at_call 8; refine (known2_any _).mono ?_; rintro e w1 ⟨rfl, hb1⟩)
    go_ret
    exact ⟨rfl, hb1⟩
  have t1 : (a0.size : Int) ≤ 3000 := by omega
  by_cases h2 : a1 < 0
  · have t2 : decide (a1 < 0) = true := by simpa using h2
    clear h1
    go_enter Try.func4, Try.ntmps4
    go_wp2_with (go_at_call 8; refine (known2_any _).mono ?_; rintro e w1 ⟨rfl, hb1⟩)
    go_ret
    exact ⟨rfl, hb1⟩
  · have t2 : decide (a1 < 0) = false := by simpa using h2
    have t3 : decide (110000 < a1) = true := by have := H.out; simp; omega
    clear h1
    go_enter Try.func4, Try.ntmps4
    go_wp2_with (go_at_call 8; refine (known2_any _).mono ?_; rintro e w1 ⟨rfl, hb1⟩)
    go_ret
    exact ⟨rfl, hb1⟩

set_option maxRecDepth 100000 in
set_option maxHeartbeats 1000000 in
theorem NamePuts_in (w : World) (a0 : ByteArray) (m : Nat) (q0 : a0.size ≤ 3000) (q1 : m ≤ 110000) :
    Calls Try.prog 4 #[.string a0, .int .i64 m] w fun e w' => e = .returned (.bool true) ∧ Below w.heap.size w w' := by
  have t1 : (a0.size : Int) ≤ 3000 := by omega
  have t2 : decide ((m : Int) < 0) = false := by simp
  have t3 : (m : Int) ≤ 110000 := by omega
  have hsz : (str (List.replicate m 97) ++ a0).size ≤ 1000000 := by rw [ByteArray.size_append, str_size, List.length_replicate]; omega
  have S := Lib.hid (small _ _ hsz (by omega))
  have Q0 := Lib.hid q0
  have Q1 := Lib.hid q1
  clear hsz q0 q1
  go_enter Try.func4, Try.ntmps4
  go_wp2_with (go_at_call 8; refine (known2_any _).mono ?_; rintro e w1 ⟨rfl, hb1⟩; obtain ⟨w2, hrun, ho2, hg2⟩ := run_make_bytes w1 w.heap.size m (by have := Q1.out; omega) hb1.size)
  have hb2 := Below.grownNone hg2 hb1.size hb1
  clear hrun hg2
  go_loopw [6] (fun i wr => ∃ j : Nat, i = .int .i64 j ∧ j ≤ m ∧ Own w.heap.size wr (.slice (some ⟨w1.heap.size, 0, none⟩) m m) (List.replicate j 97 ++ List.replicate (m - j) 0) ∧ Below w.heap.size w wr) (fun i _ => m - (intOf i).toNat)
  case atStart => exact ⟨0, rfl, by omega, ho2, hb2⟩
  case round =>
    obtain ⟨j, rfl, hj, ho, hb⟩ := hrel
    by_cases hlt : j < m
    · obtain ⟨g, hgA, hgB, hgs, hci, hfz, hst⟩ := ho.open_ (by omega)
      injection hgA with hgA
      injection hgA with hgA
      subst hgA
      have hc := hci j (by simp; omega)
      have hf := hfz j
      have HST := Lib.hid (hst j 97)
      clear hci hfz hst
      go_wp2_with fail
      go_roundw
      case rel =>
        have hnew := HST.out
        rw [fill_set j m 97 hlt] at hnew
        exact ⟨j + 1, rfl, by omega, hnew, hb.setCell hgB _⟩
      case measure => simp [intOf]; omega
    · obtain rfl : j = m := by omega
      rw [Nat.sub_self, List.replicate_zero, List.append_nil] at ho
      have c1 := ho.str (by intro x hx; rw [List.eq_of_mem_replicate hx]; omega)
      clear hlt hj
      obtain ⟨⟨p, er⟩, hp⟩ : ∃ r, putName (bs (str (List.replicate j 97) ++ a0)) = r := ⟨_, rfl⟩
      have HP := Lib.hid hp
      have hlt := putName_lt (str (List.replicate j 97) ++ a0)
      rw [hp] at hlt
      have HLT := Lib.hid hlt
      clear hp hlt
      have hns : (9223372036854775807 < (str (List.replicate j 97)).size + a0.size) = False := eq_false (by rw [str_size, List.length_replicate]; have := Q0.out; omega)
      go_wp2_with fail
      refine (Put_any _ _ S.out).mono ?_
      rw [HP.out]
      rintro e w3 ⟨A3, c3, rfl, ho3, hb3⟩
      go_wp2_with fail
      refine (refPut_any _ _ S.out).mono ?_
      rw [HP.out]
      rintro e w4 ⟨A4, c4, rfl, ho4, hb4⟩
      have hb5 := below_trans (below_trans hb hb3) hb4
      have c5 := (ho3.below hb4).str HLT.out
      have c6 := ho4.str HLT.out
      simp only at c5 c6 ⊢
      go_wp2_with fail
      go_ret
      exact ⟨rfl, hb5⟩

theorem NamePuts_walk (w : World) (a0 : ByteArray) (_ : a0.size ≤ maxLen) (a1 : Int) (_ : (Lit.int .i64 a1).wf = true) :
    Calls Try.prog 4 #[.string a0, .int .i64 a1] w fun e w' => e = .returned (.bool true) ∧ Below w.heap.size w w' := by
  by_cases h : 3000 < a0.size ∨ a1 < 0 ∨ 110000 < a1
  · exact NamePuts_out w a0 a1 h
  · obtain ⟨m, rfl⟩ := Int.eq_ofNat_of_zero_le (show 0 ≤ a1 by omega)
    exact NamePuts_in w a0 m (by omega) (by omega)
end Go.Proofs.Ytkpobcomaocfpaa

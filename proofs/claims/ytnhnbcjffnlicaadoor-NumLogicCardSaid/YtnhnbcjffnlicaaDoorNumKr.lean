/-
  The document's calls, at every opcode; the examples that each statement asks first.
-/
import Derived.Test.YtnhnbcjffnlicaaDoorNumKc
namespace Go.Proofs.YtnhnbcjffnlicaaDoor
open Go.RowKit Num
set_option linter.unusedVariables false
/-- The document's calls at every opcode. -/
theorem ref_any (op : Int) (h0 : -9223372036854775808 ≤ op) (h1 : op < 9223372036854775808) : RefOK op := by
  by_cases h : op ≤ 68
  · exact ref_none op (kind_gap (by omega)) (fun W => of_gap0 op h0 h W)
  by_cases h : 91 ≤ op ∧ op ≤ 102
  · exact ref_none op (kind_gap (by omega)) (fun W => of_gap1 op h.1 h.2 W)
  by_cases h : 139 ≤ op ∧ op ≤ 166
  · exact ref_none op (kind_gap (by omega)) (fun W => of_gap2 op h.1 h.2 W)
  by_cases h : 168 ≤ op ∧ op ≤ 171
  · exact ref_none op (kind_gap (by omega)) (fun W => of_gap3 op h.1 h.2 W)
  by_cases h : 174 ≤ op ∧ op ≤ 191
  · exact ref_none op (kind_gap (by omega)) (fun W => of_gap4 op h.1 h.2 W)
  by_cases h : 197 ≤ op
  · exact ref_none op (kind_gap (by omega)) (fun W => of_gap5 op h h1 W)
  by_cases h : 70 ≤ op ∧ op ≤ 79
  · have hk : kind op = ((op - 60).toNat, 32, 32, 2) := by
      unfold kind
      repeat (rw [if_neg (by omega)])
      rw [if_pos (by omega)]
    exact ref_two op (op - 60).toNat 32 32 (op - 60) 32 32 hk w32 rfl (by omega) (by omega) (by omega) (fun W => of_70 op h.1 h.2 W)
  by_cases h : 81 ≤ op ∧ op ≤ 90
  · have hk : kind op = ((op - 71).toNat, 64, 32, 2) := by
      unfold kind
      repeat (rw [if_neg (by omega)])
      rw [if_pos (by omega)]
    exact ref_two op (op - 71).toNat 64 32 (op - 71) 64 32 hk w64 rfl (by omega) (by omega) (by omega) (fun W => of_81 op h.1 h.2 W)
  by_cases h : 106 ≤ op ∧ op ≤ 120
  · have hk : kind op = ((op - 86).toNat, 32, 32, 2) := by
      unfold kind
      repeat (rw [if_neg (by omega)])
      rw [if_pos (by omega)]
    exact ref_two op (op - 86).toNat 32 32 (op - 86) 32 32 hk w32 rfl (by omega) (by omega) (by omega) (fun W => of_106 op h.1 h.2 W)
  by_cases h : 124 ≤ op ∧ op ≤ 138
  · have hk : kind op = ((op - 104).toNat, 64, 64, 2) := by
      unfold kind
      repeat (rw [if_neg (by omega)])
      rw [if_pos (by omega)]
    exact ref_two op (op - 104).toNat 64 64 (op - 104) 64 64 hk w64 rfl (by omega) (by omega) (by omega) (fun W => of_124 op h.1 h.2 W)
  by_cases h : op = 69
  · subst h
    exact ref_one 69 0 32 32 0 32 32 (by decide) w32 w32 (.inl ⟨rfl, rfl⟩) rfl (fun W => of_69 69 rfl W)
  by_cases h : op = 80
  · subst h
    exact ref_one 80 0 64 32 0 64 32 (by decide) w64 w32 (.inl ⟨rfl, rfl⟩) rfl (fun W => of_80 80 rfl W)
  by_cases h : op = 103
  · subst h
    exact ref_one 103 1 32 32 1 32 32 (by decide) w32 w32 (.inr (.inl ⟨rfl, rfl⟩)) rfl (fun W => of_103 103 (by decide) (by decide) W)
  by_cases h : op = 104
  · subst h
    exact ref_one 104 2 32 32 2 32 32 (by decide) w32 w32 (.inr (.inr (.inl ⟨rfl, rfl⟩))) rfl (fun W => of_103 104 (by decide) (by decide) W)
  by_cases h : op = 105
  · subst h
    exact ref_one 105 3 32 32 3 32 32 (by decide) w32 w32 (.inr (.inr (.inr (.inl ⟨rfl, rfl⟩)))) rfl (fun W => of_103 105 (by decide) (by decide) W)
  by_cases h : op = 121
  · subst h
    exact ref_one 121 1 64 64 1 64 64 (by decide) w64 w64 (.inr (.inl ⟨rfl, rfl⟩)) rfl (fun W => of_121 121 (by decide) (by decide) W)
  by_cases h : op = 122
  · subst h
    exact ref_one 122 2 64 64 2 64 64 (by decide) w64 w64 (.inr (.inr (.inl ⟨rfl, rfl⟩))) rfl (fun W => of_121 122 (by decide) (by decide) W)
  by_cases h : op = 123
  · subst h
    exact ref_one 123 3 64 64 3 64 64 (by decide) w64 w64 (.inr (.inr (.inr (.inl ⟨rfl, rfl⟩)))) rfl (fun W => of_121 123 (by decide) (by decide) W)
  by_cases h : op = 167
  · subst h
    exact ref_one 167 7 64 32 7 64 32 (by decide) w64 w32 (.inr (.inr (.inr (.inr (.inr (.inr (.inr (.inl ⟨rfl, rfl⟩)))))))) rfl (fun W => of_167 167 rfl W)
  by_cases h : op = 172
  · subst h
    exact ref_one 172 8 32 64 8 32 64 (by decide) w32 w64 (.inr (.inr (.inr (.inr (.inr (.inr (.inr (.inr (.inl ⟨rfl, rfl, rfl, rfl⟩))))))))) rfl (fun W => of_172 172 rfl W)
  by_cases h : op = 173
  · subst h
    exact ref_one 173 9 32 64 9 32 64 (by decide) w32 w64 (.inr (.inr (.inr (.inr (.inr (.inr (.inr (.inr (.inr ⟨rfl, rfl⟩))))))))) rfl (fun W => of_173 173 rfl W)
  by_cases h : op = 192
  · subst h
    exact ref_one 192 4 32 32 4 32 32 (by decide) w32 w32 (.inr (.inr (.inr (.inr (.inl ⟨rfl, rfl⟩))))) rfl (fun W => of_192 192 rfl W)
  by_cases h : op = 193
  · subst h
    exact ref_one 193 5 32 32 5 32 32 (by decide) w32 w32 (.inr (.inr (.inr (.inr (.inr (.inl ⟨rfl, rfl⟩)))))) rfl (fun W => of_193 193 rfl W)
  by_cases h : op = 194
  · subst h
    exact ref_one 194 4 64 64 4 64 64 (by decide) w64 w64 (.inr (.inr (.inr (.inr (.inl ⟨rfl, rfl⟩))))) rfl (fun W => of_194 194 (by decide) (by decide) W)
  by_cases h : op = 195
  · subst h
    exact ref_one 195 5 64 64 5 64 64 (by decide) w64 w64 (.inr (.inr (.inr (.inr (.inr (.inl ⟨rfl, rfl⟩)))))) rfl (fun W => of_194 195 (by decide) (by decide) W)
  by_cases h : op = 196
  · subst h
    exact ref_one 196 6 64 64 6 64 64 (by decide) w64 w64 (.inr (.inr (.inr (.inr (.inr (.inr (.inl ⟨rfl, rfl⟩))))))) rfl (fun W => of_194 196 (by decide) (by decide) W)
  omega
theorem known3_any (W : World) (hT : Tab W) : Calls Tryd.prog 14 #[] W fun e W' => e = .returned (.bool true) ∧ Below W.heap.size W W' := by
  have HT := Lib.hid (fun W' (hb : Below W.heap.size W W') => hT.below hb)
  have HA : Hid (∀ W : World, Calls Tryd.prog 15 #[.int .i64 124, .int .u64 18446744073709551615, .int .u64 2] W fun e W' => e = .returned (.tuple #[.int .u64 1, .int .i64 0]) ∧ Below W.heap.size W W') := fun W => by
    have h := (code_any 124 (by decide) (by decide)).2.1 W 18446744073709551615 2 (by decide) (by decide)
    rw [show two 124 18446744073709551615 2 = (1, 0) by decide +kernel] at h
    exact h
  have HB : Hid (∀ W : World, Calls Tryd.prog 15 #[.int .i64 109, .int .u64 2147483648, .int .u64 4294967295] W fun e W' => e = .returned (.tuple #[.int .u64 0, .int .i64 31]) ∧ Below W.heap.size W W') := fun W => by
    have h := (code_any 109 (by decide) (by decide)).2.1 W 2147483648 4294967295 (by decide) (by decide)
    rw [show two 109 2147483648 4294967295 = (0, 31) by decide +kernel] at h
    exact h
  have HC : Hid (∀ W : World, Calls Tryd.prog 15 #[.int .i64 117, .int .u64 2147483648, .int .u64 33] W fun e W' => e = .returned (.tuple #[.int .u64 3221225472, .int .i64 0]) ∧ Below W.heap.size W W') := fun W => by
    have h := (code_any 117 (by decide) (by decide)).2.1 W 2147483648 33 (by decide) (by decide)
    rw [show two 117 2147483648 33 = (3221225472, 0) by decide +kernel] at h
    exact h
  have HD : Hid (∀ W : World, Tab W → Calls Tryd.prog 10 #[.int .i64 172, .int .u64 2147483648] W fun e W' => e = .returned (.tuple #[.int .u64 18446744071562067968, .int .i64 0]) ∧ Below W.heap.size W W') := fun W hT => by
    have h := (code_any 172 (by decide) (by decide)).1 W 2147483648 hT (by decide)
    rw [show one 172 2147483648 = (18446744071562067968, 0) by decide +kernel] at h
    exact h
  have HE : Hid (∀ W : World, Tab W → Calls Tryd.prog 10 #[.int .i64 103, .int .u64 4294967296] W fun e W' => e = .returned (.tuple #[.int .u64 0, .int .i64 2]) ∧ Below W.heap.size W W') := fun W hT => by
    have h := (code_any 103 (by decide) (by decide)).1 W 4294967296 hT (by decide)
    rw [show one 103 4294967296 = (0, 2) by decide +kernel] at h
    exact h
  have hB : Below W.heap.size W W := Below.refl _ _
  clear hT
  go_enter Tryd.func14, Tryd.ntmps14
  go_wp2_with (first
    | (go_at_call 15; ((with_reducible refine (HA.out _).mono ?_); rintro e w1 ⟨rfl, hb⟩; have hB := below_trans hB hb))
    | (go_at_call 15; ((with_reducible refine (HB.out _).mono ?_); rintro e w2 ⟨rfl, hb⟩; have hB := below_trans hB hb))
    | (go_at_call 15; ((with_reducible refine (HC.out _).mono ?_); rintro e w3 ⟨rfl, hb⟩; have hB := below_trans hB hb))
    | (go_at_call 10; ((with_reducible refine (HD.out _ (HT.out _ hB)).mono ?_); rintro e w4 ⟨rfl, hb⟩; have hB := below_trans hB hb))
    | (go_at_call 10; ((with_reducible refine (HE.out _ (HT.out _ hB)).mono ?_); rintro e w5 ⟨rfl, hb⟩; have hB := below_trans hB hb)))
  go_ret
  exact ⟨rfl, hB⟩
end Go.Proofs.YtnhnbcjffnlicaaDoor

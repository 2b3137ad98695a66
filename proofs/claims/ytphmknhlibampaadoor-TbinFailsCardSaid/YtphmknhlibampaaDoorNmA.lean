/-
  name's small functions, walked: stands, Count, Well.
-/
import Derived.Test.YtphmknhlibampaaDoorNmD
import Derived.Test.YtphmknhlibampaaDoorLebH
import Derived.Test.YtphmknhlibampaaDoorShelf
namespace Go.Proofs.YtphmknhlibampaaDoor
open Go.RowKit
set_option linter.unusedVariables false

theorem stands_any (p : Int) (r : ByteArray) (w : World) :
    Calls Tryd.prog 127 #[.int .i32 p, .string r] w fun e w' => e = .returned (.bool ((p != 65533) || fffd (bs r))) ∧ w = w' := by
  by_cases h : p = 65533
  · subst h
    go_enter Tryd.func127, Tryd.ntmps127
    go_wp2_with (go_at_call 140; refine (Tryd.strings_HasPrefix _ _ _).mono ?_; rintro e w' ⟨rfl, rfl⟩)
    go_ret
    exact ⟨by rw [show (([239, 191, 189] : List UInt8)) = [239, 191, 189] from rfl, prefix_fffd]; rfl, rfl⟩
  · have t1 : (p != 65533) = true := by simpa using h
    clear h
    go_enter Tryd.func127, Tryd.ntmps127
    go_wp2_with fail
    go_ret
    exact ⟨ret_bool (by rw [t1]; rfl), rfl⟩
theorem stands_yes (p : Nat) (r : ByteArray) (w : World) (h : p ≠ 65533 ∨ fffd (bs r) = true) :
    Calls Tryd.prog 127 #[.int .i32 p, .string r] w fun e w' => e = .returned (.bool true) ∧ w = w' :=
  (stands_any p r w).mono fun _ _ ⟨he, hw⟩ => ⟨by rw [he]; congr 2; rcases h with h | h <;> simp [h]; omega, hw⟩
theorem stands_no (p : Nat) (r : ByteArray) (w : World) (h : p = 65533) (h2 : fffd (bs r) = false) :
    Calls Tryd.prog 127 #[.int .i32 p, .string r] w fun e w' => e = .returned (.bool false) ∧ w = w' :=
  (stands_any p r w).mono fun _ _ ⟨he, hw⟩ => ⟨by rw [he, h2, h]; rfl, hw⟩

theorem cnt_end {l : List Nat} {pos : Nat} (h : l.length ≤ pos) : Nm.cnt (l.drop pos) = 0 := by rw [List.drop_of_length_le h]; exact Nm.cnt_nil
theorem iter_below (w : World) (s : ByteArray) (pos : Nat) : Below w.heap.size w (w.iter s pos) := (Below.refl _ _).alloc (Nat.le_refl _) _

set_option maxHeartbeats 1000000 in
theorem Count_any (s : ByteArray) (w : World) (hs : s.size ≤ maxLen) :
    Calls Tryd.prog 105 #[.string s] w fun e w' => e = .returned (.int .i64 (Nm.cnt (bs s))) ∧ Below w.heap.size w w' := by
  unfold maxLen at hs
  have hl := bs_len s
  have HL := Lib.hid hl
  clear hl
  go_enter Tryd.func105, Tryd.ntmps105
  go_wp2_with fail
  go_loopw [3] (fun n wr => ∃ (pos acc : Nat), wr = w.iter s pos ∧ n = .int .i64 acc ∧ acc ≤ pos ∧ pos ≤ s.size ∧ Hid (Nm.cnt (bs s) = if Nm.cnt ((bs s).drop pos) < 0 then -1 else acc + Nm.cnt ((bs s).drop pos))) (fun _ wr => s.size - wr.iterPos w.heap.size)
  case atStart => exact ⟨0, 0, rfl, rfl, by omega, by omega, by have := Nm.cnt_ge (bs s); rw [Hid, List.drop_zero]; split <;> omega⟩
  case round =>
    obtain ⟨pos, acc, rfl, rfl, ha, hle, H⟩ := hrel
    by_cases hp : pos < s.size
    · have hnx : ∀ ty, (Instr.next (.pointer (some ⟨w.heap.size, 0, none⟩)) true ty).run Tryd.prog (w.iter s pos) = _ := fun ty => run_next_any w s pos ty hp
      have hone := Nm.one_le ((bs s).drop pos)
      rw [List.length_drop, HL.out] at hone
      have hd := decode_one s pos hp
      have e := H.out
      generalize (Utf8.decode s pos).1 = c at hd hnx
      generalize (Utf8.decode s pos).2 = width at hd hnx
      rcases hd with ⟨d1, d2, d3⟩ | ⟨d1, d2, d3⟩
      · rw [Nm.cnt_step d1, List.drop_drop] at e
        rw [← d2] at e d1 hone
        rw [← bs_drop] at d3
        have E := Lib.hid e
        have D3 := Lib.hid d3
        clear e H d2 d3
        go_wp2_with (go_at_call 127; refine (stands_yes _ _ _ D3.out).mono ?_; rintro e w' ⟨rfl, rfl⟩)
        go_roundw
        case rel =>
          refine ⟨pos + width, acc + 1, rfl, rfl, by omega, by omega, ?_⟩
          have := E.out
          rw [Hid, this]
          split <;> split <;> omega
        case measure => simp; omega
      · rw [Nm.cnt_bad (by rw [List.length_drop, HL.out]; omega) d1] at e
        rw [← bs_drop] at d3
        have E := Lib.hid e
        have D2 := Lib.hid d2
        have D3 := Lib.hid d3
        clear e H d1 d2 d3
        go_wp2_with (go_at_call 127; refine (stands_no _ _ _ D2.out D3.out).mono ?_; rintro e w' ⟨rfl, rfl⟩)
        go_ret
        exact ⟨ret_int (by rw [E.out]; rfl), iter_below _ _ _⟩
    · have hnx : ∀ ty, (Instr.next (.pointer (some ⟨w.heap.size, 0, none⟩)) true ty).run Tryd.prog (w.iter s pos) = _ := fun ty => run_next_end w s pos ty hp
      have e := H.out
      rw [cnt_end (by rw [HL.out]; omega)] at e
      have E := Lib.hid e
      clear e H
      go_wp2_with fail
      go_ret
      exact ⟨ret_int (by rw [E.out]; simp), iter_below _ _ _⟩
end Go.Proofs.YtphmknhlibampaaDoor

/-
  The document's way to go on with the highest of the low bits: walked.
-/
import Derived.Test.YtnhnbcjffnlicaaDoorNumQ
import Derived.Test.YtnhnbcjffnlicaaDoorNumD
namespace Go.Proofs.YtnhnbcjffnlicaaDoor
open Go.RowKit Num
set_option linter.unusedVariables false
set_option maxRecDepth 100000 in
set_option maxHeartbeats 800000 in
theorem rext_any (a low w : Nat) (u v : Int) (hu : u = (low : Int)) (hv : v = (w : Int)) (ha : a < 18446744073709551616) (h1 : 1 ≤ low) (h2 : low ≤ w) (hw : w ≤ 64) (W : World) :
    Calls Tryd.prog 26 #[.int .u64 a, .int .i64 u, .int .i64 v] W (Out (md w (sg low (a % 2 ^ low))) W) := by
  subst hv
  obtain ⟨lo, rfl⟩ : ∃ lo, low = lo + 1 := ⟨low - 1, by omega⟩
  rw [← extl_val (lo + 1) w a h1 h2]
  have hu2 : u - 1 = (lo : Int) := by omega
  have hu3 : (1 : Int) ≤ u := by omega
  have hu4 : u ≤ (64 : Int) := by omega
  have HU := Lib.hid hu
  clear hu
  have HA := Lib.hid ha
  have hb2 : ∀ x ∈ extl (lo + 1) w a, x < 2 := by
    intro x hx
    unfold extl at hx
    rcases List.mem_append.1 hx with h | h
    · exact bl_lt (lo + 1) a x h
    · rw [List.eq_of_mem_replicate h]; exact Nat.mod_lt _ (by omega)
  have H2 := Lib.hid hb2
  have hlen : Hid ((extl (lo + 1) w a).length = w) := by rw [Hid]; unfold extl; rw [List.length_append, bl_length, List.length_replicate]; omega
  clear ha hb2
  go_enter Tryd.func26, Tryd.ntmps26
  go_wp2_with fail
  refine (RBits_any a (lo + 1) _ HU.out HA.out (by omega) _).mono ?_
  rintro e w1 ⟨A0, c0, rfl, ho, hb⟩
  go_wp2_with fail
  go_loopw [7] (fun s wr => ∃ (k c : Nat) (A : Option Addr), (lo + 1) ≤ k ∧ k ≤ w ∧ s = .slice A k c ∧ OwnI W.heap.size wr (.slice A k c) ((extl (lo + 1) w a).take k) ∧ Below W.heap.size W wr) (fun s _ => match s with | .slice _ n _ => w - n | _ => 0)
  case atStart => exact ⟨(lo + 1), c0, A0, by omega, by omega, rfl, by unfold extl; rw [List.take_left' (bl_length (lo + 1) a)]; exact ho, hb⟩
  case round =>
    obtain ⟨k, c, A, hk1, hk2, rfl, hown, hB⟩ := hrel
    have hl2 := hlen.out
    by_cases hlt : k < w
    · obtain ⟨hz9, g, rfl, hg1, hg2, hcell⟩ := hown.open_ (by omega)
      clear hz9
      have hx : (lo + 1) - 1 < ((extl (lo + 1) w a).take k).length := by rw [List.length_take]; omega
      have hc0 := hcell ((lo + 1) - 1) hx
      have hval : ((extl (lo + 1) w a).take k)[(lo + 1) - 1] = a / 2 ^ ((lo + 1) - 1) % 2 := by
        rw [List.getElem_take]
        unfold extl
        rw [List.getElem_append_left (by rw [bl_length]; omega), bl_get]
      have hnext : (extl (lo + 1) w a).take (k + 1) = (extl (lo + 1) w a).take k ++ [a / 2 ^ ((lo + 1) - 1) % 2] := by
        rw [List.take_succ_eq_append_getElem (by omega)]
        congr 2
        unfold extl
        rw [List.getElem_append_right (by rw [bl_length]; omega), List.getElem_replicate]
      rw [hval] at hc0
      have HN := Lib.hid hnext
      generalize hy : a / 2 ^ ((lo + 1) - 1) % 2 = y at hc0 HN
      have hlt2 : Hid (((extl (lo + 1) w a).take k).length = k) := by rw [Hid, List.length_take]; omega
      clear hcell hval hnext hy hx hl2
      rw [Nat.add_sub_cancel] at hc0
      have HW := Lib.hid hw
      have H12 : Hid (1 ≤ lo + 1 ∧ lo + 1 ≤ w ∧ lo + 1 ≤ k) := ⟨h1, h2, hk1⟩
      have hlo64 : (lo : Int) < 64 := by omega
      have hlo : (lo : Int) < (k : Int) := by omega
      have hlt' : (k : Int) < (w : Int) := by omega
      clear hk2 hw h1 h2 hk1 hlt
      go_wp2_with (at_builtin; refine push_int rfl _ _ rfl wr _ rfl y _ rfl rfl hown hB.size (by have := hlt2.out; have := HW.out; omega) (k + 1) (by have := hlt2.out; omega) ?_ ?c3; intro A1 c1 w1 ho1 hg1)
      go_roundw
      case rel => exact ⟨k + 1, c1, A1, by have := H12.out; omega, by omega, rfl, by rw [HN.out]; exact ho1, hown.grown hg1 (Nat.le_refl _) hB.size hB⟩
      case measure => simp; omega
      case c3 => rfl
    · obtain rfl : k = w := by omega
      have e : (extl (lo + 1) k a).take k = extl (lo + 1) k a := List.take_of_length_le (by omega)
      rw [e] at hown
      clear e hl2
      go_wp2_with fail
      refine (RNumber_any A k c _ _ hown.ints H2.out hw).mono ?_
      rintro e w2 ⟨rfl, rfl⟩
      go_wp2_with fail
      go_ret
      exact ⟨rfl, hB⟩
end Go.Proofs.YtnhnbcjffnlicaaDoor

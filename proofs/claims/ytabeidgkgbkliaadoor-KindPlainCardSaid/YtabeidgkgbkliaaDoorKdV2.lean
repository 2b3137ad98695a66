/-
  Layer 4, the document's side: the writing of value types, and of some.
-/
import Derived.Test.YtabeidgkgbkliaaDoorKdV
import Derived.Test.YtabeidgkgbkliaaDoorKdI
namespace Go.Proofs.YtabeidgkgbkliaaDoor
open Go.RowKit
set_option linter.unusedVariables false
set_option maxRecDepth 100000

theorem rValText_any (v : Vl) (hp : Kd.pVal v = true) (w : World) :
    Calls Tryd.prog 22 #[v.val] w fun e w' => e = .returned (Str (Kd.vT v)) ∧ Below w.heap.size w w' := by
  obtain ⟨k, nu, h⟩ := v
  have hb0 : Below w.heap.size w (w.alloc (.cells #[.int .i64 k, .bool nu, .int .i64 h.k, .int .i64 h.n] 35)) := (Below.refl _ _).alloc (Nat.le_refl _) _
  have hB := Lib.hid hb0
  clear hb0
  unfold Vl.val
  dsimp only
  by_cases h1 : k = 1
  · subst h1
    go_enter Tryd.func22, Tryd.ntmps22
    go_wp2
    go_ret
    exact ⟨by simp [Kd.vT], hB.out⟩
  · by_cases h2 : k = 2
    · subst h2
      go_enter Tryd.func22, Tryd.ntmps22
      go_wp2
      go_ret
      exact ⟨by simp [Kd.vT], hB.out⟩
    · have hk : k = 3 ∧ Kd.pHeap h = true := by
        unfold Kd.pVal at hp
        rw [if_neg h1, if_neg h2] at hp
        split at hp
        · exact ⟨by assumption, hp⟩
        · cases hp
      obtain ⟨rfl, hph⟩ := hk
      have ho := Lib.hid (Kd.okH_of hph)
      have hl := Kd.hT_len h ho.out
      clear hp
      obtain ⟨t, ht⟩ : ∃ t, Kd.hT h = t := ⟨_, rfl⟩
      have HC : Hid (∀ W, Calls Tryd.prog 47 #[h.val] W fun e w' => e = .returned (Str t) ∧ Below W.heap.size W w') := Lib.hid fun W => by
        rw [← ht]; exact rHeapText_any h hph W
      rw [ht] at hl
      have ht' := Lib.hid ht
      clear ht hph
      have s1 : (9223372036854775807 < 10 + t.length) = False := eq_false (by omega)
      have s2 : (9223372036854775807 < 10 + t.length + 1) = False := eq_false (by omega)
      have s3 : (9223372036854775807 < 5 + t.length) = False := eq_false (by omega)
      have s4 : (9223372036854775807 < 5 + t.length + 1) = False := eq_false (by omega)
      cases nu
      all_goals
        go_enter Tryd.func22, Tryd.ntmps22
        go_wp2_with fail
        refine (HC.out _).mono ?_
        rintro e w1 ⟨rfl, hb1⟩
        go_wp2
        go_ret
        exact ⟨by simp [Kd.vT, ht'.out, cat_], below_trans hB.out hb1⟩
/-- Some, each behind a blank. -/
theorem Kd.sp_snoc (l : List (List UInt8)) (x : List UInt8) : Kd.sp (l ++ [x]) = Kd.sp l ++ (32 :: x) := by simp [Kd.sp]
theorem Kd.sp_take {α : Type} (T : α → List UInt8) (l : List α) (k : Nat) (h : k < l.length) : Kd.sp ((l.take k).map T) ++ (32 :: T l[k]) = Kd.sp ((l.take (k + 1)).map T) := by
  rw [List.take_succ_eq_append_getElem h, List.map_append, List.map_cons, List.map_nil, Kd.sp_snoc]
theorem rVals2_any (l : List Vl) (A : Option Addr) (c : Nat) (w : World) (hl : l.length ≤ 100) (hp : ∀ x ∈ l, Kd.pVal x = true) (hs : Seg 4 Vl.cs w w.heap.size A c l) :
    Calls Tryd.prog 48 #[.slice A l.length c] w fun e w' => e = .returned (Str (Kd.sp (l.map Kd.vT))) ∧ Below w.heap.size w w' := by
  have HP := Lib.hid hp
  have HS := Lib.hid hs
  have HL := Lib.hid hl
  clear hp hs hl
  go_enter Tryd.func48, Tryd.ntmps48
  go_wp2
  go_loopw [3, 4] (fun t i wr => ∃ k : Nat, k ≤ l.length ∧ i = .int .i64 k ∧ Below w.heap.size w wr ∧ t = Str (Kd.sp ((l.take k).map Kd.vT))) (fun _ i _ => l.length - (intOf i).toNat)
  case atStart => exact ⟨0, Nat.zero_le _, rfl, Below.refl _ _, rfl⟩
  case round =>
    obtain ⟨k, hk, rfl, hB, rfl⟩ := hrel
    by_cases hlt : k < l.length
    · obtain ⟨b, off, rfl, hb, hc⟩ := HS.out.2.2 (by omega)
      have g0 := (hB.cell (p := ⟨b, off + k * 4 + 0, none⟩) hb).trans (hc k hlt 0 _ rfl)
      have g1 := (hB.cell (p := ⟨b, off + k * 4 + 1, none⟩) hb).trans (hc k hlt 1 _ rfl)
      have g2 := (hB.cell (p := ⟨b, off + k * 4 + 2, none⟩) hb).trans (hc k hlt 2 _ rfl)
      have g3 := (hB.cell (p := ⟨b, off + k * 4 + 3, none⟩) hb).trans (hc k hlt 3 _ rfl)
      simp only [Nat.add_zero] at g0
      clear hc HS
      have hlen := Kd.sp_len 40 ((l.take k).map Kd.vT) (fun y hy => by
        obtain ⟨v, hv, rfl⟩ := List.mem_map.1 hy
        exact Kd.vT_len v (HP.out v (List.mem_of_mem_take hv)))
      rw [List.length_map, List.length_take, Nat.min_eq_left hk] at hlen
      obtain ⟨t, ht⟩ : ∃ t, Kd.sp ((l.take k).map Kd.vT) = t := ⟨_, rfl⟩
      rw [ht] at hlen
      rw [ht]
      have hstep := Lib.hid (Kd.sp_take Kd.vT l k hlt)
      rw [ht] at hstep
      have ht' := Lib.hid ht
      clear ht
      obtain ⟨x, hx⟩ : ∃ x, x = l[k] := ⟨_, rfl⟩
      rw [← hx] at g0 g1 g2 g3 hstep
      have hpx := Lib.hid (HP.out l[k] (List.getElem_mem hlt))
      rw [← hx] at hpx
      have hx' := Lib.hid hx
      clear hx
      have hlx := Kd.vT_len x hpx.out
      have HC : Hid (∀ W, Calls Tryd.prog 22 #[x.val] W fun e w' => e = .returned (Str (Kd.vT x)) ∧ Below W.heap.size W w') := Lib.hid fun W => rValText_any x hpx.out W
      obtain ⟨u, hu⟩ : ∃ u, Kd.vT x = u := ⟨_, rfl⟩
      rw [hu] at HC hstep hlx
      clear hu
      have hkl : k * 41 ≤ 4100 := by have := HL.out; omega
      have s1 : (9223372036854775807 < t.length + 1) = False := eq_false (by omega)
      have s2 : (9223372036854775807 < t.length + 1 + u.length) = False := eq_false (by omega)
      have HB := Lib.hid hB
      go_wp2_with fail
      refine (HC.out _).mono ?_
      rintro e w1 ⟨rfl, hb1⟩
      have HB1 := Lib.hid (below_trans2 HB.out hb1)
      clear hb1
      go_wp2
      go_roundw
      case rel => exact ⟨k + 1, by omega, by go_num, HB1.out, by rw [← hstep.out]; simp [cat_]⟩
      case measure => simp [intOf]; omega
    · have hkn : k = l.length := by omega
      clear HS
      go_wp2
      go_ret
      refine ⟨ret_str ?_, hB⟩
      rw [hkn, List.take_length]
end Go.Proofs.YtabeidgkgbkliaaDoor

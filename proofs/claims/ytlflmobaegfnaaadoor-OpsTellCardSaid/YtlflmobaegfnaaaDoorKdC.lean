/-
  Layer 4, code: slices.Equal at heap types, value types and fields.
-/
import Derived.Test.YtlflmobaegfnaaaDoorKdA
import Derived.Deep.Draws
namespace Go.Proofs.YtlflmobaegfnaaaDoor
open Go.RowKit
set_option linter.unusedVariables false
set_option maxRecDepth 100000

theorem run_neqH (x y : Hp) (w : World) : (binOp .neq 39 x.val y.val).run Tryd.prog w = .ok (.bool (!decide (x = y))) w := by
  obtain ⟨a, b⟩ := x
  obtain ⟨a', b'⟩ := y
  unfold Hp.val
  by_cases h1 : a = a' <;> by_cases h2 : b = b' <;> go_simp <;> simp_all
theorem run_neqV (x y : Vl) (w : World) : (binOp .neq 46 x.val y.val).run Tryd.prog w = .ok (.bool (!decide (x = y))) w := by
  obtain ⟨a, b, c, d⟩ := x
  obtain ⟨a', b', c', d'⟩ := y
  unfold Vl.val
  by_cases h1 : a = a' <;> by_cases h2 : b = b' <;> by_cases h3 : c = c' <;> by_cases h4 : d = d' <;> go_simp <;> simp_all
theorem run_neqF (x y : Fd) (w : World) : (binOp .neq 50 x.val y.val).run Tryd.prog w = .ok (.bool (!decide (x = y))) w := by
  obtain ⟨p, ⟨a, b, c, d⟩, m⟩ := x
  obtain ⟨p', ⟨a', b', c', d'⟩, m'⟩ := y
  unfold Fd.val
  by_cases h0 : p = p'
  · by_cases h1 : a = a'
    · by_cases h2 : b = b' <;> by_cases h3 : c = c' <;> by_cases h4 : d = d' <;> by_cases h5 : m = m' <;> go_simp <;> simp_all
    · go_simp <;> simp_all
  · go_simp <;> simp_all

theorem eq_h (l m : List Hp) (A A' : Option Addr) (c c' : Nat) (w : World) (hl : l.length ≤ 100) (hm : m.length ≤ 100) (C : Nat) (hs : Seg 2 Hp.cs w C A c l) (hs' : Seg 2 Hp.cs w C A' c' m) :
    Calls Tryd.prog 46 #[.slice A l.length c, .slice A' m.length c'] w fun e w' => e = .returned (.bool (decide (l = m))) ∧ ∃ n, w' = w.drewN n := by
  obtain ⟨r, hr⟩ : ∃ r, decide (l = m) = r := ⟨_, rfl⟩
  rw [hr]
  have hr' := Lib.hid hr
  clear hr
  by_cases hlen : l.length = m.length
  · have hbm : Hid (((m.length : Int) != (m.length : Int)) = false) := Lib.hid (by simp)
    have e0 := hlen
    rw [hlen]
    have hlen' := Lib.hid e0
    clear e0 hlen
    go_enter Tryd.func46, Tryd.ntmps46
    go_wp2
    go_loopw [5, 13] (fun _ i wr => ∃ k : Nat, k ≤ m.length ∧ i = .int .i64 k ∧ (∃ n, wr = w.drewN n) ∧ l.take k = m.take k) (fun _ i _ => m.length - (intOf i).toNat)
    case atStart => exact ⟨0, Nat.zero_le _, rfl, ⟨0, rfl⟩, by simp⟩
    case round =>
      obtain ⟨k, hk, rfl, ⟨n, rfl⟩, htk⟩ := hrel
      have htk' := Lib.hid htk
      clear htk
      by_cases hlt : k < m.length
      · have hltl : Hid (k < l.length) := Lib.hid (by rw [hlen'.out]; exact hlt)
        obtain ⟨b, off, rfl, hb, hc⟩ := hs.2.2 (by have := hltl.out; omega)
        obtain ⟨b', off', rfl, hb', hc'⟩ := hs'.2.2 (by omega)
        obtain ⟨x, hx⟩ : ∃ x, x = l[k]'hltl.out := ⟨_, rfl⟩
        obtain ⟨y, hy⟩ : ∃ y, y = m[k] := ⟨_, rfl⟩
        have g0 := hc k hltl.out 0 _ rfl
        have g1 := hc k hltl.out 1 _ rfl
        have h0 := hc' k hlt 0 _ rfl
        have h1 := hc' k hlt 1 _ rfl
        rw [← hx] at g0 g1
        rw [← hy] at h0 h1
        have hx' := Lib.hid hx
        have hy' := Lib.hid hy
        clear hx hy
        simp only [Nat.add_zero] at g0 h0
        clear hc hs hc' hs'
        have i0 : (0 : Int) ≤ k := by omega
        have i1 : (k : Int) < m.length := by omega
        cases hxy : decide (x = y)
        · have hne := fun w => run_neqH x y w
          rw [hxy] at hne
          unfold Hp.val at hne
          have hxy' := Lib.hid hxy
          clear hxy
          go_wp2
          go_quiet (fail)
          go_wp2
          go_ret
          refine ⟨ret_bool ?_, _, World.drewN_drewN _ _ _⟩
          rw [← hr'.out]
          refine (decide_eq_false fun e => ?_).symm
          subst e
          exact absurd (hx'.out.trans hy'.out.symm) (of_decide_eq_false hxy'.out)
        · have hxy := of_decide_eq_true hxy
          have hsx : Hid (l.take (k + 1) = m.take (k + 1)) := Lib.hid (by
            rw [List.take_succ_eq_append_getElem hltl.out, List.take_succ_eq_append_getElem hlt, htk'.out, ← hx'.out, ← hy'.out, hxy])
          clear hx' hy' htk'
          subst hxy
          have hne := fun w => run_neqH x x w
          rw [decide_eq_true rfl] at hne
          unfold Hp.val at hne
          go_wp2
          go_quiet (fail)
          go_wp2
          go_roundw
          case rel => exact ⟨k + 1, by omega, by go_num, ⟨_, rfl⟩, hsx.out⟩
          case measure => simp [intOf]; omega
      · clear hs hs'
        go_wp2
        go_ret
        refine ⟨ret_bool ?_, _, rfl⟩
        rw [← hr'.out]
        refine (decide_eq_true ?_).symm
        have h := htk'.out
        rwa [List.take_of_length_le (by have := hlen'.out; omega), List.take_of_length_le (by omega)] at h
  · have hbm : ((l.length : Int) != (m.length : Int)) = true := by simp; omega
    go_enter Tryd.func46, Tryd.ntmps46
    go_wp2
    go_ret
    refine ⟨ret_bool ?_, 0, rfl⟩
    rw [← hr'.out]
    refine (decide_eq_false fun e => ?_).symm
    exact hlen (by rw [e])

theorem eq_v (l m : List Vl) (A A' : Option Addr) (c c' : Nat) (w : World) (hl : l.length ≤ 100) (hm : m.length ≤ 100) (C : Nat) (hs : Seg 4 Vl.cs w C A c l) (hs' : Seg 4 Vl.cs w C A' c' m) :
    Calls Tryd.prog 86 #[.slice A l.length c, .slice A' m.length c'] w fun e w' => e = .returned (.bool (decide (l = m))) ∧ ∃ n, w' = w.drewN n := by
  obtain ⟨r, hr⟩ : ∃ r, decide (l = m) = r := ⟨_, rfl⟩
  rw [hr]
  have hr' := Lib.hid hr
  clear hr
  by_cases hlen : l.length = m.length
  · have hbm : Hid (((m.length : Int) != (m.length : Int)) = false) := Lib.hid (by simp)
    have e0 := hlen
    rw [hlen]
    have hlen' := Lib.hid e0
    clear e0 hlen
    go_enter Tryd.func86, Tryd.ntmps86
    go_wp2
    go_loopw [5, 13] (fun _ i wr => ∃ k : Nat, k ≤ m.length ∧ i = .int .i64 k ∧ (∃ n, wr = w.drewN n) ∧ l.take k = m.take k) (fun _ i _ => m.length - (intOf i).toNat)
    case atStart => exact ⟨0, Nat.zero_le _, rfl, ⟨0, rfl⟩, by simp⟩
    case round =>
      obtain ⟨k, hk, rfl, ⟨n, rfl⟩, htk⟩ := hrel
      have htk' := Lib.hid htk
      clear htk
      by_cases hlt : k < m.length
      · have hltl : Hid (k < l.length) := Lib.hid (by rw [hlen'.out]; exact hlt)
        obtain ⟨b, off, rfl, hb, hc⟩ := hs.2.2 (by have := hltl.out; omega)
        obtain ⟨b', off', rfl, hb', hc'⟩ := hs'.2.2 (by omega)
        obtain ⟨x, hx⟩ : ∃ x, x = l[k]'hltl.out := ⟨_, rfl⟩
        obtain ⟨y, hy⟩ : ∃ y, y = m[k] := ⟨_, rfl⟩
        have g0 := hc k hltl.out 0 _ rfl
        have g1 := hc k hltl.out 1 _ rfl
        have g2 := hc k hltl.out 2 _ rfl
        have g3 := hc k hltl.out 3 _ rfl
        have h0 := hc' k hlt 0 _ rfl
        have h1 := hc' k hlt 1 _ rfl
        have h2 := hc' k hlt 2 _ rfl
        have h3 := hc' k hlt 3 _ rfl
        rw [← hx] at g0 g1 g2 g3
        rw [← hy] at h0 h1 h2 h3
        have hx' := Lib.hid hx
        have hy' := Lib.hid hy
        clear hx hy
        simp only [Nat.add_zero] at g0 h0
        clear hc hs hc' hs'
        have i0 : (0 : Int) ≤ k := by omega
        have i1 : (k : Int) < m.length := by omega
        cases hxy : decide (x = y)
        · have hne := fun w => run_neqV x y w
          rw [hxy] at hne
          unfold Vl.val at hne
          have hxy' := Lib.hid hxy
          clear hxy
          go_wp2
          go_quiet (fail)
          go_wp2
          go_ret
          refine ⟨ret_bool ?_, _, World.drewN_drewN _ _ _⟩
          rw [← hr'.out]
          refine (decide_eq_false fun e => ?_).symm
          subst e
          exact absurd (hx'.out.trans hy'.out.symm) (of_decide_eq_false hxy'.out)
        · have hxy := of_decide_eq_true hxy
          have hsx : Hid (l.take (k + 1) = m.take (k + 1)) := Lib.hid (by
            rw [List.take_succ_eq_append_getElem hltl.out, List.take_succ_eq_append_getElem hlt, htk'.out, ← hx'.out, ← hy'.out, hxy])
          clear hx' hy' htk'
          subst hxy
          have hne := fun w => run_neqV x x w
          rw [decide_eq_true rfl] at hne
          unfold Vl.val at hne
          go_wp2
          go_quiet (fail)
          go_wp2
          go_roundw
          case rel => exact ⟨k + 1, by omega, by go_num, ⟨_, rfl⟩, hsx.out⟩
          case measure => simp [intOf]; omega
      · clear hs hs'
        go_wp2
        go_ret
        refine ⟨ret_bool ?_, _, rfl⟩
        rw [← hr'.out]
        refine (decide_eq_true ?_).symm
        have h := htk'.out
        rwa [List.take_of_length_le (by have := hlen'.out; omega), List.take_of_length_le (by omega)] at h
  · have hbm : ((l.length : Int) != (m.length : Int)) = true := by simp; omega
    go_enter Tryd.func86, Tryd.ntmps86
    go_wp2
    go_ret
    refine ⟨ret_bool ?_, 0, rfl⟩
    rw [← hr'.out]
    refine (decide_eq_false fun e => ?_).symm
    exact hlen (by rw [e])

theorem eq_f (l m : List Fd) (A A' : Option Addr) (c c' : Nat) (w : World) (hl : l.length ≤ 100) (hm : m.length ≤ 100) (C : Nat) (hs : Seg 6 Fd.cs w C A c l) (hs' : Seg 6 Fd.cs w C A' c' m) :
    Calls Tryd.prog 70 #[.slice A l.length c, .slice A' m.length c'] w fun e w' => e = .returned (.bool (decide (l = m))) ∧ ∃ n, w' = w.drewN n := by
  obtain ⟨r, hr⟩ : ∃ r, decide (l = m) = r := ⟨_, rfl⟩
  rw [hr]
  have hr' := Lib.hid hr
  clear hr
  by_cases hlen : l.length = m.length
  · have hbm : Hid (((m.length : Int) != (m.length : Int)) = false) := Lib.hid (by simp)
    have e0 := hlen
    rw [hlen]
    have hlen' := Lib.hid e0
    clear e0 hlen
    go_enter Tryd.func70, Tryd.ntmps70
    go_wp2
    go_loopw [5, 13] (fun _ i wr => ∃ k : Nat, k ≤ m.length ∧ i = .int .i64 k ∧ (∃ n, wr = w.drewN n) ∧ l.take k = m.take k) (fun _ i _ => m.length - (intOf i).toNat)
    case atStart => exact ⟨0, Nat.zero_le _, rfl, ⟨0, rfl⟩, by simp⟩
    case round =>
      obtain ⟨k, hk, rfl, ⟨n, rfl⟩, htk⟩ := hrel
      have htk' := Lib.hid htk
      clear htk
      by_cases hlt : k < m.length
      · have hltl : Hid (k < l.length) := Lib.hid (by rw [hlen'.out]; exact hlt)
        obtain ⟨b, off, rfl, hb, hc⟩ := hs.2.2 (by have := hltl.out; omega)
        obtain ⟨b', off', rfl, hb', hc'⟩ := hs'.2.2 (by omega)
        obtain ⟨x, hx⟩ : ∃ x, x = l[k]'hltl.out := ⟨_, rfl⟩
        obtain ⟨y, hy⟩ : ∃ y, y = m[k] := ⟨_, rfl⟩
        have g0 := hc k hltl.out 0 _ rfl
        have g1 := hc k hltl.out 1 _ rfl
        have g2 := hc k hltl.out 2 _ rfl
        have g3 := hc k hltl.out 3 _ rfl
        have g4 := hc k hltl.out 4 _ rfl
        have g5 := hc k hltl.out 5 _ rfl
        have h0 := hc' k hlt 0 _ rfl
        have h1 := hc' k hlt 1 _ rfl
        have h2 := hc' k hlt 2 _ rfl
        have h3 := hc' k hlt 3 _ rfl
        have h4 := hc' k hlt 4 _ rfl
        have h5 := hc' k hlt 5 _ rfl
        rw [← hx] at g0 g1 g2 g3 g4 g5
        rw [← hy] at h0 h1 h2 h3 h4 h5
        have hx' := Lib.hid hx
        have hy' := Lib.hid hy
        clear hx hy
        simp only [Nat.add_zero] at g0 h0
        clear hc hs hc' hs'
        have i0 : (0 : Int) ≤ k := by omega
        have i1 : (k : Int) < m.length := by omega
        cases hxy : decide (x = y)
        · have hne := fun w => run_neqF x y w
          rw [hxy] at hne
          unfold Fd.val at hne
          have hxy' := Lib.hid hxy
          clear hxy
          go_wp2
          go_quiet (fail)
          go_wp2
          go_ret
          refine ⟨ret_bool ?_, _, World.drewN_drewN _ _ _⟩
          rw [← hr'.out]
          refine (decide_eq_false fun e => ?_).symm
          subst e
          exact absurd (hx'.out.trans hy'.out.symm) (of_decide_eq_false hxy'.out)
        · have hxy := of_decide_eq_true hxy
          have hsx : Hid (l.take (k + 1) = m.take (k + 1)) := Lib.hid (by
            rw [List.take_succ_eq_append_getElem hltl.out, List.take_succ_eq_append_getElem hlt, htk'.out, ← hx'.out, ← hy'.out, hxy])
          clear hx' hy' htk'
          subst hxy
          have hne := fun w => run_neqF x x w
          rw [decide_eq_true rfl] at hne
          unfold Fd.val at hne
          go_wp2
          go_quiet (fail)
          go_wp2
          go_roundw
          case rel => exact ⟨k + 1, by omega, by go_num, ⟨_, rfl⟩, hsx.out⟩
          case measure => simp [intOf]; omega
      · clear hs hs'
        go_wp2
        go_ret
        refine ⟨ret_bool ?_, _, rfl⟩
        rw [← hr'.out]
        refine (decide_eq_true ?_).symm
        have h := htk'.out
        rwa [List.take_of_length_le (by have := hlen'.out; omega), List.take_of_length_le (by omega)] at h
  · have hbm : ((l.length : Int) != (m.length : Int)) = true := by simp; omega
    go_enter Tryd.func70, Tryd.ntmps70
    go_wp2
    go_ret
    refine ⟨ret_bool ?_, 0, rfl⟩
    rw [← hr'.out]
    refine (decide_eq_false fun e => ?_).symm
    exact hlen (by rw [e])
end Go.Proofs.YtlflmobaegfnaaaDoor

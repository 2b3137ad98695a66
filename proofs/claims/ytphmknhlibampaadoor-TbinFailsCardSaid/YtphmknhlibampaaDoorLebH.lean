/-
  The document's own U and S, walked.
-/
import Derived.Test.YtphmknhlibampaaDoorLebG
namespace Go.Proofs.YtphmknhlibampaaDoor
open Go.RowKit
set_option linter.unusedVariables false

/-- 'b[at:]': what is left of some bytes. -/
theorem Bytes.from_ {w : World} {C n c : Nat} {A : Option Addr} {l : List Nat} {k : Nat} (h : Bytes w C A n c l) (hk : k ≤ n) :
    Bytes w C (if c = k then A else A.map (·.add k)) (n - k) (c - k) (l.drop k) := by
  obtain ⟨h1, h2, h3, h4, h5⟩ := h
  refine ⟨by rw [List.length_drop, h1], by omega, by omega, fun x hx => h4 x (List.mem_of_mem_drop hx), fun h0 => ?_⟩
  obtain ⟨b, off, rfl, hb, hc⟩ := h5 (by omega)
  rw [if_neg (by omega)]
  refine ⟨b, off + k, by simp [Addr.add_lit], hb, fun j hj => ?_⟩
  have hj' : k + j < l.length := by rw [List.length_drop] at hj; omega
  have := hc (k + j) hj'
  rw [List.getElem_drop, Nat.add_assoc]
  exact this

def RefU (r : Nat × Nat × Nat) (w : World) (e : Ending) (w' : World) : Prop := e = .returned (.tuple #[.int .u64 r.1, .int .i64 r.2.1, .int .i64 r.2.2]) ∧ Below w.heap.size w w'
theorem u64_horn (X y : Nat) : IntKind.u64.wrap (IntKind.u64.wrap ((X : Int) * 2) + IntKind.u64.wrap (y : Int)) = (((X * 2 % 18446744073709551616 + y) % 18446744073709551616 : Nat) : Int) := by
  have e : ∀ n : Int, IntKind.u64.wrap n = n % 18446744073709551616 := fun n => by simp [IntKind.wrap, IntKind.bits, IntKind.signed]
  rw [e, e, e]; omega
theorem hornU_lt (l : List Nat) : Leb.hornU l < 18446744073709551616 := by rw [Leb.hornU_eq]; exact Nat.mod_lt _ (by omega)

set_option maxRecDepth 100000 in
set_option maxHeartbeats 1000000 in
theorem refRead_bad (A : Option Addr) (n c : Nat) (at0 bits : Int) (w : World) (hm : n ≤ maxLen) (h : bits < 1 ∨ 64 < bits ∨ at0 < 0 ∨ (n : Int) < at0) :
    Calls Tryd.prog 46 #[.slice A n c, .int .i64 at0, .int .i64 bits] w fun e w' => e = .returned (.tuple #[.int .u64 0, .int .i64 0, .int .i64 2]) ∧ w = w' := by
  unfold maxLen at hm
  have H : Hid (bits < 1 ∨ 64 < bits ∨ at0 < 0 ∨ (n : Int) < at0) := h
  clear h
  by_cases h1 : bits < 1
  · have t1 : decide (bits < 1) = true := by simpa using h1
    go_enter Tryd.func46, Tryd.ntmps46
    go_wp2_with fail
    go_ret3
    exact ⟨rfl, rfl⟩
  have t1 : decide (bits < 1) = false := by simpa using h1
  by_cases h2 : 64 < bits
  · have t2 : decide (64 < bits) = true := by simpa using h2
    go_enter Tryd.func46, Tryd.ntmps46
    go_wp2_with fail
    go_ret3
    exact ⟨rfl, rfl⟩
  have t2 : decide (64 < bits) = false := by simpa using h2
  by_cases h3 : at0 < 0
  · have t3 : decide (at0 < 0) = true := by simpa using h3
    go_enter Tryd.func46, Tryd.ntmps46
    go_wp2_with fail
    go_ret3
    exact ⟨rfl, rfl⟩
  have t3 : decide (at0 < 0) = false := by simpa using h3
  have t4 : decide ((n : Int) < at0) = true := by have := H.out; simp; omega
  go_enter Tryd.func46, Tryd.ntmps46
  go_wp2_with fail
  go_ret3
  exact ⟨rfl, rfl⟩

set_option maxRecDepth 100000 in
set_option maxHeartbeats 2000000 in
theorem refU_ok (A : Option Addr) (n c : Nat) (l : List Nat) (at0 bits : Nat) (w : World) (hy : Bytes w w.heap.size A n c l) (hn5 : n ≤ 100000) (ha : at0 ≤ n) (h1 : 1 ≤ bits) (h2 : bits ≤ 64) :
    Calls Tryd.prog 46 #[.slice A n c, .int .i64 at0, .int .i64 bits] w (RefU (told false l at0 bits) w) := by
  have ha5 : at0 ≤ 100000 := by omega
  have hm := hy.2.2.1
  have hnc := hy.2.1
  unfold maxLen at hm
  have hl0 := hy.1
  have t1 : decide ((bits : Int) < 1) = false := by simp; omega
  have t2 : decide (64 < (bits : Int)) = false := by simp; omega
  have t3 : decide ((at0 : Int) < 0) = false := by simp
  have t4 : decide (n < at0) = false := by simp; omega
  have hc1 : at0 ≤ c := by omega
  have hyd := hy.from_ ha
  have HB := Lib.hid (Bits_any _ _ _ _ bits false w hyd h1 h2)
  have hrel := Leb.rdB_rd bits false h2 (l.drop at0) 0 [] at0 (fun x hx => hy.2.2.2.1 x (List.mem_of_mem_drop hx)) rfl (by omega) (by simp)
  have hT := told_eq false l at0 bits h1 h2 (by omega)
  rw [show Leb.val [] = 0 from rfl, Nat.mul_zero] at hrel
  rw [← hT] at hrel
  have HREL := Lib.hid hrel
  clear hrel hT hl0
  generalize hq : Leb.rdB bits false (l.drop at0) 0 [] = q at HB HREL
  clear hq hyd hy
  generalize told false l at0 bits = r at HREL
  by_cases hcap : c = at0
  · obtain rfl : at0 = n := by omega
    obtain rfl : at0 = c := by omega
    rw [if_pos rfl, Nat.sub_self] at HB
    clear hm
    go_enter Tryd.func46, Tryd.ntmps46
    go_wp2_with fail
    refine HB.out.mono ?_
    rintro e w1 ⟨A5, c5, rfl, ho, hb⟩
    rcases HREL.out with ⟨g1, g2, g3⟩ | ⟨res, cc, g1, g2, g3, g4, g5, g6⟩
    · generalize q.2.2 = e at *
      subst g2 g3
      clear HREL HB
      have hne : ((e : Int) != 0) = true := by simp; exact g1
      clear g1
      go_wp2_with fail
      go_ret3
      exact ⟨rfl, hb⟩
    · subst g1
      clear HREL HB
      have hlen : Hid (res.length = 7 * (0 + cc)) := g3
      have hres : Hid (∀ y ∈ res, y < 2) := g5
      have hr : Hid (r = (Leb.ext false (Leb.val res % 18446744073709551616) res.length, at0 + cc, 0)) := g6
      have hL : res.length ≤ 70 := by omega
      have hL1 : 7 ≤ res.length := by omega
      rw [Nat.zero_add] at ho g4 ⊢
      clear g5 g6 g3
      simp only at ho
      obtain ⟨_, g, rfl, hg, hgs, hci⟩ := ho.open_ (by omega)
      have HCI := Lib.hid hci
      clear hci
      go_wp2_with fail
      go_loop [12, 13] (fun t u => ∃ j : Nat, t = .int .u64 (Leb.hornU (res.drop j)) ∧ u = .int .i64 ((j : Int) - 1) ∧ j ≤ res.length) (fun _ u => (intOf u + 1).toNat)
      case atStart => exact ⟨res.length, by rw [List.drop_of_length_le (by omega)]; rfl, rfl, by omega⟩
      case round =>
        obtain ⟨j, rfl, rfl, hj⟩ := hrel
        have hu := hornU_lt (res.drop j)
        rcases Nat.eq_zero_or_pos j with rfl | hj0
        · generalize hX : Leb.hornU (res.drop 0) = X at hu ⊢
          have HX := Lib.hid hX
          clear hX hu
          go_wp2_with fail
          go_ret3
          have hr2 := hr.out
          rw [Leb.hornU_eq, List.drop_zero] at HX
          rw [HX.out] at hr2
          exact ⟨by rw [hr2]; rfl, hb⟩
        · obtain ⟨j, rfl⟩ : ∃ k, j = k + 1 := ⟨j - 1, by omega⟩
          have hjl : j < res.length := by omega
          have hcj := HCI.out j hjl
          have hb2 := hres.out res[j] (List.getElem_mem hjl)
          have hst : Hid (Leb.hornU (res.drop j) = (Leb.hornU (res.drop (j + 1)) * 2 % 18446744073709551616 + res[j]) % 18446744073709551616) := by
            rw [Hid, List.drop_eq_getElem_cons hjl]; rfl
          generalize Leb.hornU (res.drop (j + 1)) = X at hu hst ⊢
          generalize res[j] = y at hcj hb2 hst
          have HU := Lib.hid hu
          have HB2 := Lib.hid hb2
          clear hu hb2
          go_wp2_with fail
          go_round
          case rel => exact ⟨j, by rw [hst.out, u64_horn], rfl, by omega⟩
          case measure => simp [intOf]
  · rw [if_neg hcap] at HB
    clear hm
    go_enter Tryd.func46, Tryd.ntmps46
    go_wp2_with fail
    refine HB.out.mono ?_
    rintro e w1 ⟨A5, c5, rfl, ho, hb⟩
    rcases HREL.out with ⟨g1, g2, g3⟩ | ⟨res, cc, g1, g2, g3, g4, g5, g6⟩
    · generalize q.2.2 = e at *
      subst g2 g3
      clear HREL HB
      have hne : ((e : Int) != 0) = true := by simp; exact g1
      clear g1
      go_wp2_with fail
      go_ret3
      exact ⟨rfl, hb⟩
    · subst g1
      clear HREL HB
      have hlen : Hid (res.length = 7 * (0 + cc)) := g3
      have hres : Hid (∀ y ∈ res, y < 2) := g5
      have hr : Hid (r = (Leb.ext false (Leb.val res % 18446744073709551616) res.length, at0 + cc, 0)) := g6
      have hL : res.length ≤ 70 := by omega
      have hL1 : 7 ≤ res.length := by omega
      rw [Nat.zero_add] at ho g4 ⊢
      clear g5 g6 g3
      simp only at ho
      obtain ⟨_, g, rfl, hg, hgs, hci⟩ := ho.open_ (by omega)
      have HCI := Lib.hid hci
      clear hci
      go_wp2_with fail
      go_loop [12, 13] (fun t u => ∃ j : Nat, t = .int .u64 (Leb.hornU (res.drop j)) ∧ u = .int .i64 ((j : Int) - 1) ∧ j ≤ res.length) (fun _ u => (intOf u + 1).toNat)
      case atStart => exact ⟨res.length, by rw [List.drop_of_length_le (by omega)]; rfl, rfl, by omega⟩
      case round =>
        obtain ⟨j, rfl, rfl, hj⟩ := hrel
        have hu := hornU_lt (res.drop j)
        rcases Nat.eq_zero_or_pos j with rfl | hj0
        · generalize hX : Leb.hornU (res.drop 0) = X at hu ⊢
          have HX := Lib.hid hX
          clear hX hu
          go_wp2_with fail
          go_ret3
          have hr2 := hr.out
          rw [Leb.hornU_eq, List.drop_zero] at HX
          rw [HX.out] at hr2
          exact ⟨by rw [hr2]; rfl, hb⟩
        · obtain ⟨j, rfl⟩ : ∃ k, j = k + 1 := ⟨j - 1, by omega⟩
          have hjl : j < res.length := by omega
          have hcj := HCI.out j hjl
          have hb2 := hres.out res[j] (List.getElem_mem hjl)
          have hst : Hid (Leb.hornU (res.drop j) = (Leb.hornU (res.drop (j + 1)) * 2 % 18446744073709551616 + res[j]) % 18446744073709551616) := by
            rw [Hid, List.drop_eq_getElem_cons hjl]; rfl
          generalize Leb.hornU (res.drop (j + 1)) = X at hu hst ⊢
          generalize res[j] = y at hcj hb2 hst
          have HU := Lib.hid hu
          have HB2 := Lib.hid hb2
          clear hu hb2
          go_wp2_with fail
          go_round
          case rel => exact ⟨j, by rw [hst.out, u64_horn], rfl, by omega⟩
          case measure => simp [intOf]

/-- The document's U, at all arguments. -/
theorem refUall (A : Option Addr) (n c : Nat) (l : List Nat) (at0 bits : Int) (w : World) (hy : Bytes w w.heap.size A n c l) (hn5 : n ≤ 100000) :
    Calls Tryd.prog 46 #[.slice A n c, .int .i64 at0, .int .i64 bits] w (RefU (told false l at0 bits) w) := by
  by_cases h : bits < 1 ∨ 64 < bits ∨ at0 < 0 ∨ (n : Int) < at0
  · refine (refRead_bad A n c at0 bits w (Nat.le_trans hy.2.1 hy.2.2.1) h).mono ?_
    rintro e w' ⟨rfl, rfl⟩
    have hT : told false l at0 bits = (0, 0, 2) := by
      unfold told
      rw [if_pos (by rw [hy.1]; exact h)]
    rw [hT]
    exact ⟨rfl, Below.refl _ _⟩
  · obtain ⟨p, rfl⟩ := Int.eq_ofNat_of_zero_le (show 0 ≤ at0 by omega)
    obtain ⟨q, rfl⟩ := Int.eq_ofNat_of_zero_le (show 0 ≤ bits by omega)
    exact refU_ok A n c l p q w hy hn5 (by omega) (by omega) (by omega)
end Go.Proofs.YtphmknhlibampaaDoor

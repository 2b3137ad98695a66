/-
  Layer 4, code: the writing of heap types, value types, fields.
-/
import Derived.Test.YtlflmobaegfnaaaDoorKdTab
import Derived.Test.YtlflmobaegfnaaaDoorKdE
import Derived.Test.YtlflmobaegfnaaaDoorShelf
import Derived.Lib.ItoaLen
import Derived.Lib.AppendIntMem
namespace Go.Proofs.YtlflmobaegfnaaaDoor
open Go.RowKit
set_option linter.unusedVariables false
set_option maxRecDepth 100000

theorem cat_ (a b : Array UInt8) : (⟨a⟩ : ByteArray) ++ ⟨b⟩ = ⟨a ++ b⟩ := by
  apply ByteArray.ext; simp
theorem ret_str {a b : List UInt8} (h : a = b) : Ending.returned (Str a) = .returned (Str b) := by rw [h]
theorem nm_len (k : Int) : (Kd.nm k).length ≤ 21 := by
  unfold Kd.nm
  repeat (first | (split; · decide) | decide)
/-- What has a writing that is looked at: a number, or one that is given. -/
def Kd.okH (h : Hp) : Bool := (decide (h.k = 13) && (decide (-9223372036854775808 ≤ h.n) && decide (h.n ≤ 9223372036854775807))) || Kd.given h.k
theorem Kd.hT_len (h : Hp) (ho : Kd.okH h = true) : (Kd.hT h).length ≤ 21 := by
  unfold Kd.hT
  split
  · rename_i hk
    unfold Kd.okH Kd.given at ho
    simp only [hk, Bool.or_eq_true, Bool.and_eq_true, decide_eq_true_eq] at ho
    rcases ho with ho | ho
    · exact Lib.itoa_length_le h.n ho.2.1 ho.2.2
    · omega
  · exact nm_len _
theorem Kd.okH_of {h : Hp} (hp : Kd.pHeap h = true) : Kd.okH h = true := by
  unfold Kd.pHeap Kd.pIdx at hp
  unfold Kd.okH
  split at hp
  · rename_i hg; simp [hg]
  · simp only [Bool.and_eq_true, decide_eq_true_eq] at hp
    simp only [Bool.or_eq_true, Bool.and_eq_true, decide_eq_true_eq]
    omega
theorem hT_any (h : Hp) (ho : Kd.okH h = true) (w : World) (hT : Tabs w) :
    Calls Tryd.prog 64 #[h.val] w fun e w' => e = .returned (Str (Kd.hT h)) ∧ Below w.heap.size w w' := by
  obtain ⟨k, n⟩ := h
  unfold Hp.val
  unfold Kd.okH at ho
  have hb0 : Below w.heap.size w (w.alloc (.cells #[.int .i64 k, .int .i64 n] 39)) := (Below.refl _ _).alloc (Nat.le_refl _) _
  have hT1 := hT.below hb0
  dsimp only at ho ⊢
  rcases Decidable.em (k = 13) with hk | hk
  · subst hk
    have hn : -9223372036854775808 ≤ n ∧ n ≤ 9223372036854775807 := by
      have hg : Kd.given 13 = false := by decide
      simpa [hg] using ho
    have hn' := Lib.hid hn
    clear ho hn
    have hpow := Lib.hid hT1.pow
    clear hT hT1
    have hB := Lib.hid hb0
    clear hb0
    go_enter Tryd.func64, Tryd.ntmps64
    go_wp2_with fail
    refine (Tryd.strconv_Itoa n hn'.out.1 hn'.out.2 _ hpow.out).mono ?_
    rintro e w' ⟨rfl, k, os, rfl⟩
    go_wp2
    go_ret
    exact ⟨by simp [Kd.hT], below_trans hB.out (Lib.below_grow _ _ (Nat.le_refl _) _ _)⟩
  · have hg : Kd.given k = true := by simpa [hk] using ho
    obtain ⟨j, hj, h1, h12⟩ : ∃ j : Nat, k = (j : Int) ∧ 1 ≤ j ∧ j ≤ 12 := by
      unfold Kd.given at hg
      simp only [Bool.and_eq_true, decide_eq_true_eq] at hg
      exact ⟨k.toNat, by omega, by omega, by omega⟩
    have g0 := hT1.names j h1 h12
    have hG := Lib.hid hg
    clear hg ho hT hT1
    subst hj
    have hk13 : ((j : Int) == 13) = false := by simp; omega
    have hk14 : ((j : Int) == 14) = false := by simp; omega
    have hk15 : ((j : Int) == 15) = false := by simp; omega
    have hB := Lib.hid hb0
    clear hb0
    have i0 : (0 : Int) ≤ j := by omega
    have i1 : (j : Int) < 13 := by omega
    have j1 : j < 13 := by omega
    go_enter Tryd.func64, Tryd.ntmps64
    go_wp2_with fail
    refine (given_any _ _).mono ?_
    rw [hG.out]
    rintro e w' ⟨rfl, rfl⟩
    go_wp2
    go_ret
    exact ⟨by simp [Kd.hT]; omega, hB.out⟩
theorem vT_any (v : Vl) (hp : Kd.pVal v = true) (w : World) (hT : Tabs w) :
    Calls Tryd.prog 40 #[v.val] w fun e w' => e = .returned (Str (Kd.vT v)) ∧ Below w.heap.size w w' := by
  obtain ⟨k, nu, h⟩ := v
  have hb0 : Below w.heap.size w (w.alloc (.cells #[.int .i64 k, .bool nu, .int .i64 h.k, .int .i64 h.n] 46)) := (Below.refl _ _).alloc (Nat.le_refl _) _
  have hT1 := hT.below hb0
  have hT' := Lib.hid hT1
  have hB := Lib.hid hb0
  clear hT hT1 hb0
  unfold Vl.val
  dsimp only
  by_cases h1 : k = 1
  · subst h1
    go_enter Tryd.func40, Tryd.ntmps40
    go_wp2
    go_ret
    exact ⟨by simp [Kd.vT], hB.out⟩
  · by_cases h2 : k = 2
    · subst h2
      go_enter Tryd.func40, Tryd.ntmps40
      go_wp2
      go_ret
      exact ⟨by simp [Kd.vT], hB.out⟩
    · have hk : k = 3 ∧ Kd.pHeap h = true := by
        unfold Kd.pVal at hp
        rw [if_neg h1, if_neg h2] at hp
        split at hp
        · exact ⟨by assumption, hp⟩
        · cases hp
      obtain ⟨rfl, hph⟩ := hk
      have ho := Lib.hid (Kd.okH_of hph)
      have hl := Kd.hT_len h ho.out
      clear hp hph
      obtain ⟨t, ht⟩ : ∃ t, Kd.hT h = t := ⟨_, rfl⟩
      have HC : Hid (∀ W, Tabs W → Calls Tryd.prog 64 #[h.val] W fun e w' => e = .returned (Str t) ∧ Below W.heap.size W w') := Lib.hid fun W hW => by
        rw [← ht]; exact hT_any h ho.out W hW
      rw [ht] at hl
      have ht' := Lib.hid ht
      clear ht
      have s1 : (9223372036854775807 < 10 + t.length) = False := eq_false (by omega)
      have s2 : (9223372036854775807 < 10 + t.length + 1) = False := eq_false (by omega)
      have s3 : (9223372036854775807 < 5 + t.length) = False := eq_false (by omega)
      have s4 : (9223372036854775807 < 5 + t.length + 1) = False := eq_false (by omega)
      cases nu
      all_goals
        go_enter Tryd.func40, Tryd.ntmps40
        go_wp2_with fail
        refine (HC.out _ hT'.out).mono ?_
        rintro e w1 ⟨rfl, hb1⟩
        go_wp2
        go_ret
        exact ⟨by simp [Kd.vT, ht'.out, cat_], below_trans hB.out hb1⟩
theorem Kd.vT_len (v : Vl) (hp : Kd.pVal v = true) : (Kd.vT v).length ≤ 40 := by
  unfold Kd.vT
  split
  · decide
  · rename_i n1
    split
    · decide
    · rename_i n2
      have hh : Kd.pHeap v.h = true := by
        unfold Kd.pVal at hp
        rw [if_neg n1, if_neg n2] at hp
        split at hp
        · exact hp
        · cases hp
      have := Kd.hT_len v.h (Kd.okH_of hh)
      split <;> simp <;> omega
/-- A store is plain: what stands in a field. -/
def Kd.okS (pk : Int) (v : Vl) : Bool := decide (pk = 8) || (decide (pk = 16) || Kd.pVal v)
theorem Kd.okS_of {f : Fd} (hp : Kd.pField f = true) : Kd.okS f.pk f.v = true := by
  unfold Kd.pField at hp
  unfold Kd.okS
  split at hp
  · simp [hp]
  · split at hp
    · rename_i h; rcases h with h | h <;> simp [h]
    · cases hp
theorem Kd.sT_len (pk : Int) (v : Vl) (hp : Kd.okS pk v = true) : (Kd.sT pk v).length ≤ 40 := by
  unfold Kd.sT
  unfold Kd.okS at hp
  split
  · decide
  · split
    · decide
    · rename_i a b
      simp only [a, b, decide_false, Bool.false_or] at hp
      exact Kd.vT_len v hp
theorem sT_any (pk : Int) (v : Vl) (hp : Kd.okS pk v = true) (w : World) (hT : Tabs w) :
    Calls Tryd.prog 100 #[.agg #[.int .i64 pk, .int .i64 v.k, .bool v.nu, .int .i64 v.h.k, .int .i64 v.h.n]] w fun e w' => e = .returned (Str (Kd.sT pk v)) ∧ Below w.heap.size w w' := by
  have hb0 : Below w.heap.size w (w.alloc (.cells #[.int .i64 pk, .int .i64 v.k, .bool v.nu, .int .i64 v.h.k, .int .i64 v.h.n] 48)) := (Below.refl _ _).alloc (Nat.le_refl _) _
  have hT' := Lib.hid (hT.below hb0)
  have hB := Lib.hid hb0
  clear hT hb0
  by_cases h1 : pk = 8
  · subst h1
    go_enter Tryd.func100, Tryd.ntmps100
    go_wp2
    go_ret
    exact ⟨by simp [Kd.sT], hB.out⟩
  · by_cases h2 : pk = 16
    · subst h2
      go_enter Tryd.func100, Tryd.ntmps100
      go_wp2
      go_ret
      exact ⟨by simp [Kd.sT], hB.out⟩
    · have hv : Kd.pVal v = true := by
        unfold Kd.okS at hp
        simpa [h1, h2] using hp
      have hv' := Lib.hid hv
      clear hv hp
      go_enter Tryd.func100, Tryd.ntmps100
      go_wp2_with fail
      refine (vT_any v hv'.out _ hT'.out).mono ?_
      rintro e w1 ⟨rfl, hb1⟩
      go_wp2
      go_ret
      exact ⟨by simp [Kd.sT, h1, h2], below_trans hB.out hb1⟩
theorem Kd.fT_len (f : Fd) (hp : Kd.pField f = true) : (Kd.fT f).length ≤ 60 := by
  have := Kd.sT_len f.pk f.v (Kd.okS_of hp)
  unfold Kd.fT
  split <;> simp <;> omega
theorem fT_any (f : Fd) (hp : Kd.pField f = true) (w : World) (hT : Tabs w) :
    Calls Tryd.prog 84 #[f.val] w fun e w' => e = .returned (Str (Kd.fT f)) ∧ Below w.heap.size w w' := by
  obtain ⟨pk, v, mu⟩ := f
  have hb0 : Below w.heap.size w (w.alloc (.cells #[.int .i64 pk, .int .i64 v.k, .bool v.nu, .int .i64 v.h.k, .int .i64 v.h.n, .bool mu] 50)) := (Below.refl _ _).alloc (Nat.le_refl _) _
  have hT' := Lib.hid (hT.below hb0)
  have hB := Lib.hid hb0
  have ho := Kd.okS_of hp
  dsimp only at ho
  have hl := Kd.sT_len pk v ho
  obtain ⟨t, ht⟩ : ∃ t, Kd.sT pk v = t := ⟨_, rfl⟩
  have HC : Hid (∀ W, Tabs W → Calls Tryd.prog 100 #[.agg #[.int .i64 pk, .int .i64 v.k, .bool v.nu, .int .i64 v.h.k, .int .i64 v.h.n]] W fun e w' => e = .returned (Str t) ∧ Below W.heap.size W w') := Lib.hid fun W hW => by
    rw [← ht]; exact sT_any pk v ho W hW
  rw [ht] at hl
  have ht' := Lib.hid ht
  clear ht hT hb0 hp ho
  unfold Fd.val
  dsimp only
  have s1 : (9223372036854775807 < 5 + t.length) = False := eq_false (by omega)
  have s2 : (9223372036854775807 < 5 + t.length + 1) = False := eq_false (by omega)
  cases mu
  all_goals
    go_enter Tryd.func84, Tryd.ntmps84
    go_wp2_with fail
    refine (HC.out _ hT'.out).mono ?_
    rintro e w1 ⟨rfl, hb1⟩
    go_wp2
    go_ret
    exact ⟨by simp [Kd.fT, ht'.out, cat_], below_trans hB.out hb1⟩
end Go.Proofs.YtlflmobaegfnaaaDoor

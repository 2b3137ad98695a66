/-
  The document's own answers for leb's Put, walked: PutU, PutS, less.
-/
import Derived.Test.YtkpobcomaocfpaaLebK
namespace Go.Proofs.Ytkpobcomaocfpaa
open Go.RowKit
set_option linter.unusedVariables false

theorem refU_aux (k : Nat) : ∀ (n : Int) (w : World), n < 128 ^ k → k ≤ 10 → 0 ≤ n → n < 18446744073709551616 →
    Calls Try.prog 21 #[.int .u64 n] w fun e w' => ∃ v, e = .returned v ∧ Own w.heap.size w' v (Leb.putU n.toNat) ∧ Below w.heap.size w w' := by
  have lo : ∀ (n : Int) (w : World), 0 ≤ n → n < 128 → Calls Try.prog 21 #[.int .u64 n] w fun e w' => ∃ v, e = .returned v ∧ Own w.heap.size w' v (Leb.putU n.toNat) ∧ Below w.heap.size w w' := by
    intro n w h0 h
    go_enter Try.func21, Try.ntmps21
    go_wp2_with fail
    go_ret
    refine ⟨_, rfl, ?_, (Below.refl _ _).alloc (Nat.le_refl _) _⟩
    rw [Leb.putU_lo (by omega)]
    have := Own.lit1 (B := w.heap.size) w (Nat.le_refl _) n.toNat
    rw [Int.toNat_of_nonneg h0] at this
    exact this
  induction k with
  | zero =>
    intro n w hn hk h0 h64
    simp at hn
    exact lo n w h0 (by omega)
  | succ k ih =>
    intro n w hn hk h0 h64
    by_cases h : n < 128
    · exact lo n w h0 h
    · have hd : n / 128 < 128 ^ k := by rw [Int.pow_succ] at hn; omega
      have ih' := Lib.hid ih
      have HD := Lib.hid hd
      have H64 := Lib.hid h64
      have hl := Leb.putU_len10 (n / 128).toNat (by omega)
      have HL := Lib.hid hl
      have hlow := Leb.putU_lt (n / 128).toNat
      have Hlow := Lib.hid hlow
      have hI : 128 ≤ n := by omega
      have hx : n % 128 = ((n % 128).toNat : Int) := by omega
      have hm : (n % 128).toNat < 128 := by omega
      generalize hX : (n % 128).toNat = x at hx hm
      generalize hL : Leb.putU (n / 128).toNat = lx at HL Hlow
      have HX := Lib.hid hX
      have HLx := Lib.hid hL
      clear ih hn hd hl h lo hX hL hlow
      go_enter Try.func21, Try.ntmps21
      go_wp2_with fail
      refine (ih'.out (n / 128) _ HD.out (by omega) (by omega) (by have := H64.out; omega)).mono ?_
      rintro e w1 ⟨v, rfl, ho, hb⟩
      rw [HLx.out] at ho
      obtain ⟨A, c, rfl, hy⟩ := ho.bytes Hlow.out
      clear ho
      have hw1 : Below w.heap.size w (w.alloc (.cells #[.int .u8 ((x : Int) + 128)] 5)) := (Below.refl _ _).alloc (Nat.le_refl _) _
      have hsz : (w.alloc (.cells #[.int .u8 ((x : Int) + 128)] 5)).heap.size = w.heap.size + 1 := by simp
      have ho0 := (Own.lit1 w (Nat.le_refl _) (x + 128)).below hb
      have hbb := hw1.trans (hb.mono (by rw [hsz]; omega))
      clear hsz
      go_wp2_with (at_builtin; refine cat_slice rfl (.tmp 12) (.tmp 15) rfl w1 lx lx.length rfl rfl ho0 hy hbb.size (1 + lx.length) (by have := HL.out; omega) (by simp) ?_; intro A2 c2 w2 ho2 hg2)
      go_ret
      refine ⟨_, rfl, ?_, ho0.grown hg2 (Nat.le_refl _) hbb.size hbb⟩
      rw [Leb.putU_hi (by omega), show n.toNat % 128 = x by have := HX.out; omega, show n.toNat / 128 = (n / 128).toNat by omega, HLx.out]
      exact ho2
theorem refU_any (n : Nat) (w : World) (h : n < 18446744073709551616) :
    Calls Try.prog 21 #[.int .u64 n] w fun e w' => ∃ v, e = .returned v ∧ Own w.heap.size w' v (Leb.putU n) ∧ Below w.heap.size w w' :=
  refU_aux 10 n w (by omega) (by omega) (by omega) (by omega)

end Go.Proofs.Ytkpobcomaocfpaa

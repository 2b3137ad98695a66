/-
  The document's own answers for leb's Put, walked: PutU, PutS, less.
-/
import Derived.Test.YtobifilfhhhamaaLebK
namespace Go.Proofs.Ytobifilfhhhamaa
open Go.RowKit
set_option linter.unusedVariables false

theorem refU_aux (k : Nat) : ∀ (n : Int) (w : World), n < 128 ^ k → k ≤ 10 → 0 ≤ n → n < 18446744073709551616 →
    Calls Try.prog 16 #[.int .u64 n] w fun e w' => ∃ v, e = .returned v ∧ Own w.heap.size w' v (Leb.putU n.toNat) ∧ Below w.heap.size w w' := by
  have lo : ∀ (n : Int) (w : World), 0 ≤ n → n < 128 → Calls Try.prog 16 #[.int .u64 n] w fun e w' => ∃ v, e = .returned v ∧ Own w.heap.size w' v (Leb.putU n.toNat) ∧ Below w.heap.size w w' := by
    intro n w h0 h
    go_enter Try.func16, Try.ntmps16
    go_wp2_with fail
    go_ret
    refine ⟨_, rfl, ?_, (Below.refl _ _).alloc (Nat.le_refl _) _⟩
    rw [Leb.putU_lo (by omega)]
    have := Own.lit1 (B := w.heap.size) w (Nat.le_refl _) n.toNat
    rw [Int.toNat_of_nonneg h0] at this
    exact this
  induction k with
  | zero =>
    intro n w hn hk h0 h64
    simp at hn
    exact lo n w h0 (by omega)
  | succ k ih =>
    intro n w hn hk h0 h64
    by_cases h : n < 128
    · exact lo n w h0 h
    · have hd : n / 128 < 128 ^ k := by rw [Int.pow_succ] at hn; omega
      have ih' := Lib.hid ih
      have HD := Lib.hid hd
      have H64 := Lib.hid h64
      have hl := Leb.putU_len10 (n / 128).toNat (by omega)
      have HL := Lib.hid hl
      have hlow := Leb.putU_lt (n / 128).toNat
      have Hlow := Lib.hid hlow
      have hI : 128 ≤ n := by omega
      have hx : n % 128 = ((n % 128).toNat : Int) := by omega
      have hm : (n % 128).toNat < 128 := by omega
      generalize hX : (n % 128).toNat = x at hx hm
      generalize hL : Leb.putU (n / 128).toNat = lx at HL Hlow
      have HX := Lib.hid hX
      have HLx := Lib.hid hL
      clear ih hn hd hl h lo hX hL hlow
      go_enter Try.func16, Try.ntmps16
      go_wp2_with fail
      refine (ih'.out (n / 128) _ HD.out (by omega) (by omega) (by have := H64.out; omega)).mono ?_
      rintro e w1 ⟨v, rfl, ho, hb⟩
      rw [HLx.out] at ho
      obtain ⟨A, c, rfl, hy⟩ := ho.bytes Hlow.out
      clear ho
      have hw1 : Below w.heap.size w (w.alloc (.cells #[.int .u8 ((x : Int) + 128)] 5)) := (Below.refl _ _).alloc (Nat.le_refl _) _
      have hsz : (w.alloc (.cells #[.int .u8 ((x : Int) + 128)] 5)).heap.size = w.heap.size + 1 := by simp
      have ho0 := (Own.lit1 w (Nat.le_refl _) (x + 128)).below hb
      have hbb := hw1.trans (hb.mono (by rw [hsz]; omega))
      clear hsz
      go_wp2_with (at_builtin; refine cat_slice rfl (.tmp 12) (.tmp 15) rfl w1 lx lx.length rfl rfl ho0 hy hbb.size (1 + lx.length) (by have := HL.out; omega) (by simp) ?_; intro A2 c2 w2 ho2 hg2)
      go_ret
      refine ⟨_, rfl, ?_, ho0.grown hg2 (Nat.le_refl _) hbb.size hbb⟩
      rw [Leb.putU_hi (by omega), show n.toNat % 128 = x by have := HX.out; omega, show n.toNat / 128 = (n / 128).toNat by omega, HLx.out]
      exact ho2
theorem refU_any (n : Nat) (w : World) (h : n < 18446744073709551616) :
    Calls Try.prog 16 #[.int .u64 n] w fun e w' => ∃ v, e = .returned v ∧ Own w.heap.size w' v (Leb.putU n) ∧ Below w.heap.size w w' :=
  refU_aux 10 n w (by omega) (by omega) (by omega) (by omega)

theorem less_any (n : Int) (w : World) (h0 : -9223372036854775808 ≤ n) (h1 : n < 9223372036854775808) :
    Calls Try.prog 24 #[.int .i64 n] w fun e w' => e = .returned (.int .i64 (n.tdiv 128 - n / 128)) ∧ w = w' := by
  have H : Hid (-9223372036854775808 ≤ n ∧ n < 9223372036854775808) := ⟨h0, h1⟩
  clear h0 h1
  by_cases hn : n < 0
  · have t1 : decide (n < 0) = true := by simpa using hn
    by_cases hm : n.tmod 128 = 0
    · have t2 : (n.tmod 128 != 0) = false := by simpa using hm
      have HM := Lib.hid hm
      clear hm
      go_enter Try.func24, Try.ntmps24
      go_wp2_with fail
      go_ret
      have := HM.out
      exact ⟨ret_int (by rw [Int.tmod_eq_emod] at this; rw [Int.tdiv_eq_ediv, show Int.sign 128 = 1 from rfl]; split at this <;> split <;> omega), rfl⟩
    · have t2 : (n.tmod 128 != 0) = true := by simpa using hm
      have HM := Lib.hid hm
      clear hm
      go_enter Try.func24, Try.ntmps24
      go_wp2_with fail
      go_ret
      have := HM.out
      exact ⟨ret_int (by rw [Int.tmod_eq_emod] at this; rw [Int.tdiv_eq_ediv, show Int.sign 128 = 1 from rfl]; split at this <;> split <;> omega), rfl⟩
  · have t1 : decide (n < 0) = false := by simpa using hn
    go_enter Try.func24, Try.ntmps24
    go_wp2_with fail
    go_ret
    exact ⟨ret_int (by rw [Int.tdiv_eq_ediv, show Int.sign 128 = 1 from rfl]; split <;> omega), rfl⟩

theorem u64low (n : Int) : (IntKind.u64.wrap n).tmod 128 = ((n % 128).toNat : Int) := by
  have e : IntKind.u64.wrap n = n % 18446744073709551616 := by simp [IntKind.wrap, IntKind.bits, IntKind.signed]
  rw [e, Int.tmod_eq_emod_of_nonneg (by omega)]
  omega
theorem refS_aux (k : Nat) : ∀ (n : Int) (w : World), -(64 * 128 ^ k) ≤ n ∧ n < 64 * 128 ^ k → k ≤ 9 → -9223372036854775808 ≤ n → n < 9223372036854775808 →
    Calls Try.prog 18 #[.int .i64 n] w fun e w' => ∃ v, e = .returned v ∧ Own w.heap.size w' v (Leb.putS n) ∧ Below w.heap.size w w' := by
  have lo : ∀ (n : Int) (w : World), -64 ≤ n → n < 64 → Calls Try.prog 18 #[.int .i64 n] w fun e w' => ∃ v, e = .returned v ∧ Own w.heap.size w' v (Leb.putS n) ∧ Below w.heap.size w w' := by
    intro n w h3 h4
    have hu := u64low n
    have hm : (n % 128).toNat < 128 := by omega
    generalize hx : (n % 128).toNat = x at hu hm
    have HX := Lib.hid hx
    clear hx
    go_enter Try.func18, Try.ntmps18
    go_wp2_with fail
    go_ret
    refine ⟨_, rfl, ?_, (Below.refl _ _).alloc (Nat.le_refl _) _⟩
    rw [Leb.putS_lo ⟨h3, h4⟩, HX.out]
    exact Own.lit1 w (Nat.le_refl _) x
  induction k with
  | zero =>
    intro n w hn hk h1 h2
    simp at hn
    exact lo n w hn.1 hn.2
  | succ k ih =>
    intro n w hn hk h1 h2
    by_cases h : -64 ≤ n ∧ n < 64
    · exact lo n w h.1 h.2
    · have hd : -(64 * 128 ^ k) ≤ n / 128 ∧ n / 128 < 64 * 128 ^ k := by
        rw [Int.pow_succ] at hn; omega
      have ih' := Lib.hid ih
      have HD := Lib.hid hd
      have H : Hid (-9223372036854775808 ≤ n ∧ n < 9223372036854775808) := ⟨h1, h2⟩
      have hl := Leb.putS_len10 (n / 128) (by omega)
      have HL := Lib.hid hl
      have hu := u64low n
      have hm : (n % 128).toNat < 128 := by omega
      generalize hx : (n % 128).toNat = x at hu hm
      have HX := Lib.hid hx
      have HN := Lib.hid h
      have hdiv : Hid (n.tdiv 128 - (n.tdiv 128 - n / 128) = n / 128) := by rw [Hid]; omega
      have hb1 : -72057594037927937 ≤ n.tdiv 128 := by rw [Int.tdiv_eq_ediv, show Int.sign 128 = 1 from rfl]; split <;> omega
      have hb2 : n.tdiv 128 ≤ 72057594037927937 := by rw [Int.tdiv_eq_ediv, show Int.sign 128 = 1 from rfl]; split <;> omega
      have hb3 : 0 ≤ n.tdiv 128 - n / 128 := by rw [Int.tdiv_eq_ediv, show Int.sign 128 = 1 from rfl]; split <;> omega
      have hb4 : n.tdiv 128 - n / 128 ≤ 1 := by rw [Int.tdiv_eq_ediv, show Int.sign 128 = 1 from rfl]; split <;> omega
      clear ih hn hd h1 h2 hl hx
      have hlow := Leb.putS_lt (n / 128)
      have Hlow := Lib.hid hlow
      clear hlow
      generalize hL : Leb.putS (n / 128) = lx at HL Hlow
      have HLx := Lib.hid hL
      clear hL lo
      rcases Int.lt_or_le n (-64) with hlt | hge
      · clear h
        go_enter Try.func18, Try.ntmps18
        go_wp2_with fail
        refine (less_any n _ H.out.1 H.out.2).mono ?_
        rintro e w' ⟨rfl, rfl⟩
        go_wp2_with fail
        rw [hdiv.out]
        refine (ih'.out (n / 128) _ HD.out (by omega) (by have := H.out; omega) (by have := H.out; omega)).mono ?_
        rintro e w1 ⟨v, rfl, ho, hb⟩
        rw [HLx.out] at ho
        obtain ⟨A, c, rfl, hy⟩ := ho.bytes Hlow.out
        clear ho
        have hw1 : Below w.heap.size w (w.alloc (.cells #[.int .u8 ((x : Int) + 128)] 5)) := (Below.refl _ _).alloc (Nat.le_refl _) _
        have hsz : (w.alloc (.cells #[.int .u8 ((x : Int) + 128)] 5)).heap.size = w.heap.size + 1 := by simp
        have ho0 := (Own.lit1 w (Nat.le_refl _) (x + 128)).below hb
        have hbb := hw1.trans (hb.mono (by rw [hsz]; omega))
        clear hsz
        go_wp2_with (at_builtin; refine cat_slice rfl (.tmp 22) (.tmp 28) rfl w1 lx lx.length rfl rfl ho0 hy hbb.size (1 + lx.length) (by have := HL.out; omega) (by simp) ?_; intro A2 c2 w2 ho2 hg2)
        go_ret
        refine ⟨_, rfl, ?_, ho0.grown hg2 (Nat.le_refl _) hbb.size hbb⟩
        rw [Leb.putS_hi HN.out, HLx.out, HX.out]
        exact ho2
      · have hge2 : 64 ≤ n := by have := HN.out; omega
        have hx2 : n % 128 = (x : Int) := by have := HX.out; omega
        clear h
        go_enter Try.func18, Try.ntmps18
        go_wp2_with fail
        refine (less_any n _ H.out.1 H.out.2).mono ?_
        rintro e w' ⟨rfl, rfl⟩
        go_wp2_with fail
        rw [hdiv.out]
        refine (ih'.out (n / 128) _ HD.out (by omega) (by have := H.out; omega) (by have := H.out; omega)).mono ?_
        rintro e w1 ⟨v, rfl, ho, hb⟩
        rw [HLx.out] at ho
        obtain ⟨A, c, rfl, hy⟩ := ho.bytes Hlow.out
        clear ho
        have hw1 : Below w.heap.size w (w.alloc (.cells #[.int .u8 ((x : Int) + 128)] 5)) := (Below.refl _ _).alloc (Nat.le_refl _) _
        have hsz : (w.alloc (.cells #[.int .u8 ((x : Int) + 128)] 5)).heap.size = w.heap.size + 1 := by simp
        have ho0 := (Own.lit1 w (Nat.le_refl _) (x + 128)).below hb
        have hbb := hw1.trans (hb.mono (by rw [hsz]; omega))
        clear hsz
        go_wp2_with (at_builtin; refine cat_slice rfl (.tmp 22) (.tmp 28) rfl w1 lx lx.length rfl rfl ho0 hy hbb.size (1 + lx.length) (by have := HL.out; omega) (by simp) ?_; intro A2 c2 w2 ho2 hg2)
        go_ret
        refine ⟨_, rfl, ?_, ho0.grown hg2 (Nat.le_refl _) hbb.size hbb⟩
        rw [Leb.putS_hi HN.out, HLx.out, HX.out]
        exact ho2

theorem refS_any (n : Int) (w : World) (h1 : -9223372036854775808 ≤ n) (h2 : n < 9223372036854775808) :
    Calls Try.prog 18 #[.int .i64 n] w fun e w' => ∃ v, e = .returned v ∧ Own w.heap.size w' v (Leb.putS n) ∧ Below w.heap.size w w' :=
  refS_aux 9 n w (by omega) (by omega) h1 h2
end Go.Proofs.Ytobifilfhhhamaa

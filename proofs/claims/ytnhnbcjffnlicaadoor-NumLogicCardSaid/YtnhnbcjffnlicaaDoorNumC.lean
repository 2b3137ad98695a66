/-
  num's methods that stand in fields, walked; the library's counts of bits.
-/
import Derived.Test.YtnhnbcjffnlicaaDoorNumA
import Derived.Test.YtnhnbcjffnlicaaDoorNumP
import Derived.Test.YtnhnbcjffnlicaaDoorShelf
import Derived.Lib.TrailingZeros
import Derived.LaidMore
import Derived.Laws.Bits128
import Derived.Shelf.Spec.TrailingZeros
namespace Go.Proofs.YtnhnbcjffnlicaaDoor
open Go.RowKit Num
set_option linter.unusedVariables false

theorem itself_any (w : Nat) (v : Int) (h : Wd w v) (a : Nat) (ha : a < 2 ^ w) (W : World) :
    Calls Tryd.prog 73 #[.agg #[.int .u64 a, .int .i64 v]] W (Out a W) := by
  go_enter Tryd.func73, Tryd.ntmps73
  go_wp2
  go_ret
  exact out_of rfl (by repeat (first | exact Below.refl _ _ | refine Below.alloc ?_ (by simp; try omega) _ | refine Below.drew ?_)) rfl
theorem lt64 {w : Nat} {v : Int} (h : Wd w v) {a : Nat} (ha : a < 2 ^ w) : a < 18446744073709551616 := by
  rcases h with ⟨rfl, rfl⟩ | ⟨rfl, rfl⟩
  · exact Nat.lt_of_lt_of_le ha (by decide)
  · exact ha
theorem byte_val (a : Nat) : IntKind.u64.wrap (wrap64 (IntKind.u64.wrap (↑a * 72057594037927936)) / 72057594037927936) = ((md 64 (sg 8 (a % 256)) : Nat) : Int) := by
  rw [wrap_md]
  congr 2
  rw [IntKind.wrap_u64, sg8]; unfold wrap64
  split <;> omega
theorem half_val (a : Nat) : IntKind.u64.wrap (wrap64 (IntKind.u64.wrap (↑a * 281474976710656)) / 281474976710656) = ((md 64 (sg 16 (a % 65536)) : Nat) : Int) := by
  rw [wrap_md]
  congr 2
  rw [IntKind.wrap_u64, sg16]; unfold wrap64
  split <;> omega
theorem word_val (a : Nat) : IntKind.u64.wrap (wrap64 (IntKind.u64.wrap (↑a * 4294967296)) / 4294967296) = ((md 64 (sg 32 (a % 4294967296)) : Nat) : Int) := by
  rw [wrap_md]
  congr 2
  rw [IntKind.wrap_u64, sg32]; unfold wrap64
  split <;> omega
theorem byte_any (w : Nat) (v : Int) (h : Wd w v) (a : Nat) (ha : a < 2 ^ w) (W : World) :
    Calls Tryd.prog 75 #[.agg #[.int .u64 a, .int .i64 v]] W (Out (md 64 (sg 8 (a % 256))) W) := by
  have hV := Lib.hid (byte_val a)
  clear ha h
  go_enter Tryd.func75, Tryd.ntmps75
  go_wp2
  go_ret
  exact out_int rfl (by repeat (first | exact Below.refl _ _ | refine Below.alloc ?_ (by simp; try omega) _ | refine Below.drew ?_)) hV.out
theorem half_any (w : Nat) (v : Int) (h : Wd w v) (a : Nat) (ha : a < 2 ^ w) (W : World) :
    Calls Tryd.prog 76 #[.agg #[.int .u64 a, .int .i64 v]] W (Out (md 64 (sg 16 (a % 65536))) W) := by
  have hV := Lib.hid (half_val a)
  clear ha h
  go_enter Tryd.func76, Tryd.ntmps76
  go_wp2
  go_ret
  exact out_int rfl (by repeat (first | exact Below.refl _ _ | refine Below.alloc ?_ (by simp; try omega) _ | refine Below.drew ?_)) hV.out
theorem word_any (w : Nat) (v : Int) (h : Wd w v) (a : Nat) (ha : a < 2 ^ w) (W : World) :
    Calls Tryd.prog 74 #[.agg #[.int .u64 a, .int .i64 v]] W (Out (md 64 (sg 32 (a % 4294967296))) W) := by
  have hV := Lib.hid (word_val a)
  clear ha h
  go_enter Tryd.func74, Tryd.ntmps74
  go_wp2
  go_ret
  exact out_int rfl (by repeat (first | exact Below.refl _ _ | refine Below.alloc ?_ (by simp; try omega) _ | refine Below.drew ?_)) hV.out
theorem bars_any (a b : Nat) (u v : Int) (W : World) :
    Calls Tryd.prog 61 #[.agg #[.int .u64 a, .int .i64 u], .agg #[.int .u64 b, .int .i64 v]] W fun e W' => e = .returned (.int .i64 ((if b = 0 then 30 else 0 : Nat) : Int)) ∧ Below W.heap.size W W' := by
  by_cases h : b = 0
  all_goals
    go_enter Tryd.func61, Tryd.ntmps61
    go_wp2
    go_ret
    exact ⟨by first | rfl | (rw [if_neg h]; rfl), by repeat (first | exact Below.refl _ _ | refine Below.alloc ?_ (by simp; try omega) _ | refine Below.drew ?_)⟩

theorem wrap_nat {z : Nat} (h : z < 18446744073709551616) : IntKind.u64.wrap (z : Int) = (z : Int) := by rw [IntKind.wrap_u64]; omega
theorem ones64 (a : Nat) (ha : a < 18446744073709551616) (W : World) :
    Calls Tryd.prog 80 #[.int .u64 a] W fun e W' => e = .returned (.int .i64 (pop 64 a : Nat)) ∧ W' = W := by
  go_enter Tryd.func80, Tryd.ntmps80
  go_wp2
  go_ret
  refine ⟨ret_int ?_, rfl⟩
  have e1 : IntKind.u64.wrap (bits BinOp.and IntKind.u64 (↑a / 2) 6148914691236517205 + bits BinOp.and IntKind.u64 ↑a 6148914691236517205) = (s1 a : Int) := by
    have h1 : bits BinOp.and IntKind.u64 (↑a / 2) 6148914691236517205 = ((a / 2 &&& 6148914691236517205 : Nat) : Int) := u64_and_nat (a / 2) 6148914691236517205 (by omega) (by omega)
    have h2 : bits BinOp.and IntKind.u64 (↑a) 6148914691236517205 = ((a &&& 6148914691236517205 : Nat) : Int) := u64_and_nat a 6148914691236517205 (by omega) (by omega)
    rw [h1, h2]
    exact wrap_nat (s1_lt a)
  rw [e1]
  have l1 := s1_lt a
  have e2 : IntKind.u64.wrap (bits BinOp.and IntKind.u64 (↑(s1 a) / 4) 3689348814741910323 + bits BinOp.and IntKind.u64 ↑(s1 a) 3689348814741910323) = (s2 a : Int) := by
    have h1 : bits BinOp.and IntKind.u64 (↑(s1 a) / 4) 3689348814741910323 = ((s1 a / 4 &&& 3689348814741910323 : Nat) : Int) := u64_and_nat (s1 a / 4) 3689348814741910323 (by omega) (by omega)
    have h2 : bits BinOp.and IntKind.u64 (↑(s1 a)) 3689348814741910323 = ((s1 a &&& 3689348814741910323 : Nat) : Int) := u64_and_nat (s1 a) 3689348814741910323 (by omega) (by omega)
    rw [h1, h2]
    exact wrap_nat (s2_lt a)
  rw [e2]
  have l2 := s2_le a
  have e3 : bits BinOp.and IntKind.u64 (IntKind.u64.wrap (↑(s2 a) / 16 + ↑(s2 a))) 1085102592571150095 = (s3 a : Int) := by
    have h2 : IntKind.u64.wrap (↑(s2 a) / 16 + ↑(s2 a)) = ((s2 a / 16 + s2 a : Nat) : Int) := wrap_nat l2
    rw [h2]
    exact u64_and_nat (s2 a / 16 + s2 a) 1085102592571150095 l2 (by omega)
  rw [e3]
  obtain ⟨t, l4, l5, l6⟩ := x6_tot _ (s3_small a ha)
  have e4 : IntKind.u64.wrap (↑(s3 a) + ↑(s3 a) / 256) = (x4 (s3 a) : Int) := wrap_nat (z := x4 (s3 a)) (by omega)
  rw [e4]
  have e5 : IntKind.u64.wrap (↑(x4 (s3 a)) + ↑(x4 (s3 a)) / 65536) = (x5 (s3 a) : Int) := wrap_nat (z := x5 (s3 a)) (by omega)
  rw [e5]
  have e6 : IntKind.u64.wrap (↑(x5 (s3 a)) + ↑(x5 (s3 a)) / 4294967296) = (x6 (s3 a) : Int) := wrap_nat (z := x6 (s3 a)) (by omega)
  rw [e6]
  have e7 : wrap64 (x6 (s3 a) : Int) = (x6 (s3 a) : Int) := by unfold wrap64; omega
  rw [e7, ← pop_swar a ha]
  generalize x6 (s3 a) = z at *
  rw [i64_and127]; rfl
theorem ones_any (w : Nat) (v : Int) (h : Wd w v) (a : Nat) (ha : a < 2 ^ w) (W : World) :
    Calls Tryd.prog 54 #[.agg #[.int .u64 a, .int .i64 v]] W (Out (pop 64 a) W) := by
  have hP := Lib.hid (pop_le 64 a)
  have hA := Lib.hid (lt64 h ha)
  have hP2 : ((pop 64 a : Nat) : Int) < 18446744073709551616 := by have := hP.out; omega
  clear ha h
  go_enter Tryd.func54, Tryd.ntmps54
  go_wp2_with (go_at_call 80; refine (ones64 a hA.out _).mono ?_; rintro e W1 ⟨rfl, rfl⟩)
  go_ret
  refine out_int rfl (by repeat (first | exact Below.refl _ _ | refine Below.alloc ?_ (by simp; try omega) _ | refine Below.drew ?_)) ?_
  first | rfl | exact wrap_nat (by have := hP.out; omega)

/-- The library's table lies in its variable. -/
def Tab (W : World) : Prop := TabAt 0 Lib.deBruijn64tab W
theorem Tab.below {W W' : World} (h : Tab W) (hb : Below W.heap.size W W') : Tab W' := fun j hj => by
  have hc := h j hj
  have hlt : 0 < W.heap.size := World.block_lt_of_cell? W ⟨0, j, none⟩ hc
  rw [hb.cell (p := ⟨0, j, none⟩) hlt]
  exact hc

set_option maxHeartbeats 1000000 in
theorem tz_core (x k idx : Nat) (W : World) (hx0 : ((x : Int) == 0) = false)
    (key : IntKind.u64.wrap (bits BinOp.and IntKind.u64 (x : Int) (IntKind.u64.wrap (-(x : Int))) * 285870213051353865) / 288230376151711744 = (idx : Int))
    (hi : idx < 64) (hk : k < 64) (hcell : W.cell? ⟨0, idx, none⟩ = some (.int .u8 k)) :
    Calls Tryd.prog 79 #[.int .u64 x] W fun e W' => e = .returned (.int .i64 k) ∧ W' = W := by
  go_enter Tryd.func79, Tryd.ntmps79
  go_wp2_with (simp only [key])
  go_ret
  exact ⟨rfl, rfl⟩
theorem tz_zero (W : World) :
    Calls Tryd.prog 79 #[.int .u64 0] W fun e W' => e = .returned (.int .i64 64) ∧ W' = W := by
  go_enter Tryd.func79, Tryd.ntmps79
  go_wp2
  go_ret
  exact ⟨rfl, rfl⟩
theorem tz64 (x : Nat) (hx : x < 18446744073709551616) (W : World) (hT : Tab W) :
    Calls Tryd.prog 79 #[.int .u64 x] W fun e W' => e = .returned (.int .i64 (Lib.ctz 64 x : Nat)) ∧ W' = W := by
  by_cases hx0 : x = 0
  · subst hx0
    exact tz_zero W
  · obtain ⟨hlow, hk⟩ := Lib.lowest_bit 64 x hx0 hx
    obtain ⟨hi, htab⟩ := Lib.deBruijn64_at _ hk
    have hcell := hT _ hi
    rw [htab] at hcell
    exact tz_core x _ _ W (by simp; omega) (tz64_key x _ hx hx0 hlow) hi hk hcell
theorem ctz_le (w x : Nat) (hw : w ≤ 64) (hx0 : x ≠ 0) (hx : x < 2 ^ w) : Lib.ctz 64 x < w := by
  unfold Lib.ctz
  rw [if_neg hx0]
  obtain ⟨m, hm, hk⟩ := Lib.ctzFrom_spec 64 x (by omega) (Nat.lt_of_lt_of_le hx (Nat.pow_le_pow_right (by omega) hw))
  generalize Lib.ctzFrom 64 x = k at *
  apply Classical.byContradiction
  intro hn
  have h1 : 2 ^ w ≤ 2 ^ k := Nat.pow_le_pow_right (by omega) (by omega)
  have h2 : 2 ^ k ≤ 2 ^ k * (2 * m + 1) := Nat.le_mul_of_pos_right _ (by omega)
  omega
set_option maxHeartbeats 1000000 in
theorem trail_any (w : Nat) (v : Int) (h : Wd w v) (a : Nat) (ha : a < 2 ^ w) (W : World) (hT : Tab W) :
    Calls Tryd.prog 53 #[.agg #[.int .u64 a, .int .i64 v]] W (Out (if a = 0 then w else Lib.ctz 64 a) W) := by
  have hA := Lib.hid (lt64 h ha)
  have hC : a ≠ 0 → Lib.ctz 64 a < w := fun h0 => ctz_le w a (by rcases h with ⟨rfl, _⟩ | ⟨rfl, _⟩ <;> omega) h0 ha
  have hT0 : ∀ W', Below W.heap.size W W' → Tab W' := fun W' hb => hT.below hb
  have HT := Lib.hid hT0
  have hz : Lib.ctz 64 0 = 64 := rfl
  obtain ⟨c, hc⟩ : ∃ c, Lib.ctz 64 a = c := ⟨_, rfl⟩
  have hm : min c w = (if a = 0 then w else c) := by
    by_cases h0 : a = 0
    · subst h0
      rw [hz] at hc
      rw [if_pos rfl]; rcases h with ⟨rfl, _⟩ | ⟨rfl, _⟩ <;> omega
    · have := hC h0
      rw [if_neg h0]; omega
  rw [hc, ← hm]
  have hcl : c ≤ 64 := by
    by_cases h0 : a = 0
    · subst h0; omega
    · have := hC h0
      rcases h with ⟨rfl, _⟩ | ⟨rfl, _⟩ <;> omega
  have HC := Lib.hid hc
  clear hm hC hz hT hT0 hc ha
  rcases h with ⟨rfl, rfl⟩ | ⟨rfl, rfl⟩
  all_goals
    go_enter Tryd.func53, Tryd.ntmps53
    go_wp2_with fail
    go_region_with (go_at_call 79; refine (tz64 a hA.out _ (HT.out _ (by repeat (first | exact Below.refl _ _ | refine Below.alloc ?_ (by simp; try omega) _ | refine Below.drew ?_)))).mono ?_; rw [HC.out]; rintro e W1 ⟨rfl, rfl⟩)
    all_goals
      go_wp2
      go_ret
      refine out_int rfl (by repeat (first | exact Below.refl _ _ | refine Below.alloc ?_ (by simp; try omega) _ | refine Below.drew ?_ | refine below_drewN ?_ _)) ?_
      rw [IntKind.wrap_u64]; omega
theorem lead_val (a w : Nat) (hw : w ≤ 64) (h : Lib.bitLen a ≤ w) : (64 : Int) - ↑(Lib.bitLen a) - (64 - (w : Int)) = ((w - Lib.bitLen a : Nat) : Int) := by omega
set_option maxHeartbeats 1000000 in
theorem lead_any (w : Nat) (v : Int) (h : Wd w v) (a : Nat) (ha : a < 2 ^ w) (W : World) :
    Calls Tryd.prog 52 #[.agg #[.int .u64 a, .int .i64 v]] W (Out (w - Lib.bitLen a) W) := by
  have hA := Lib.hid (lt64 h ha)
  have hl := Lib.bitLen_le a w (by rcases h with ⟨rfl, _⟩ | ⟨rfl, _⟩ <;> omega) ha
  clear ha
  rcases h with ⟨rfl, rfl⟩ | ⟨rfl, rfl⟩
  all_goals
    go_enter Tryd.func52, Tryd.ntmps52
    go_wp2
    go_quiet ((go_at_call 78; exact Calls.quiet_of_same (Tryd.bits_LeadingZeros64 _ _ (by have := hA.out; omega) (by have := hA.out; omega))))
    go_wp2
    go_ret
    refine out_int rfl (by repeat (first | exact Below.refl _ _ | refine Below.alloc ?_ (by simp; try omega) _ | refine Below.drew ?_ | refine below_drewN ?_ _)) ?_
    omega
theorem or_val (a j k : Nat) (ha : a < 18446744073709551616) : bits .or .u64 (IntKind.u64.wrap (↑a * 2 ^ k)) (↑a / 2 ^ j) = ((a * 2 ^ k % 2 ^ 64 ||| a / 2 ^ j : Nat) : Int) ∧
    bits .or .u64 (↑a / 2 ^ j) (IntKind.u64.wrap (↑a * 2 ^ k)) = ((a / 2 ^ j ||| a * 2 ^ k % 2 ^ 64 : Nat) : Int) := by
  have h1 : IntKind.u64.wrap (↑a * 2 ^ k) = ((a * 2 ^ k % 2 ^ 64 : Nat) : Int) := by
    rw [pow_nat k 0, ← Int.natCast_mul, IntKind.wrap_u64]; generalize a * 2 ^ k = q; omega
  have h2 : (↑a / 2 ^ j : Int) = ((a / 2 ^ j : Nat) : Int) := by rw [pow_nat j 0]; rfl
  have h3 : a * 2 ^ k % 2 ^ 64 < 18446744073709551616 := Nat.mod_lt _ (by decide)
  have h4 : a / 2 ^ j < 18446744073709551616 := Nat.lt_of_le_of_lt (Nat.div_le_self _ _) ha
  rw [h1, h2]
  exact ⟨u64_or_nat _ _ h3 h4, u64_or_nat _ _ h4 h3⟩
set_option maxHeartbeats 1000000 in
theorem up_any (w : Nat) (v : Int) (h : Wd w v) (a : Nat) (ha : a < 2 ^ w) (b : Nat) (hb : b < 2 ^ w) (W : World) :
    Calls Tryd.prog 71 #[.agg #[.int .u64 a, .int .i64 v], .agg #[.int .u64 b, .int .i64 v]] W (Out (a * 2 ^ (b % w) % 2 ^ 64 ||| a / 2 ^ (w - b % w)) W) := by
  have hA := Lib.hid (lt64 h ha)
  have hm : b % w < w := Nat.mod_lt _ (by rcases h with ⟨rfl, _⟩ | ⟨rfl, _⟩ <;> omega)
  rcases h with ⟨rfl, rfl⟩ | ⟨rfl, rfl⟩
  · go_enter Tryd.func71, Tryd.ntmps71
    go_wp2_with (go_at_call 68; refine (places_any 32 32 (.inl ⟨rfl, rfl⟩) _ _ (by assumption) _).mono ?_; rintro e W1 ⟨rfl, rfl⟩)
    go_quiet (fail)
    go_wp2
    go_ret
    refine out_int rfl (by repeat (first | exact Below.refl _ _ | refine Below.alloc ?_ (by simp; try omega) _ | refine Below.drew ?_ | refine below_drewN ?_ _)) ?_
    exact (or_val a _ _ hA.out).1
  · go_enter Tryd.func71, Tryd.ntmps71
    go_wp2_with (go_at_call 68; refine (places_any 64 64 (.inr ⟨rfl, rfl⟩) _ _ (by assumption) _).mono ?_; rintro e W1 ⟨rfl, rfl⟩)
    go_quiet (fail)
    go_wp2
    go_ret
    refine out_int rfl (by repeat (first | exact Below.refl _ _ | refine Below.alloc ?_ (by simp; try omega) _ | refine Below.drew ?_ | refine below_drewN ?_ _)) ?_
    exact (or_val a _ _ hA.out).1
set_option maxHeartbeats 1000000 in
theorem down_any (w : Nat) (v : Int) (h : Wd w v) (a : Nat) (ha : a < 2 ^ w) (b : Nat) (hb : b < 2 ^ w) (W : World) :
    Calls Tryd.prog 72 #[.agg #[.int .u64 a, .int .i64 v], .agg #[.int .u64 b, .int .i64 v]] W (Out (a / 2 ^ (b % w) ||| a * 2 ^ (w - b % w) % 2 ^ 64) W) := by
  have hA := Lib.hid (lt64 h ha)
  have hm : b % w < w := Nat.mod_lt _ (by rcases h with ⟨rfl, _⟩ | ⟨rfl, _⟩ <;> omega)
  rcases h with ⟨rfl, rfl⟩ | ⟨rfl, rfl⟩
  · go_enter Tryd.func72, Tryd.ntmps72
    go_wp2_with (go_at_call 68; refine (places_any 32 32 (.inl ⟨rfl, rfl⟩) _ _ (by assumption) _).mono ?_; rintro e W1 ⟨rfl, rfl⟩)
    go_quiet (fail)
    go_wp2
    go_ret
    refine out_int rfl (by repeat (first | exact Below.refl _ _ | refine Below.alloc ?_ (by simp; try omega) _ | refine Below.drew ?_ | refine below_drewN ?_ _)) ?_
    exact (or_val a _ _ hA.out).2
  · go_enter Tryd.func72, Tryd.ntmps72
    go_wp2_with (go_at_call 68; refine (places_any 64 64 (.inr ⟨rfl, rfl⟩) _ _ (by assumption) _).mono ?_; rintro e W1 ⟨rfl, rfl⟩)
    go_quiet (fail)
    go_wp2
    go_ret
    refine out_int rfl (by repeat (first | exact Below.refl _ _ | refine Below.alloc ?_ (by simp; try omega) _ | refine Below.drew ?_ | refine below_drewN ?_ _)) ?_
    exact (or_val a _ _ hA.out).2
def OutE (r : Nat) (W : World) (e : Ending) (W' : World) : Prop := e = .returned (.int .i64 (r : Int)) ∧ Below W.heap.size W W'
def over (w a b : Nat) : Nat := if b = 2 ^ w - 1 ∧ a = 2 ^ (w - 1) then 31 else if b = 0 then 30 else 0
set_option maxHeartbeats 1000000 in
theorem barsS_32A (a : Nat) (ha : a < 2 ^ 32) (b : Nat) (hb : b < 2 ^ 32) (c : b = 4294967295) (c2 : a = 2147483648) (W : World) :
    Calls Tryd.prog 59 #[.agg #[.int .u64 a, .int .i64 32], .agg #[.int .u64 b, .int .i64 32]] W (OutE 31 W) := by
  have d : sg 32 b = -1 := by rw [sg32]; split <;> omega
  have hB0 : Hid (b ≠ 0) := by rw [Hid]; omega
  have e2 : ((a : Int) == 2147483648) = true := by rw [beq_iff_eq]; omega
  have e4 : IntKind.u64.wrap 2147483648 = 2147483648 := by decide
  have e3 : IntKind.i64.wrap 31 = 31 := by decide
  have HD := Lib.hid d
  clear c c2 d
  go_enter Tryd.func59, Tryd.ntmps59
  go_wp2_with fail
  go_region_with (first
    | (go_at_call 44; refine (signed_any 32 32 (.inl ⟨rfl, rfl⟩) _ (by assumption) _).mono ?_; rw [HD.out]; rintro e W1 ⟨rfl, rfl⟩))
  all_goals
    go_wp2_with (go_at_call 61; refine (bars_any _ _ _ _ _).mono ?_; rintro e W1 ⟨rfl, hb1⟩)
    go_ret
    exact ⟨rfl, by
      first
      | refine below_trans ?_ hb1
        repeat (first | exact Below.refl _ _ | refine Below.alloc ?_ (by simp; try omega) _ | refine Below.drew ?_ | refine below_drewN ?_ _)
      | repeat (first | exact Below.refl _ _ | refine Below.alloc ?_ (by simp; try omega) _ | refine Below.drew ?_ | refine below_drewN ?_ _)⟩
set_option maxHeartbeats 1000000 in
theorem barsS_32B (a : Nat) (ha : a < 2 ^ 32) (b : Nat) (hb : b < 2 ^ 32) (c : b = 4294967295) (c2 : a ≠ 2147483648) (W : World) :
    Calls Tryd.prog 59 #[.agg #[.int .u64 a, .int .i64 32], .agg #[.int .u64 b, .int .i64 32]] W (OutE 0 W) := by
  have d : sg 32 b = -1 := by rw [sg32]; split <;> omega
  have hB0 : Hid (b ≠ 0) := by rw [Hid]; omega
  have e2 : ((a : Int) == 2147483648) = false := by rw [beq_eq_false_iff_ne]; omega
  have e4 : IntKind.u64.wrap 2147483648 = 2147483648 := by decide
  have e3 : IntKind.i64.wrap 31 = 31 := by decide
  have HD := Lib.hid d
  clear c c2 d
  go_enter Tryd.func59, Tryd.ntmps59
  go_wp2_with fail
  go_region_with (first
    | (go_at_call 44; refine (signed_any 32 32 (.inl ⟨rfl, rfl⟩) _ (by assumption) _).mono ?_; rw [HD.out]; rintro e W1 ⟨rfl, rfl⟩))
  all_goals
    go_wp2_with (go_at_call 61; refine (bars_any _ _ _ _ _).mono ?_; rw [if_neg hB0.out]; rintro e W1 ⟨rfl, hb1⟩)
    go_ret
    exact ⟨rfl, by
      first
      | refine below_trans ?_ hb1
        repeat (first | exact Below.refl _ _ | refine Below.alloc ?_ (by simp; try omega) _ | refine Below.drew ?_ | refine below_drewN ?_ _)
      | repeat (first | exact Below.refl _ _ | refine Below.alloc ?_ (by simp; try omega) _ | refine Below.drew ?_ | refine below_drewN ?_ _)⟩
set_option maxHeartbeats 1000000 in
theorem barsS_32C (a : Nat) (ha : a < 2 ^ 32) (b : Nat) (hb : b < 2 ^ 32) (c : b ≠ 4294967295) (W : World) :
    Calls Tryd.prog 59 #[.agg #[.int .u64 a, .int .i64 32], .agg #[.int .u64 b, .int .i64 32]] W (OutE (if b = 0 then 30 else 0) W) := by
  obtain ⟨r, hr⟩ : ∃ r, (if b = 0 then 30 else 0) = r := ⟨_, rfl⟩
  rw [hr]
  have HR := Lib.hid hr
  clear hr
  have d : sg 32 b ≠ -1 := by rw [sg32]; split <;> omega
  obtain ⟨s, hs⟩ : ∃ s, sg 32 b = s := ⟨_, rfl⟩
  rw [hs] at d
  have HD := Lib.hid hs
  have d2 : (s == -1) = false := by rw [beq_eq_false_iff_ne]; exact d
  clear c hs d
  go_enter Tryd.func59, Tryd.ntmps59
  go_wp2_with fail
  first
  | (go_region_with (first
    | (go_at_call 44; refine (signed_any 32 32 (.inl ⟨rfl, rfl⟩) _ (by assumption) _).mono ?_; rw [HD.out]; rintro e W1 ⟨rfl, rfl⟩)))
  | fail
  all_goals
    go_wp2_with (go_at_call 61; refine (bars_any _ _ _ _ _).mono ?_; rw [HR.out]; rintro e W1 ⟨rfl, hb1⟩)
    go_ret
    exact ⟨rfl, by
      first
      | refine below_trans ?_ hb1
        repeat (first | exact Below.refl _ _ | refine Below.alloc ?_ (by simp; try omega) _ | refine Below.drew ?_ | refine below_drewN ?_ _)
      | repeat (first | exact Below.refl _ _ | refine Below.alloc ?_ (by simp; try omega) _ | refine Below.drew ?_ | refine below_drewN ?_ _)⟩
set_option maxHeartbeats 1000000 in
theorem barsS_64A (a : Nat) (ha : a < 2 ^ 64) (b : Nat) (hb : b < 2 ^ 64) (c : b = 18446744073709551615) (c2 : a = 9223372036854775808) (W : World) :
    Calls Tryd.prog 59 #[.agg #[.int .u64 a, .int .i64 64], .agg #[.int .u64 b, .int .i64 64]] W (OutE 31 W) := by
  have d : sg 64 b = -1 := by rw [sg64]; split <;> omega
  have hB0 : Hid (b ≠ 0) := by rw [Hid]; omega
  have e2 : ((a : Int) == 9223372036854775808) = true := by rw [beq_iff_eq]; omega
  have e4 : IntKind.u64.wrap 9223372036854775808 = 9223372036854775808 := by decide
  have e3 : IntKind.i64.wrap 63 = 63 := by decide
  have HD := Lib.hid d
  clear c c2 d
  go_enter Tryd.func59, Tryd.ntmps59
  go_wp2_with fail
  go_region_with (first
    | (go_at_call 44; refine (signed_any 64 64 (.inr ⟨rfl, rfl⟩) _ (by assumption) _).mono ?_; rw [HD.out]; rintro e W1 ⟨rfl, rfl⟩))
  all_goals
    go_wp2_with (go_at_call 61; refine (bars_any _ _ _ _ _).mono ?_; rintro e W1 ⟨rfl, hb1⟩)
    go_ret
    exact ⟨rfl, by
      first
      | refine below_trans ?_ hb1
        repeat (first | exact Below.refl _ _ | refine Below.alloc ?_ (by simp; try omega) _ | refine Below.drew ?_ | refine below_drewN ?_ _)
      | repeat (first | exact Below.refl _ _ | refine Below.alloc ?_ (by simp; try omega) _ | refine Below.drew ?_ | refine below_drewN ?_ _)⟩
set_option maxHeartbeats 1000000 in
theorem barsS_64B (a : Nat) (ha : a < 2 ^ 64) (b : Nat) (hb : b < 2 ^ 64) (c : b = 18446744073709551615) (c2 : a ≠ 9223372036854775808) (W : World) :
    Calls Tryd.prog 59 #[.agg #[.int .u64 a, .int .i64 64], .agg #[.int .u64 b, .int .i64 64]] W (OutE 0 W) := by
  have d : sg 64 b = -1 := by rw [sg64]; split <;> omega
  have hB0 : Hid (b ≠ 0) := by rw [Hid]; omega
  have e2 : ((a : Int) == 9223372036854775808) = false := by rw [beq_eq_false_iff_ne]; omega
  have e4 : IntKind.u64.wrap 9223372036854775808 = 9223372036854775808 := by decide
  have e3 : IntKind.i64.wrap 63 = 63 := by decide
  have HD := Lib.hid d
  clear c c2 d
  go_enter Tryd.func59, Tryd.ntmps59
  go_wp2_with fail
  go_region_with (first
    | (go_at_call 44; refine (signed_any 64 64 (.inr ⟨rfl, rfl⟩) _ (by assumption) _).mono ?_; rw [HD.out]; rintro e W1 ⟨rfl, rfl⟩))
  all_goals
    go_wp2_with (go_at_call 61; refine (bars_any _ _ _ _ _).mono ?_; rw [if_neg hB0.out]; rintro e W1 ⟨rfl, hb1⟩)
    go_ret
    exact ⟨rfl, by
      first
      | refine below_trans ?_ hb1
        repeat (first | exact Below.refl _ _ | refine Below.alloc ?_ (by simp; try omega) _ | refine Below.drew ?_ | refine below_drewN ?_ _)
      | repeat (first | exact Below.refl _ _ | refine Below.alloc ?_ (by simp; try omega) _ | refine Below.drew ?_ | refine below_drewN ?_ _)⟩
set_option maxHeartbeats 1000000 in
theorem barsS_64C (a : Nat) (ha : a < 2 ^ 64) (b : Nat) (hb : b < 2 ^ 64) (c : b ≠ 18446744073709551615) (W : World) :
    Calls Tryd.prog 59 #[.agg #[.int .u64 a, .int .i64 64], .agg #[.int .u64 b, .int .i64 64]] W (OutE (if b = 0 then 30 else 0) W) := by
  obtain ⟨r, hr⟩ : ∃ r, (if b = 0 then 30 else 0) = r := ⟨_, rfl⟩
  rw [hr]
  have HR := Lib.hid hr
  clear hr
  have d : sg 64 b ≠ -1 := by rw [sg64]; split <;> omega
  obtain ⟨s, hs⟩ : ∃ s, sg 64 b = s := ⟨_, rfl⟩
  rw [hs] at d
  have HD := Lib.hid hs
  have d2 : (s == -1) = false := by rw [beq_eq_false_iff_ne]; exact d
  clear c hs d
  go_enter Tryd.func59, Tryd.ntmps59
  go_wp2_with fail
  first
  | (go_region_with (first
    | (go_at_call 44; refine (signed_any 64 64 (.inr ⟨rfl, rfl⟩) _ (by assumption) _).mono ?_; rw [HD.out]; rintro e W1 ⟨rfl, rfl⟩)))
  | fail
  all_goals
    go_wp2_with (go_at_call 61; refine (bars_any _ _ _ _ _).mono ?_; rw [HR.out]; rintro e W1 ⟨rfl, hb1⟩)
    go_ret
    exact ⟨rfl, by
      first
      | refine below_trans ?_ hb1
        repeat (first | exact Below.refl _ _ | refine Below.alloc ?_ (by simp; try omega) _ | refine Below.drew ?_ | refine below_drewN ?_ _)
      | repeat (first | exact Below.refl _ _ | refine Below.alloc ?_ (by simp; try omega) _ | refine Below.drew ?_ | refine below_drewN ?_ _)⟩
theorem barsS_any (w : Nat) (v : Int) (h : Wd w v) (a : Nat) (ha : a < 2 ^ w) (b : Nat) (hb : b < 2 ^ w) (W : World) :
    Calls Tryd.prog 59 #[.agg #[.int .u64 a, .int .i64 v], .agg #[.int .u64 b, .int .i64 v]] W (OutE (over w a b) W) := by
  unfold over
  rcases h with ⟨rfl, rfl⟩ | ⟨rfl, rfl⟩
  · by_cases c : b = 4294967295
    · have hb0 : b ≠ 0 := by omega
      by_cases c2 : a = 2147483648
      · rw [if_pos ⟨c, c2⟩]; exact barsS_32A a ha b hb c c2 W
      · rw [if_neg (fun h => c2 h.2), if_neg hb0]; exact barsS_32B a ha b hb c c2 W
    · rw [if_neg (fun h => c h.1)]; exact barsS_32C a ha b hb c W
  · by_cases c : b = 18446744073709551615
    · have hb0 : b ≠ 0 := by omega
      by_cases c2 : a = 9223372036854775808
      · rw [if_pos ⟨c, c2⟩]; exact barsS_64A a ha b hb c c2 W
      · rw [if_neg (fun h => c2 h.2), if_neg hb0]; exact barsS_64B a ha b hb c c2 W
    · rw [if_neg (fun h => c h.1)]; exact barsS_64C a ha b hb c W
end Go.Proofs.YtnhnbcjffnlicaaDoor

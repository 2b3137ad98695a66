/-
  The walk of the statement NumLogic.
-/
import Derived.Deep.RegionHeld3
import Derived.LoopN
import Derived.Test.YtnhnbcjffnlicaaDoorNumLo
import Derived.Test.YtnhnbcjffnlicaaDoorNumSh
namespace Go.Proofs.YtnhnbcjffnlicaaDoor.Num
set_option linter.unusedVariables false
section
variable {w x y : Nat}
theorem tw27 : tw 27 w x y = (x &&& y) := tw_low (by decide)
theorem tw28' : tw 28 w x y = (x ||| y) := tw_low (by decide)
theorem tb_hi (hx : x < 2 ^ w) {i : Nat} (hi : ¬ i < w) : x.testBit i = false :=
  Nat.testBit_lt_two_pow (Nat.lt_of_lt_of_le hx (Nat.pow_le_pow_right (by omega) (by omega)))
theorem de_morgan (hw : 32 ≤ w) (hx : x < 2 ^ w) (hy : y < 2 ^ w) : tw 29 w (tw 27 w x y) (tw 21 w 0 1) = tw 28 w (tw 29 w x (tw 21 w 0 1)) (tw 29 w y (tw 21 w 0 1)) := by
  rw [neg_one hw, tw29, tw29, tw29, tw27, tw28']
  apply Nat.eq_of_testBit_eq
  intro i
  rw [Nat.testBit_xor, Nat.testBit_and, Nat.testBit_or, Nat.testBit_xor, Nat.testBit_xor, Nat.testBit_two_pow_sub_one]
  by_cases hi : i < w
  · rw [decide_eq_true hi]; cases x.testBit i <;> cases y.testBit i <;> rfl
  · rw [decide_eq_false hi, tb_hi hx hi, tb_hi hy hi]; rfl
theorem or_split (hx : x < 2 ^ w) (hy : y < 2 ^ w) : ((x &&& y) + (x ^^^ y)) % 2 ^ w = (x ||| y) := by
  have h := BitVec.add_eq_or_of_and_eq_zero (BitVec.ofNat w x &&& BitVec.ofNat w y) (BitVec.ofNat w x ^^^ BitVec.ofNat w y) (by
    ext i hi
    simp only [BitVec.getElem_and, BitVec.getElem_xor, BitVec.getElem_zero]
    cases (BitVec.ofNat w x)[i] <;> cases (BitVec.ofNat w y)[i] <;> rfl)
  have h2 := congrArg BitVec.toNat h
  simp only [BitVec.toNat_add, BitVec.toNat_and, BitVec.toNat_xor, BitVec.toNat_or, BitVec.toNat_ofNat, Nat.mod_eq_of_lt hx, Nat.mod_eq_of_lt hy] at h2
  rw [h2]
  apply Nat.eq_of_testBit_eq
  intro i
  rw [Nat.testBit_or, Nat.testBit_and, Nat.testBit_xor, Nat.testBit_or]
  cases x.testBit i <;> cases y.testBit i <;> rfl
theorem xor_sub (hx : x < 2 ^ w) (hy : y < 2 ^ w) : tw 21 w (tw 28 w x y) (tw 27 w x y) = tw 29 w x y := by
  rw [tw21, tw28', tw27, tw29]
  have h := or_split hx hy
  have h1 : (x &&& y) < 2 ^ w := Nat.lt_of_le_of_lt Nat.and_le_left hx
  have h2 : (x ^^^ y) < 2 ^ w := Nat.xor_lt_two_pow hx hy
  rw [← h]
  generalize (x &&& y) = n at *
  generalize (x ^^^ y) = r at *
  generalize 2 ^ w = P at *
  rcases Nat.lt_or_ge (n + r) P with h3 | h3
  · rw [Nat.mod_eq_of_lt h3, show n + r + (P - n) = r + P by omega, Nat.add_mod_right, Nat.mod_eq_of_lt h2]
  · rw [Nat.mod_eq_sub_mod h3, Nat.mod_eq_of_lt (show n + r - P < P by omega), show n + r - P + (P - n) = r by omega, Nat.mod_eq_of_lt h2]
theorem pop_snoc' : ∀ (k a : Nat), pop (k + 1) a = pop k a + bt a k
  | 0, a => by simp [pop, bt]
  | k + 1, a => by
    have := pop_snoc' k (a / 2)
    rw [pop, this, pop]
    unfold bt
    rw [Nat.div_div_eq_div_mul, Nat.pow_succ, Nat.mul_comm 2]; omega
theorem pop_sets (k : Nat) : pop k x + pop k y = pop k (x &&& y) + pop k (x ||| y) := by
  induction k with
  | zero => rfl
  | succ k ih =>
    rw [pop_snoc', pop_snoc', pop_snoc', pop_snoc', bt_and, bt_or]
    have h1 := bt_lt x k
    have h2 := bt_lt y k
    have : bt x k = 0 ∨ bt x k = 1 := by omega
    rcases this with h | h <;> rw [h] <;> omega
theorem high_is (hw : 1 ≤ w) : tw 30 w 1 (w - 1) = 2 ^ (w - 1) := by
  have := sh_one (b := w - 1) hw
  rwa [Nat.mod_eq_of_lt (show w - 1 < w by omega)] at this
theorem xor_pow_lo (k : Nat) (hx : x < 2 ^ k) : x ^^^ 2 ^ k = x + 2 ^ k := by
  have h := Nat.two_pow_add_eq_or_of_lt hx 1
  rw [Nat.mul_one] at h
  rw [Nat.add_comm, h]
  apply Nat.eq_of_testBit_eq
  intro i
  rw [Nat.testBit_xor, Nat.testBit_or, Nat.testBit_two_pow]
  by_cases hi : k = i
  · subst hi; rw [tb_hi hx (Nat.lt_irrefl _)]; simp
  · rw [decide_eq_false hi]; simp
theorem xor_high (hw : 1 ≤ w) (hx : x < 2 ^ w) : x ^^^ 2 ^ (w - 1) = if x < 2 ^ (w - 1) then x + 2 ^ (w - 1) else x - 2 ^ (w - 1) := by
  have hpw : 2 ^ w = 2 * 2 ^ (w - 1) := by
    obtain ⟨k, rfl⟩ : ∃ k, w = k + 1 := ⟨w - 1, by omega⟩
    rw [Nat.add_sub_cancel, Nat.pow_succ, Nat.mul_comm]
  split
  · rename_i h; exact xor_pow_lo _ h
  · rename_i h
    have e := xor_pow_lo (x := x - 2 ^ (w - 1)) (w - 1) (by omega)
    rw [show x - 2 ^ (w - 1) + 2 ^ (w - 1) = x by omega] at e
    rw [← e, Nat.xor_assoc, Nat.xor_self, Nat.xor_zero]
    rw [e]
theorem tw13' : tw 13 w x y = yes (decide (x < y)) := tw_low (by decide)
theorem high_order (hw : 1 ≤ w) (hx : x < 2 ^ w) (hy : y < 2 ^ w) : tw 13 w (tw 29 w x (tw 30 w 1 (w - 1))) (tw 29 w y (tw 30 w 1 (w - 1))) = tw 12 w x y := by
  rw [high_is hw, tw29, tw29, tw13', tw12, xor_high hw hx, xor_high hw hy]
  have hpw : 2 ^ w = 2 * 2 ^ (w - 1) := by
    obtain ⟨k, rfl⟩ : ∃ k, w = k + 1 := ⟨w - 1, by omega⟩
    rw [Nat.add_sub_cancel, Nat.pow_succ, Nat.mul_comm]
  congr 1
  rw [Bool.eq_iff_iff, decide_eq_true_eq, decide_eq_true_eq]
  unfold sg
  split <;> split <;> omega
end
end Go.Proofs.YtnhnbcjffnlicaaDoor.Num
namespace Go.Proofs.YtnhnbcjffnlicaaDoor
open Go.RowKit Num
set_option linter.unusedVariables false
set_option maxRecDepth 100000 in
theorem not_any (w : World) (b5 b8 : Nat) (v : Int) (g n r : Nat) (c5 : w.cell? ⟨b5, 0, none⟩ = some (.int .i64 v)) (c8 : w.cell? ⟨b8, 0, none⟩ = some (.int .u64 g))
   (P : Hid (∀ W : World, Calls Tryd.prog 17 #[.int .i64 v, .int .i64 115, .int .u64 n, .int .u64 g] W (Out r W))) :
    Calls Tryd.prog 19 #[.int .u64 n, .pointer (some ⟨b5, 0, none⟩), .pointer (some ⟨b8, 0, none⟩)] w (Out r w) := by
  go_enter Tryd.func19, Tryd.ntmps19
  go_wp2_with (go_at_call 17; ((with_reducible refine (P.out _).mono ?_); rintro e w9 ⟨rfl, hb9⟩))
  go_ret
  exact ⟨rfl, hb9⟩
abbrev CTwo (v op : Int) (a b r : Nat) : Prop := ∀ W : World, Calls Tryd.prog 17 #[.int .i64 v, .int .i64 op, .int .u64 a, .int .u64 b] W (Out r W)
abbrev COne (v op : Int) (a r : Nat) : Prop := ∀ W : World, Tab W → Calls Tryd.prog 18 #[.int .i64 v, .int .i64 op, .int .u64 a] W (Out r W)
abbrev Boxes (W0 : World) (b5 b8 : Nat) (v : Int) (g : Nat) (w' : World) : Prop := w'.cell? ⟨b5, 0, none⟩ = some (.int .i64 v) ∧ w'.cell? ⟨b8, 0, none⟩ = some (.int .u64 g) ∧ Below W0.heap.size W0 w' ∧ b5 < w'.heap.size ∧ b8 < w'.heap.size
theorem s_keep {w w' w'' : World} {b5 b8 : Nat} {u g : Value} (h5 : w'.cell? ⟨b5, 0, none⟩ = some u) (h8 : w'.cell? ⟨b8, 0, none⟩ = some g) (hB : Below w.heap.size w w') (l5 : b5 < w'.heap.size) (l8 : b8 < w'.heap.size) (hb : Below w'.heap.size w' w'') :
    w''.cell? ⟨b5, 0, none⟩ = some u ∧ w''.cell? ⟨b8, 0, none⟩ = some g ∧ Below w.heap.size w w'' ∧ b5 < w''.heap.size ∧ b8 < w''.heap.size :=
  ⟨((bcell hb).1 b5 0 l5).trans h5, ((bcell hb).1 b8 0 l8).trans h8, below_trans hB hb, Nat.lt_of_lt_of_le l5 hb.size, Nat.lt_of_lt_of_le l8 hb.size⟩
theorem box_open {w w1 w9 : World} {b5 : Nat} {u g : Value} (T : Nat) (c : w1.cell? ⟨b5, 0, none⟩ = some u) (l : b5 < w1.heap.size) (hB : Below w.heap.size w w1) (hb9 : Below w1.heap.size w1 w9) :
    (w9.alloc (.cells #[g] T)).cell? ⟨b5, 0, none⟩ = some u ∧ (w9.alloc (.cells #[g] T)).cell? ⟨w9.heap.size, 0, none⟩ = some g ∧ Below w.heap.size w (w9.alloc (.cells #[g] T)) ∧ b5 < (w9.alloc (.cells #[g] T)).heap.size ∧ w9.heap.size < (w9.alloc (.cells #[g] T)).heap.size := by
  have l9 : b5 < w9.heap.size := Nat.lt_of_lt_of_le l hb9.size
  have hB9 := below_trans hB hb9
  exact ⟨((bcell ((Below.refl _ w9).alloc (Nat.le_refl _) _)).1 b5 0 l9).trans (((bcell hb9).1 b5 0 l).trans c), by go_simp, hB9.alloc hB9.size _, by simp; omega, by simp⟩
theorem box_next {w w8 : World} (T : Nat) (v : Value) (hB : Below w.heap.size w w8) :
    (w8.alloc (.cells #[v] T)).cell? ⟨w8.heap.size, 0, none⟩ = some v ∧ Below w.heap.size w (w8.alloc (.cells #[v] T)) ∧ w8.heap.size < (w8.alloc (.cells #[v] T)).heap.size :=
  ⟨by go_simp, hB.alloc hB.size _, by simp⟩
set_option maxRecDepth 100000 in
set_option maxHeartbeats 20000000 in
theorem NumLogic_core (w : World) (hT : Tab w) (a b : Nat) (x y g n o m nx ny z px py pn po h q xh yh g2 n2 o2 m2 nx2 ny2 z2 px2 py2 pn2 po2 h2 q2 xh2 yh2 : Nat) (ra : (a : Int) / 4294967296 = (x : Int)) (rb : (b : Int) / 4294967296 = (y : Int))
   (P9 : Hid (∀ W : World, Calls Tryd.prog 17 #[.int .i64 32, .int .i64 107, .int .u64 0, .int .u64 1] W (Out g W)))
   (PA : Hid (CTwo 32 113 x y n)) (PO : Hid (CTwo 32 114 x y o))
   (PM : Hid (CTwo 32 115 n g m)) (PX : Hid (CTwo 32 115 x g nx)) (PY : Hid (CTwo 32 115 y g ny)) (PD : Hid (CTwo 32 114 nx ny m))
   (PZ : Hid (CTwo 32 115 x y z)) (PS : Hid (CTwo 32 107 o n z))
   (Q1 : Hid (COne 32 105 x px)) (Q2 : Hid (COne 32 105 y py)) (Q3 : Hid (COne 32 105 n pn)) (Q4 : Hid (COne 32 105 o po))
   (PH : Hid (∀ W : World, Calls Tryd.prog 17 #[.int .i64 32, .int .i64 116, .int .u64 1, .int .u64 31] W (Out h W)))
   (PQ : Hid (CTwo 32 72 x y q)) (PK : Hid (CTwo 32 115 x h xh)) (PL : Hid (CTwo 32 115 y h yh)) (PE : Hid (CTwo 32 73 xh yh q))
   (S : Int) (s1 : IntKind.u64.wrap ((px : Int) + py) = S) (s2 : IntKind.u64.wrap ((pn : Int) + po) = S)
   (P92 : Hid (∀ W : World, Calls Tryd.prog 17 #[.int .i64 64, .int .i64 107, .int .u64 0, .int .u64 1] W (Out g2 W)))
   (PA2 : Hid (CTwo 64 113 a b n2)) (PO2 : Hid (CTwo 64 114 a b o2))
   (PM2 : Hid (CTwo 64 115 n2 g2 m2)) (PX2 : Hid (CTwo 64 115 a g2 nx2)) (PY2 : Hid (CTwo 64 115 b g2 ny2)) (PD2 : Hid (CTwo 64 114 nx2 ny2 m2))
   (PZ2 : Hid (CTwo 64 115 a b z2)) (PS2 : Hid (CTwo 64 107 o2 n2 z2))
   (Q12 : Hid (COne 64 105 a px2)) (Q22 : Hid (COne 64 105 b py2)) (Q32 : Hid (COne 64 105 n2 pn2)) (Q42 : Hid (COne 64 105 o2 po2))
   (PH2 : Hid (∀ W : World, Calls Tryd.prog 17 #[.int .i64 64, .int .i64 116, .int .u64 1, .int .u64 63] W (Out h2 W)))
   (PQ2 : Hid (CTwo 64 72 a b q2)) (PK2 : Hid (CTwo 64 115 a h2 xh2)) (PL2 : Hid (CTwo 64 115 b h2 yh2)) (PE2 : Hid (CTwo 64 73 xh2 yh2 q2))
   (S2 : Int) (s12 : IntKind.u64.wrap ((px2 : Int) + py2) = S2) (s22 : IntKind.u64.wrap ((pn2 : Int) + po2) = S2)
   (PV : Hid (∀ W : World, Tab W → Calls Tryd.prog 10 #[.int .i64 69, .int .u64 4294967296] W fun e W' => e = .returned (.tuple #[.int .u64 0, .int .i64 2]) ∧ Below W.heap.size W W')) :
    Calls Tryd.prog 9 #[.int .u64 a, .int .u64 b] w fun e w' => e = .returned (.bool true) ∧ Below w.heap.size w w' := by
  have HT := Lib.hid (fun W' (hb : Below w.heap.size w W') => hT.below hb)
  have HKn := Lib.hid known3_any
  clear hT
  go_enter Tryd.func9, Tryd.ntmps9
  go_wp2
  obtain ⟨cc, HB, ll⟩ := box_next (w := w) 3 (.int .i64 32) (Below.refl _ w)
  refine wp_loop_rounds 3 ?_
  rw [rounds_succ]
  go_wp2_with (go_at_call 17; ((with_reducible refine (P9.out _).mono ?_); rintro e w9 ⟨rfl, hb9⟩))
  obtain ⟨c5, c8, hB, l5, l8⟩ := box_open (w := w) (b5 := w.heap.size) (u := .int .i64 32) (g := .int .u64 (g : Int)) 23 cc ll HB hb9
  clear hb9
  generalize (w9.alloc (.cells #[.int .u64 (g : Int)] 23)) = w1 at c5 c8 hB l5 l8 ⊢
  generalize w9.heap.size = b8 at c8 l8 ⊢
  go_region_held3 (fun w' => w'.cell? ⟨w.heap.size, 0, none⟩ = some (.int .i64 32) ∧ w'.cell? ⟨b8, 0, none⟩ = some (.int .u64 g) ∧ Below w.heap.size w w' ∧ w.heap.size < w'.heap.size ∧ b8 < w'.heap.size)
    (first
      | (exact s_keep c5 c8 hB l5 l8 ((Below.refl _ _).drew))
      | (exact s_keep (by assumption) (by assumption) (by assumption) (by assumption) (by assumption) (by assumption))
      | (exact s_keep (by assumption) (by assumption) (by assumption) (by assumption) (by assumption) ((Below.refl _ _).drew))
      | (go_split_ands; exact s_keep (by assumption) (by assumption) (by assumption) (by assumption) (by assumption) (by assumption)))
    (first
      | (go_at_call 17; ((with_reducible refine (PA.out _).mono ?_); rintro e w8 ⟨rfl, hbb⟩))
      | (go_at_call 17; ((with_reducible refine (PO.out _).mono ?_); rintro e w8 ⟨rfl, hbb⟩)))
  go_split_ands
  go_wp2
  go_region_held3 (fun w' => w'.cell? ⟨w.heap.size, 0, none⟩ = some (.int .i64 32) ∧ w'.cell? ⟨b8, 0, none⟩ = some (.int .u64 g) ∧ Below w.heap.size w w' ∧ w.heap.size < w'.heap.size ∧ b8 < w'.heap.size)
    (first
      | (exact s_keep (by assumption) (by assumption) (by assumption) (by assumption) (by assumption) (by assumption))
      | (exact s_keep (by assumption) (by assumption) (by assumption) (by assumption) (by assumption) ((Below.refl _ _).drew))
      | (go_split_ands; exact s_keep (by assumption) (by assumption) (by assumption) (by assumption) (by assumption) (by assumption)))
    (first
      | (go_at_call 19; (try go_split_ands); (with_reducible refine (not_any _ w.heap.size b8 32 g n m (by assumption) (by assumption) PM).mono ?_); rintro e w8 ⟨rfl, hbb⟩)
      | (go_at_call 19; (try go_split_ands); (with_reducible refine (not_any _ w.heap.size b8 32 g x nx (by assumption) (by assumption) PX).mono ?_); rintro e w8 ⟨rfl, hbb⟩)
      | (go_at_call 19; (try go_split_ands); (with_reducible refine (not_any _ w.heap.size b8 32 g y ny (by assumption) (by assumption) PY).mono ?_); rintro e w8 ⟨rfl, hbb⟩)
      | (go_at_call 17; ((with_reducible refine (PD.out _).mono ?_); rintro e w8 ⟨rfl, hbb⟩))
      | (go_at_call 17; ((with_reducible refine (PZ.out _).mono ?_); rintro e w8 ⟨rfl, hbb⟩))
      | (go_at_call 17; ((with_reducible refine (PS.out _).mono ?_); rintro e w8 ⟨rfl, hbb⟩))
      | (go_at_call 18; (try go_split_ands); ((with_reducible refine (Q1.out _ (HT.out _ (by assumption))).mono ?_); rintro e w8 ⟨rfl, hbb⟩))
      | (go_at_call 18; (try go_split_ands); ((with_reducible refine (Q2.out _ (HT.out _ (by assumption))).mono ?_); rintro e w8 ⟨rfl, hbb⟩))
      | (go_at_call 18; (try go_split_ands); ((with_reducible refine (Q3.out _ (HT.out _ (by assumption))).mono ?_); rintro e w8 ⟨rfl, hbb⟩))
      | (go_at_call 18; (try go_split_ands); ((with_reducible refine (Q4.out _ (HT.out _ (by assumption))).mono ?_); rintro e w8 ⟨rfl, hbb⟩)))
  go_split_ands
  go_wp2_with (go_at_call 17; ((with_reducible refine (PH.out _).mono ?_); rintro e w8 ⟨rfl, hbb⟩))
  obtain ⟨k1, k2, k3, k4, k5⟩ := s_keep (w := w) (b5 := w.heap.size) (b8 := b8) (u := .int .i64 32) (g := .int .u64 g) (by assumption) (by assumption) (by assumption) (by assumption) (by assumption) hbb
  go_region_held3 (fun w' => w'.cell? ⟨w.heap.size, 0, none⟩ = some (.int .i64 32) ∧ w'.cell? ⟨b8, 0, none⟩ = some (.int .u64 g) ∧ Below w.heap.size w w' ∧ w.heap.size < w'.heap.size ∧ b8 < w'.heap.size)
    (first
      | (exact s_keep k1 k2 k3 k4 k5 ((Below.refl _ _).drew))
      | (exact s_keep (by assumption) (by assumption) (by assumption) (by assumption) (by assumption) (by assumption))
      | (exact s_keep (by assumption) (by assumption) (by assumption) (by assumption) (by assumption) ((Below.refl _ _).drew))
      | (go_split_ands; exact s_keep (by assumption) (by assumption) (by assumption) (by assumption) (by assumption) (by assumption)))
    (first
      | (go_at_call 17; ((with_reducible refine (PQ.out _).mono ?_); rintro e w8 ⟨rfl, hbb⟩))
      | (go_at_call 17; ((with_reducible refine (PK.out _).mono ?_); rintro e w8 ⟨rfl, hbb⟩))
      | (go_at_call 17; ((with_reducible refine (PL.out _).mono ?_); rintro e w8 ⟨rfl, hbb⟩))
      | (go_at_call 17; ((with_reducible refine (PE.out _).mono ?_); rintro e w8 ⟨rfl, hbb⟩)))
  go_split_ands
  go_wp2
  obtain ⟨cc2, HB2, ll2⟩ := box_next (w := w) 3 (.int .i64 64) (show Below w.heap.size w w8 by assumption)
  generalize (w8.alloc (.cells #[.int .i64 64] 3)) = w2 at cc2 HB2 ll2 ⊢
  generalize w8.heap.size = b5 at cc2 ll2 ⊢
  rw [rounds_succ]
  go_wp2_with (go_at_call 17; ((with_reducible refine (P92.out _).mono ?_); rintro e w9 ⟨rfl, hb9⟩))
  obtain ⟨c52, c82, hB2, l52, l82⟩ := box_open (w := w) (b5 := b5) (u := .int .i64 64) (g := .int .u64 (g2 : Int)) 23 cc2 ll2 HB2 hb9
  clear hb9
  generalize (w9.alloc (.cells #[.int .u64 (g2 : Int)] 23)) = w1 at c52 c82 hB2 l52 l82 ⊢
  generalize w9.heap.size = b9 at c82 l82 ⊢
  go_region_held3 (fun w' => w'.cell? ⟨b5, 0, none⟩ = some (.int .i64 64) ∧ w'.cell? ⟨b9, 0, none⟩ = some (.int .u64 g2) ∧ Below w.heap.size w w' ∧ b5 < w'.heap.size ∧ b9 < w'.heap.size)
    (first
      | (exact s_keep c52 c82 hB2 l52 l82 ((Below.refl _ _).drew))
      | (exact s_keep (by assumption) (by assumption) (by assumption) (by assumption) (by assumption) (by assumption))
      | (exact s_keep (by assumption) (by assumption) (by assumption) (by assumption) (by assumption) ((Below.refl _ _).drew))
      | (go_split_ands; exact s_keep (by assumption) (by assumption) (by assumption) (by assumption) (by assumption) (by assumption)))
    (first
      | (go_at_call 17; ((with_reducible refine (PA2.out _).mono ?_); rintro e w8 ⟨rfl, hbb⟩))
      | (go_at_call 17; ((with_reducible refine (PO2.out _).mono ?_); rintro e w8 ⟨rfl, hbb⟩)))
  go_split_ands
  go_wp2
  go_region_held3 (fun w' => w'.cell? ⟨b5, 0, none⟩ = some (.int .i64 64) ∧ w'.cell? ⟨b9, 0, none⟩ = some (.int .u64 g2) ∧ Below w.heap.size w w' ∧ b5 < w'.heap.size ∧ b9 < w'.heap.size)
    (first
      | (exact s_keep (by assumption) (by assumption) (by assumption) (by assumption) (by assumption) (by assumption))
      | (exact s_keep (by assumption) (by assumption) (by assumption) (by assumption) (by assumption) ((Below.refl _ _).drew))
      | (go_split_ands; exact s_keep (by assumption) (by assumption) (by assumption) (by assumption) (by assumption) (by assumption)))
    (first
      | (go_at_call 19; (try go_split_ands); (with_reducible refine (not_any _ b5 b9 64 g2 n2 m2 (by assumption) (by assumption) PM2).mono ?_); rintro e w8 ⟨rfl, hbb⟩)
      | (go_at_call 19; (try go_split_ands); (with_reducible refine (not_any _ b5 b9 64 g2 a nx2 (by assumption) (by assumption) PX2).mono ?_); rintro e w8 ⟨rfl, hbb⟩)
      | (go_at_call 19; (try go_split_ands); (with_reducible refine (not_any _ b5 b9 64 g2 b ny2 (by assumption) (by assumption) PY2).mono ?_); rintro e w8 ⟨rfl, hbb⟩)
      | (go_at_call 17; ((with_reducible refine (PD2.out _).mono ?_); rintro e w8 ⟨rfl, hbb⟩))
      | (go_at_call 17; ((with_reducible refine (PZ2.out _).mono ?_); rintro e w8 ⟨rfl, hbb⟩))
      | (go_at_call 17; ((with_reducible refine (PS2.out _).mono ?_); rintro e w8 ⟨rfl, hbb⟩))
      | (go_at_call 18; (try go_split_ands); ((with_reducible refine (Q12.out _ (HT.out _ (by assumption))).mono ?_); rintro e w8 ⟨rfl, hbb⟩))
      | (go_at_call 18; (try go_split_ands); ((with_reducible refine (Q22.out _ (HT.out _ (by assumption))).mono ?_); rintro e w8 ⟨rfl, hbb⟩))
      | (go_at_call 18; (try go_split_ands); ((with_reducible refine (Q32.out _ (HT.out _ (by assumption))).mono ?_); rintro e w8 ⟨rfl, hbb⟩))
      | (go_at_call 18; (try go_split_ands); ((with_reducible refine (Q42.out _ (HT.out _ (by assumption))).mono ?_); rintro e w8 ⟨rfl, hbb⟩)))
  go_split_ands
  go_wp2_with (go_at_call 17; ((with_reducible refine (PH2.out _).mono ?_); rintro e w8 ⟨rfl, hbb⟩))
  obtain ⟨k1, k2, k3, k4, k5⟩ := s_keep (w := w) (b5 := b5) (b8 := b9) (u := .int .i64 64) (g := .int .u64 g2) (by assumption) (by assumption) (by assumption) (by assumption) (by assumption) hbb
  go_region_held3 (fun w' => w'.cell? ⟨b5, 0, none⟩ = some (.int .i64 64) ∧ w'.cell? ⟨b9, 0, none⟩ = some (.int .u64 g2) ∧ Below w.heap.size w w' ∧ b5 < w'.heap.size ∧ b9 < w'.heap.size)
    (first
      | (exact s_keep k1 k2 k3 k4 k5 ((Below.refl _ _).drew))
      | (exact s_keep (by assumption) (by assumption) (by assumption) (by assumption) (by assumption) (by assumption))
      | (exact s_keep (by assumption) (by assumption) (by assumption) (by assumption) (by assumption) ((Below.refl _ _).drew))
      | (go_split_ands; exact s_keep (by assumption) (by assumption) (by assumption) (by assumption) (by assumption) (by assumption)))
    (first
      | (go_at_call 17; ((with_reducible refine (PQ2.out _).mono ?_); rintro e w8 ⟨rfl, hbb⟩))
      | (go_at_call 17; ((with_reducible refine (PK2.out _).mono ?_); rintro e w8 ⟨rfl, hbb⟩))
      | (go_at_call 17; ((with_reducible refine (PL2.out _).mono ?_); rintro e w8 ⟨rfl, hbb⟩))
      | (go_at_call 17; ((with_reducible refine (PE2.out _).mono ?_); rintro e w8 ⟨rfl, hbb⟩)))
  go_split_ands
  go_wp2
  obtain ⟨cc3, HB3, ll3⟩ := box_next (w := w) 3 (.int .i64 96) (show Below w.heap.size w w8 by assumption)
  generalize (w8.alloc (.cells #[.int .i64 96] 3)) = w2 at cc3 HB3 ll3 ⊢
  generalize w8.heap.size = b6 at cc3 ll3 ⊢
  rw [rounds_succ]
  go_wp2_with (first
    | (go_at_call 10; ((with_reducible refine (PV.out _ (HT.out _ HB3)).mono ?_); rintro e w9 ⟨rfl, hb9⟩; have HB3 := below_trans HB3 hb9))
    | (go_at_call 14; ((with_reducible refine (HKn.out _ (HT.out _ HB3)).mono ?_); rintro e w9 ⟨rfl, hb9⟩; have HB3 := below_trans HB3 hb9)))
  go_ret
  exact ⟨rfl, HB3⟩
end Go.Proofs.YtnhnbcjffnlicaaDoor
namespace Go.Proofs.YtnhnbcjffnlicaaDoor
open Go.RowKit Num
set_option linter.unusedVariables false
theorem wrap_pair {i j : Nat} (hi : i ≤ 64) (hj : j ≤ 64) : IntKind.u64.wrap ((i : Int) + j) = (i : Int) + j := by
  rw [IntKind.wrap_u64]; omega
set_option maxRecDepth 100000 in
set_option maxHeartbeats 20000000 in
theorem NumLogic_walk (w : World) (hT : Tab w) (a0 : Int) (wf0 : (Lit.int .u64 a0).wf = true) (a1 : Int) (wf1 : (Lit.int .u64 a1).wf = true) :
    Calls Tryd.prog 9 #[.int .u64 a0, .int .u64 a1] w fun e w' => e = .returned (.bool true) ∧ Below w.heap.size w w' := by
  obtain ⟨p0, p1⟩ := u64_wf wf0
  obtain ⟨q0, q1⟩ := u64_wf wf1
  obtain ⟨a, rfl⟩ := Int.eq_ofNat_of_zero_le p0
  obtain ⟨b, rfl⟩ := Int.eq_ofNat_of_zero_le q0
  have la2 : a < 2 ^ 64 := by omega
  have lb2 : b < 2 ^ 64 := by omega
  clear wf0 wf1 p0 p1 q0 q1
  obtain ⟨x, hx⟩ : ∃ x, a / 4294967296 = x := ⟨_, rfl⟩
  obtain ⟨y, hy⟩ : ∃ y, b / 4294967296 = y := ⟨_, rfl⟩
  have ra : (a : Int) / 4294967296 = (x : Int) := by omega
  have rb : (b : Int) / 4294967296 = (y : Int) := by omega
  have lx : x < 2 ^ 32 := by omega
  have ly : y < 2 ^ 32 := by omega
  clear hx hy
  have PV : Hid (∀ W : World, Tab W → Calls Tryd.prog 10 #[.int .i64 69, .int .u64 4294967296] W fun e W' => e = .returned (.tuple #[.int .u64 0, .int .i64 2]) ∧ Below W.heap.size W W') := fun W hT => by
    have h := (code_any 69 (by decide) (by decide)).1 W 4294967296 hT (by decide)
    rw [show one 69 4294967296 = (0, 2) by decide +kernel] at h
    exact h
  have h0 : (0 : Nat) < 2 ^ 32 := by decide
  have h1 : (1 : Nat) < 2 ^ 32 := by decide
  have hk : (31 : Nat) < 2 ^ 32 := by decide
  obtain ⟨g, eg⟩ : ∃ i, tw 21 32 0 1 = i := ⟨_, rfl⟩
  have lg : g < 2 ^ 32 := by rw [← eg]; exact tw_lt 21 32 0 1 (by decide) h0 h1
  obtain ⟨n, en⟩ : ∃ i, tw 27 32 x y = i := ⟨_, rfl⟩
  have ln : n < 2 ^ 32 := by rw [← en]; exact tw_lt 27 32 x y (by decide) lx ly
  obtain ⟨o, eo⟩ : ∃ i, tw 28 32 x y = i := ⟨_, rfl⟩
  have lo : o < 2 ^ 32 := by rw [← eo]; exact tw_lt 28 32 x y (by decide) lx ly
  obtain ⟨m, em⟩ : ∃ i, tw 29 32 n g = i := ⟨_, rfl⟩
  have lm : m < 2 ^ 32 := by rw [← em]; exact tw_lt 29 32 n g (by decide) ln lg
  obtain ⟨nx, enx⟩ : ∃ i, tw 29 32 x g = i := ⟨_, rfl⟩
  have lnx : nx < 2 ^ 32 := by rw [← enx]; exact tw_lt 29 32 x g (by decide) lx lg
  obtain ⟨ny, eny⟩ : ∃ i, tw 29 32 y g = i := ⟨_, rfl⟩
  have lny : ny < 2 ^ 32 := by rw [← eny]; exact tw_lt 29 32 y g (by decide) ly lg
  obtain ⟨z, ez⟩ : ∃ i, tw 29 32 x y = i := ⟨_, rfl⟩
  have lz : z < 2 ^ 32 := by rw [← ez]; exact tw_lt 29 32 x y (by decide) lx ly
  obtain ⟨h, eh⟩ : ∃ i, tw 30 32 1 31 = i := ⟨_, rfl⟩
  have lh : h < 2 ^ 32 := by rw [← eh]; exact tw_lt 30 32 1 31 (by decide) h1 hk
  obtain ⟨q, eq⟩ : ∃ i, tw 12 32 x y = i := ⟨_, rfl⟩
  have lq : q < 2 ^ 32 := by rw [← eq]; exact tw_lt 12 32 x y (by decide) lx ly
  obtain ⟨xh, exh⟩ : ∃ i, tw 29 32 x h = i := ⟨_, rfl⟩
  have lxh : xh < 2 ^ 32 := by rw [← exh]; exact tw_lt 29 32 x h (by decide) lx lh
  obtain ⟨yh, eyh⟩ : ∃ i, tw 29 32 y h = i := ⟨_, rfl⟩
  have lyh : yh < 2 ^ 32 := by rw [← eyh]; exact tw_lt 29 32 y h (by decide) ly lh
  obtain ⟨px, epx⟩ : ∃ i, ov 3 x 32 32 = i := ⟨_, rfl⟩
  have lpx : px ≤ 64 := by rw [← epx]; exact pop_le64 x
  obtain ⟨py, epy⟩ : ∃ i, ov 3 y 32 32 = i := ⟨_, rfl⟩
  have lpy : py ≤ 64 := by rw [← epy]; exact pop_le64 y
  obtain ⟨pn, epn⟩ : ∃ i, ov 3 n 32 32 = i := ⟨_, rfl⟩
  have lpn : pn ≤ 64 := by rw [← epn]; exact pop_le64 n
  obtain ⟨po, epo⟩ : ∃ i, ov 3 o 32 32 = i := ⟨_, rfl⟩
  have lpo : po ≤ 64 := by rw [← epo]; exact pop_le64 o
  have P9z := two_is (p := 21) (op := 107) (a := 0) (b := 1) (r := g) (.inr (by decide)) w32 h0 h1 (eg)
  have P9 : Hid (∀ W : World, Calls Tryd.prog 17 #[.int .i64 32, .int .i64 107, .int .u64 0, .int .u64 1] W (Out g W)) := P9z
  have PA := two_is (p := 27) (op := 113) (a := x) (b := y) (r := n) (.inr (by decide)) w32 lx ly (en)
  have PO := two_is (p := 28) (op := 114) (a := x) (b := y) (r := o) (.inr (by decide)) w32 lx ly (eo)
  have PM := two_is (p := 29) (op := 115) (a := n) (b := g) (r := m) (.inr (by decide)) w32 ln lg (em)
  have PX := two_is (p := 29) (op := 115) (a := x) (b := g) (r := nx) (.inr (by decide)) w32 lx lg (enx)
  have PY := two_is (p := 29) (op := 115) (a := y) (b := g) (r := ny) (.inr (by decide)) w32 ly lg (eny)
  have PD := two_is (p := 28) (op := 114) (a := nx) (b := ny) (r := m) (.inr (by decide)) w32 lnx lny (by rw [← enx, ← eny, ← em, ← en, ← eg]; exact (de_morgan (by decide) lx ly).symm)
  have PZ := two_is (p := 29) (op := 115) (a := x) (b := y) (r := z) (.inr (by decide)) w32 lx ly (ez)
  have PS := two_is (p := 21) (op := 107) (a := o) (b := n) (r := z) (.inr (by decide)) w32 lo ln (by rw [← eo, ← en, ← ez]; exact xor_sub lx ly)
  have Q1 := one_is (p := 3) (t := 32) (op := 105) (a := x) (r := px) (.inr (.inr (.inr ⟨rfl, rfl, rfl⟩))) w32 lx (epx)
  have Q2 := one_is (p := 3) (t := 32) (op := 105) (a := y) (r := py) (.inr (.inr (.inr ⟨rfl, rfl, rfl⟩))) w32 ly (epy)
  have Q3 := one_is (p := 3) (t := 32) (op := 105) (a := n) (r := pn) (.inr (.inr (.inr ⟨rfl, rfl, rfl⟩))) w32 ln (epn)
  have Q4 := one_is (p := 3) (t := 32) (op := 105) (a := o) (r := po) (.inr (.inr (.inr ⟨rfl, rfl, rfl⟩))) w32 lo (epo)
  have PHz := two_is (p := 30) (op := 116) (a := 1) (b := 31) (r := h) (.inr (by decide)) w32 h1 hk (eh)
  have PH : Hid (∀ W : World, Calls Tryd.prog 17 #[.int .i64 32, .int .i64 116, .int .u64 1, .int .u64 31] W (Out h W)) := PHz
  have PQ := two_is (p := 12) (op := 72) (a := x) (b := y) (r := q) (.inl (by decide)) w32 lx ly (eq)
  have PK := two_is (p := 29) (op := 115) (a := x) (b := h) (r := xh) (.inr (by decide)) w32 lx lh (exh)
  have PL := two_is (p := 29) (op := 115) (a := y) (b := h) (r := yh) (.inr (by decide)) w32 ly lh (eyh)
  have PE := two_is (p := 13) (op := 73) (a := xh) (b := yh) (r := q) (.inl (by decide)) w32 lxh lyh (by rw [← exh, ← eyh, ← eq, ← eh]; exact high_order (by decide) lx ly)
  have s1 : IntKind.u64.wrap ((px : Int) + py) = (px : Int) + py := wrap_pair lpx lpy
  have s2 : IntKind.u64.wrap ((pn : Int) + po) = (px : Int) + py := by
    rw [wrap_pair lpn lpo]
    have e := pop_sets (x := x) (y := y) 64
    have e1 : pop 64 x = px := epx
    have e2 : pop 64 y = py := epy
    have e3 : pop 64 (x &&& y) = pn := by rw [← epn, ← en, tw27]; rfl
    have e4 : pop 64 (x ||| y) = po := by rw [← epo, ← eo, tw28']; rfl
    rw [e1, e2, e3, e4] at e
    clear e1 e2 e3 e4
    omega
  have h02 : (0 : Nat) < 2 ^ 64 := by decide
  have h12 : (1 : Nat) < 2 ^ 64 := by decide
  have hk2 : (63 : Nat) < 2 ^ 64 := by decide
  obtain ⟨g2, eg2⟩ : ∃ i, tw 21 64 0 1 = i := ⟨_, rfl⟩
  have lg2 : g2 < 2 ^ 64 := by rw [← eg2]; exact tw_lt 21 64 0 1 (by decide) h02 h12
  obtain ⟨n2, en2⟩ : ∃ i, tw 27 64 a b = i := ⟨_, rfl⟩
  have ln2 : n2 < 2 ^ 64 := by rw [← en2]; exact tw_lt 27 64 a b (by decide) la2 lb2
  obtain ⟨o2, eo2⟩ : ∃ i, tw 28 64 a b = i := ⟨_, rfl⟩
  have lo2 : o2 < 2 ^ 64 := by rw [← eo2]; exact tw_lt 28 64 a b (by decide) la2 lb2
  obtain ⟨m2, em2⟩ : ∃ i, tw 29 64 n2 g2 = i := ⟨_, rfl⟩
  have lm2 : m2 < 2 ^ 64 := by rw [← em2]; exact tw_lt 29 64 n2 g2 (by decide) ln2 lg2
  obtain ⟨nx2, enx2⟩ : ∃ i, tw 29 64 a g2 = i := ⟨_, rfl⟩
  have lnx2 : nx2 < 2 ^ 64 := by rw [← enx2]; exact tw_lt 29 64 a g2 (by decide) la2 lg2
  obtain ⟨ny2, eny2⟩ : ∃ i, tw 29 64 b g2 = i := ⟨_, rfl⟩
  have lny2 : ny2 < 2 ^ 64 := by rw [← eny2]; exact tw_lt 29 64 b g2 (by decide) lb2 lg2
  obtain ⟨z2, ez2⟩ : ∃ i, tw 29 64 a b = i := ⟨_, rfl⟩
  have lz2 : z2 < 2 ^ 64 := by rw [← ez2]; exact tw_lt 29 64 a b (by decide) la2 lb2
  obtain ⟨h2, eh2⟩ : ∃ i, tw 30 64 1 63 = i := ⟨_, rfl⟩
  have lh2 : h2 < 2 ^ 64 := by rw [← eh2]; exact tw_lt 30 64 1 63 (by decide) h12 hk2
  obtain ⟨q2, eq2⟩ : ∃ i, tw 12 64 a b = i := ⟨_, rfl⟩
  have lq2 : q2 < 2 ^ 64 := by rw [← eq2]; exact tw_lt 12 64 a b (by decide) la2 lb2
  obtain ⟨xh2, exh2⟩ : ∃ i, tw 29 64 a h2 = i := ⟨_, rfl⟩
  have lxh2 : xh2 < 2 ^ 64 := by rw [← exh2]; exact tw_lt 29 64 a h2 (by decide) la2 lh2
  obtain ⟨yh2, eyh2⟩ : ∃ i, tw 29 64 b h2 = i := ⟨_, rfl⟩
  have lyh2 : yh2 < 2 ^ 64 := by rw [← eyh2]; exact tw_lt 29 64 b h2 (by decide) lb2 lh2
  obtain ⟨px2, epx2⟩ : ∃ i, ov 3 a 64 64 = i := ⟨_, rfl⟩
  have lpx2 : px2 ≤ 64 := by rw [← epx2]; exact pop_le64 a
  obtain ⟨py2, epy2⟩ : ∃ i, ov 3 b 64 64 = i := ⟨_, rfl⟩
  have lpy2 : py2 ≤ 64 := by rw [← epy2]; exact pop_le64 b
  obtain ⟨pn2, epn2⟩ : ∃ i, ov 3 n2 64 64 = i := ⟨_, rfl⟩
  have lpn2 : pn2 ≤ 64 := by rw [← epn2]; exact pop_le64 n2
  obtain ⟨po2, epo2⟩ : ∃ i, ov 3 o2 64 64 = i := ⟨_, rfl⟩
  have lpo2 : po2 ≤ 64 := by rw [← epo2]; exact pop_le64 o2
  have P9z2 := two_is (p := 21) (op := 107) (a := 0) (b := 1) (r := g2) (.inr (by decide)) w64 h02 h12 (eg2)
  have P92 : Hid (∀ W : World, Calls Tryd.prog 17 #[.int .i64 64, .int .i64 107, .int .u64 0, .int .u64 1] W (Out g2 W)) := P9z2
  have PA2 := two_is (p := 27) (op := 113) (a := a) (b := b) (r := n2) (.inr (by decide)) w64 la2 lb2 (en2)
  have PO2 := two_is (p := 28) (op := 114) (a := a) (b := b) (r := o2) (.inr (by decide)) w64 la2 lb2 (eo2)
  have PM2 := two_is (p := 29) (op := 115) (a := n2) (b := g2) (r := m2) (.inr (by decide)) w64 ln2 lg2 (em2)
  have PX2 := two_is (p := 29) (op := 115) (a := a) (b := g2) (r := nx2) (.inr (by decide)) w64 la2 lg2 (enx2)
  have PY2 := two_is (p := 29) (op := 115) (a := b) (b := g2) (r := ny2) (.inr (by decide)) w64 lb2 lg2 (eny2)
  have PD2 := two_is (p := 28) (op := 114) (a := nx2) (b := ny2) (r := m2) (.inr (by decide)) w64 lnx2 lny2 (by rw [← enx2, ← eny2, ← em2, ← en2, ← eg2]; exact (de_morgan (by decide) la2 lb2).symm)
  have PZ2 := two_is (p := 29) (op := 115) (a := a) (b := b) (r := z2) (.inr (by decide)) w64 la2 lb2 (ez2)
  have PS2 := two_is (p := 21) (op := 107) (a := o2) (b := n2) (r := z2) (.inr (by decide)) w64 lo2 ln2 (by rw [← eo2, ← en2, ← ez2]; exact xor_sub la2 lb2)
  have Q12 := one_is (p := 3) (t := 64) (op := 105) (a := a) (r := px2) (.inr (.inr (.inr ⟨rfl, rfl, rfl⟩))) w64 la2 (epx2)
  have Q22 := one_is (p := 3) (t := 64) (op := 105) (a := b) (r := py2) (.inr (.inr (.inr ⟨rfl, rfl, rfl⟩))) w64 lb2 (epy2)
  have Q32 := one_is (p := 3) (t := 64) (op := 105) (a := n2) (r := pn2) (.inr (.inr (.inr ⟨rfl, rfl, rfl⟩))) w64 ln2 (epn2)
  have Q42 := one_is (p := 3) (t := 64) (op := 105) (a := o2) (r := po2) (.inr (.inr (.inr ⟨rfl, rfl, rfl⟩))) w64 lo2 (epo2)
  have PHz2 := two_is (p := 30) (op := 116) (a := 1) (b := 63) (r := h2) (.inr (by decide)) w64 h12 hk2 (eh2)
  have PH2 : Hid (∀ W : World, Calls Tryd.prog 17 #[.int .i64 64, .int .i64 116, .int .u64 1, .int .u64 63] W (Out h2 W)) := PHz2
  have PQ2 := two_is (p := 12) (op := 72) (a := a) (b := b) (r := q2) (.inl (by decide)) w64 la2 lb2 (eq2)
  have PK2 := two_is (p := 29) (op := 115) (a := a) (b := h2) (r := xh2) (.inr (by decide)) w64 la2 lh2 (exh2)
  have PL2 := two_is (p := 29) (op := 115) (a := b) (b := h2) (r := yh2) (.inr (by decide)) w64 lb2 lh2 (eyh2)
  have PE2 := two_is (p := 13) (op := 73) (a := xh2) (b := yh2) (r := q2) (.inl (by decide)) w64 lxh2 lyh2 (by rw [← exh2, ← eyh2, ← eq2, ← eh2]; exact high_order (by decide) la2 lb2)
  have s12 : IntKind.u64.wrap ((px2 : Int) + py2) = (px2 : Int) + py2 := wrap_pair lpx2 lpy2
  have s22 : IntKind.u64.wrap ((pn2 : Int) + po2) = (px2 : Int) + py2 := by
    rw [wrap_pair lpn2 lpo2]
    have e := pop_sets (x := a) (y := b) 64
    have e1 : pop 64 a = px2 := epx2
    have e2 : pop 64 b = py2 := epy2
    have e3 : pop 64 (a &&& b) = pn2 := by rw [← epn2, ← en2, tw27]; rfl
    have e4 : pop 64 (a ||| b) = po2 := by rw [← epo2, ← eo2, tw28']; rfl
    rw [e1, e2, e3, e4] at e
    clear e1 e2 e3 e4
    omega
  exact NumLogic_core w hT a b x y g n o m nx ny z px py pn po h q xh yh g2 n2 o2 m2 nx2 ny2 z2 px2 py2 pn2 po2 h2 q2 xh2 yh2 ra rb
    P9 PA PO PM PX PY PD PZ PS Q1 Q2 Q3 Q4 PH PQ PK PL PE ((px : Int) + py) s1 s2
    P92 PA2 PO2 PM2 PX2 PY2 PD2 PZ2 PS2 Q12 Q22 Q32 Q42 PH2 PQ2 PK2 PL2 PE2 ((px2 : Int) + py2) s12 s22 PV
end Go.Proofs.YtnhnbcjffnlicaaDoor

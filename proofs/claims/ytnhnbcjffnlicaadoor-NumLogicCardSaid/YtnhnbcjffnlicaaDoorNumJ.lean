/-
  PLAIN: and, or, xor, shifts and turns, place by place. No Go in sight.
-/
import Derived.Test.YtnhnbcjffnlicaaDoorNumD
namespace Go.Proofs.YtnhnbcjffnlicaaDoor.Num
set_option linter.unusedVariables false

def bt (a i : Nat) : Nat := a / 2 ^ i % 2
theorem bt_eq (a i : Nat) : bt a i = (a.testBit i).toNat := by rw [Nat.toNat_testBit]; rfl
/-- What stands at a place of what an operation comes to. -/
def vb (p w k a b i : Nat) : Nat :=
  match p with
  | 27 => bt a i * bt b i
  | 28 => (bt a i + bt b i + 1) / 2
  | 29 => (bt a i + bt b i) % 2
  | 30 => if k ≤ i then bt a (i - k) else 0
  | 31 => if i + k < w then bt a (i + k) else bt a (w - 1)
  | 32 => if i + k < w then bt a (i + k) else 0
  | 33 => bt a ((i + w - k) % w)
  | _ => bt a ((i + k) % w)
def outl (v : Nat → Nat) (w k : Nat) : List Nat := (List.range w).map fun i => if i < k then v i else 0
theorem outl_length (v : Nat → Nat) (w k : Nat) : (outl v w k).length = w := by simp [outl]
theorem outl_set (v : Nat → Nat) (w k : Nat) (hk : k < w) : (outl v w k).set k (v k) = outl v w (k + 1) := by
  apply List.ext_getElem (by simp [outl])
  intro i h1 h2
  rw [List.getElem_set]
  simp only [outl, List.getElem_map, List.getElem_range]
  split
  · rename_i h; subst h; rw [if_pos (by omega)]
  · rename_i h
    by_cases hi : i < k
    · rw [if_pos hi, if_pos (by omega)]
    · rw [if_neg hi, if_neg (by omega)]
theorem outl_same (v : Nat → Nat) (w k : Nat) (h : v k = 0) : outl v w k = outl v w (k + 1) := by
  unfold outl
  apply List.map_congr_left
  intro i _
  by_cases hi : i < k
  · rw [if_pos hi, if_pos (by omega)]
  · by_cases he : i = k
    · subst he; rw [if_neg hi, if_pos (by omega), h]
    · rw [if_neg hi, if_neg (by omega)]
theorem outl_zero (v : Nat → Nat) (w : Nat) : outl v w 0 = List.replicate w 0 := by
  apply List.ext_getElem (by simp [outl])
  intro i h1 h2
  simp [outl]
theorem outl_nv (v : Nat → Nat) (w r : Nat) (hr : r < 2 ^ w) (h : ∀ i, i < w → v i = bt r i) : nv (outl v w w) = r := by
  apply nv_ext
  · rw [outl_length]; exact hr
  · intro i hi
    rw [outl_length] at hi
    simp only [outl, List.getElem_map, List.getElem_range]
    rw [if_pos hi]; exact h i hi
theorem bt_lt (a i : Nat) : bt a i < 2 := Nat.mod_lt _ (by omega)
theorem vb_lt (p w k a b i : Nat) : vb p w k a b i < 2 := by
  have h1 := bt_lt a i
  have h2 := bt_lt b i
  unfold vb
  split
  · have : bt a i = 0 ∨ bt a i = 1 := by omega
    rcases this with h | h <;> rw [h] <;> omega
  · omega
  · omega
  · split
    · exact bt_lt _ _
    · omega
  · split <;> exact bt_lt _ _
  · split
    · exact bt_lt _ _
    · omega
  · exact bt_lt _ _
  · exact bt_lt _ _
theorem outl_lt (p w k a b j : Nat) : ∀ x ∈ outl (vb p w k a b) w j, x < 2 := by
  intro x hx
  obtain ⟨i, _, rfl⟩ := List.mem_map.1 hx
  split
  · exact vb_lt _ _ _ _ _ _
  · omega
theorem bt_big {a w i : Nat} (h : a < 2 ^ w) (hi : w ≤ i) : bt a i = 0 := by
  unfold bt
  rw [Nat.div_eq_of_lt (Nat.lt_of_lt_of_le h (Nat.pow_le_pow_right (by omega) hi))]
theorem bt_div (a k i : Nat) : bt (a / 2 ^ k) i = bt a (i + k) := by
  unfold bt; rw [Nat.div_div_eq_div_mul, ← Nat.pow_add, Nat.add_comm]
theorem bt_shl (a k w i : Nat) (hi : i < w) : bt (a * 2 ^ k % 2 ^ w) i = if k ≤ i then bt a (i - k) else 0 := by
  rw [bt_eq, Nat.testBit_mod_two_pow, Nat.testBit_mul_two_pow, decide_eq_true hi, Bool.true_and]
  split
  · rename_i h; rw [decide_eq_true h, Bool.true_and, bt_eq]
  · rename_i h; rw [decide_eq_false h, Bool.false_and]; rfl
theorem bt_or (x y i : Nat) : bt (x ||| y) i = (bt x i + bt y i + 1) / 2 := by
  rw [bt_eq, bt_eq, bt_eq, Nat.testBit_or]
  cases x.testBit i <;> cases y.testBit i <;> rfl
theorem bt_and (x y i : Nat) : bt (x &&& y) i = bt x i * bt y i := by
  rw [bt_eq, bt_eq, bt_eq, Nat.testBit_and]
  cases x.testBit i <;> cases y.testBit i <;> rfl
theorem bt_xor (x y i : Nat) : bt (x ^^^ y) i = (bt x i + bt y i) % 2 := by
  rw [bt_eq, bt_eq, bt_eq, Nat.testBit_xor]
  cases x.testBit i <;> cases y.testBit i <;> rfl
theorem shr_lt {a w k : Nat} (h : a < 2 ^ w) : a / 2 ^ k < 2 ^ w := Nat.lt_of_le_of_lt (Nat.div_le_self _ _) h
/-- To the right as signed. -/
theorem sshr (w a k i : Nat) (h1 : 1 ≤ w) (ha : a < 2 ^ w) (hk : k < w) (hi : i < w) : bt (md w (sg w a / ((2 ^ k : Nat) : Int))) i = if i + k < w then bt a (i + k) else bt a (w - 1) := by
  obtain ⟨ht, ht2⟩ := top_bit w a h1 ha
  rcases Nat.lt_or_ge a (2 ^ (w - 1)) with hl | hl
  · rw [sg_lo hl, ← Int.natCast_ediv, md_nat w _ (shr_lt ha), bt_div]
    split
    · rfl
    · rw [bt_big ha (by omega)]
      unfold bt; omega
  · have hp := Nat.two_pow_pos k
    have hw := Nat.two_pow_pos w
    have e : sg w a / ((2 ^ k : Nat) : Int) = (((2 ^ w * (2 ^ k - 1) + a) / 2 ^ k : Nat) : Int) - ((2 ^ w : Nat) : Int) := by
      unfold sg
      rw [if_neg (by omega)]
      have e1 : ((2 ^ w * (2 ^ k - 1) + a : Nat) : Int) = ((a : Int) - ((2 ^ w : Nat) : Int)) + ((2 ^ w : Nat) : Int) * ((2 ^ k : Nat) : Int) := by
        rw [Nat.mul_sub, Nat.mul_one]
        have h3 : 2 ^ w ≤ 2 ^ w * 2 ^ k := Nat.le_mul_of_pos_right _ hp
        have h4 : ((2 ^ w * 2 ^ k : Nat) : Int) = ((2 ^ w : Nat) : Int) * ((2 ^ k : Nat) : Int) := Int.natCast_mul _ _
        omega
      rw [Int.natCast_ediv, e1, Int.add_mul_ediv_right _ _ (by omega)]; omega
    have hN : (2 ^ w * (2 ^ k - 1) + a) / 2 ^ k < 2 ^ w := by
      rw [Nat.div_lt_iff_lt_mul hp, Nat.mul_sub, Nat.mul_one]
      have h3 : 2 ^ w ≤ 2 ^ w * 2 ^ k := Nat.le_mul_of_pos_right _ hp
      omega
    have em : md w (sg w a / ((2 ^ k : Nat) : Int)) = (2 ^ w * (2 ^ k - 1) + a) / 2 ^ k := by
      rw [e]
      generalize (2 ^ w * (2 ^ k - 1) + a) / 2 ^ k = N at hN ⊢
      unfold md
      rw [Int.sub_emod_right, Int.emod_eq_of_lt (by omega) (by omega)]; rfl
    rw [em, bt_div, bt_eq, Nat.testBit_two_pow_mul_add _ ha]
    split
    · rw [bt_eq]
    · rename_i hge
      have h5 : bt a (w - 1) = 1 := ht.2 hl
      rw [h5, Nat.testBit_two_pow_sub_one, decide_eq_true (by omega)]; rfl
/-- All of them. -/
theorem vb_tv (p w a b : Nat) (h1 : 1 ≤ w) (ha : a < 2 ^ w) (hb : b < 2 ^ w) (hp1 : 27 ≤ p) (hp2 : p ≤ 34) :
    nv (outl (vb p w (b % w) a b) w w) = tv p w a b := by
  have hk : b % w < w := Nat.mod_lt _ (by omega)
  have hp := Nat.two_pow_pos w
  have : p = 27 ∨ p = 28 ∨ p = 29 ∨ p = 30 ∨ p = 31 ∨ p = 32 ∨ p = 33 ∨ p = 34 := by omega
  generalize hkk : b % w = k at hk
  rcases this with rfl | rfl | rfl | rfl | rfl | rfl | rfl | rfl <;> apply outl_nv
  · exact Nat.lt_of_le_of_lt Nat.and_le_left ha
  · intro i hi; exact (bt_and a b i).symm
  · exact Nat.or_lt_two_pow ha hb
  · intro i hi; exact (bt_or a b i).symm
  · exact Nat.xor_lt_two_pow ha hb
  · intro i hi; exact (bt_xor a b i).symm
  · exact Nat.mod_lt _ hp
  · intro i hi
    show _ = bt (a * 2 ^ (b % w) % 2 ^ w) i
    rw [hkk, bt_shl a k w i hi]; rfl
  · exact md_lt w _
  · intro i hi
    show _ = bt (md w (sg w a / ((2 ^ (b % w) : Nat) : Int))) i
    rw [hkk, sshr w a k i h1 ha hk hi]; rfl
  · exact shr_lt ha
  · intro i hi
    show _ = bt (a / 2 ^ (b % w)) i
    rw [hkk, bt_div]
    show (if i + k < w then bt a (i + k) else 0) = _
    split
    · rfl
    · rw [bt_big ha (by omega)]
  · exact Nat.or_lt_two_pow (Nat.mod_lt _ hp) (shr_lt ha)
  · intro i hi
    show bt a ((i + w - k) % w) = bt (a * 2 ^ (b % w) % 2 ^ w ||| a / 2 ^ (w - b % w)) i
    rw [hkk, bt_or, bt_shl a k w i hi, bt_div]
    by_cases hki : k ≤ i
    · rw [if_pos hki, bt_big (i := i + (w - k)) ha (by omega)]
      have e : (i + w - k) % w = i - k := by rw [show i + w - k = i - k + w by omega, Nat.add_mod_right, Nat.mod_eq_of_lt (by omega)]
      rw [e]; have := bt_lt a (i - k); omega
    · rw [if_neg hki]
      have e : (i + w - k) % w = i + (w - k) := by rw [show i + w - k = i + (w - k) by omega, Nat.mod_eq_of_lt (by omega)]
      rw [e]; have := bt_lt a (i + (w - k)); omega
  · exact Nat.or_lt_two_pow (shr_lt ha) (Nat.mod_lt _ hp)
  · intro i hi
    show bt a ((i + k) % w) = bt (a / 2 ^ (b % w) ||| a * 2 ^ (w - b % w) % 2 ^ w) i
    rw [hkk, bt_or, bt_shl a (w - k) w i hi, bt_div]
    by_cases hki : i + k < w
    · rw [Nat.mod_eq_of_lt hki, if_neg (by omega)]
      have := bt_lt a (i + k); omega
    · rw [bt_big (i := i + k) ha (by omega), if_pos (by omega)]
      have e : (i + k) % w = i - (w - k) := by
        rw [show i + k = i - (w - k) + w by omega, Nat.add_mod_right, Nat.mod_eq_of_lt (by omega)]
      rw [e]; have := bt_lt a (i - (w - k)); omega
end Go.Proofs.YtnhnbcjffnlicaaDoor.Num

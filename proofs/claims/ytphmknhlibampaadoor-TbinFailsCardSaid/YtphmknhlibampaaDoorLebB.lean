/-
  PLAIN: the document's own way to read a number: its bits as a list. No Go in sight.
-/
import Derived.Test.YtphmknhlibampaaDoorLebN
namespace Go.Proofs.YtphmknhlibampaaDoor.Leb
set_option linter.unusedVariables false

def bits7 (x : Nat) : List Nat := [x % 2, x / 2 % 2, x / 4 % 2, x / 8 % 2, x / 16 % 2, x / 32 % 2, x / 64 % 2]
def must (bits : Nat) (sg : Bool) (all : List Nat) : Nat := if sg && decide (bits ≤ all.length) then all.getD (bits - 1) 0 else 0
def bad (bits : Nat) (sg : Bool) (all : List Nat) : Bool := (all.drop bits).any fun y => decide (y ≠ must bits sg all)
def rdB (bits : Nat) (sg : Bool) : List Nat → Nat → List Nat → List Nat × Nat × Nat
  | [], _, _ => ([], 0, 10)
  | x :: l, i, all =>
    if bad bits sg (all ++ bits7 x) then ([], 0, 11)
    else if x < 128 then (all ++ bits7 x, i + 1, 0)
    else if bits ≤ 7 * (i + 1) then ([], 0, 11) else rdB bits sg l (i + 1) (all ++ bits7 x)

def val (l : List Nat) : Nat := l.foldr (fun b acc => acc * 2 + b) 0
theorem val_append (l m : List Nat) : val (l ++ m) = val l + val m * 2 ^ l.length := by
  induction l with
  | nil => simp [val]
  | cons x l ih =>
    have e : val (x :: l ++ m) = val (l ++ m) * 2 + x := rfl
    have e2 : val (x :: l) = val l * 2 + x := rfl
    rw [e, e2, ih, List.length_cons, Nat.pow_succ, Nat.add_mul, Nat.mul_assoc]; omega
theorem val_bits7 (x : Nat) (h : x < 256) : val (bits7 x) = x % 128 := by
  have : ∀ y : Fin 256, val (bits7 y.val) = y.val % 128 := by decide +kernel
  exact this ⟨x, h⟩
theorem val_lt (l : List Nat) (h : ∀ x ∈ l, x < 2) : val l < 2 ^ l.length := by
  induction l with
  | nil => simp [val]
  | cons x l ih =>
    have e2 : val (x :: l) = val l * 2 + x := rfl
    have := ih (fun y hy => h y (List.mem_cons_of_mem _ hy))
    have := h x (List.mem_cons_self ..)
    rw [e2, List.length_cons, Nat.pow_succ]; omega
theorem bits7_lt (x : Nat) : ∀ y ∈ bits7 x, y < 2 := by
  intro y hy
  simp [bits7] at hy
  omega
/-- What is told of the last byte's places beyond the bits. -/
theorem bad_fits_dec : ∀ (sg : Bool) (x : Fin 256) (left : Fin 8), 1 ≤ left.val →
    ((bits7 x.val).drop left.val).any (fun y => decide (y ≠ (if sg then (bits7 x.val).getD (left.val - 1) 0 else 0))) = !fits sg (x.val % 128) left.val := by decide +kernel
theorem fits_big (sg : Bool) (x left : Nat) (h : x < 128) (hl : 7 ≤ left) : fits sg x left = true := by
  cases sg
  · simp only [fits, Bool.false_eq_true, if_false, decide_eq_true_eq]
    exact Nat.div_eq_of_lt (Nat.lt_of_lt_of_le (show x < 2 ^ 7 by omega) (Nat.pow_le_pow_right (by omega) (by omega)))
  · simp only [fits, if_true, Bool.or_eq_true, decide_eq_true_eq]
    rcases Nat.lt_or_ge left 8 with h8 | h8
    · obtain rfl : left = 7 := by omega
      simp; omega
    · left
      exact Nat.div_eq_of_lt (Nat.lt_of_lt_of_le (show x < 2 ^ 7 by omega) (Nat.pow_le_pow_right (by omega) (by omega)))
theorem bad_fits (bits : Nat) (sg : Bool) (all : List Nat) (x : Nat) (hx : x < 256) (hl : all.length < bits) : bad bits sg (all ++ bits7 x) = !fits sg (x % 128) (bits - all.length) := by
  have h7 : (bits7 x).length = 7 := rfl
  rcases Nat.lt_or_ge (bits - all.length) 8 with h8 | h8
  · have := bad_fits_dec sg ⟨x, hx⟩ ⟨bits - all.length, h8⟩ (by show 1 ≤ bits - all.length; omega)
    simp only at this
    rw [← this]
    unfold bad
    have e : (all ++ bits7 x).drop bits = (bits7 x).drop (bits - all.length) := by rw [List.drop_append, List.drop_of_length_le (by omega), List.nil_append]
    rw [e]
    rcases Nat.lt_or_ge 7 (bits - all.length) with h9 | h9
    · omega
    · have em : must bits sg (all ++ bits7 x) = if sg then (bits7 x).getD (bits - all.length - 1) 0 else 0 := by
        unfold must
        have hle : bits ≤ (all ++ bits7 x).length := by rw [List.length_append, h7]; omega
        rw [decide_eq_true hle, Bool.and_true]
        cases sg
        · rfl
        · simp only [if_true]
          rw [List.getD_eq_getElem?_getD, List.getElem?_append_right (by omega), ← List.getD_eq_getElem?_getD]
          congr 1; omega
      rw [em]
  · rw [fits_big sg _ _ (by omega) (by omega)]
    unfold bad
    rw [List.drop_of_length_le (by rw [List.length_append, h7]; omega)]
    rfl

theorem rdB_rd (bits : Nat) (sg : Bool) (hb : bits ≤ 64) (l : List Nat) : ∀ (i : Nat) (all : List Nat) (a : Nat), (∀ x ∈ l, x < 256) → all.length = 7 * i → 7 * i < bits → (∀ y ∈ all, y < 2) →
    ((rdB bits sg l i all).2.2 ≠ 0 ∧ rdB bits sg l i all = ([], 0, (rdB bits sg l i all).2.2) ∧ rd bits sg l a (7 * i) (val all) = (0, 0, (rdB bits sg l i all).2.2)) ∨
    (∃ res c, rdB bits sg l i all = (res, i + c, 0) ∧ 1 ≤ c ∧ res.length = 7 * (i + c) ∧ i + c ≤ 10 ∧ (∀ y ∈ res, y < 2) ∧ rd bits sg l a (7 * i) (val all) = (ext sg (val res % 18446744073709551616) res.length, a + c, 0)) := by
  induction l with
  | nil => intro i all a _ _ _ _; left; simp [rdB, rd]
  | cons x l ih =>
    intro i all a hx hlen hi hall
    have hx0 := hx x (List.mem_cons_self ..)
    have hbf := bad_fits bits sg all x hx0 (by omega)
    rw [hlen] at hbf
    have hv : val (all ++ bits7 x) = val all + x % 128 * 2 ^ (7 * i) := by rw [val_append, val_bits7 x hx0, hlen]
    have hl7 : (all ++ bits7 x).length = 7 * (i + 1) := by rw [List.length_append, hlen]; rfl
    have hall7 : ∀ y ∈ all ++ bits7 x, y < 2 := fun y hy => by
      rcases List.mem_append.1 hy with h | h
      · exact hall y h
      · exact bits7_lt x y h
    rw [rdB, rd, hbf]
    by_cases hf : fits sg (x % 128) (bits - 7 * i) = true
    · rw [hf]
      simp only [Bool.not_true, Bool.false_eq_true, if_false, if_true]
      by_cases h128 : x < 128
      · rw [if_pos h128, if_pos h128]
        right
        exact ⟨_, 1, rfl, by omega, hl7, by omega, hall7, by rw [hv, hl7]; rfl⟩
      · rw [if_neg h128, if_neg h128]
        by_cases hle : bits ≤ 7 * (i + 1)
        · rw [if_pos hle, if_pos (by omega)]
          left; simp
        · rw [if_neg hle, if_neg (by omega)]
          have hsm : val all + x % 128 * 2 ^ (7 * i) < 18446744073709551616 := by
            have := val_lt _ hall7
            rw [hv, hl7] at this
            have h2 := Nat.pow_le_pow_right (n := 2) (by omega) (show 7 * (i + 1) ≤ 64 by omega)
            omega
          rw [Nat.mod_eq_of_lt hsm, ← hv]
          have := ih (i + 1) (all ++ bits7 x) (a + 1) (fun y hy => hx y (List.mem_cons_of_mem _ hy)) hl7 (by omega) hall7
          rw [show 7 * i + 7 = 7 * (i + 1) by omega]
          rcases this with h | ⟨res, c, h1, h2, h3, h4, h5, h6⟩
          · exact .inl h
          · exact .inr ⟨res, c + 1, by rw [h1]; congr 2; omega, by omega, by rw [h3]; omega, by omega, h5, by rw [h6]; congr 2; omega⟩
    · rw [Bool.not_eq_true] at hf
      rw [hf]
      simp

theorem bits7_take (x k : Nat) (hk : k < 7) : (bits7 x).take (k + 1) = (bits7 x).take k ++ [x / 2 ^ k % 2] := by
  have : k = 0 ∨ k = 1 ∨ k = 2 ∨ k = 3 ∨ k = 4 ∨ k = 5 ∨ k = 6 := by omega
  rcases this with rfl | rfl | rfl | rfl | rfl | rfl | rfl <;> simp [bits7]
theorem bad_true (bits : Nat) (sg : Bool) (all : List Nat) (j : Nat) (h1 : bits ≤ j) (h2 : j < all.length) (h3 : all[j] ≠ must bits sg all) : bad bits sg all = true := by
  unfold bad
  rw [List.any_eq_true]
  refine ⟨all[j], ?_, by simpa using h3⟩
  rw [List.mem_iff_getElem]
  exact ⟨j - bits, by simp; omega, by rw [List.getElem_drop]; congr 1; omega⟩
theorem bad_false (bits : Nat) (sg : Bool) (all : List Nat) (h : ∀ j, bits ≤ j → ∀ h2 : j < all.length, all[j] = must bits sg all) : bad bits sg all = false := by
  unfold bad
  rw [List.any_eq_false]
  intro y hy
  obtain ⟨p, hp, rfl⟩ := List.mem_iff_getElem.1 hy
  rw [List.getElem_drop]
  have := h (bits + p) (by omega) (by rw [List.length_drop] at hp; omega)
  simp [this]
/-- The highest bit is the list's last. -/
theorem val_top (l : List Nat) (h : ∀ x ∈ l, x < 2) (h0 : l ≠ []) : val l / 2 ^ (l.length - 1) = l.getLast h0 := by
  obtain ⟨m, x, rfl⟩ : ∃ m x, l = m ++ [x] := ⟨l.dropLast, l.getLast h0, (List.dropLast_concat_getLast h0).symm⟩
  rw [val_append, List.length_append, List.length_singleton, Nat.add_sub_cancel, Nat.add_mul_div_right _ _ (Nat.two_pow_pos _), Nat.div_eq_of_lt (val_lt m (fun y hy => h y (by simp [hy])))]
  simp [val]
/-- The number that is made of the bits, from the highest one on, wrapped round. -/
def hornU (l : List Nat) : Nat := l.foldr (fun b acc => (acc * 2 % 18446744073709551616 + b) % 18446744073709551616) 0
theorem hornU_eq (l : List Nat) : hornU l = val l % 18446744073709551616 := by
  induction l with
  | nil => rfl
  | cons x l ih =>
    have e1 : hornU (x :: l) = (hornU l * 2 % 18446744073709551616 + x) % 18446744073709551616 := rfl
    have e2 : val (x :: l) = val l * 2 + x := rfl
    rw [e1, e2, ih]; omega
def w64 (n : Int) : Int := (n + 9223372036854775808) % 18446744073709551616 - 9223372036854775808
def hornS (s : Int) (l : List Nat) : Int := l.foldr (fun (b : Nat) (acc : Int) => w64 (w64 (acc * 2) + (b : Int))) s
theorem hornS_eq (s : Int) (l : List Nat) (hs : -9223372036854775808 ≤ s ∧ s < 9223372036854775808) : hornS s l = w64 (s * 2 ^ l.length + val l) := by
  induction l with
  | nil => simp [hornS, val, w64]; omega
  | cons x l ih =>
    have e1 : hornS s (x :: l) = w64 (w64 (hornS s l * 2) + x) := rfl
    have e2 : val (x :: l) = val l * 2 + x := rfl
    rw [e1, ih, e2, List.length_cons, Int.pow_succ, ← Int.mul_assoc]
    generalize s * 2 ^ l.length = q
    generalize val l = v
    unfold w64
    omega
theorem hornS_word (l : List Nat) (h : ∀ x ∈ l, x < 2) (c : Nat) (hl : l.length = 7 * c) (hc : 1 ≤ c) (hc10 : c ≤ 10) (h0 : l ≠ []) :
    hornS (if l.getLast h0 = 1 then -1 else 0) l = sOf (ext true (val l % 18446744073709551616) l.length) := by
  rw [hornS_eq _ _ (by split <;> omega)]
  have hv := val_lt l h
  have ht := val_top l h h0
  have hlast : l.getLast h0 < 2 := h _ (List.getLast_mem h0)
  generalize l.getLast h0 = t at *
  rcases Nat.lt_or_ge c 10 with h9 | h9
  · -- all places are there
    have hp : 2 ^ l.length ≤ 2 ^ 63 := Nat.pow_le_pow_right (by omega) (by omega)
    have e2 : 2 ^ l.length = 2 * 2 ^ (l.length - 1) := by rw [← Nat.pow_succ']; congr 1; omega
    have hp1 : 1 ≤ 2 ^ (l.length - 1) := Nat.one_le_two_pow
    rw [Nat.mod_eq_of_lt (by omega)]
    unfold ext
    rw [show min (l.length - 1) 64 = l.length - 1 by omega, show min l.length 64 = l.length by omega, ht]
    have hc1 : ((2 : Int) ^ l.length) = ((2 ^ l.length : Nat) : Int) := by simp
    have hdiv : t * 2 ^ (l.length - 1) ≤ val l ∧ val l < (t + 1) * 2 ^ (l.length - 1) := by
      rw [← ht]
      exact ⟨Nat.div_mul_le_self _ _, by rw [Nat.mul_comm]; exact Nat.lt_mul_div_succ _ (by omega)⟩
    rw [hc1]
    generalize 2 ^ (l.length - 1) = P at *
    have : t = 0 ∨ t = 1 := by omega
    rcases this with rfl | rfl
    · simp
      unfold w64 sOf
      rw [if_pos (by omega)]
      omega
    · simp
      unfold w64 sOf
      rw [if_neg (by omega)]
      omega
  · obtain rfl : c = 10 := by omega
    rw [hl]
    unfold ext
    have e : (val l % 18446744073709551616) / 2 ^ min (7 * 10 - 1) 64 = 0 := Nat.div_eq_of_lt (by rw [show min (7 * 10 - 1) 64 = 64 by omega]; exact Nat.mod_lt _ (by omega))
    rw [e]
    simp
    have hs : ∃ s : Int, (if t = 1 then (-1 : Int) else 0) = s := ⟨_, rfl⟩
    obtain ⟨s, hs⟩ := hs
    rw [hs]
    unfold w64 sOf
    split <;> omega
end Go.Proofs.YtphmknhlibampaaDoor.Leb

/-
  PLAIN: names: code points as bytes, as lists of natural numbers. No Go in sight.
-/
import Derived.Test.YtphmknhlibampaaDoorLeb
namespace Go.Proofs.YtphmknhlibampaaDoor.Nm
set_option linter.unusedVariables false

def cont (x : Nat) : Bool := decide (128 ≤ x) && decide (x ≤ 191)
/-- The k bytes behind the first one go on with it. -/
def conts (l : List Nat) : Nat → Bool
  | 0 => true
  | k + 1 => conts l k && cont (l.getD (k + 1) 0)
/-- The number that the first byte's bits and those of k more are. -/
def val (c0 : Nat) (l : List Nat) : Nat → Nat
  | 0 => c0
  | k + 1 => val c0 l k * 64 + l.getD (k + 1) 0 - 128
def okc (least c : Nat) : Bool := decide (least ≤ c) && decide (c ≤ 1114111) && !(decide (55296 ≤ c) && decide (c ≤ 57343))
def gen (n least c0 : Nat) (l : List Nat) : Nat := if decide (n ≤ l.length) && conts l (n - 1) && okc least (val c0 l (n - 1)) then n else 0
/-- How many bytes the code point ahead has; 0: there is none. -/
def one (l : List Nat) : Nat :=
  if l.length = 0 then 0
  else if l.getD 0 0 < 128 then 1
  else if l.getD 0 0 < 192 then 0
  else if l.getD 0 0 < 224 then gen 2 128 (l.getD 0 0 - 192) l
  else if l.getD 0 0 < 240 then gen 3 2048 (l.getD 0 0 - 224) l
  else if l.getD 0 0 < 248 then gen 4 65536 (l.getD 0 0 - 240) l
  else 0

theorem conts_1 (l : List Nat) : conts l (2 - 1) = cont (l.getD 1 0) := rfl
theorem conts_2 (l : List Nat) : conts l (3 - 1) = (cont (l.getD 1 0) && cont (l.getD 2 0)) := rfl
theorem conts_3 (l : List Nat) : conts l (4 - 1) = (cont (l.getD 1 0) && cont (l.getD 2 0) && cont (l.getD 3 0)) := rfl
theorem val_0 (c0 : Nat) (l : List Nat) : val c0 l 0 = c0 := rfl
theorem val_succ (c0 : Nat) (l : List Nat) (k : Nat) : val c0 l (k + 1) = val c0 l k * 64 + l.getD (k + 1) 0 - 128 := rfl
theorem val_1 (c0 : Nat) (l : List Nat) : val c0 l (2 - 1) = c0 * 64 + l.getD 1 0 - 128 := val_succ c0 l 0
theorem val_2 (c0 : Nat) (l : List Nat) : val c0 l (3 - 1) = (c0 * 64 + l.getD 1 0 - 128) * 64 + l.getD 2 0 - 128 := val_succ c0 l 1
theorem val_3 (c0 : Nat) (l : List Nat) : val c0 l (4 - 1) = ((c0 * 64 + l.getD 1 0 - 128) * 64 + l.getD 2 0 - 128) * 64 + l.getD 3 0 - 128 := val_succ c0 l 2
theorem gen_le (n least c0 : Nat) (l : List Nat) : gen n least c0 l ≤ l.length := by
  unfold gen
  split
  · next h => simp at h; omega
  · omega
theorem one_le (l : List Nat) : one l ≤ l.length := by
  unfold one
  repeat' split
  all_goals first | exact gen_le _ _ _ _ | omega
/-- How many code points; -1: the bytes are not well-formed. -/
def cnt (l : List Nat) : Int :=
  if h : l.length = 0 then 0
  else if h2 : one l = 0 then -1
  else if cnt (l.drop (one l)) < 0 then -1 else cnt (l.drop (one l)) + 1
termination_by l.length
decreasing_by all_goals (rw [List.length_drop]; omega)

theorem cnt_nil : cnt [] = 0 := by rw [cnt]; simp
theorem cnt_bad {l : List Nat} (h : l.length ≠ 0) (h2 : one l = 0) : cnt l = -1 := by rw [cnt, dif_neg h, dif_pos h2]
theorem one_pos {l : List Nat} (h2 : one l ≠ 0) : l.length ≠ 0 := by have := one_le l; omega
theorem cnt_step {l : List Nat} (h2 : one l ≠ 0) : cnt l = if cnt (l.drop (one l)) < 0 then -1 else cnt (l.drop (one l)) + 1 := by
  rw [cnt, dif_neg (one_pos h2), dif_neg h2]
theorem cnt_ge (l : List Nat) : -1 ≤ cnt l := by
  fun_induction cnt l with
  | case1 => omega
  | case2 => omega
  | case3 => omega
  | case4 => omega
theorem cnt_le (l : List Nat) : cnt l ≤ l.length := by
  fun_induction cnt l with
  | case1 => omega
  | case2 => omega
  | case3 => omega
  | case4 l h h2 h3 ih => have := one_le l; rw [List.length_drop] at ih; omega
def well (l : List Nat) : Bool := decide (0 ≤ cnt l)
theorem well_nil : well [] = true := by simp [well, cnt_nil]

theorem one_none {l : List Nat} (h : l.length = 0) : one l = 0 := by unfold one; rw [if_pos h]
theorem one_lo {l : List Nat} (h : l.length ≠ 0) (h1 : l.getD 0 0 < 128) : one l = 1 := by unfold one; rw [if_neg h, if_pos h1]
theorem one_mid {l : List Nat} (h : l.length ≠ 0) (h1 : 128 ≤ l.getD 0 0) (h2 : l.getD 0 0 < 192 ∨ 248 ≤ l.getD 0 0) : one l = 0 := by
  unfold one
  rw [if_neg h, if_neg (by omega)]
  repeat' split
  all_goals omega
theorem one_2 {l : List Nat} (h : l.length ≠ 0) (h1 : 192 ≤ l.getD 0 0) (h2 : l.getD 0 0 < 224) : one l = gen 2 128 (l.getD 0 0 - 192) l := by
  unfold one
  rw [if_neg h, if_neg (by omega), if_neg (by omega), if_pos h2]
theorem one_3 {l : List Nat} (h : l.length ≠ 0) (h1 : 224 ≤ l.getD 0 0) (h2 : l.getD 0 0 < 240) : one l = gen 3 2048 (l.getD 0 0 - 224) l := by
  unfold one
  rw [if_neg h, if_neg (by omega), if_neg (by omega), if_neg (by omega), if_pos h2]
theorem one_4 {l : List Nat} (h : l.length ≠ 0) (h1 : 240 ≤ l.getD 0 0) (h2 : l.getD 0 0 < 248) : one l = gen 4 65536 (l.getD 0 0 - 240) l := by
  unfold one
  rw [if_neg h, if_neg (by omega), if_neg (by omega), if_neg (by omega), if_neg (by omega), if_pos h2]
theorem gen_short {n least c0 : Nat} {l : List Nat} (h : l.length < n) : gen n least c0 l = 0 := by
  unfold gen
  rw [decide_eq_false (by omega)]
  simp
theorem gen_cut {n least c0 : Nat} {l : List Nat} (k : Nat) (h : k + 1 < n) (hc : cont (l.getD (k + 1) 0) = false) : gen n least c0 l = 0 := by
  have : conts l (n - 1) = false := by
    cases hh : conts l (n - 1) with
    | false => rfl
    | true =>
      exfalso
      have hg : ∀ m, conts l m = true → k + 1 ≤ m → cont (l.getD (k + 1) 0) = true := fun m hm h2 => by
        induction m with
        | zero => omega
        | succ m ih =>
          simp only [conts, Bool.and_eq_true] at hm
          rcases Nat.lt_or_ge k m with h3 | h3
          · exact ih hm.1 (by omega)
          · rw [show k = m by omega]; exact hm.2
      rw [hg _ hh (by omega)] at hc
      cases hc
  unfold gen
  rw [this]
  simp
theorem gen_end {n least c0 : Nat} {l : List Nat} (h : n ≤ l.length) (hc : conts l (n - 1) = true) : gen n least c0 l = if okc least (val c0 l (n - 1)) then n else 0 := by
  unfold gen
  rw [decide_eq_true h, hc]
  simp

/-- 'one' looks at nothing behind the code point. -/
theorem getD_append (l m : List Nat) (j : Nat) (h : j < l.length) : (l ++ m).getD j 0 = l.getD j 0 := by
  simp [List.getD_eq_getElem?_getD, List.getElem?_append_left h]
theorem conts_append (l m : List Nat) (k : Nat) (h : k < l.length) : conts (l ++ m) k = conts l k := by
  induction k with
  | zero => rfl
  | succ k ih => rw [conts, conts, ih (by omega), getD_append l m _ h]
theorem val_append (c0 : Nat) (l m : List Nat) (k : Nat) (h : k < l.length) : val c0 (l ++ m) k = val c0 l k := by
  induction k with
  | zero => rfl
  | succ k ih =>
    have e1 := ih (by omega)
    have e2 := getD_append l m _ h
    show val c0 (l ++ m) k * 64 + (l ++ m).getD (k + 1) 0 - 128 = val c0 l k * 64 + l.getD (k + 1) 0 - 128
    rw [e1, e2]
theorem gen_append (n least c0 : Nat) (l m : List Nat) (hn : 1 ≤ n) (h : n ≤ l.length) : gen n least c0 (l ++ m) = gen n least c0 l := by
  unfold gen
  rw [conts_append l m (n - 1) (by omega), val_append c0 l m (n - 1) (by omega)]
  have h1 : decide (n ≤ (l ++ m).length) = decide (n ≤ l.length) := by rw [List.length_append]; simp; omega
  rw [h1]
/-- Where the code point ahead of l ++ m lies within l, it is that of l. -/
theorem gen_eq {n least c0 : Nat} {l : List Nat} : gen n least c0 l = n ∨ gen n least c0 l = 0 := by unfold gen; split <;> simp
theorem one_append_le (l m : List Nat) (h : one (l ++ m) ≤ l.length) (hl : l.length ≠ 0) (h0 : one (l ++ m) ≠ 0) : one l = one (l ++ m) := by
  have e0 := getD_append l m 0 (by omega)
  have hl2 : (l ++ m).length ≠ 0 := by rw [List.length_append]; omega
  unfold one at h h0 ⊢
  rw [e0] at h h0 ⊢
  rw [if_neg hl2] at h h0 ⊢
  rw [if_neg hl]
  generalize l.getD 0 0 = b at *
  repeat' split
  all_goals (try rfl)
  all_goals (repeat (first | rw [if_neg (by assumption)] at h h0 | rw [if_pos (by assumption)] at h h0))
  · rcases gen_eq (n := 2) (least := 128) (c0 := b - 192) (l := l ++ m) with e | e
    · exact (gen_append _ _ _ _ _ (by omega) (by omega)).symm
    · omega
  · rcases gen_eq (n := 3) (least := 2048) (c0 := b - 224) (l := l ++ m) with e | e
    · exact (gen_append _ _ _ _ _ (by omega) (by omega)).symm
    · omega
  · rcases gen_eq (n := 4) (least := 65536) (c0 := b - 240) (l := l ++ m) with e | e
    · exact (gen_append _ _ _ _ _ (by omega) (by omega)).symm
    · omega
theorem gen_more (n least c0 : Nat) (l m : List Nat) (hn : 1 ≤ n) (h : gen n least c0 l ≠ 0) : gen n least c0 (l ++ m) = gen n least c0 l := by
  refine gen_append n least c0 l m hn ?_
  have := gen_le n least c0 l
  rcases gen_eq (n := n) (least := least) (c0 := c0) (l := l) with e | e <;> omega
theorem one_append (l m : List Nat) (h0 : one l ≠ 0) : one (l ++ m) = one l := by
  have hl := one_pos h0
  have e0 := getD_append l m 0 (by omega)
  have hl2 : (l ++ m).length ≠ 0 := by rw [List.length_append]; omega
  unfold one at h0 ⊢
  rw [e0]
  rw [if_neg hl2]
  rw [if_neg hl] at h0 ⊢
  generalize l.getD 0 0 = b at *
  repeat' split
  all_goals (try rfl)
  all_goals (repeat (first | rw [if_neg (by assumption)] at h0 | rw [if_pos (by assumption)] at h0))
  all_goals exact gen_more _ _ _ _ _ (by omega) h0
/-- A byte that goes on begins nothing; within a code point all bytes go on. -/
theorem one_cont (l : List Nat) (h : cont (l.getD 0 0) = true) : one l = 0 := by
  simp only [cont, Bool.and_eq_true, decide_eq_true_eq] at h
  unfold one
  repeat' split
  all_goals omega
theorem conts_get {l : List Nat} {k : Nat} (h : conts l k = true) (j : Nat) (h1 : 1 ≤ j) (h2 : j ≤ k) : cont (l.getD j 0) = true := by
  induction k with
  | zero => omega
  | succ k ih =>
    simp only [conts, Bool.and_eq_true] at h
    rcases Nat.lt_or_ge j (k + 1) with h3 | h3
    · exact ih h.1 (by omega)
    · rw [show j = k + 1 by omega]; exact h.2
theorem gen_conts {n least c0 : Nat} {l : List Nat} (j : Nat) (h1 : 1 ≤ j) (h2 : j < gen n least c0 l) : cont (l.getD j 0) = true := by
  unfold gen at h2
  split at h2
  · next h => simp only [Bool.and_eq_true] at h; exact conts_get h.1.2 j h1 (by omega)
  · omega
theorem one_within (l : List Nat) (j : Nat) (h1 : 1 ≤ j) (h2 : j < one l) : cont (l.getD j 0) = true := by
  unfold one at h2
  repeat' split at h2
  all_goals first | omega | exact gen_conts j h1 h2

theorem well_step {l : List Nat} (h : one l ≠ 0) : well l = well (l.drop (one l)) := by
  unfold well
  rw [cnt_step h]
  split <;> simp <;> omega
theorem well_bad {l : List Nat} (h : l.length ≠ 0) (h2 : one l = 0) : well l = false := by simp [well, cnt_bad h h2]
theorem well_one {l : List Nat} (h : l.length ≠ 0) (h2 : well l = true) : one l ≠ 0 := by
  intro e; rw [well_bad h e] at h2; cases h2
theorem drop_append_le (l m : List Nat) (k : Nat) (h : k ≤ l.length) : (l ++ m).drop k = l.drop k ++ m := List.drop_append_of_le_length h
/-- Well-formed ones are counted together. -/
theorem cnt_append (l m : List Nat) (h : well l = true) : cnt (l ++ m) = if cnt m < 0 then -1 else cnt l + cnt m := by
  generalize hn : l.length = n
  induction n using Nat.strongRecOn generalizing l with
  | _ n ih =>
    rcases Nat.eq_zero_or_pos l.length with h0 | h0
    · have : l = [] := List.eq_nil_of_length_eq_zero h0
      subst this
      have := cnt_ge m
      rw [List.nil_append, cnt_nil]
      split <;> omega
    · have h1 := well_one (by omega) h
      have h2 := one_append l m h1
      have h3 := one_le l
      have hw : well (l.drop (one l)) = true := by rw [← well_step h1]; exact h
      have := ih (l.drop (one l)).length (by rw [List.length_drop]; omega) (l.drop (one l)) hw rfl
      rw [cnt_step (show one (l ++ m) ≠ 0 by omega), h2, drop_append_le l m _ h3, this, cnt_step h1]
      have hw' : 0 ≤ cnt (l.drop (one l)) := by simpa [well] using hw
      rw [if_neg (show ¬ cnt (l.drop (one l)) < 0 by omega)]
      have := cnt_ge m
      split <;> split <;> omega
theorem well_append (l m : List Nat) (h : well l = true) : well (l ++ m) = well m := by
  unfold well
  rw [cnt_append l m h]
  have hl : 0 ≤ cnt l := by simpa [well] using h
  split <;> simp <;> omega
theorem well_append_right (l m : List Nat) (h : well m = true) : well (l ++ m) = well l := by
  generalize hn : l.length = n
  induction n using Nat.strongRecOn generalizing l with
  | _ n ih =>
    rcases Nat.eq_zero_or_pos l.length with h0 | h0
    · have : l = [] := List.eq_nil_of_length_eq_zero h0
      subst this
      rw [List.nil_append, h, well_nil]
    · by_cases h1 : one l = 0
      · rw [well_bad (by omega) h1]
        by_cases h2 : one (l ++ m) = 0
        · exact well_bad (by rw [List.length_append]; omega) h2
        · rcases Nat.lt_or_ge l.length (one (l ++ m)) with h3 | h3
          · exfalso
            have hc := one_within (l ++ m) l.length h0 h3
            have hle := one_le (l ++ m)
            rw [List.length_append] at hle
            have hm : m.length ≠ 0 := by omega
            have e : (l ++ m).getD l.length 0 = m.getD 0 0 := by rw [List.getD_eq_getElem?_getD, List.getD_eq_getElem?_getD, List.getElem?_append_right (Nat.le_refl _), Nat.sub_self]
            rw [e] at hc
            rw [well_bad hm (one_cont m hc)] at h
            cases h
          · exact absurd (one_append_le l m h3 (by omega) h2) (by omega)
      · have h2 := one_append l m h1
        have h3 := one_le l
        rw [well_step (show one (l ++ m) ≠ 0 by omega), h2, drop_append_le l m _ h3, ih _ (by rw [List.length_drop]; omega) _ rfl, ← well_step h1]
/-- Where no code point is cut both parts are well-formed. -/
theorem well_cut (l : List Nat) (k : Nat) (h : well l = true) (hk : k < l.length) (hc : cont (l.getD k 0) = false) : well (l.take k) = true := by
  generalize hn : l.length = n
  induction n using Nat.strongRecOn generalizing l k with
  | _ n ih =>
    rcases Nat.eq_zero_or_pos k with rfl | h0
    · simp [well_nil]
    · have h1 := well_one (by omega) h
      rcases Nat.lt_or_ge k (one l) with h2 | h2
      · rw [one_within l k h0 h2] at hc; cases hc
      · have hw : well (l.drop (one l)) = true := by rw [← well_step h1]; exact h
        have e : (l.drop (one l)).getD (k - one l) 0 = l.getD k 0 := by simp [List.getD_eq_getElem?_getD, show one l + (k - one l) = k by omega]
        have := ih (l.drop (one l)).length (by rw [List.length_drop]; omega) (l.drop (one l)) (k - one l) hw (by rw [List.length_drop]; omega) (by rw [e]; exact hc) rfl
        have e2 : l.take k = l.take (one l) ++ (l.drop (one l)).take (k - one l) := by
          rw [← List.drop_take, ← List.take_append_drop (one l) (l.take k), List.take_take, show min (one l) k = one l by omega, List.drop_append_of_le_length (by rw [List.length_take]; omega)]
          simp
        have h4 : one (l.take k) = one l := by
          have h5 := List.take_append_drop k l
          have h6 := one_append_le (l.take k) (l.drop k) (by rw [h5, List.length_take]; omega) (by rw [List.length_take]; omega) (by rw [h5]; exact h1)
          rw [h6, h5]
        rw [well_step (show one (l.take k) ≠ 0 by omega), h4, List.drop_take]
        exact this
theorem well_cuts (l : List Nat) (k : Nat) (h : well l = true) (hk : k ≤ l.length) (b : Bool) (hb : b = (decide (k = l.length) || !cont (l.getD k 0))) : well (l.take k) = b ∧ well (l.drop k) = b := by
  subst hb
  rcases Nat.lt_or_ge k l.length with h1 | h1
  · rw [decide_eq_false (by omega), Bool.false_or]
    have e : (l.drop k).getD 0 0 = l.getD k 0 := by simp [List.getD_eq_getElem?_getD]
    by_cases hc : cont (l.getD k 0) = true
    · rw [hc]
      have h2 : well (l.drop k) = false := well_bad (by rw [List.length_drop]; omega) (one_cont _ (by rw [e]; exact hc))
      refine ⟨?_, h2⟩
      by_cases h3 : well (l.take k) = true
      · have := well_append (l.take k) (l.drop k) h3
        rw [List.take_append_drop, h, h2] at this
        cases this
      · simpa using h3
    · have hc' : cont (l.getD k 0) = false := by simpa using hc
      rw [hc']
      have h3 := well_cut l k h h1 hc'
      refine ⟨h3, ?_⟩
      have := well_append (l.take k) (l.drop k) h3
      rw [List.take_append_drop, h] at this
      exact this.symm
  · have : k = l.length := by omega
    subst this
    simp [h, well_nil]

/-- Letters ahead change nothing. -/
theorem cnt_ascii (k : Nat) (c : Nat) (hc : c < 128) : cnt (List.replicate k c) = k := by
  induction k with
  | zero => exact cnt_nil
  | succ k ih =>
    have h1 : one (List.replicate (k + 1) c) = 1 := by unfold one; simp [List.replicate_succ, hc]
    rw [cnt_step (by omega), h1]
    simp only [List.replicate_succ, List.drop_succ_cons, List.drop_zero, ih]
    rw [if_neg (by omega)]; omega
end Go.Proofs.YtphmknhlibampaaDoor.Nm

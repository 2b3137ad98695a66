/-
  PLAIN: a number's bits as a list, and back. No Go in sight.
-/
import Derived.Test.YtnhnbcjffnlicaaDoorNumP
namespace Go.Proofs.YtnhnbcjffnlicaaDoor.Num
set_option linter.unusedVariables false

def bl : Nat → Nat → List Nat
  | 0, _ => []
  | k + 1, a => a % 2 :: bl k (a / 2)
def nv (l : List Nat) : Nat := l.foldr (fun b acc => acc * 2 + b) 0
theorem bl_length : ∀ (w a : Nat), (bl w a).length = w
  | 0, _ => rfl
  | w + 1, a => by rw [bl, List.length_cons, bl_length w]
theorem bl_lt : ∀ (w a : Nat), ∀ x ∈ bl w a, x < 2
  | 0, _ => by simp [bl]
  | w + 1, a => by
    intro x hx
    rw [bl, List.mem_cons] at hx
    rcases hx with rfl | hx
    · omega
    · exact bl_lt w _ x hx
theorem bl_get : ∀ (w a i : Nat) (h : i < (bl w a).length), (bl w a)[i] = a / 2 ^ i % 2
  | 0, _, i, h => by simp [bl] at h
  | w + 1, a, 0, h => by simp [bl]
  | w + 1, a, i + 1, h => by
    have h' : i < (bl w (a / 2)).length := by rw [bl_length] at h ⊢; omega
    have := bl_get w (a / 2) i h'
    simp only [bl, List.getElem_cons_succ]
    rw [this, Nat.div_div_eq_div_mul, Nat.pow_succ, Nat.mul_comm 2]
theorem bl_snoc : ∀ (w a : Nat), bl (w + 1) a = bl w a ++ [a / 2 ^ w % 2]
  | 0, a => by simp [bl]
  | w + 1, a => by
    have := bl_snoc w (a / 2)
    rw [bl, this, bl, Nat.div_div_eq_div_mul, Nat.pow_succ, Nat.mul_comm 2]; rfl
theorem nv_bl : ∀ (w a : Nat), nv (bl w a) = a % 2 ^ w
  | 0, a => by simp [bl, nv]; omega
  | w + 1, a => by
    have e : nv (bl (w + 1) a) = nv (bl w (a / 2)) * 2 + a % 2 := rfl
    rw [e, nv_bl w, Nat.pow_succ, Nat.mul_comm (2 ^ w) 2, Nat.mod_mul]; omega
theorem nv_lt (l : List Nat) (h : ∀ x ∈ l, x < 2) : nv l < 2 ^ l.length := by
  induction l with
  | nil => simp [nv]
  | cons x l ih =>
    have e2 : nv (x :: l) = nv l * 2 + x := rfl
    have := ih (fun y hy => h y (List.mem_cons_of_mem _ hy))
    have := h x (List.mem_cons_self ..)
    rw [e2, List.length_cons, Nat.pow_succ]; omega
theorem nv_ext (l : List Nat) (r : Nat) (hr : r < 2 ^ l.length) (h : ∀ i (hi : i < l.length), l[i] = r / 2 ^ i % 2) : nv l = r := by
  have e : l = bl l.length r := by
    apply List.ext_getElem (by rw [bl_length])
    intro i h1 h2
    rw [h i h1, bl_get]
  rw [e, nv_bl, Nat.mod_eq_of_lt hr]
theorem nv_append (l m : List Nat) : nv (l ++ m) = nv l + nv m * 2 ^ l.length := by
  induction l with
  | nil => simp [nv]
  | cons x l ih =>
    have e : nv (x :: l ++ m) = nv (l ++ m) * 2 + x := rfl
    have e2 : nv (x :: l) = nv l * 2 + x := rfl
    rw [e, e2, ih, List.length_cons, Nat.pow_succ, Nat.add_mul, Nat.mul_assoc]; omega
theorem nv_rep (k : Nat) : nv (List.replicate k 1) = 2 ^ k - 1 := by
  induction k with
  | zero => rfl
  | succ k ih =>
    have e2 : nv (List.replicate (k + 1) 1) = nv (List.replicate k 1) * 2 + 1 := rfl
    have := Nat.two_pow_pos k
    rw [e2, ih, Nat.pow_succ]; omega
theorem nv_rep0 (k : Nat) : nv (List.replicate k 0) = 0 := by
  induction k with
  | zero => rfl
  | succ k ih =>
    have e2 : nv (List.replicate (k + 1) 0) = nv (List.replicate k 0) * 2 + 0 := rfl
    rw [e2, ih]
/-- The highest bit. -/
theorem top_bit (w a : Nat) (h1 : 1 ≤ w) (h : a < 2 ^ w) : (a / 2 ^ (w - 1) % 2 = 1 ↔ 2 ^ (w - 1) ≤ a) ∧ a / 2 ^ (w - 1) % 2 < 2 := by
  obtain ⟨k, rfl⟩ : ∃ k, w = k + 1 := ⟨w - 1, by omega⟩
  rw [Nat.add_sub_cancel]
  rw [Nat.pow_succ] at h
  have hp := Nat.two_pow_pos k
  refine ⟨?_, Nat.mod_lt _ (by omega)⟩
  rcases Nat.lt_or_ge a (2 ^ k) with hl | hl
  · rw [Nat.div_eq_of_lt hl]; omega
  · have : a / 2 ^ k = 1 := by
      rw [Nat.div_eq_of_lt_le] <;> omega
    rw [this]; omega
/-- The low bits, gone on with the highest of them. -/
def extl (low w a : Nat) : List Nat := bl low a ++ List.replicate (w - low) (a / 2 ^ (low - 1) % 2)
theorem extl_val (low w a : Nat) (h1 : 1 ≤ low) (h2 : low ≤ w) : nv (extl low w a) = md w (sg low (a % 2 ^ low)) := by
  unfold extl sg md
  rw [nv_append, bl_length, nv_bl]
  have hlt : a % 2 ^ low < 2 ^ low := Nat.mod_lt _ (Nat.two_pow_pos _)
  have hb : a / 2 ^ (low - 1) % 2 = a % 2 ^ low / 2 ^ (low - 1) % 2 := by
    obtain ⟨k, rfl⟩ : ∃ k, low = k + 1 := ⟨low - 1, by omega⟩
    rw [Nat.add_sub_cancel, Nat.pow_succ, Nat.mod_mul_right_div_self]; omega
  rw [hb]
  obtain ⟨ht, ht2⟩ := top_bit low (a % 2 ^ low) h1 hlt
  generalize hx : a % 2 ^ low = x at *
  have hw : 2 ^ w = 2 ^ low * 2 ^ (w - low) := by rw [← Nat.pow_add]; congr 1; omega
  have hp := Nat.two_pow_pos (w - low)
  have hle : 2 ^ low ≤ 2 ^ w := Nat.pow_le_pow_right (by omega) h2
  rcases Nat.lt_or_ge x (2 ^ (low - 1)) with hl | hl
  · have h0 : x / 2 ^ (low - 1) % 2 = 0 := by omega
    rw [h0, nv_rep0, if_pos hl, Nat.zero_mul, Nat.add_zero]
    rw [Int.emod_eq_of_lt (by omega) (by omega)]; rfl
  · have h0 : x / 2 ^ (low - 1) % 2 = 1 := ht.2 hl
    rw [h0, nv_rep, if_neg (by omega)]
    have e : (2 ^ (w - low) - 1) * 2 ^ low = 2 ^ w - 2 ^ low := by rw [Nat.sub_mul, hw, Nat.one_mul, Nat.mul_comm]
    rw [e]
    have e2 : (x : Int) - ((2 ^ low : Nat) : Int) = ((x + (2 ^ w - 2 ^ low) : Nat) : Int) - ((2 ^ w : Nat) : Int) := by omega
    rw [e2, Int.sub_emod_right, Int.emod_eq_of_lt (by omega) (by omega)]; rfl
end Go.Proofs.YtnhnbcjffnlicaaDoor.Num

/-
  Names' bytes: what a range over a string tells, held against 'Nm.one'. No program.
-/
import Derived.Test.YtphmknhlibampaaDoorNm
import Derived.Test.YtphmknhlibampaaDoorLebN
import Derived.Test.YtphmknhlibampaaDoorKit
import Derived.Laws.RangeAny
import Derived.Lib.Strings
namespace Go.Proofs.YtphmknhlibampaaDoor
set_option linter.unusedVariables false

/-- A string's bytes. -/
def bs (s : ByteArray) : List Nat := s.data.toList.map UInt8.toNat
theorem bs_len (s : ByteArray) : (bs s).length = s.size := by
  rw [bs, List.length_map, Lib.size_eq]
theorem bs_get (s : ByteArray) (j : Nat) (h : j < s.size) : (bs s).getD j 0 = (s[j]'h).toNat := by
  obtain ⟨⟨l⟩⟩ := s
  have h' : j < l.length := h
  simp [bs, List.getD_eq_getElem?_getD, h']
  rfl
theorem bs_get! (s : ByteArray) (j : Nat) (h : j < s.size) : (s.get! j).toNat = (bs s).getD j 0 := by
  rw [bs_get s j h, ← Go.get_at s j h]; rfl
theorem bs_lt (s : ByteArray) : ∀ x ∈ bs s, x < 256 := by
  intro x hx
  obtain ⟨y, _, rfl⟩ := List.mem_map.1 hx
  exact y.toNat_lt
theorem bs_get_lt (s : ByteArray) (j : Nat) : (bs s).getD j 0 < 256 := by
  rw [List.getD_eq_getElem?_getD]
  cases h : (bs s)[j]? with
  | none => simp
  | some x => exact bs_lt s x (List.mem_of_getElem? h)
theorem bs_extract (s : ByteArray) (a b : Nat) : bs (s.extract a b) = ((bs s).drop a).take (b - a) := by
  rw [bs, bs, Lib.extract_data, List.map_take, List.map_drop]
theorem bs_drop (s : ByteArray) (a : Nat) : bs (s.extract a s.size) = (bs s).drop a := by
  rw [bs_extract, List.take_of_length_le (by rw [List.length_drop, bs_len]; omega)]
theorem drop_getD (l : List Nat) (a j : Nat) : (l.drop a).getD j 0 = l.getD (a + j) 0 := by simp [List.getD_eq_getElem?_getD]

theorem bs_str (l : List Nat) (h : ∀ x ∈ l, x < 256) : bs (str l) = l := by
  show ((l.map UInt8.ofNat).map UInt8.toNat) = l
  rw [List.map_map]
  conv => rhs; rw [← List.map_id l]
  refine List.map_congr_left fun x hx => ?_
  have := h x hx
  simp [Nat.mod_eq_of_lt this]
theorem str_bs (s : ByteArray) : str (bs s) = s := by
  obtain ⟨⟨l⟩⟩ := s
  simp [str, bs, List.map_map]
  rw [List.map_congr_left (g := id)]
  · simp
  · intro x _; simp
theorem str_size (l : List Nat) : (str l).size = l.length := by
  show (l.map UInt8.ofNat).toArray.size = _
  simp
theorem Leb.rd_next (bits : Nat) (sg : Bool) (l : List Nat) : ∀ (a place n v nx : Nat), Leb.rd bits sg l a place n = (v, nx, 0) → nx ≤ a + l.length := by
  induction l with
  | nil => intro a place n v nx h; simp [Leb.rd] at h
  | cons x l ih =>
    intro a place n v nx h
    rw [Leb.rd] at h
    split at h
    · split at h
      · simp only [Prod.mk.injEq] at h
        rw [List.length_cons]; omega
      · split at h
        · simp at h
        · have := ih _ _ _ _ _ h
          rw [List.length_cons]; omega
    · simp at h

/-- U+FFFD's own bytes stand ahead. -/
def fffd (l : List Nat) : Bool := decide (3 ≤ l.length) && decide (l.getD 0 0 = 239) && decide (l.getD 1 0 = 191) && decide (l.getD 2 0 = 189)
theorem u8_list (l : List UInt8) (n : Nat) : (l.map UInt8.toNat).getD n 0 = (l.getD n 0).toNat := by
  simp only [List.getD_eq_getElem?_getD, List.getElem?_map]
  cases l[n]? <;> rfl
theorem u8_eq (a b : UInt8) : (a == b) = decide (a.toNat = b.toNat) := by
  rw [Bool.eq_iff_iff, beq_iff_eq, decide_eq_true_iff, ← UInt8.toNat_inj]
theorem prefix_fffd (s : ByteArray) : Lib.hasPrefix s.data.toList [239, 191, 189] = fffd (bs s) := by
  unfold Lib.hasPrefix fffd bs
  generalize s.data.toList = l
  match l with
  | [] => rfl
  | [a] => simp [List.isPrefixOf]
  | [a, b] => simp [List.isPrefixOf]
  | a :: b :: c :: t =>
    rw [u8_list, u8_list, u8_list]
    simp only [List.isPrefixOf, u8_eq, List.getD_cons_zero, List.getD_cons_succ, List.length_map, List.length_cons]
    rw [Bool.eq_iff_iff]
    simp
    constructor <;> (intro h; omega)

set_option maxRecDepth 100000 in
theorem decode_one (s : ByteArray) (pos : Nat) (h : pos < s.size) :
    (Nm.one ((bs s).drop pos) ≠ 0 ∧ (Utf8.decode s pos).2 = Nm.one ((bs s).drop pos) ∧ ((Utf8.decode s pos).1 ≠ 65533 ∨ fffd ((bs s).drop pos) = true)) ∨
    (Nm.one ((bs s).drop pos) = 0 ∧ (Utf8.decode s pos).1 = 65533 ∧ fffd ((bs s).drop pos) = false) := by
  have hlen : ((bs s).drop pos).length = s.size - pos := by rw [List.length_drop, bs_len]
  have g : ∀ k, pos + k < s.size → (s.get! (pos + k)).toNat = ((bs s).drop pos).getD k 0 := fun k hk => by rw [drop_getD, bs_get! s _ hk]
  have hb : ∀ k, ((bs s).drop pos).getD k 0 < 256 := fun k => by rw [drop_getD]; exact bs_get_lt s _
  generalize (bs s).drop pos = l at *
  have e0 := g 0 (by omega)
  have b0 := hb 0
  have c : ∀ k, (decide (pos + k < s.size) && (s.get! (pos + k)).toNat / 64 == 2) = (decide (k < l.length) && Nm.cont (l.getD k 0)) := fun k => by
    by_cases hk : pos + k < s.size
    · rw [g k hk, decide_eq_true hk, decide_eq_true (show k < l.length by omega), Bool.true_and, Bool.true_and]
      have := hb k
      rw [Bool.eq_iff_iff]; simp [Nm.cont]; omega
    · rw [decide_eq_false hk, decide_eq_false (show ¬ k < l.length by omega), Bool.false_and, Bool.false_and]
  have c1 := c 1; have c2 := c 2; have c3 := c 3
  have g1 := g 1; have g2 := g 2; have g3 := g 3
  have b1 := hb 1; have b2 := hb 2; have b3 := hb 3
  clear g hb c
  have hl0 : l.length ≠ 0 := by omega
  simp only [Utf8.decode, e0, c1, c2, c3, Utf8.runeError, Utf8.valid]
  unfold Nm.one Nm.gen fffd
  rw [Nm.conts_1, Nm.conts_2, Nm.conts_3, Nm.val_1, Nm.val_2, Nm.val_3]
  rw [if_neg hl0]
  generalize (s.get! (pos + 1)).toNat = y1 at *
  generalize (s.get! (pos + 2)).toNat = y2 at *
  generalize (s.get! (pos + 3)).toNat = y3 at *
  have k1 : 1 < l.length → y1 = l.getD 1 0 := fun h => g1 (by omega)
  have k2 : 2 < l.length → y2 = l.getD 2 0 := fun h => g2 (by omega)
  have k3 : 3 < l.length → y3 = l.getD 3 0 := fun h => g3 (by omega)
  generalize l.getD 0 0 = a0 at *
  generalize l.getD 1 0 = a1 at *
  generalize l.getD 2 0 = a2 at *
  generalize l.getD 3 0 = a3 at *
  generalize l.length = n at *
  clear e0 c1 c2 c3 g1 g2 g3 hlen h
  by_cases h1 : a0 < 128
  · rw [if_pos h1, if_pos h1]
    exact .inl ⟨by omega, rfl, .inl (by simp only; omega)⟩
  rw [if_neg h1, if_neg h1]
  by_cases h2 : a0 < 192
  · rw [if_pos h2]
    have n1 : (a0 / 32 == 6) = false := by simp; omega
    have n2 : (a0 / 16 == 14) = false := by simp; omega
    have n3 : (a0 / 8 == 30) = false := by simp; omega
    rw [n1, n2, n3]
    exact .inr ⟨rfl, rfl, by simp; omega⟩
  rw [if_neg h2]
  by_cases h3 : a0 < 224
  · rw [if_pos h3]
    have n1 : (a0 / 32 == 6) = true := by simp; omega
    have n2 : (a0 / 16 == 14) = false := by simp; omega
    have n3 : (a0 / 8 == 30) = false := by simp; omega
    have nf : decide (a0 = 239) = false := by simp; omega
    rw [n1, n2, n3, nf]
    simp only [Bool.true_and, Bool.false_and, Bool.and_false, Bool.false_eq_true, if_false]
    by_cases hc : (decide (1 < n) && Nm.cont a1) = true
    · have hc2 := hc
      simp only [Nm.cont, Bool.and_eq_true, decide_eq_true_eq] at hc2
      rw [if_pos hc, k1 hc2.1]
      by_cases hv : 128 ≤ a0 % 32 * 64 + a1 % 64
      · rw [if_pos hv, if_pos (by simp only [Nm.cont, Nm.okc, Bool.and_eq_true, Bool.not_eq_true', Bool.and_eq_false_iff, decide_eq_true_eq, decide_eq_false_iff_not]; omega)]
        exact .inl ⟨by omega, rfl, .inl (by simp only; omega)⟩
      · rw [if_neg hv, if_neg (by simp only [Nm.cont, Nm.okc, Bool.and_eq_true, Bool.not_eq_true', Bool.and_eq_false_iff, decide_eq_true_eq, decide_eq_false_iff_not]; omega)]
        exact .inr ⟨rfl, rfl, by simp⟩
    · rw [if_neg hc]
      simp only [Nm.cont, Bool.and_eq_true, decide_eq_true_eq] at hc
      rw [if_neg (by simp only [Nm.cont, Nm.okc, Bool.and_eq_true, Bool.not_eq_true', Bool.and_eq_false_iff, decide_eq_true_eq, decide_eq_false_iff_not]; omega)]
      exact .inr ⟨rfl, rfl, by simp⟩
  rw [if_neg h3]
  by_cases h4 : a0 < 240
  · rw [if_pos h4]
    have n1 : (a0 / 32 == 6) = false := by simp; omega
    have n2 : (a0 / 16 == 14) = true := by simp; omega
    have n3 : (a0 / 8 == 30) = false := by simp; omega
    rw [n1, n2, n3]
    simp only [Bool.true_and, Bool.false_and, Bool.false_eq_true, if_false]
    by_cases hc : ((decide (1 < n) && Nm.cont a1) && (decide (2 < n) && Nm.cont a2)) = true
    · have hc2 := hc
      simp only [Nm.cont, Bool.and_eq_true, decide_eq_true_eq] at hc2
      rw [if_pos hc, k1 hc2.1.1, k2 hc2.2.1]
      have ev : ((a0 - 224) * 64 + a1 - 128) * 64 + a2 - 128 = a0 % 16 * 4096 + a1 % 64 * 64 + a2 % 64 := by omega
      rw [ev]
      have hf : (decide (3 ≤ n) && decide (a0 = 239) && decide (a1 = 191) && decide (a2 = 189)) = decide (a0 % 16 * 4096 + a1 % 64 * 64 + a2 % 64 = 65533) := by
        rw [Bool.eq_iff_iff]; simp only [Bool.and_eq_true, decide_eq_true_eq]; omega
      rw [hf]
      have hlt : a0 % 16 * 4096 + a1 % 64 * 64 + a2 % 64 < 65536 := by omega
      generalize a0 % 16 * 4096 + a1 % 64 * 64 + a2 % 64 = v at *
      clear ev hf
      have hn : 3 ≤ n := by omega
      by_cases hv : 2048 ≤ v ∧ (v < 55296 ∨ 57344 ≤ v)
      · rw [if_pos (by simp only [Nm.cont, Nm.okc, Bool.and_eq_true, Bool.not_eq_true', Bool.and_eq_false_iff, decide_eq_true_eq, decide_eq_false_iff_not]; omega), if_pos (by simp only [Bool.and_eq_true, Bool.or_eq_true, decide_eq_true_eq]; omega)]
        refine .inl ⟨by omega, rfl, ?_⟩
        rw [decide_eq_true_eq]
        show v ≠ 65533 ∨ v = 65533
        omega
      · rw [if_neg (by simp only [Nm.cont, Nm.okc, Bool.and_eq_true, Bool.not_eq_true', Bool.and_eq_false_iff, decide_eq_true_eq, decide_eq_false_iff_not]; omega), if_neg (by simp only [Bool.and_eq_true, Bool.or_eq_true, decide_eq_true_eq]; omega)]
        exact .inr ⟨rfl, rfl, by simp; omega⟩
    · rw [if_neg hc]
      simp only [Nm.cont, Bool.and_eq_true, decide_eq_true_eq] at hc
      rw [if_neg (by simp only [Nm.cont, Nm.okc, Bool.and_eq_true, Bool.not_eq_true', Bool.and_eq_false_iff, decide_eq_true_eq, decide_eq_false_iff_not]; omega)]
      exact .inr ⟨rfl, rfl, by simp; omega⟩
  rw [if_neg h4]
  have n1 : (a0 / 32 == 6) = false := by simp; omega
  have n2 : (a0 / 16 == 14) = false := by simp; omega
  have nf : decide (a0 = 239) = false := by simp; omega
  rw [n1, n2, nf]
  by_cases h5 : a0 < 248
  · rw [if_pos h5]
    have n3 : (a0 / 8 == 30) = true := by simp; omega
    rw [n3]
    simp only [Bool.true_and, Bool.false_and, Bool.and_false, Bool.false_eq_true, if_false]
    by_cases hc : ((decide (1 < n) && Nm.cont a1) && (decide (2 < n) && Nm.cont a2) && (decide (3 < n) && Nm.cont a3)) = true
    · have hc2 := hc
      simp only [Nm.cont, Bool.and_eq_true, decide_eq_true_eq] at hc2
      rw [if_pos hc, k1 hc2.1.1.1, k2 hc2.1.2.1, k3 hc2.2.1]
      have ev : (((a0 - 240) * 64 + a1 - 128) * 64 + a2 - 128) * 64 + a3 - 128 = a0 % 8 * 262144 + a1 % 64 * 4096 + a2 % 64 * 64 + a3 % 64 := by omega
      rw [ev]
      generalize a0 % 8 * 262144 + a1 % 64 * 4096 + a2 % 64 * 64 + a3 % 64 = v at *
      clear ev
      have hn : 4 ≤ n := by omega
      by_cases hv : 65536 ≤ v ∧ v ≤ 1114111
      · rw [if_pos (by simp only [Nm.cont, Nm.okc, Bool.and_eq_true, Bool.not_eq_true', Bool.and_eq_false_iff, decide_eq_true_eq, decide_eq_false_iff_not]; omega), if_pos (by simp only [Bool.and_eq_true, Bool.or_eq_true, decide_eq_true_eq]; omega)]
        exact .inl ⟨by omega, rfl, .inl (by show v ≠ 65533; omega)⟩
      · rw [if_neg (by simp only [Nm.cont, Nm.okc, Bool.and_eq_true, Bool.not_eq_true', Bool.and_eq_false_iff, decide_eq_true_eq, decide_eq_false_iff_not]; omega), if_neg (by simp only [Bool.and_eq_true, Bool.or_eq_true, decide_eq_true_eq]; omega)]
        exact .inr ⟨rfl, rfl, by simp⟩
    · rw [if_neg hc]
      simp only [Nm.cont, Bool.and_eq_true, decide_eq_true_eq] at hc
      rw [if_neg (by simp only [Nm.cont, Nm.okc, Bool.and_eq_true, Bool.not_eq_true', Bool.and_eq_false_iff, decide_eq_true_eq, decide_eq_false_iff_not]; omega)]
      exact .inr ⟨rfl, rfl, by simp⟩
  · rw [if_neg h5]
    have n3 : (a0 / 8 == 30) = false := by simp; omega
    rw [n3]
    exact .inr ⟨rfl, rfl, by simp⟩
end Go.Proofs.YtphmknhlibampaaDoor

/-
  Layer 4, plain: plain types have the same writing just if they are the same. No Go in sight.
-/
import Derived.Test.YtabeidgkgbkliaaDoorKdJ
namespace Go.Proofs.YtabeidgkgbkliaaDoor.Kd
set_option linter.unusedVariables false
set_option maxRecDepth 100000

/-- Nothing more, a blank, or a closing bracket. -/
def End (r : List UInt8) : Prop := r = [] ∨ (∃ t, r = 32 :: t) ∨ ∃ t, r = 41 :: t
theorem end41 (r : List UInt8) : End (41 :: r) := .inr (.inr ⟨r, rfl⟩)
theorem end32 (r : List UInt8) : End (32 :: r) := .inr (.inl ⟨r, rfl⟩)
/-- A word: no blank, no closing bracket. -/
def Word (l : List UInt8) : Prop := ∀ x ∈ l, x ≠ 32 ∧ x ≠ 41
theorem word_split : ∀ (a b r r' : List UInt8), Word a → Word b → End r → End r' → a ++ r = b ++ r' → a = b ∧ r = r'
  | [], [], r, r', _, _, _, _, h => ⟨rfl, h⟩
  | [], y :: b, r, r', _, hb, hr, _, h => by
    have hy := hb y List.mem_cons_self
    rw [List.nil_append, List.cons_append] at h
    rcases hr with rfl | ⟨t, rfl⟩ | ⟨t, rfl⟩
    · cases h
    · injection h with h1 _; exact absurd h1.symm hy.1
    · injection h with h1 _; exact absurd h1.symm hy.2
  | x :: a, [], r, r', ha, _, _, hr', h => by
    have hx := ha x List.mem_cons_self
    rw [List.nil_append, List.cons_append] at h
    rcases hr' with rfl | ⟨t, rfl⟩ | ⟨t, rfl⟩
    · cases h
    · injection h with h1 _; exact absurd h1 hx.1
    · injection h with h1 _; exact absurd h1 hx.2
  | x :: a, y :: b, r, r', ha, hb, hr, hr', h => by
    rw [List.cons_append, List.cons_append] at h
    injection h with h1 h2
    obtain ⟨e1, e2⟩ := word_split a b r r' (fun z hz => ha z (List.mem_cons_of_mem _ hz)) (fun z hz => hb z (List.mem_cons_of_mem _ hz)) hr hr' h2
    exact ⟨by rw [h1, e1], e2⟩

/-! Numerals. -/
def dval (l : List UInt8) : Nat := l.foldl (fun a c => a * 10 + (c.toNat - 48)) 0
theorem dval_snoc (l : List UInt8) (c : UInt8) : dval (l ++ [c]) = dval l * 10 + (c.toNat - 48) := by simp [dval]
theorem dig_nat (d : Nat) (h : d < 10) : (UInt8.ofNat (48 + d)).toNat = 48 + d := by
  simp [UInt8.toNat_ofNat']; omega
theorem dval_dec (u : Nat) : dval (Lib.decDigits u) = u := by
  induction u using Nat.strongRecOn with
  | _ u ih =>
    by_cases h : u < 10
    · rw [Lib.decDigits, dif_pos h]
      show 0 * 10 + ((UInt8.ofNat (48 + u)).toNat - 48) = u
      rw [dig_nat u h]; omega
    · rw [Lib.decDigits, dif_neg h, dval_snoc, ih (u / 10) (by omega), dig_nat _ (Nat.mod_lt _ (by decide))]
      omega
theorem dec_digits (u : Nat) : (∀ x ∈ Lib.decDigits u, 48 ≤ x.toNat ∧ x.toNat ≤ 57) ∧ Lib.decDigits u ≠ [] := by
  induction u using Nat.strongRecOn with
  | _ u ih =>
    by_cases h : u < 10
    · rw [Lib.decDigits, dif_pos h]
      refine ⟨fun x hx => ?_, by simp⟩
      simp at hx
      subst hx
      have := dig_nat u h
      rw [show (48 : UInt8) + UInt8.ofNat u = UInt8.ofNat (48 + u) by simp] at *
      omega
    · rw [Lib.decDigits, dif_neg h]
      refine ⟨fun x hx => ?_, by simp⟩
      rcases List.mem_append.1 hx with hx | hx
      · exact (ih (u / 10) (by omega)).1 x hx
      · have hm : x = UInt8.ofNat (48 + u % 10) := by simpa using hx
        have := dig_nat (u % 10) (Nat.mod_lt _ (by decide))
        rw [hm, this]
        have := Nat.mod_lt u (show 0 < 10 by decide)
        omega
theorem itoa_dec {n : Int} (h : 0 ≤ n) : Lib.itoa n = Lib.decDigits n.toNat := by unfold Lib.itoa; rw [if_neg (by omega)]
theorem itoa_inj {n m : Int} (h : 0 ≤ n) (h' : 0 ≤ m) (e : Lib.itoa n = Lib.itoa m) : n = m := by
  rw [itoa_dec h, itoa_dec h'] at e
  have := congrArg dval e
  rw [dval_dec, dval_dec] at this
  omega
theorem dig_ne {x : UInt8} (h : 48 ≤ x.toNat ∧ x.toNat ≤ 57) : x ≠ 32 ∧ x ≠ 41 ∧ x ≠ 40 ∧ x ≠ 102 := by
  refine ⟨?_, ?_, ?_, ?_⟩ <;> · rintro rfl; revert h; decide

/-! Heap types. -/
theorem nm_all {p : List UInt8 → Bool} (h1 : p [97, 110, 121] = true) (h2 : p [101, 113] = true) (h3 : p [105, 51, 49] = true) (h4 : p [115, 116, 114, 117, 99, 116] = true) (h5 : p [97, 114, 114, 97, 121] = true) (h6 : p [110, 111, 110, 101] = true) (h7 : p [102, 117, 110, 99] = true)
    (h8 : p [110, 111, 102, 117, 110, 99] = true) (h9 : p [101, 120, 116, 101, 114, 110] = true) (h10 : p [110, 111, 101, 120, 116, 101, 114, 110] = true) (h11 : p [101, 120, 110] = true) (h12 : p [110, 111, 101, 120, 110] = true) (k : Int) : p (nm k) = true := by
  unfold nm
  by_cases a1 : k = 1; · rw [if_pos a1]; exact h1
  rw [if_neg a1]
  by_cases a2 : k = 2; · rw [if_pos a2]; exact h2
  rw [if_neg a2]
  by_cases a3 : k = 3; · rw [if_pos a3]; exact h3
  rw [if_neg a3]
  by_cases a4 : k = 4; · rw [if_pos a4]; exact h4
  rw [if_neg a4]
  by_cases a5 : k = 5; · rw [if_pos a5]; exact h5
  rw [if_neg a5]
  by_cases a6 : k = 6; · rw [if_pos a6]; exact h6
  rw [if_neg a6]
  by_cases a7 : k = 7; · rw [if_pos a7]; exact h7
  rw [if_neg a7]
  by_cases a8 : k = 8; · rw [if_pos a8]; exact h8
  rw [if_neg a8]
  by_cases a9 : k = 9; · rw [if_pos a9]; exact h9
  rw [if_neg a9]
  by_cases a10 : k = 10; · rw [if_pos a10]; exact h10
  rw [if_neg a10]
  by_cases a11 : k = 11; · rw [if_pos a11]; exact h11
  rw [if_neg a11]
  exact h12
theorem nm_word (k : Int) : Word (nm k) := by
  have h := nm_all (p := fun l => l.all fun x => decide (x ≠ 32 ∧ x ≠ 41)) (by decide) (by decide) (by decide) (by decide) (by decide) (by decide) (by decide) (by decide) (by decide) (by decide) (by decide) (by decide) k
  intro x hx
  simpa using List.all_eq_true.1 h x hx
theorem nm_letter (k : Int) : ∃ x t, nm k = x :: t ∧ 97 ≤ x.toNat := by
  have h := nm_all (p := fun l => match l with | [] => false | x :: _ => decide (97 ≤ x.toNat)) (by decide) (by decide) (by decide) (by decide) (by decide) (by decide) (by decide) (by decide) (by decide) (by decide) (by decide) (by decide) k
  cases hk : nm k with
  | nil => rw [hk] at h; cases h
  | cons x t => rw [hk] at h; exact ⟨x, t, rfl, by simpa using h⟩
theorem nm_inj {j k : Int} (hj : 1 ≤ j ∧ j ≤ 12) (hk : 1 ≤ k ∧ k ≤ 12) (e : nm j = nm k) : j = k := by
  obtain ⟨a, rfl⟩ : ∃ a : Fin 13, j = (a.val : Int) := ⟨⟨j.toNat, by omega⟩, by simp; omega⟩
  obtain ⟨b, rfl⟩ : ∃ b : Fin 13, k = (b.val : Int) := ⟨⟨k.toNat, by omega⟩, by simp; omega⟩
  have key : ∀ a b : Fin 13, (1 : Int) ≤ (a.val : Int) → (1 : Int) ≤ (b.val : Int) → nm (a.val : Int) = nm (b.val : Int) → a = b := by decide
  rw [key a b hj.1 hk.1 e]
theorem pHeap_cases {h : Hp} (hp : pHeap h = true) : (1 ≤ h.k ∧ h.k ≤ 12 ∧ h.n = 0) ∨ (h.k = 13 ∧ 0 ≤ h.n) := by
  unfold pHeap pIdx given at hp
  split at hp
  · rename_i hg
    simp only [Bool.and_eq_true, decide_eq_true_eq] at hg hp
    exact .inl ⟨hg.1, hg.2, hp⟩
  · simp only [Bool.and_eq_true, decide_eq_true_eq] at hp
    exact .inr ⟨hp.1, hp.2.1⟩
theorem hT_given {h : Hp} (hk : 1 ≤ h.k ∧ h.k ≤ 12) : hT h = nm h.k := by unfold hT; rw [if_neg (by omega)]
theorem hT_idx {h : Hp} (hk : h.k = 13) (hn : 0 ≤ h.n) : hT h = Lib.decDigits h.n.toNat := by unfold hT; rw [if_pos hk, itoa_dec hn]
theorem hT_word {h : Hp} (hp : pHeap h = true) : Word (hT h) := by
  rcases pHeap_cases hp with ⟨h1, h2, _⟩ | ⟨h1, h2⟩
  · rw [hT_given ⟨h1, h2⟩]; exact nm_word _
  · rw [hT_idx h1 h2]; exact fun x hx => ⟨(dig_ne ((dec_digits _).1 x hx)).1, (dig_ne ((dec_digits _).1 x hx)).2.1⟩
theorem hT_inj {h h' : Hp} (hp : pHeap h = true) (hp' : pHeap h' = true) (e : hT h = hT h') : h = h' := by
  obtain ⟨k, n⟩ := h
  obtain ⟨k', n'⟩ := h'
  rcases pHeap_cases hp with ⟨h1, h2, h3⟩ | ⟨h1, h2⟩
  · rcases pHeap_cases hp' with ⟨g1, g2, g3⟩ | ⟨g1, g2⟩
    · rw [hT_given ⟨h1, h2⟩, hT_given ⟨g1, g2⟩] at e
      have := nm_inj ⟨h1, h2⟩ ⟨g1, g2⟩ e
      dsimp only at *
      rw [this, h3, g3]
    · rw [hT_given ⟨h1, h2⟩, hT_idx g1 g2] at e
      obtain ⟨x, t, ex, hx⟩ := nm_letter k
      have := (dec_digits n'.toNat).1 x (by dsimp only at e; rw [← e, ex]; exact List.mem_cons_self)
      omega
  · rcases pHeap_cases hp' with ⟨g1, g2, g3⟩ | ⟨g1, g2⟩
    · rw [hT_given ⟨g1, g2⟩, hT_idx h1 h2] at e
      obtain ⟨x, t, ex, hx⟩ := nm_letter k'
      have := (dec_digits n.toNat).1 x (by dsimp only at e; rw [e, ex]; exact List.mem_cons_self)
      omega
    · unfold hT at e
      rw [if_pos h1, if_pos g1] at e
      have := itoa_inj h2 g2 e
      dsimp only at *
      rw [h1, g1, this]
/-- One after another: what is read first is told, and what is left. -/
theorem hT_pf {h h' : Hp} {r r' : List UInt8} (hp : pHeap h = true) (hp' : pHeap h' = true) (hr : End r) (hr' : End r') (e : hT h ++ r = hT h' ++ r') : h = h' ∧ r = r' := by
  obtain ⟨e1, e2⟩ := word_split _ _ _ _ (hT_word hp) (hT_word hp') hr hr' e
  exact ⟨hT_inj hp hp' e1, e2⟩

/-! Value types, fields. -/
theorem null_ne {h : Hp} (hp : pHeap h = true) : hT h ≠ [110, 117, 108, 108] := by
  intro e
  rcases pHeap_cases hp with ⟨h1, h2, _⟩ | ⟨h1, h2⟩
  · rw [hT_given ⟨h1, h2⟩] at e
    have := nm_all (p := fun l => decide (l ≠ [110, 117, 108, 108])) (by decide) (by decide) (by decide) (by decide) (by decide) (by decide) (by decide) (by decide) (by decide) (by decide) (by decide) (by decide) h.k
    simp only [decide_eq_true_eq] at this
    exact this e
  · rw [hT_idx h1 h2] at e
    have := (dec_digits h.n.toNat).1 110 (by rw [e]; decide)
    revert this; decide
theorem pVal_cases {v : Vl} (hp : pVal v = true) : v = ⟨1, false, ⟨0, 0⟩⟩ ∨ v = ⟨2, false, ⟨0, 0⟩⟩ ∨ (v.k = 3 ∧ pHeap v.h = true) := by
  unfold pVal at hp
  by_cases h1 : v.k = 1
  · rw [if_pos h1] at hp; exact .inl (of_decide_eq_true hp)
  · rw [if_neg h1] at hp
    by_cases h2 : v.k = 2
    · rw [if_pos h2] at hp; exact .inr (.inl (of_decide_eq_true hp))
    · rw [if_neg h2] at hp
      by_cases h3 : v.k = 3
      · rw [if_pos h3] at hp; exact .inr (.inr ⟨h3, hp⟩)
      · rw [if_neg h3] at hp; cases hp
theorem vT_ref {v : Vl} (h : v.k = 3) : vT v = 40 :: 114 :: 101 :: 102 :: 32 :: ((if v.nu then [110, 117, 108, 108, 32] else []) ++ (hT v.h ++ [41])) := by
  unfold vT
  rw [if_neg (by omega), if_neg (by omega)]
  cases v.nu <;> simp
theorem vT_pf {v v' : Vl} {r r' : List UInt8} (hp : pVal v = true) (hp' : pVal v' = true) (hr : End r) (hr' : End r') (e : vT v ++ r = vT v' ++ r') : v = v' ∧ r = r' := by
  rcases pVal_cases hp with rfl | rfl | ⟨hk, hh⟩
  · rcases pVal_cases hp' with rfl | rfl | ⟨hk', hh'⟩
    · exact ⟨rfl, List.append_cancel_left e⟩
    · exact absurd e (by simp [vT])
    · rw [vT_ref hk'] at e; exact absurd e (by simp [vT])
  · rcases pVal_cases hp' with rfl | rfl | ⟨hk', hh'⟩
    · exact absurd e (by simp [vT])
    · exact ⟨rfl, List.append_cancel_left e⟩
    · rw [vT_ref hk'] at e; exact absurd e (by simp [vT])
  · rcases pVal_cases hp' with rfl | rfl | ⟨hk', hh'⟩
    · rw [vT_ref hk] at e; exact absurd e (by simp [vT])
    · rw [vT_ref hk] at e; exact absurd e (by simp [vT])
    · rw [vT_ref hk, vT_ref hk'] at e
      simp only [List.cons_append, List.append_assoc, List.cons.injEq, true_and] at e
      obtain ⟨k, nu, h⟩ := v
      obtain ⟨k', nu', h'⟩ := v'
      dsimp only at *
      have nullw : Word [110, 117, 108, 108] := by intro x hx; simp at hx; rcases hx with rfl | rfl | rfl <;> decide
      cases nu <;> cases nu'
      · simp only [Bool.false_eq_true, if_false, List.nil_append] at e
        obtain ⟨e1, e2⟩ := hT_pf hh hh' (end41 _) (end41 _) e
        injection e2 with _ e2
        exact ⟨by rw [e1, hk, hk'], e2⟩
      · exfalso
        simp only [Bool.false_eq_true, if_false, if_true, List.nil_append] at e
        have e' : hT h ++ (41 :: r) = [110, 117, 108, 108] ++ (32 :: (hT h' ++ (41 :: r'))) := by simpa using e
        obtain ⟨e1, _⟩ := word_split _ _ _ _ (hT_word hh) nullw (end41 _) (end32 _) e'
        exact null_ne hh e1
      · exfalso
        simp only [Bool.false_eq_true, if_false, if_true, List.nil_append] at e
        have e' : hT h' ++ (41 :: r') = [110, 117, 108, 108] ++ (32 :: (hT h ++ (41 :: r))) := by simpa using e.symm
        obtain ⟨e1, _⟩ := word_split _ _ _ _ (hT_word hh') nullw (end41 _) (end32 _) e'
        exact null_ne hh' e1
      · simp only [if_true, List.cons_append, List.nil_append, List.cons.injEq, true_and] at e
        obtain ⟨e1, e2⟩ := hT_pf hh hh' (end41 _) (end41 _) e
        injection e2 with _ e2
        exact ⟨by rw [e1, hk, hk'], e2⟩
theorem vT_head {v : Vl} (hp : pVal v = true) : vT v = [105, 51, 50] ∨ vT v = [105, 54, 52] ∨ ∃ t, vT v = 40 :: 114 :: t := by
  rcases pVal_cases hp with rfl | rfl | ⟨hk, hh⟩
  · exact .inl rfl
  · exact .inr (.inl rfl)
  · exact .inr (.inr ⟨_, vT_ref hk⟩)
theorem pField_cases {f : Fd} (hp : pField f = true) : (f.pk = 0 ∧ pVal f.v = true) ∨ (f.pk = 8 ∧ f.v = ⟨1, false, ⟨0, 0⟩⟩) ∨ (f.pk = 16 ∧ f.v = ⟨1, false, ⟨0, 0⟩⟩) := by
  unfold pField at hp
  by_cases h1 : f.pk = 0
  · rw [if_pos h1] at hp; exact .inl ⟨h1, hp⟩
  · rw [if_neg h1] at hp
    by_cases h2 : f.pk = 8
    · rw [if_pos (.inl h2)] at hp; exact .inr (.inl ⟨h2, of_decide_eq_true hp⟩)
    · by_cases h3 : f.pk = 16
      · rw [if_pos (.inr h3)] at hp; exact .inr (.inr ⟨h3, of_decide_eq_true hp⟩)
      · rw [if_neg (by omega)] at hp; cases hp
theorem sT_0 {f : Fd} (h : f.pk = 0) : sT f.pk f.v = vT f.v := by unfold sT; rw [if_neg (by omega), if_neg (by omega)]
theorem sT_8 {f : Fd} (h : f.pk = 8) : sT f.pk f.v = [105, 56] := by unfold sT; rw [if_pos h]
theorem sT_16 {f : Fd} (h : f.pk = 16) : sT f.pk f.v = [105, 49, 54] := by unfold sT; rw [if_neg (by omega), if_pos h]
theorem sT_pf {f f' : Fd} {r r' : List UInt8} (hp : pField f = true) (hp' : pField f' = true) (hr : End r) (hr' : End r') (e : sT f.pk f.v ++ r = sT f'.pk f'.v ++ r') : f.pk = f'.pk ∧ f.v = f'.v ∧ r = r' := by
  have w8 : Word [105, 56] := by intro x hx; simp at hx; rcases hx with rfl | rfl <;> decide
  have w16 : Word [105, 49, 54] := by intro x hx; simp at hx; rcases hx with rfl | rfl | rfl <;> decide
  have w1 : Word [105, 51, 50] := by intro x hx; simp at hx; rcases hx with rfl | rfl | rfl <;> decide
  have w2 : Word [105, 54, 52] := by intro x hx; simp at hx; rcases hx with rfl | rfl | rfl <;> decide
  have key : ∀ (v : Vl) (a s s' : List UInt8), pVal v = true → Word a → End s → End s' → a ≠ [105, 51, 50] → a ≠ [105, 54, 52] → (∀ t, a ≠ 40 :: t) → a ≠ [] → vT v ++ s = a ++ s' → False := by
    intro v a s s' hv ha hs hs' n1 n2 n3 n4 e
    rcases vT_head hv with h | h | ⟨t, h⟩
    · rw [h] at e; exact n1 (word_split _ _ _ _ w1 ha hs hs' e).1.symm
    · rw [h] at e; exact n2 (word_split _ _ _ _ w2 ha hs hs' e).1.symm
    · rw [h] at e
      cases a with
      | nil => exact n4 rfl
      | cons x a => rw [List.cons_append, List.cons_append] at e; injection e with e1 _; exact n3 a (by rw [e1])
  rcases pField_cases hp with ⟨h1, h2⟩ | ⟨h1, h2⟩ | ⟨h1, h2⟩ <;> rcases pField_cases hp' with ⟨g1, g2⟩ | ⟨g1, g2⟩ | ⟨g1, g2⟩
  · rw [sT_0 h1, sT_0 g1] at e
    obtain ⟨e1, e2⟩ := vT_pf h2 g2 hr hr' e
    exact ⟨by rw [h1, g1], e1, e2⟩
  · rw [sT_0 h1, sT_8 g1] at e
    exact (key _ _ _ _ h2 w8 hr hr' (by decide) (by decide) (by simp) (by simp) e).elim
  · rw [sT_0 h1, sT_16 g1] at e
    exact (key _ _ _ _ h2 w16 hr hr' (by decide) (by decide) (by simp) (by simp) e).elim
  · rw [sT_8 h1, sT_0 g1] at e
    exact (key _ _ _ _ g2 w8 hr' hr (by decide) (by decide) (by simp) (by simp) e.symm).elim
  · rw [sT_8 h1, sT_8 g1] at e
    exact ⟨by rw [h1, g1], by rw [h2, g2], List.append_cancel_left e⟩
  · rw [sT_8 h1, sT_16 g1] at e
    exact absurd (word_split _ _ _ _ w8 w16 hr hr' e).1 (by decide)
  · rw [sT_16 h1, sT_0 g1] at e
    exact (key _ _ _ _ g2 w16 hr' hr (by decide) (by decide) (by simp) (by simp) e.symm).elim
  · rw [sT_16 h1, sT_8 g1] at e
    exact absurd (word_split _ _ _ _ w16 w8 hr hr' e).1 (by decide)
  · rw [sT_16 h1, sT_16 g1] at e
    exact ⟨by rw [h1, g1], by rw [h2, g2], List.append_cancel_left e⟩
theorem sT_head {f : Fd} (hp : pField f = true) : ∃ x y t, sT f.pk f.v = x :: y :: t ∧ y ≠ 109 := by
  rcases pField_cases hp with ⟨h1, h2⟩ | ⟨h1, h2⟩ | ⟨h1, h2⟩
  · rw [sT_0 h1]
    rcases vT_head h2 with h | h | ⟨t, h⟩ <;> rw [h]
    · exact ⟨_, _, _, rfl, by decide⟩
    · exact ⟨_, _, _, rfl, by decide⟩
    · exact ⟨_, _, _, rfl, by decide⟩
  · rw [sT_8 h1]; exact ⟨_, _, _, rfl, by decide⟩
  · rw [sT_16 h1]; exact ⟨_, _, _, rfl, by decide⟩
theorem fT_mu {f : Fd} (h : f.mu = true) : fT f = 40 :: 109 :: 117 :: 116 :: 32 :: (sT f.pk f.v ++ [41]) := by unfold fT; rw [if_pos h]; rfl
theorem fT_no {f : Fd} (h : f.mu = false) : fT f = sT f.pk f.v := by unfold fT; rw [h]; rfl
theorem fT_pf {f f' : Fd} {r r' : List UInt8} (hp : pField f = true) (hp' : pField f' = true) (hr : End r) (hr' : End r') (e : fT f ++ r = fT f' ++ r') : f = f' ∧ r = r' := by
  have fin : f.mu = f'.mu → f.pk = f'.pk → f.v = f'.v → f = f' := by
    obtain ⟨a, b, c⟩ := f
    obtain ⟨a', b', c'⟩ := f'
    dsimp only
    rintro rfl rfl rfl; rfl
  cases hm : f.mu <;> cases hm' : f'.mu
  · rw [fT_no hm, fT_no hm'] at e
    obtain ⟨e1, e2, e3⟩ := sT_pf hp hp' hr hr' e
    exact ⟨fin (by rw [hm, hm']) e1 e2, e3⟩
  · rw [fT_no hm, fT_mu hm'] at e
    obtain ⟨x, y, t, h, hy⟩ := sT_head hp
    rw [h] at e
    injection e with _ e; injection e with e _
    exact absurd e hy
  · rw [fT_mu hm, fT_no hm'] at e
    obtain ⟨x, y, t, h, hy⟩ := sT_head hp'
    rw [h] at e
    injection e with _ e; injection e with e _
    exact absurd e.symm hy
  · rw [fT_mu hm, fT_mu hm'] at e
    simp only [List.cons_append, List.append_assoc, List.cons.injEq, true_and] at e
    obtain ⟨e1, e2, e3⟩ := sT_pf hp hp' (end41 _) (end41 _) e
    injection e3 with _ e3
    exact ⟨fin (by rw [hm, hm']) e1 e2, e3⟩

/-! Lists, composite types, declared types. -/
theorem sp_cons (x : List UInt8) (l : List (List UInt8)) : sp (x :: l) = 32 :: (x ++ sp l) := by simp [sp]
theorem sp_append (l m : List (List UInt8)) : sp (l ++ m) = sp l ++ sp m := by simp [sp]
theorem sp_end (l : List (List UInt8)) (r : List UInt8) (h : End r) : End (sp l ++ r) := by
  cases l with
  | nil => exact h
  | cons x l => rw [sp_cons]; exact end32 _
/-- A list of what can be told apart, up to where no more comes. -/
theorem list_pf {α : Type} (f : α → List UInt8) (p : α → Bool) (stop : List UInt8 → Prop) (hst : ∀ r, stop r → End r) (hno : ∀ (x : α) (s r : List UInt8), p x = true → stop r → r ≠ 32 :: (f x ++ s))
    (pf : ∀ (x y : α) (r r' : List UInt8), p x = true → p y = true → End r → End r' → f x ++ r = f y ++ r' → x = y ∧ r = r') :
    ∀ (l m : List α) (r r' : List UInt8), (∀ x ∈ l, p x = true) → (∀ x ∈ m, p x = true) → stop r → stop r' → sp (l.map f) ++ r = sp (m.map f) ++ r' → l = m ∧ r = r'
  | [], [], r, r', _, _, _, _, h => ⟨rfl, h⟩
  | [], y :: m, r, r', _, hm, hr, _, h => by
    rw [List.map_cons, sp_cons] at h
    exact absurd (show r = 32 :: (f y ++ (sp (m.map f) ++ r')) by simpa [sp] using h) (hno y _ r (hm y List.mem_cons_self) hr)
  | x :: l, [], r, r', hl, _, _, hr', h => by
    rw [List.map_cons, sp_cons] at h
    exact absurd (show r' = 32 :: (f x ++ (sp (l.map f) ++ r)) by simpa [sp] using h.symm) (hno x _ r' (hl x List.mem_cons_self) hr')
  | x :: l, y :: m, r, r', hl, hm, hr, hr', h => by
    rw [List.map_cons, List.map_cons, sp_cons, sp_cons] at h
    simp only [List.cons_append, List.append_assoc, List.cons.injEq, true_and] at h
    obtain ⟨e1, e2⟩ := pf x y _ _ (hl x List.mem_cons_self) (hm y List.mem_cons_self) (sp_end _ _ (hst r hr)) (sp_end _ _ (hst r' hr')) h
    obtain ⟨e3, e4⟩ := list_pf f p stop hst hno pf l m r r' (fun z hz => hl z (List.mem_cons_of_mem _ hz)) (fun z hz => hm z (List.mem_cons_of_mem _ hz)) hr hr' e2
    exact ⟨by rw [e1, e3], e4⟩
def Stop41 (r : List UInt8) : Prop := ∃ t, r = 41 :: t
theorem stop41 (r : List UInt8) : Stop41 (41 :: r) := ⟨r, rfl⟩
theorem vals_pf (l m : List Vl) (r r' : List UInt8) (hl : ∀ x ∈ l, pVal x = true) (hm : ∀ x ∈ m, pVal x = true) (e : sp (l.map vT) ++ 41 :: r = sp (m.map vT) ++ 41 :: r') : l = m ∧ r = r' := by
  obtain ⟨e1, e2⟩ := list_pf vT pVal Stop41 (fun r ⟨t, h⟩ => by rw [h]; exact end41 _) (fun x s r _ ⟨t, h⟩ e => by rw [h] at e; injection e with e _; exact absurd e (by decide)) (fun x y r r' hx hy hr hr' e => vT_pf hx hy hr hr' e) l m _ _ hl hm (stop41 _) (stop41 _) e
  injection e2 with _ e2
  exact ⟨e1, e2⟩
theorem fields_pf (l m : List Fd) (r r' : List UInt8) (hl : ∀ x ∈ l, pField x = true) (hm : ∀ x ∈ m, pField x = true) (e : sp (l.map fT) ++ 41 :: r = sp (m.map fT) ++ 41 :: r') : l = m ∧ r = r' := by
  obtain ⟨e1, e2⟩ := list_pf fT pField Stop41 (fun r ⟨t, h⟩ => by rw [h]; exact end41 _) (fun x s r _ ⟨t, h⟩ e => by rw [h] at e; injection e with e _; exact absurd e (by decide)) (fun x y r r' hx hy hr hr' e => fT_pf hx hy hr hr' e) l m _ _ hl hm (stop41 _) (stop41 _) e
  injection e2 with _ e2
  exact ⟨e1, e2⟩
/-- The part of the value types of one kind, none where there are none. -/
theorem some_sp (x : List UInt8) (l : List Vl) : sp (some_ x (l.map vT)) = if l = [] then [] else 32 :: 40 :: (x ++ sp (l.map vT) ++ [41]) := by
  unfold some_
  by_cases h : l = []
  · rw [if_pos h, if_pos (by rw [h]; rfl)]; rfl
  · rw [if_neg h, if_neg (by intro e; exact h (List.map_eq_nil_iff.1 e)), sp_cons]
    simp [br, sp]
theorem some_pf (c : UInt8) (x : List UInt8) (l m : List Vl) (r r' : List UInt8) (hl : ∀ x ∈ l, pVal x = true) (hm : ∀ x ∈ m, pVal x = true) (hr : ∀ t, r ≠ 32 :: 40 :: c :: t) (hr' : ∀ t, r' ≠ 32 :: 40 :: c :: t)
    (e : sp (some_ (c :: x) (l.map vT)) ++ r = sp (some_ (c :: x) (m.map vT)) ++ r') : l = m ∧ r = r' := by
  rw [some_sp, some_sp] at e
  by_cases h1 : l = [] <;> by_cases h2 : m = []
  · rw [if_pos h1, if_pos h2] at e
    exact ⟨by rw [h1, h2], e⟩
  · rw [if_pos h1, if_neg h2] at e
    exact absurd e (hr _)
  · rw [if_neg h1, if_pos h2] at e
    exact absurd e.symm (hr' _)
  · rw [if_neg h1, if_neg h2] at e
    simp only [List.cons_append, List.append_assoc, List.cons.injEq, true_and] at e
    have e1 := List.append_cancel_left e
    exact vals_pf l m r r' hl hm e1
theorem pComp_cases {c : Cp} (h : pComp c = true) : (c.k = 1 ∧ c.fs = []) ∨ (c.k = 2 ∧ c.ps = [] ∧ c.rs = []) ∨ (c.k = 3 ∧ c.ps = [] ∧ c.rs = []) := by
  have nil_of : takes c = false → c.ps = [] ∧ c.rs = [] := fun ht => by
    unfold takes at ht
    simp only [decide_eq_false_iff_not] at ht
    exact ⟨List.eq_nil_of_length_eq_zero (by omega), List.eq_nil_of_length_eq_zero (by omega)⟩
  unfold pComp at h
  by_cases h1 : c.k = 1
  · rw [if_pos h1] at h
    simp only [Bool.and_eq_true, decide_eq_true_eq] at h
    exact .inl ⟨h1, List.eq_nil_of_length_eq_zero h.2.2⟩
  · rw [if_neg h1] at h
    by_cases h2 : c.k = 2
    · rw [if_pos h2] at h
      simp only [Bool.and_eq_true, Bool.not_eq_true'] at h
      exact .inr (.inl ⟨h2, nil_of h.1⟩)
    · rw [if_neg h2] at h
      by_cases h3 : c.k = 3
      · rw [if_pos h3] at h
        simp only [Bool.and_eq_true, Bool.not_eq_true'] at h
        exact .inr (.inr ⟨h3, nil_of h.1⟩)
      · rw [if_neg h3] at h; cases h
theorem cT_1 {c : Cp} (h : c.k = 1) : cT c = 40 :: 102 :: 117 :: 110 :: 99 :: (sp (some_ [112, 97, 114, 97, 109] (c.ps.map vT)) ++ (sp (some_ [114, 101, 115, 117, 108, 116] (c.rs.map vT)) ++ [41])) := by
  unfold cT; rw [if_pos h]; simp [br, sp_append]
theorem cT_2 {c : Cp} (h : c.k = 2) : cT c = 40 :: 115 :: 116 :: 114 :: 117 :: 99 :: 116 :: (sp (c.fs.map fT) ++ [41]) := by
  unfold cT; rw [if_neg (by omega), if_pos h]; simp [br]
theorem cT_3 {c : Cp} (h : c.k = 3) : cT c = 40 :: 97 :: 114 :: 114 :: 97 :: 121 :: (sp (c.fs.map fT) ++ [41]) := by
  unfold cT; rw [if_neg (by omega), if_neg (by omega)]; simp [br]
theorem cT_head {c : Cp} (h : pComp c = true) : ∃ t, cT c = 40 :: t := by
  rcases pComp_cases h with ⟨h1, _⟩ | ⟨h1, _⟩ | ⟨h1, _⟩
  · exact ⟨_, cT_1 h1⟩
  · exact ⟨_, cT_2 h1⟩
  · exact ⟨_, cT_3 h1⟩
theorem cp_ext {c d : Cp} (h1 : c.k = d.k) (h2 : c.ps = d.ps) (h3 : c.rs = d.rs) (h4 : c.fs = d.fs) : c = d := by
  obtain ⟨a, b, e, f⟩ := c
  obtain ⟨a', b', e', f'⟩ := d
  dsimp only at *
  subst h1 h2 h3 h4; rfl
theorem cT_pf {c d : Cp} {r r' : List UInt8} (hc : pComp c = true) (hd : pComp d = true) (e : cT c ++ r = cT d ++ r') : c = d ∧ r = r' := by
  have oc := okC_of hc
  have od := okC_of hd
  rcases pComp_cases hc with ⟨h1, h2⟩ | ⟨h1, h2, h3⟩ | ⟨h1, h2, h3⟩ <;> rcases pComp_cases hd with ⟨g1, g2⟩ | ⟨g1, g2, g3⟩ | ⟨g1, g2, g3⟩
  · rw [cT_1 h1, cT_1 g1] at e
    simp only [List.cons_append, List.append_assoc, List.cons.injEq, true_and] at e
    have nres : ∀ (l : List Vl) (s t : List UInt8), sp (some_ [114, 101, 115, 117, 108, 116] (l.map vT)) ++ 41 :: s ≠ 32 :: 40 :: 112 :: t := fun l s t e => by
      rw [some_sp] at e
      split at e
      · simp at e
      · simp at e
    obtain ⟨e1, e2⟩ := some_pf 112 [97, 114, 97, 109] c.ps d.ps _ _ oc.p od.p (nres _ _) (nres _ _) e
    have n41 : ∀ (s t : List UInt8), (41 :: s) ≠ 32 :: 40 :: 114 :: t := fun s t e => by injection e with e _; exact absurd e (by decide)
    obtain ⟨e3, e4⟩ := some_pf 114 [101, 115, 117, 108, 116] c.rs d.rs _ _ oc.r od.r (n41 _) (n41 _) e2
    injection e4 with _ e4
    exact ⟨cp_ext (by rw [h1, g1]) e1 e3 (by rw [h2, g2]), e4⟩
  · rw [cT_1 h1, cT_2 g1] at e; simp at e
  · rw [cT_1 h1, cT_3 g1] at e; simp at e
  · rw [cT_2 h1, cT_1 g1] at e; simp at e
  · rw [cT_2 h1, cT_2 g1] at e
    simp only [List.cons_append, List.append_assoc, List.cons.injEq, true_and] at e
    obtain ⟨e1, e2⟩ := fields_pf c.fs d.fs _ _ oc.f od.f e
    exact ⟨cp_ext (by rw [h1, g1]) (by rw [h2, g2]) (by rw [h3, g3]) e1, e2⟩
  · rw [cT_2 h1, cT_3 g1] at e; simp at e
  · rw [cT_3 h1, cT_1 g1] at e; simp at e
  · rw [cT_3 h1, cT_2 g1] at e; simp at e
  · rw [cT_3 h1, cT_3 g1] at e
    simp only [List.cons_append, List.append_assoc, List.cons.injEq, true_and] at e
    obtain ⟨e1, e2⟩ := fields_pf c.fs d.fs _ _ oc.f od.f e
    exact ⟨cp_ext (by rw [h1, g1]) (by rw [h2, g2]) (by rw [h3, g3]) e1, e2⟩
def Stop40 (r : List UInt8) : Prop := ∃ t, r = 32 :: 40 :: t
theorem idx_head {h : Hp} (hp : pIdx h = true) : ∃ x t, hT h = x :: t ∧ x ≠ 40 ∧ x ≠ 102 := by
  have hk : h.k = 13 ∧ 0 ≤ h.n := by
    unfold pIdx at hp
    simp only [Bool.and_eq_true, decide_eq_true_eq] at hp
    exact ⟨hp.1, hp.2.1⟩
  rw [hT_idx hk.1 hk.2]
  obtain ⟨h1, h2⟩ := dec_digits h.n.toNat
  cases hd : Lib.decDigits h.n.toNat with
  | nil => exact absurd hd h2
  | cons x t =>
    have := dig_ne (h1 x (by rw [hd]; exact List.mem_cons_self))
    exact ⟨x, t, rfl, this.2.2.1, this.2.2.2⟩
theorem sups_pf (l m : List Hp) (r r' : List UInt8) (hl : ∀ x ∈ l, pIdx x = true) (hm : ∀ x ∈ m, pIdx x = true) (hr : Stop40 r) (hr' : Stop40 r') (e : sp (l.map hT) ++ r = sp (m.map hT) ++ r') : l = m ∧ r = r' :=
  list_pf hT pIdx Stop40 (fun r ⟨t, h⟩ => by rw [h]; exact end32 _) (fun x s r hx ⟨t, h⟩ e => by
    obtain ⟨y, u, hy, hy1, _⟩ := idx_head hx
    rw [h, hy] at e
    injection e with _ e; injection e with e _
    exact hy1 e.symm) (fun x y r r' hx hy hr hr' e => hT_pf (pHeap_of hx) (pHeap_of hy) hr hr' e) l m r r' hl hm hr hr' e
theorem tT_eq (s : Sb) : tT s = 40 :: 115 :: 117 :: 98 :: ((if s.fin then [32, 102, 105, 110, 97, 108] else []) ++ (sp (s.sups.map hT) ++ (32 :: cT s.c ++ [41]))) := by
  unfold tT br
  rw [sp_append, sp_append]
  cases s.fin <;> simp [sp]
/-- ████ Plain types have the same writing just if they are the same. ████ -/
theorem tT_inj {s t : Sb} (hs : pSub s = true) (ht : pSub t = true) (e : tT s = tT t) : s = t := by
  unfold pSub at hs ht
  simp only [Bool.and_eq_true, List.all_eq_true] at hs ht
  rw [tT_eq, tT_eq] at e
  simp only [List.cons.injEq, true_and] at e
  obtain ⟨tc, hc⟩ := cT_head hs.2
  obtain ⟨td, hd⟩ := cT_head ht.2
  have nofin : ∀ (l : List Hp) (c : Cp) (s u : List UInt8), (∀ x ∈ l, pIdx x = true) → (∃ t, cT c = 40 :: t) → sp (l.map hT) ++ (32 :: cT c ++ s) ≠ 32 :: 102 :: u := fun l c s u hl ⟨t, hc⟩ e => by
    cases l with
    | nil => rw [hc] at e; simp [sp] at e
    | cons x l =>
      obtain ⟨y, v, hy, _, hy2⟩ := idx_head (hl x List.mem_cons_self)
      rw [List.map_cons, sp_cons, hy] at e
      injection e with _ e; injection e with e _
      exact hy2 e
  have fin_eq : s.fin = t.fin ∧ sp (s.sups.map hT) ++ (32 :: cT s.c ++ [41]) = sp (t.sups.map hT) ++ (32 :: cT t.c ++ [41]) := by
    cases hf : s.fin <;> cases hg : t.fin <;> rw [hf, hg] at e
    · exact ⟨rfl, by simpa using e⟩
    · exact absurd (by simpa using e) (nofin s.sups s.c [41] _ hs.1 ⟨tc, hc⟩)
    · exact absurd (by simpa using e.symm) (nofin t.sups t.c [41] _ ht.1 ⟨td, hd⟩)
    · exact ⟨rfl, by simpa using e⟩
  obtain ⟨e1, e2⟩ := sups_pf s.sups t.sups _ _ hs.1 ht.1 ⟨tc ++ [41], by rw [hc]; rfl⟩ ⟨td ++ [41], by rw [hd]; rfl⟩ fin_eq.2
  rw [List.cons_append, List.cons_append] at e2
  injection e2 with _ e2
  obtain ⟨e3, _⟩ := cT_pf hs.2 ht.2 e2
  obtain ⟨f, su, c⟩ := s
  obtain ⟨f', su', c'⟩ := t
  dsimp only at *
  rw [fin_eq.1, e1, e3]
theorem vT_inj {v w : Vl} (hv : pVal v = true) (hw : pVal w = true) (e : vT v = vT w) : v = w :=
  (vT_pf hv hw (.inl rfl) (.inl rfl) (by rw [List.append_nil, List.append_nil]; exact e) : v = w ∧ ([] : List UInt8) = []).1
end Go.Proofs.YtabeidgkgbkliaaDoor.Kd

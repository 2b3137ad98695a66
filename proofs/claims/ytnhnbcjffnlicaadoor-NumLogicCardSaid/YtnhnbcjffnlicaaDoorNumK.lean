/-
  num's calls and the document's, for every opcode: the words.
-/
import Derived.Test.YtnhnbcjffnlicaaDoorNumCd
import Derived.Test.YtnhnbcjffnlicaaDoorNumVl
import Derived.Test.YtnhnbcjffnlicaaDoorNumC
import Derived.Test.YtnhnbcjffnlicaaDoorNumV
import Derived.Test.YtnhnbcjffnlicaaDoorNumW
import Derived.Test.YtnhnbcjffnlicaaDoorNumY
import Derived.Test.YtnhnbcjffnlicaaDoorNumZ
namespace Go.Proofs.YtnhnbcjffnlicaaDoor
open Go.RowKit Num
set_option linter.unusedVariables false

/-- The code's three calls at an opcode. -/
def CodeOK (op : Int) : Prop :=
  (∀ (W : World) (a : Nat), Tab W → a < 18446744073709551616 → Calls Tryd.prog 10 #[.int .i64 op, .int .u64 a] W (Two2 (one op a) W)) ∧
  (∀ (W : World) (a b : Nat), a < 18446744073709551616 → b < 18446744073709551616 → Calls Tryd.prog 15 #[.int .i64 op, .int .u64 a, .int .u64 b] W (Two2 (two op a b) W)) ∧
  (∀ (W : World), Calls Tryd.prog 12 #[.int .i64 op] W (Trio (kind op).2.1 (kind op).2.2.1 (kind op).2.2.2 W))
/-- The document's. -/
def RefOK (op : Int) : Prop :=
  (∀ (W : World) (a : Nat), a < 18446744073709551616 → Calls Tryd.prog 11 #[.int .i64 op, .int .u64 a] W (Two2 (one op a) W)) ∧
  (∀ (W : World) (a b : Nat), a < 18446744073709551616 → b < 18446744073709551616 → Calls Tryd.prog 16 #[.int .i64 op, .int .u64 a, .int .u64 b] W (Two2 (two op a b) W)) ∧
  (∀ (W : World), Calls Tryd.prog 13 #[.int .i64 op] W (K4 (kind op).1 (kind op).2.1 (kind op).2.2.1 (kind op).2.2.2 W))
theorem one_no {op : Int} {a p w t m : Nat} (hk : kind op = (p, w, t, m)) (hm : m ≠ 1) : one op a = (0, 2) := by
  unfold one; rw [hk]; exact if_neg (fun h => hm h.1)
theorem one_un {op : Int} {a p w t m : Nat} (hk : kind op = (p, w, t, m)) (hn : ¬ a < 2 ^ w) : one op a = (0, 2) := by
  unfold one; rw [hk]; exact if_neg (fun h => hn h.2)
theorem one_yes {op : Int} {a p w t : Nat} (hk : kind op = (p, w, t, 1)) (h : a < 2 ^ w) : one op a = (ov p a w t, 0) := by
  unfold one; rw [hk]; exact if_pos ⟨rfl, h⟩
theorem two_no {op : Int} {a b p w t m : Nat} (hk : kind op = (p, w, t, m)) (hm : m ≠ 2) : two op a b = (0, 2) := by
  unfold two; rw [hk]; exact if_neg (fun h => hm h.1)
theorem two_un {op : Int} {a b p w t m : Nat} (hk : kind op = (p, w, t, m)) (hn : ¬ (a < 2 ^ w ∧ b < 2 ^ w)) : two op a b = (0, 2) := by
  unfold two; rw [hk]; exact if_neg (fun h => hn h.2)
theorem two_ok {op : Int} {a b p w t : Nat} (hk : kind op = (p, w, t, 2)) (h : a < 2 ^ w) (h' : b < 2 ^ w) (he : te p w a b = 0) : two op a b = (tv p w a b, 0) := by
  unfold two; rw [hk, if_pos ⟨rfl, h, h'⟩]; exact if_pos he
theorem two_err {op : Int} {a b p w t : Nat} (hk : kind op = (p, w, t, 2)) (h : a < 2 ^ w) (h' : b < 2 ^ w) (he : te p w a b ≠ 0) : two op a b = (0, te p w a b) := by
  unfold two; rw [hk, if_pos ⟨rfl, h, h'⟩]; exact if_neg he

def Enter (j : Nat) : Prop := ∀ args w, (callFunc j args).run Tryd.prog w = .ok (.enter j args) w
theorem code_none (op : Int) (hk : kind op = (0, 0, 0, 0)) (hF : ∀ W, Calls Tryd.prog 20 #[.int .i64 op] W (Found .nilFunc .nilFunc .nilFunc 0 0 W)) : CodeOK op := by
  refine ⟨fun W a _ _ => ?_, fun W a b _ _ => ?_, fun W => ?_⟩
  · rw [one_no hk (by decide)]; exact cOne_none op a _ _ _ _ stores_nil stores_nil W hF
  · rw [two_no hk (by decide)]; exact cTwo_none op a b _ _ _ _ stores_nil stores_nil W hF
  · rw [hk]; exact cBits_none op W hF
theorem code_one (op : Int) (p w t j : Nat) (f u : Int) (hk : kind op = (p, w, t, 1)) (hw : Wd w f) (hu : Wd t u)
    (hF : ∀ W, Calls Tryd.prog 20 #[.int .i64 op] W (Found (.func (.func j) #[] #[]) .nilFunc .nilFunc f u W)) (he : Enter j)
    (raw : Nat → Nat) (hv : ∀ a, a < 2 ^ w → raw a < 18446744073709551616 ∧ raw a % 2 ^ t = ov p a w t)
    (hJ : ∀ (a : Nat) (W : World), Tab W → a < 2 ^ w → Calls Tryd.prog j #[.agg #[.int .u64 a, .int .i64 f]] W (Out (raw a) W)) : CodeOK op := by
  refine ⟨fun W a hT ha => ?_, fun W a b _ _ => ?_, fun W => ?_⟩
  · by_cases h : a < 2 ^ w
    · rw [one_yes hk h, ← (hv a h).2]
      exact cOne_ok op a (raw a) w t j f u hw hu h (hv a h).1 W hF he (fun W' hb => hJ a W' (hT.below hb) h)
    · rw [one_un hk h]; exact cOne_unfit op a w j f u hw ha h W hF
  · rw [two_no hk (by decide)]; exact cTwo_none op a b _ _ _ _ (stores_fn _) stores_nil W hF
  · have hf : f = (w : Int) := by rcases hw with ⟨rfl, rfl⟩ | ⟨rfl, rfl⟩ <;> rfl
    have hu2 : u = (t : Int) := by rcases hu with ⟨rfl, rfl⟩ | ⟨rfl, rfl⟩ <;> rfl
    rw [hk]
    have := cBits_one op j _ _ f u stores_nil stores_nil W hF
    rw [hf, hu2] at this
    exact this
theorem code_two (op : Int) (p w t j : Nat) (f u : Int) (hk : kind op = (p, w, t, 2)) (hw : Wd w f) (hu : Wd t u) (hp : p < 23 ∨ 26 < p)
    (hF : ∀ W, Calls Tryd.prog 20 #[.int .i64 op] W (Found .nilFunc (.func (.func j) #[] #[]) .nilFunc f u W)) (he : Enter j)
    (raw : Nat → Nat → Nat) (hv : ∀ a b, a < 2 ^ w → b < 2 ^ w → raw a b < 18446744073709551616 ∧ raw a b % 2 ^ t = tv p w a b)
    (hJ : ∀ (a b : Nat) (W : World), a < 2 ^ w → b < 2 ^ w → Calls Tryd.prog j #[.agg #[.int .u64 a, .int .i64 f], .agg #[.int .u64 b, .int .i64 f]] W (Out (raw a b) W)) : CodeOK op := by
  refine ⟨fun W a hT ha => ?_, fun W a b ha hb => ?_, fun W => ?_⟩
  · rw [one_no hk (by decide)]; exact cOne_none op a _ _ _ _ (stores_fn _) stores_nil W hF
  · by_cases h : a < 2 ^ w ∧ b < 2 ^ w
    · have hte : te p w a b = 0 := by unfold te; rw [if_neg (by omega), if_neg (by omega)]
      rw [two_ok hk h.1 h.2 hte, ← (hv a b h.1 h.2).2]
      exact cTwo_free op a b (raw a b) w t j f u hw hu h.1 h.2 (hv a b h.1 h.2).1 W hF he (fun W' => hJ a b W' h.1 h.2)
    · rw [two_un hk h]; exact cTwo_unfit op a b w _ j f u stores_nil hw ha hb h W hF
  · have hf : f = (w : Int) := by rcases hw with ⟨rfl, rfl⟩ | ⟨rfl, rfl⟩ <;> rfl
    have hu2 : u = (t : Int) := by rcases hu with ⟨rfl, rfl⟩ | ⟨rfl, rfl⟩ <;> rfl
    rw [hk]
    have := cBits_two op j _ f u stores_nil W hF
    rw [hf, hu2] at this
    exact this
theorem code_bar (op : Int) (p w t j m : Nat) (f u : Int) (hk : kind op = (p, w, t, 2)) (hw : Wd w f) (hu : Wd t u) (hjm : j ≠ m)
    (hF : ∀ W, Calls Tryd.prog 20 #[.int .i64 op] W (Found .nilFunc (.func (.func j) #[] #[]) (.func (.func m) #[] #[]) f u W)) (he : Enter j) (hem : Enter m)
    (raw : Nat → Nat → Nat) (hv : ∀ a b, a < 2 ^ w → b < 2 ^ w → te p w a b = 0 → b ≠ 0 ∧ raw a b < 18446744073709551616 ∧ raw a b % 2 ^ t = tv p w a b)
    (hM : ∀ (a b : Nat) (W : World), a < 2 ^ w → b < 2 ^ w → Calls Tryd.prog m #[.agg #[.int .u64 a, .int .i64 f], .agg #[.int .u64 b, .int .i64 f]] W (ErrIs (te p w a b) W))
    (hJ : ∀ (a b : Nat) (W : World), a < 2 ^ w → b < 2 ^ w → b ≠ 0 → Calls Tryd.prog j #[.agg #[.int .u64 a, .int .i64 f], .agg #[.int .u64 b, .int .i64 f]] W (Out (raw a b) W)) : CodeOK op := by
  refine ⟨fun W a hT ha => ?_, fun W a b ha hb => ?_, fun W => ?_⟩
  · rw [one_no hk (by decide)]; exact cOne_none op a _ _ _ _ (stores_fn _) (stores_fn _) W hF
  · by_cases h : a < 2 ^ w ∧ b < 2 ^ w
    · by_cases hte : te p w a b = 0
      · obtain ⟨h0, hr, hv2⟩ := hv a b h.1 h.2 hte
        rw [two_ok hk h.1 h.2 hte, ← hv2]
        exact cTwo_bar op a b (raw a b) w t j m f u hw hu h.1 h.2 hr W hF he hem hjm (fun W' => by have := hM a b W' h.1 h.2; rwa [hte] at this) (fun W' => hJ a b W' h.1 h.2 h0)
      · rw [two_err hk h.1 h.2 hte]
        exact cTwo_err op a b _ w j m f u hte hw h.1 h.2 W hF hem (fun W' => hM a b W' h.1 h.2)
    · rw [two_un hk h]; exact cTwo_unfit op a b w _ j f u (stores_fn _) hw ha hb h W hF
  · have hf : f = (w : Int) := by rcases hw with ⟨rfl, rfl⟩ | ⟨rfl, rfl⟩ <;> rfl
    have hu2 : u = (t : Int) := by rcases hu with ⟨rfl, rfl⟩ | ⟨rfl, rfl⟩ <;> rfl
    rw [hk]
    have := cBits_two op j _ f u (stores_fn _) W hF
    rw [hf, hu2] at this
    exact this

theorem ref_none (op : Int) (hk : kind op = (0, 0, 0, 0)) (hOf : ∀ W, Calls Tryd.prog 13 #[.int .i64 op] W (K4 0 0 0 0 W)) : RefOK op := by
  refine ⟨fun W a _ => ?_, fun W a b _ _ => ?_, fun W => ?_⟩
  · rw [one_no hk (by decide)]; exact rOne_no op a 0 0 0 0 rfl W hOf
  · rw [two_no hk (by decide)]; exact rTwo_no op a b 0 0 0 0 rfl W hOf
  · rw [hk]; exact hOf W
theorem ref_one (op : Int) (p w t : Nat) (pi f u : Int) (hk : kind op = (p, w, t, 1)) (hw : Wd w f) (hu : Wd t u) (hp : Place p pi t u) (hpi : pi = (p : Int))
    (hOf : ∀ W, Calls Tryd.prog 13 #[.int .i64 op] W (K4 pi f u 1 W)) : RefOK op := by
  have hf : f = (w : Int) := by rcases hw with ⟨rfl, rfl⟩ | ⟨rfl, rfl⟩ <;> rfl
  have hu2 : u = (t : Int) := by rcases hu with ⟨rfl, rfl⟩ | ⟨rfl, rfl⟩ <;> rfl
  refine ⟨fun W a ha => ?_, fun W a b _ _ => ?_, fun W => ?_⟩
  · by_cases h : a < 2 ^ w
    · rw [one_yes hk h]; exact rOne_ok op a w t p pi f u hw hu h hp W hOf
    · rw [one_un hk h]; exact rOne_unfit op a w f hf (wd_le hw).2 ha h pi u W hOf
  · rw [two_no hk (by decide)]; exact rTwo_no op a b pi f u 1 rfl W hOf
  · rw [hk]
    have := hOf W
    rw [hf, hu2, hpi] at this
    exact this
theorem ref_two (op : Int) (p w t : Nat) (pi f u : Int) (hk : kind op = (p, w, t, 2)) (hw : Wd w f) (hu2 : u = (t : Int)) (h1 : 10 ≤ p) (h2 : p ≤ 34) (hpi : pi = (p : Int))
    (hOf : ∀ W, Calls Tryd.prog 13 #[.int .i64 op] W (K4 pi f u 2 W)) : RefOK op := by
  have hf : f = (w : Int) := by rcases hw with ⟨rfl, rfl⟩ | ⟨rfl, rfl⟩ <;> rfl
  refine ⟨fun W a ha => ?_, fun W a b ha hb => ?_, fun W => ?_⟩
  · rw [one_no hk (by decide)]; exact rOne_no op a pi f u 2 rfl W hOf
  · by_cases h : a < 2 ^ w ∧ b < 2 ^ w
    · obtain ⟨hA, hB⟩ := h
      rcases Nat.lt_or_ge p 20 with hp | hp
      · have hte : te p w a b = 0 := by unfold te; rw [if_neg (by omega), if_neg (by omega)]
        rw [two_ok hk hA hB hte]; exact rTwo_ask op a b w p pi f u hpi h1 (by omega) hw hA hB W hOf
      · rcases Nat.lt_or_ge p 23 with hp3 | hp3
        · have hte : te p w a b = 0 := by unfold te; rw [if_neg (by omega), if_neg (by omega)]
          rw [two_ok hk hA hB hte]; exact rTwo_ar op a b w p pi f u (by unfold ArP; omega) hw hA hB (.inr hp3) W hOf
        · rcases Nat.lt_or_ge 26 p with hp6 | hp6
          · have hte : te p w a b = 0 := by unfold te; rw [if_neg (by omega), if_neg (by omega)]
            rw [two_ok hk hA hB hte]
            have : p = 27 ∨ p = 28 ∨ p = 29 ∨ p = 30 ∨ p = 31 ∨ p = 32 ∨ p = 33 ∨ p = 34 := by omega
            subst hpi
            rcases this with rfl | rfl | rfl | rfl | rfl | rfl | rfl | rfl
            · exact rTwo_27 op a b w f u hw hA hB W hOf
            · exact rTwo_28 op a b w f u hw hA hB W hOf
            · exact rTwo_29 op a b w f u hw hA hB W hOf
            · exact rTwo_30 op a b w f u hw hA hB W hOf
            · exact rTwo_31 op a b w f u hw hA hB W hOf
            · exact rTwo_32 op a b w f u hw hA hB W hOf
            · exact rTwo_33 op a b w f u hw hA hB W hOf
            · exact rTwo_34 op a b w f u hw hA hB W hOf
          · by_cases hb0 : b = 0
            · subst hb0
              have hte : te p w a 0 = 30 := by unfold te; rw [if_pos (by omega)]
              rw [two_err hk hA hB (by rw [hte]; decide), hte]
              exact rTwo_zero op a w pi f u (by omega) (by omega) hw hA W hOf
            · have hte : te p w a b = if p = 23 ∧ b = 2 ^ w - 1 ∧ a = 2 ^ (w - 1) then 31 else 0 := by unfold te; rw [if_neg (by omega)]
              have : p = 23 ∨ p = 24 ∨ p = 25 ∨ p = 26 := by omega
              rcases this with rfl | rfl | rfl | rfl
              · subst hpi
                by_cases ho : b = 2 ^ w - 1 ∧ a = 2 ^ (w - 1)
                · rw [if_pos ⟨rfl, ho⟩] at hte
                  rw [two_err hk hA hB (by rw [hte]; decide), hte]
                  exact rTwo_23o op a b w f u hw hA hB hb0 ho W hOf
                · rw [if_neg (fun h => ho h.2)] at hte
                  rw [two_ok hk hA hB hte]
                  exact rTwo_23n op a b w f u hw hA hB hb0 ho W hOf
              · rw [if_neg (by omega)] at hte
                rw [two_ok hk hA hB hte]; exact rTwo_ar op a b w 24 pi f u (by unfold ArP; omega) hw hA hB (.inl hb0) W hOf
              · subst hpi
                rw [if_neg (by omega)] at hte
                rw [two_ok hk hA hB hte]; exact rTwo_25 op a b w f u hw hA hB hb0 W hOf
              · rw [if_neg (by omega)] at hte
                rw [two_ok hk hA hB hte]; exact rTwo_ar op a b w 26 pi f u (by unfold ArP; omega) hw hA hB (.inl hb0) W hOf
    · rw [two_un hk h]; exact rTwo_unfit op a b w f hf (wd_le hw).2 ha hb h pi u W hOf
  · rw [hk]
    have := hOf W
    rw [hf, hu2, hpi] at this
    exact this
end Go.Proofs.YtnhnbcjffnlicaaDoor

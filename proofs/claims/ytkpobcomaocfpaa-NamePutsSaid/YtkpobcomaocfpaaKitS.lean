/-
  Words for strings: a string's bytes ('bs') appended to a slice that the call made; a string's bytes as a new slice.
-/
import Derived.Test.YtkpobcomaocfpaaNmD
import Derived.Lib.AppendStr
import Derived.Lib.ConvBytes
namespace Go.Proofs.Ytkpobcomaocfpaa
open Go.RowKit
set_option linter.unusedVariables false

theorem strCells_bs (s : ByteArray) : Lib.strCells s = (bs s).map U8 := by
  unfold Lib.strCells bs
  rw [List.map_map]; rfl

section
variable {w w' : World} {B C n c : Nat} {A : Option Addr} {v : Value} {l : List Nat}
/-- 'append(v, s...)' of a string. -/
theorem cat_str {ops : Array Oper} {rest : List Oper} {o : Oper} {a : Act} {Q : Exit → Act → World → Prop} (hgd : o.guard = none) (sl x : Operand)
    (ho : o.op = .call { callee := .builtin .append, args := #[sl, x], argTypes := #[22, 9] }) (wr : World) (s : ByteArray)
    (hs : a.eval sl = v) (hx : a.eval x = .string s) (hown : Own B wr v l) (hB : B ≤ wr.heap.size) (k : Nat) (hl : k < 1000000) (hk : l.length + s.size = k)
    (h : ∀ A' c' w', Own B w' (.slice A' k c') (l ++ bs s) → wr.grownBy w' v.ownBlock → wpList Try.prog ops Q rest (a.put o.dst (.slice A' k c')) w') :
    wpList Try.prog ops Q (o :: rest) a wr := by
  obtain ⟨i0, hi0, hz0, hz1, hz2⟩ := info_byte
  subst hk
  refine Lib.wpList_append_own_string _ hgd sl x 22 9 ho B 5 i0 Try.underlying22 Try.underlying9 hi0 hz0 hz1 hz2 v l.length (l.map U8) hs hown s hx (by simp only [maxLen]; omega) (by omega) hB ?_
  intro v' w' hown' hg _
  have h1 : Own B w' v' (l ++ bs s) := by
    rw [strCells_bs] at hown'
    have e : l.length + s.size = (l ++ bs s).length := by rw [List.length_append, bs_len]
    rw [e] at hown'
    simpa [Own] using hown'
  obtain ⟨A', c', rfl⟩ := h1.form
  have e : (l ++ bs s).length = l.length + s.size := by rw [List.length_append, bs_len]
  rw [e] at h1 ⊢
  exact h A' c' w' h1 hg

theorem bytesWorld_below (w : World) (s : ByteArray) : Below w.heap.size w (Lib.bytesWorld w 5 s) :=
  ⟨rfl, rfl, rfl, by rw [Lib.bytesWorld_size]; omega, fun k hk => Lib.bytesWorld_at_old w _ s k hk⟩
/-- '[]byte(s)'. -/
theorem run_bytes (w : World) (s : ByteArray) (hs : s.size ≤ 1000000) : ∃ c, (convert 9 22 (.string s)).run Try.prog w = .ok (.slice (some ⟨w.heap.size, 0, none⟩) s.size c) (Lib.bytesWorld w 5 s) ∧
    Bytes (Lib.bytesWorld w 5 s) (w.heap.size + 1) (some ⟨w.heap.size, 0, none⟩) s.size c (bs s) := by
  refine ⟨_, Lib.run_convert_string_bytes w 9 22 5 s Try.underlying9 Try.underlying22 Try.underlying5, bs_len s, ?_, ?_, bs_lt s, fun h0 => ⟨_, 0, rfl, by omega, fun j hj => ?_⟩⟩
  · exact grownCap_ge _ _ _ _
  · exact grownCap_le_maxLen _ _ _ _ (by simp only [maxLen]; omega)
  · have hj' := hj
    rw [bs_len] at hj'
    rw [Nat.zero_add, Lib.bytesWorld_cell w _ s j hj']
    congr 2
    have e : s.data[j]? = some s.data[j] := Array.getElem?_eq_getElem hj'
    simp [bs, List.getD_eq_getElem?_getD, e]
end
end Go.Proofs.Ytkpobcomaocfpaa

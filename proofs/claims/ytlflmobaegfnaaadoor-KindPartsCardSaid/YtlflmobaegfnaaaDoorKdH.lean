/-
  Layer 4, code: the writing of composite and declared types.
-/
import Derived.Test.YtlflmobaegfnaaaDoorKdG
namespace Go.Proofs.YtlflmobaegfnaaaDoor
open Go.RowKit
set_option linter.unusedVariables false
set_option maxRecDepth 100000

theorem inBr_any (x : List UInt8) (l : List (List UInt8)) (A : Option Addr) (c n : Nat) (w : World) (hn : n = l.length + 1) (hs : Seg 1 Sx w w.heap.size A c (x :: l)) (hl : (Kd.br x l).length ≤ 10000000) (hm : l.length ≤ 1000) :
    Calls Tryd.prog 65 #[.slice A n c] w fun e w' => e = .returned (Str (Kd.br x l)) ∧ Below w.heap.size w w' := by
  subst hn
  obtain ⟨b, off, rfl, hb, hc⟩ := hs.2.2 (by simp)
  have hcap : l.length + 1 ≤ c := by simpa using hs.1
  obtain ⟨t, ht⟩ : ∃ t, x ++ Kd.sp l = t := ⟨_, rfl⟩
  have hlt : t.length ≤ 10000000 := by
    have : (Kd.br x l).length = t.length + 2 := by unfold Kd.br; rw [ht]; simp
    omega
  have HC : Hid (∀ W, Below w.heap.size w W → Calls Tryd.prog 80 #[.slice (some ⟨b, off, none⟩) (l.length + 1) c, .string ⟨#[32]⟩] W fun e w' => e = .returned (Str t) ∧ Below W.heap.size W w') := Lib.hid fun W hW => by
    have e1 : ((x :: l).map (fun l => (⟨l.toArray⟩ : ByteArray))).map (fun b => b.data.toList) = x :: l := by
      rw [List.map_map]
      have : ((fun b : ByteArray => b.data.toList) ∘ fun l : List UInt8 => (⟨l.toArray⟩ : ByteArray)) = id := by funext l; rfl
      rw [this, List.map_id]
    have e2 : Lib.join (((x :: l).map (fun l => (⟨l.toArray⟩ : ByteArray))).map (·.data.toList)) (⟨#[32]⟩ : ByteArray).data.toList = t := by
      rw [e1, ← ht]; exact Kd.join_sp x l
    have h := Tryd.strings_Join b off c ((x :: l).map (fun l => (⟨l.toArray⟩ : ByteArray))) ⟨#[32]⟩ W (fun j y hy => by
      rw [List.getElem?_map] at hy
      obtain ⟨z, hz, rfl⟩ := Option.map_eq_some_iff.1 hy
      have hj := (List.getElem?_eq_some_iff.1 hz).1
      have hz2 : (x :: l)[j] = z := (List.getElem?_eq_some_iff.1 hz).2
      have := hc j hj 0 (.string ⟨z.toArray⟩) (by rw [hz2]; rfl)
      rw [Nat.mul_one, Nat.add_zero] at this
      exact (hW.cell (p := ⟨b, off + j, none⟩) hb).trans this) (Nat.lt_of_lt_of_le hb hW.size) (by simp; omega) (by simp; omega) (by rw [e2]; omega)
    rw [e2] at h
    simpa using h
  have ht' := Lib.hid ht
  clear ht hs hc
  have s1 : (9223372036854775807 < 1 + t.length) = False := eq_false (by omega)
  have s2 : (9223372036854775807 < 1 + t.length + 1) = False := eq_false (by omega)
  go_enter Tryd.func65, Tryd.ntmps65
  go_wp2_with fail
  refine (HC.out _ (Below.refl _ _)).mono ?_
  rintro e w1 ⟨rfl, hb1⟩
  go_wp2
  go_ret
  exact ⟨by unfold Kd.br; rw [ht'.out, cat_, cat_]; simp, hb1⟩
theorem headed_any (x : List UInt8) (l : List (List UInt8)) (A : Option Addr) (c : Nat) (w : World) (hs : Seg 1 Sx w w.heap.size A c l) (hl : (Kd.br x l).length ≤ 10000000) (hm : l.length ≤ 1000) :
    Calls Tryd.prog 82 #[Str x, .slice A l.length c] w fun e w' => e = .returned (Str (Kd.br x l)) ∧ Below w.heap.size w w' := by
  have HL := Lib.hid hl
  have b1 : Below w.heap.size w (w.alloc (.cells #[Str x] 9)) := (Below.refl _ _).alloc (Nat.le_refl _) _
  have hown := Lib.hid (OwnG.lit1 (B := w.heap.size) elemS w (Nat.le_refl _) x #[Str x] rfl)
  have HS := Lib.hid ((hs.below b1))
  have B1 := Lib.hid b1
  clear hs hl b1
  go_enter Tryd.func82, Tryd.ntmps82
  go_wp2_with (at_builtin; refine cat_g elemS rfl _ _ rfl _ l.length rfl rfl hown.out rfl HS.out (by simp) (l.length + 1) (by omega) (by simp; omega) ?_; intro A' c' w2 hown2 hg2)
  have hB2 := hown.out.grown hg2 (Nat.le_refl _) (by simp) B1.out
  obtain ⟨A2, c2, e2, hs2⟩ := hown2.seg elemS
  injection e2 with e3 e4 e5
  subst e3 e5
  refine (inBr_any x l A' c' _ w2 rfl hs2 HL.out hm).mono ?_
  rintro e w3 ⟨rfl, hb3⟩
  dsimp only
  go_wp2
  go_ret
  exact ⟨rfl, below_trans2 hB2 hb3⟩
end Go.Proofs.YtlflmobaegfnaaaDoor

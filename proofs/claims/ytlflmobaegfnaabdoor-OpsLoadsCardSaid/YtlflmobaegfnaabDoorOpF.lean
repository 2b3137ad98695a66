/-
  Layer 5, the library: strings.FieldsSeq over a row of printed letters and blanks, its contract.
-/
import Derived.Test.YtlflmobaegfnaabDoorOpT
import Derived.Test.YtlflmobaegfnaabDoorKitX
import Derived.Shelf.Abstract
import Derived.Shelf.RegionOpen
import Derived.WalkKit
import Derived.OwnWalkIn
import Derived.TacticsInMore
import Derived.LoopNIn
import Derived.LoopIn
namespace Go.Proofs.YtlflmobaegfnaabDoor
open Go.RowKit Go.Shelf
attribute [local go_sem] Oper.semAt_some
set_option linter.unusedVariables false
set_option linter.unusedSimpArgs false
set_option maxRecDepth 100000

abbrev Sv (l : List UInt8) : Value := .string ⟨l.toArray⟩
/-- The library's table of blanks, as far as it is read here. -/
def Tab5 (W : World) : Prop := ∀ c : Nat, 32 ≤ c → c < 128 → W.cell? ⟨0, c, none⟩ = some (.int .u8 (if c = 32 then 1 else 0))
theorem Tab5.lt {W : World} (h : Tab5 W) : 0 < W.heap.size := World.block_lt_of_cell? W ⟨0, 32, none⟩ (h 32 (by decide) (by decide))
theorem Tab5.below {B : Nat} {W W' : World} (h : Tab5 W) (hb : Below B W W') (hB : 0 < B) : Tab5 W' := fun c h1 h2 => (hb.cell (p := ⟨0, c, none⟩) hB).trans (h c h1 h2)
theorem Tab5.keep {D : Nat → Nat → Prop} {W W' : World} (h : Tab5 W) (hk : Keep D W W') (hD : ∀ o, ¬ D 0 o) : Tab5 W' := fun c h1 h2 => hk.cells _ _ _ (hD c) (h c h1 h2)
namespace Op5
theorem take_drop_snoc (l : List UInt8) (k st : Nat) (hk : k < l.length) (hs : st ≤ k) : (l.take (k + 1)).drop st = (l.take k).drop st ++ [l[k]] := by
  rw [List.take_succ_eq_append_getElem hk, List.drop_append_of_le_length (by rw [List.length_take]; omega)]
theorem take_drop_len (l : List UInt8) (k st : Nat) (hk : k ≤ l.length) (hs : st < k) : (l.take k).drop st ≠ [] := fun e => by
  have := congrArg List.length e
  simp at this
  omega
theorem take_drop_self (l : List UInt8) (k : Nat) : (l.take k).drop k = [] := by simp
theorem step_blank (l : List UInt8) (k : Nat) (hk : k < l.length) (hc : l[k] = 32) : wgo (l.drop k) ((l.take k).drop k) = wgo (l.drop (k + 1)) ((l.take (k + 1)).drop (k + 1)) := by
  rw [List.drop_eq_getElem_cons hk, take_drop_self, take_drop_self]
  simp [wgo, hc]
theorem step_word (l : List UInt8) (k st : Nat) (hk : k < l.length) (hs : st < k) (hc : l[k] = 32) : wgo (l.drop k) ((l.take k).drop st) = (l.take k).drop st :: wgo (l.drop (k + 1)) ((l.take (k + 1)).drop (k + 1)) := by
  rw [List.drop_eq_getElem_cons hk, take_drop_self]
  simp [wgo, hc, take_drop_len l k st (Nat.le_of_lt hk) hs]
theorem step_letter (l : List UInt8) (k st : Nat) (hk : k < l.length) (hs : st ≤ k) (hc : l[k] ≠ 32) : wgo (l.drop k) ((l.take k).drop st) = wgo (l.drop (k + 1)) ((l.take (k + 1)).drop st) := by
  rw [List.drop_eq_getElem_cons hk, take_drop_snoc l k st hk hs]
  simp [wgo, hc]
theorem step_end (l : List UInt8) (st : Nat) (hs : st < l.length) : wgo (l.drop l.length) ((l.take l.length).drop st) = [(l.take l.length).drop st] := by
  rw [List.drop_length]
  have h := take_drop_len l l.length st (Nat.le_refl _) hs
  show (if _ = [] then _ else _) = _
  rw [if_neg h]
theorem step_none (l : List UInt8) : wgo (l.drop l.length) ((l.take l.length).drop l.length) = [] := by
  rw [List.drop_length, take_drop_self]
  rfl
end Op5
theorem extract_sv (s : ByteArray) (a b : Nat) : Value.string (s.extract a b) = Sv ((s.data.toList.take b).drop a) := by
  unfold Sv
  congr 1
  apply ByteArray.ext
  rw [ByteArray.data_extract]
  apply Array.toList_inj.1
  rw [Array.toList_extract, List.extract_eq_take_drop, List.take_drop]
  by_cases h : a ≤ b
  · rw [Nat.add_sub_cancel' h]
  · rw [Nat.sub_eq_zero_of_le (by omega)]
    simp only [Nat.add_zero]
    rw [List.drop_eq_nil_of_le (by rw [List.length_take]; omega), List.drop_eq_nil_of_le (by rw [List.length_take]; omega)]
theorem yield_sv {F : Fence} {m : Nat} {P : Program} {l : Nat} {x : List UInt8} {s : ByteArray} {a b : Nat} {W : World} {R : Ending → World → Prop} (h : YieldAt F m P l #[Sv x] W R) (e : x = (s.data.toList.take b).drop a) : YieldAt F m P l #[.string (s.extract a b)] W R := by
  rw [extract_sv, ← e]; exact h

set_option maxHeartbeats 2000000 in
theorem fields1_seq (F : Fence) (n : Nat) (hF : F.fn 20) (hro : F.round = none) (hn : 1 ≤ n) (D : Nat → Nat → Prop) (w : World) (Bs : Nat) (s : ByteArray) (hDs : ∀ o, ¬ D Bs o) (hDg : ∀ o, ¬ D 0 o) (hT : Tab5 w)
    (x0 : w.cell? ⟨Bs, 0, none⟩ = some (.string s)) (hz : s.size ≤ 100000) (hs : ∀ c ∈ s.data.toList, c = 32 ∨ (32 < c ∧ c < 128)) :
    SeqX F n Tryd.prog 20 #[.pointer (some ⟨Bs, 0, none⟩)] (fun x : List UInt8 => #[Sv x]) D (· = Op5.words s.data.toList) (· <+: Op5.words s.data.toList) (Op5.words s.data.toList).length w := by
  intro l J Jx W hW hl1 hl2 hJ hJx hY h0
  have bs : Bs < w.heap.size := World.block_lt_of_cell? w ⟨Bs, 0, none⟩ x0
  have bg := hT.lt
  have fx : ∀ W' : World, Keep (fun k o => D k o ∨ k = l) W W' → W'.cell? ⟨Bs, 0, none⟩ = some (.string s) ∧ Tab5 W' := fun W' hk => by
    have ns : ¬ (D Bs 0 ∨ Bs = l) := fun e => by rcases e with e | e; exact hDs _ e; omega
    have ng : ∀ o, ¬ (D 0 o ∨ 0 = l) := fun o e => by rcases e with e | e; exact hDg _ e; omega
    exact ⟨hk.cells _ _ _ ns ((hW.cell (p := ⟨Bs, 0, none⟩) bs).trans x0), (hT.below hW bg).keep hk ng⟩
  have FX := Lib.hid fx
  have HY := Lib.hid hY
  have y0 := (fx W (Keep.refl W)).1
  have hlen : s.data.toList.length = s.size := by simp
  have HL := Lib.hid hlen
  have HS := Lib.hid hs
  clear x0 fx hY hlen hs hT hJ hJx
  refine callsIn_of_wp Tryd.func20 rfl hF ?_ hro
  simp only [Tryd.ntmps20, List.size_toArray, List.length_cons, List.length_nil, Nat.reduceAdd, Nat.reduceSub, Array.replicate_succ, Array.replicate_zero, List.push_toArray, List.append_toArray, List.nil_append, List.cons_append]
  gi_wp2
  gi_loopw [3, 4] (fun st i wr => ∃ (k b : Nat) (pre : List (List UInt8)), k ≤ s.size ∧ i = .int .i64 k ∧ ((st = .int .i64 (-1) ∧ b = k) ∨ (st = .int .i64 b ∧ b < k)) ∧ pre ++ Op5.wgo (s.data.toList.drop k) ((s.data.toList.take k).drop b) = Op5.words s.data.toList ∧ J pre wr ∧ Keep (fun k o => D k o ∨ k = l) W wr) (fun _ i _ => s.size - (intOf i).toNat)
  case atStart => exact ⟨0, 0, [], Nat.zero_le _, rfl, .inl ⟨rfl, rfl⟩, by simp [Op5.words], h0, Keep.refl W⟩
  case round =>
    obtain ⟨k, b, pre, hk, rfl, hst, hpre, hJk, hK⟩ := hrel
    obtain ⟨q0, qT⟩ := FX.out wr hK
    have HP := Lib.hid hpre
    clear hpre
    by_cases hlt : k < s.size
    · have hkl : k < s.data.toList.length := by rw [HL.out]; exact hlt
      have hm := HS.out _ (List.getElem_mem hkl)
      obtain ⟨y, hy⟩ : ∃ y, (s[k]'hlt).toNat = y := ⟨_, rfl⟩
      have hcy : s.data.toList[k] = s[k]'hlt := rfl
      by_cases hc : s.data.toList[k] = 32
      · have hy32 : y = 32 := by rw [← hy, ← hcy, hc]; rfl
        subst hy32
        have t0 := qT 32 (by decide) (by decide)
        simp only [if_true] at t0
        have HC := Lib.hid hc
        clear hc hcy qT hm
        rcases hst with ⟨rfl, rfl⟩ | ⟨rfl, hb⟩
        · gi_wp2
          go_roundw
          case rel =>
            refine ⟨b + 1, b + 1, pre, by omega, by go_num, .inl ⟨rfl, rfl⟩, ?_, hJk, hK⟩
            rw [← Op5.step_blank _ b hkl HC.out]
            exact HP.out
          case measure => simp [intOf]; omega
        · have hpw : Hid (pre ++ ((s.data.toList.take k).drop b :: Op5.wgo (s.data.toList.drop (k + 1)) ((s.data.toList.take (k + 1)).drop (k + 1))) = Op5.words s.data.toList) := Lib.hid (by
            rw [← Op5.step_word _ k b hkl hb HC.out]
            exact HP.out)
          have hpl : pre.length < (Op5.words s.data.toList).length := by
            rw [← hpw.out]
            simp
          have hk' : b ≤ k := by omega
          have hb' : b < s.size := by omega
          obtain ⟨fn, tmps, assign, body, hy', hR⟩ := yield_sv (HY.out pre _ wr hJk hpl) (s := s) (a := b) (b := k) rfl
          clear hpl
          gi_wp2
          refine hR.mono ?_
          rintro e W' (⟨rfl, hJ', hk'⟩ | ⟨rfl, hJx', -⟩)
          · gi_wp2
            go_roundw
            case rel => exact ⟨k + 1, k + 1, _, by omega, by go_num, .inl ⟨rfl, rfl⟩, by rw [← hpw.out]; simp, hJ', hK.trans hk'⟩
            case measure => simp [intOf]; omega
          · gi_wp2
            refine bodyPost_ret (results_none rfl _ _ _) rfl ?_
            exact ⟨⟨_, rfl⟩, .inr ⟨_, ⟨_, by rw [← hpw.out, List.append_assoc]; rfl⟩, hJx'⟩⟩
      · have hc2 : 32 < s.data.toList[k] ∧ s.data.toList[k] < 128 := by
          rcases hm with h | h
          · exact absurd h hc
          · exact h
        have hy1 : (32 : Int) < y := by
          have h1 := UInt8.lt_iff_toNat_lt.1 hc2.1
          rw [hcy, hy] at h1
          have : (32 : UInt8).toNat = 32 := rfl
          omega
        have hy2 : (y : Int) < 128 := by
          have h1 := UInt8.lt_iff_toNat_lt.1 hc2.2
          rw [hcy, hy] at h1
          have : (128 : UInt8).toNat = 128 := rfl
          omega
        have t0 := qT y (by omega) (by omega)
        rw [if_neg (by omega)] at t0
        have HC := Lib.hid hc
        clear hc hcy qT hm hc2
        rcases hst with ⟨rfl, rfl⟩ | ⟨rfl, hb⟩
        · gi_wp2
          go_roundw
          case rel =>
            refine ⟨b + 1, b, pre, by omega, by go_num, .inr ⟨rfl, by omega⟩, ?_, hJk, hK⟩
            rw [← Op5.step_letter _ b b hkl (Nat.le_refl _) HC.out]
            exact HP.out
          case measure => simp [intOf]; omega
        · gi_wp2
          go_roundw
          case rel =>
            refine ⟨k + 1, b, pre, by omega, by go_num, .inr ⟨rfl, by omega⟩, ?_, hJk, hK⟩
            rw [← Op5.step_letter _ k b hkl (Nat.le_of_lt hb) HC.out]
            exact HP.out
          case measure => simp [intOf]; omega
    · obtain rfl : k = s.size := by omega
      clear hlt hk
      have HPn : Hid (pre ++ Op5.wgo (s.data.toList.drop s.data.toList.length) ((s.data.toList.take s.data.toList.length).drop b) = Op5.words s.data.toList) := Lib.hid (by
        rw [HL.out]
        exact HP.out)
      rcases hst with ⟨rfl, rfl⟩ | ⟨rfl, hb⟩
      · gi_wp2
        go_end0
        refine ⟨⟨_, rfl⟩, .inl ⟨_, ?_, hJk⟩⟩
        have h := HPn.out
        rw [show s.size = s.data.toList.length by rw [HL.out], Op5.step_none, List.append_nil] at h
        exact h
      · have hbl : b < s.data.toList.length := by rw [HL.out]; exact hb
        have hpw : Hid (pre ++ [(s.data.toList.take s.size).drop b] = Op5.words s.data.toList) := Lib.hid (by
          have h := HPn.out
          rw [Op5.step_end _ b hbl, HL.out] at h
          exact h)
        have hpl : pre.length < (Op5.words s.data.toList).length := by
          rw [← hpw.out]
          simp
        obtain ⟨fn, tmps, assign, body, hy', hR⟩ := yield_sv (HY.out pre _ wr hJk hpl) (s := s) (a := b) (b := s.size) rfl
        clear hpl hbl
        gi_wp2
        refine hR.mono ?_
        rintro e W' (⟨rfl, hJ', hk'⟩ | ⟨rfl, hJx', -⟩)
        · gi_wp2
          go_end0
          exact ⟨⟨_, rfl⟩, .inl ⟨_, hpw.out, hJ'⟩⟩
        · gi_wp2
          go_end0
          exact ⟨⟨_, rfl⟩, .inr ⟨_, by rw [hpw.out]; exact List.prefix_refl _, hJx'⟩⟩
end Go.Proofs.YtlflmobaegfnaabDoor

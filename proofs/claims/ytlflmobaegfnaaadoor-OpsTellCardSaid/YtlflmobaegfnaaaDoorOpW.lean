/-
  Layer 5, the document's side: the words of a row.
-/
import Derived.Test.YtlflmobaegfnaaaDoorOpE
import Derived.Test.YtlflmobaegfnaaaDoorKitG
import Derived.Test.YtlflmobaegfnaaaDoorKitR
namespace Go.Proofs.YtlflmobaegfnaaaDoor
open Go.RowKit
set_option linter.unusedVariables false
set_option linter.unusedSimpArgs false
set_option maxRecDepth 100000

namespace Op5
theorem words_len_le : ∀ (l cur : List UInt8), (wgo l cur).length ≤ l.length + 1
  | [], cur => by unfold wgo; split <;> simp
  | c :: r, cur => by
    unfold wgo
    split
    · split
      · have := words_len_le r []; simp; omega
      · have := words_len_le r []; simp; omega
    · have := words_len_le r (cur ++ [c]); simp; omega
end Op5
set_option maxHeartbeats 4000000 in
theorem words_any (s : ByteArray) (w : World) (hz : s.size ≤ 5000) :
    Calls Tryd.prog 59 #[.string s] w fun e w' => (∃ A c, e = .returned (.slice A (Op5.words s.data.toList).length c) ∧ OwnG 9 1 Sx w.heap.size w' (.slice A (Op5.words s.data.toList).length c) (Op5.words s.data.toList)) ∧ Below w.heap.size w w' := by
  obtain ⟨Q, hQ⟩ : ∃ Q : Ending → World → Prop, Q = (fun e w' => (∃ A c, e = .returned (.slice A (Op5.words s.data.toList).length c) ∧ OwnG 9 1 Sx w.heap.size w' (.slice A (Op5.words s.data.toList).length c) (Op5.words s.data.toList)) ∧ Below w.heap.size w w') := ⟨_, rfl⟩
  rw [← hQ]
  have HQ := Lib.hid hQ
  clear hQ
  have HL := Lib.hid (show s.data.toList.length = s.size by simp)
  have HWL := Lib.hid (Op5.words_len_le s.data.toList [])
  go_enter Tryd.func59, Tryd.ntmps59
  go_wp2
  go_loopw [3, 4, 5] (fun o fr i wr => ∃ (k b m : Nat) (pre : List (List UInt8)) (A : Option Addr) (c : Nat), i = .int .i64 k ∧ fr = .int .i64 b ∧ o = .slice A m c ∧ m = pre.length ∧ ((k ≤ s.size ∧ b ≤ k ∧ pre ++ Op5.wgo (s.data.toList.drop k) ((s.data.toList.take k).drop b) = Op5.words s.data.toList) ∨ (k = s.size + 1 ∧ pre = Op5.words s.data.toList)) ∧ OwnG 9 1 Sx w.heap.size wr (.slice A m c) pre ∧ Below w.heap.size w wr) (fun _ _ i _ => s.size + 1 - (intOf i).toNat)
  case atStart => exact ⟨0, 0, 0, [], none, 0, rfl, rfl, rfl, rfl, .inl ⟨by omega, by omega, by simp [Op5.words]⟩, OwnG.nil _ _, Below.refl _ _⟩
  case round =>
    obtain ⟨k, b, m, pre, A, c, rfl, rfl, rfl, hm, hst, hO, hB⟩ := hrel
    have HO := Lib.hid hO
    have HB := Lib.hid hB
    have HM := Lib.hid hm
    clear hO hB hm
    rcases hst with ⟨hk, hb, hp⟩ | ⟨rfl, rfl⟩
    · have HP := Lib.hid hp
      clear hp
      have hml : Hid (m ≤ s.size + 1) := Lib.hid (by
        have h1 := congrArg List.length HP.out
        rw [List.length_append] at h1
        have h2 := HWL.out
        unfold Op5.words at h1
        have := HM.out
        have := HL.out
        omega)
      have htl : decide ((k : Int) ≤ (s.size : Int)) = true := by simp; omega
      by_cases hlt : k < s.size
      · have hkl : k < s.data.toList.length := by rw [HL.out]; exact hlt
        have heq : ((k : Int) == (s.size : Int)) = false := by simp; omega
        have hcy : s.data.toList[k] = s[k]'hlt := rfl
        obtain ⟨y, hy⟩ : ∃ y, (s[k]'hlt).toNat = y := ⟨_, rfl⟩
        by_cases hc : s.data.toList[k] = 32
        · have hy32 : y = 32 := by rw [← hy, ← hcy, hc]; rfl
          subst hy32
          have HC := Lib.hid hc
          clear hc hcy
          by_cases hbk : b < k
          · have hl2 : Hid (m + 1 < 1000000) := Lib.hid (by have := hml.out; omega)
            have hl3 : Hid (pre.length + 1 = m + 1) := Lib.hid (by rw [HM.out])
            have hBz : Hid (w.heap.size ≤ wr.heap.size) := Lib.hid HB.out.size
            have hxy : Hid ((#[Value.string (s.extract b k)] : Array Value).toList = Sx ((s.data.toList.take k).drop b)) := Lib.hid (by rw [extract_sv]; rfl)
            have hgt : decide ((b : Int) < (k : Int)) = true := by simp; omega
            go_wp2_with (at_builtin; refine push_at elemS rfl _ _ rfl wr _ rfl ((s.data.toList.take k).drop b) _ _ rfl rfl HO.out hBz.out (m + 1) hl2.out hl3.out hxy.out ?_; intro A8 c8 w4 hown8 hg8 hr8)
            go_roundw
            case rel =>
              refine ⟨k + 1, k + 1, m + 1, pre ++ [(s.data.toList.take k).drop b], A8, c8, by go_num, by go_num, rfl, by rw [List.length_append, HM.out]; rfl, .inl ⟨by omega, by omega, ?_⟩, hown8, HO.out.grown hg8 (Nat.le_refl _) hBz.out HB.out⟩
              have h := HP.out
              rw [Op5.step_word _ k b hkl hbk HC.out] at h
              rw [← h, List.append_assoc]
              rfl
            case measure => simp [intOf]; omega
          · obtain rfl : b = k := by omega
            have hgt : decide ((b : Int) < (b : Int)) = false := by simp
            go_wp2
            go_roundw
            case rel =>
              refine ⟨b + 1, b + 1, m, pre, A, c, by go_num, by go_num, rfl, HM.out, .inl ⟨by omega, by omega, ?_⟩, HO.out, HB.out⟩
              rw [← Op5.step_blank _ b hkl HC.out]
              exact HP.out
            case measure => simp [intOf]; omega
        · have hy32 : ((y : Int) == 32) = false := by
            have h : y ≠ 32 := fun e => hc (by
              rw [hcy]
              exact UInt8.toNat_inj.1 (by rw [hy, e]; rfl))
            simp; omega
          have HC := Lib.hid hc
          clear hc hcy
          go_wp2
          go_roundw
          case rel =>
            refine ⟨k + 1, b, m, pre, A, c, by go_num, rfl, rfl, HM.out, .inl ⟨by omega, by omega, ?_⟩, HO.out, HB.out⟩
            rw [← Op5.step_letter _ k b hkl hb HC.out]
            exact HP.out
          case measure => simp [intOf]; omega
      · obtain rfl : k = s.size := by omega
        have heq : ((s.size : Int) == (s.size : Int)) = true := by simp
        have HPn : Hid (pre ++ Op5.wgo (s.data.toList.drop s.data.toList.length) ((s.data.toList.take s.data.toList.length).drop b) = Op5.words s.data.toList) := Lib.hid (by
          rw [HL.out]
          exact HP.out)
        by_cases hbk : b < s.size
        · have hl2 : Hid (m + 1 < 1000000) := Lib.hid (by have := hml.out; omega)
          have hl3 : Hid (pre.length + 1 = m + 1) := Lib.hid (by rw [HM.out])
          have hBz : Hid (w.heap.size ≤ wr.heap.size) := Lib.hid HB.out.size
          have hxy : Hid ((#[Value.string (s.extract b s.size)] : Array Value).toList = Sx ((s.data.toList.take s.size).drop b)) := Lib.hid (by rw [extract_sv]; rfl)
          have hgt : decide ((b : Int) < (s.size : Int)) = true := by simp; omega
          go_wp2_with (at_builtin; refine push_at elemS rfl _ _ rfl wr _ rfl ((s.data.toList.take s.size).drop b) _ _ rfl rfl HO.out hBz.out (m + 1) hl2.out hl3.out hxy.out ?_; intro A8 c8 w4 hown8 hg8 hr8)
          go_roundw
          case rel =>
            refine ⟨s.size + 1, s.size + 1, m + 1, pre ++ [(s.data.toList.take s.size).drop b], A8, c8, by go_num, by go_num, rfl, by rw [List.length_append, HM.out]; rfl, .inr ⟨rfl, ?_⟩, hown8, HO.out.grown hg8 (Nat.le_refl _) hBz.out HB.out⟩
            have h := HPn.out
            rw [Op5.step_end _ b (by rw [HL.out]; exact hbk), HL.out] at h
            exact h
          case measure => simp [intOf] <;> omega
        · obtain rfl : b = s.size := by omega
          have hgt : decide ((s.size : Int) < (s.size : Int)) = false := by simp
          go_wp2
          go_roundw
          case rel =>
            refine ⟨s.size + 1, s.size + 1, m, pre, A, c, by go_num, by go_num, rfl, HM.out, .inr ⟨rfl, ?_⟩, HO.out, HB.out⟩
            have h := HPn.out
            rw [show s.size = s.data.toList.length by rw [HL.out], Op5.step_none, List.append_nil] at h
            exact h
          case measure => simp [intOf] <;> omega
    · have htl : decide (((s.size + 1 : Nat) : Int) ≤ (s.size : Int)) = false := by simp; omega
      obtain rfl : m = (Op5.words s.data.toList).length := HM.out
      go_wp2
      rw [HQ.out]
      exact ⟨⟨A, c, rfl, HO.out⟩, HB.out⟩
end Go.Proofs.YtlflmobaegfnaaaDoor

/-
  The document's own way to read a number, walked: bit, Bits, U, S.
-/
import Derived.Test.YtphmknhlibampaaDoorKitI
import Derived.Test.YtphmknhlibampaaDoorLebK
import Derived.Test.YtphmknhlibampaaDoorLebB
import Derived.Deep.DeepCutAuto
namespace Go.Proofs.YtphmknhlibampaaDoor
open Go.RowKit
set_option linter.unusedVariables false

theorem bit_any (x place : Nat) (w : World) (hx : x < 256) (hp : place ≤ 7) :
    Calls Tryd.prog 104 #[.int .u8 x, .int .i64 place] w fun e w' => e = .returned (.int .i64 (x / 2 ^ place % 2 : Nat)) ∧ w = w' := by
  have hx0 : (x : Int) < 256 := by omega
  go_enter Tryd.func104, Tryd.ntmps104
  go_wp2_with fail
  go_loop [0, 5] (fun u i => ∃ (y j : Nat), u = .int .u8 y ∧ i = .int .i64 j ∧ j ≤ place ∧ y < 256 ∧ Hid (x / 2 ^ j = y)) (fun _ i => place - (intOf i).toNat)
  case atStart => exact ⟨x, 0, rfl, rfl, by omega, hx, by simp [Hid]⟩
  case round =>
    obtain ⟨y, j, rfl, rfl, hj, hy, H⟩ := hrel
    have hyI : (y : Int) < 256 := by omega
    have HY := Lib.hid hy
    clear hy
    by_cases hlt : j < place
    · go_wp2_with fail
      go_round
      case rel => exact ⟨y / 2, j + 1, by congr 1, rfl, by omega, by have := HY.out; omega, by rw [Hid, Nat.pow_succ, ← Nat.div_div_eq_div_mul, H.out]⟩
      case measure => simp [intOf]; omega
    · obtain rfl : j = place := by omega
      go_wp2_with fail
      go_ret
      exact ⟨ret_int (by have := H.out; simp [← this]), rfl⟩

/-- What Bits hands back. -/
def BitsTold (r : List Nat × Nat × Nat) (w : World) (e : Ending) (w' : World) : Prop :=
  ∃ A c, e = .returned (.tuple #[.slice A r.1.length c, .int .i64 r.2.1, .int .i64 r.2.2]) ∧ OwnI w.heap.size w' (.slice A r.1.length c) r.1 ∧ Below w.heap.size w w'

set_option maxRecDepth 100000 in
set_option maxHeartbeats 2000000 in
theorem Bits_any (A : Option Addr) (n c : Nat) (l : List Nat) (bits : Nat) (sg : Bool) (w : World) (hy : Bytes w w.heap.size A n c l) (h1 : 1 ≤ bits) (h2 : bits ≤ 64) :
    Calls Tryd.prog 80 #[.slice A n c, .int .i64 bits, .bool sg] w (BitsTold (Leb.rdB bits sg l 0 []) w) := by
  have hm := hy.2.2.1
  have hnc := hy.2.1
  unfold maxLen at hm
  have Hn := Lib.hid hy.1
  have Hlt := Lib.hid hy.2.2.2.1
  go_enter Tryd.func80, Tryd.ntmps80
  go_wp2_with fail
  go_loopw [9, 10] (fun v t wr => ∃ (i : Nat) (A' : Option Addr) (c' : Nat) (all : List Nat), v = .slice A' (7 * i) c' ∧ t = .int .i64 i ∧ i ≤ n ∧ i ≤ 9 ∧ 7 * i < bits ∧ Hid (all.length = 7 * i) ∧ Hid (∀ y ∈ all, y < 2) ∧ OwnI w.heap.size wr (.slice A' (7 * i) c') all ∧ Below w.heap.size w wr ∧
      Hid (Leb.rdB bits sg l 0 [] = Leb.rdB bits sg (l.drop i) i all))
    (fun _ t _ => n - (intOf t).toNat)
  case atStart => exact ⟨0, none, 0, [], rfl, rfl, by omega, by omega, by omega, rfl, by simp [Hid], OwnI.nil w _, Below.refl _ _, rfl⟩
  case round =>
    obtain ⟨i, A1, c1, all, rfl, rfl, hi, hi9, hib, Hal, Ha2, ho, hb, HR⟩ := hrel
    by_cases hend : i = n
    · subst hend
      have e := HR.out
      rw [List.drop_of_length_le (show l.length ≤ i by rw [Hn.out]; omega)] at e
      have E : Hid (Leb.rdB bits sg l 0 [] = ([], 0, 10)) := e
      clear e
      go_wp2_with fail
      go_ret3
      refine ⟨none, 0, ?_, ?_, hb⟩
      · rw [E.out]; try rfl
      · rw [E.out]; exact OwnI.nil _ _
    · have hin : i < n := by omega
      obtain ⟨b, off, rfl, hbC, hcell⟩ := (hy.below hb).at_ (by omega)
      have hil : i < l.length := by rw [Hn.out]; exact hin
      have hc := hcell i hil
      have hx := Hlt.out l[i] (List.getElem_mem hil)
      have H3 : Hid (l.drop i = l[i] :: l.drop (i + 1)) := List.drop_eq_getElem_cons hil
      generalize l[i] = x at hc hx H3
      clear hcell
      have HX := Lib.hid hx
      have hxI : (x : Int) < 256 := by omega
      have hbs := hb.size
      have hni : decide (n ≤ i) = false := by simp; omega
      clear hx hend
      go_wp2_with fail
      obtain ⟨wo, rfl⟩ : ∃ wo : World, wo = wr := ⟨_, rfl⟩
      go_loopw [9, 11] (fun v t wr => ∃ (k : Nat) (A' : Option Addr) (c' : Nat), v = .slice A' (7 * i + k) c' ∧ t = .int .i64 k ∧ k ≤ 7 ∧ OwnI w.heap.size wr (.slice A' (7 * i + k) c') (all ++ (Leb.bits7 x).take k) ∧ Below w.heap.size w wr ∧ wr.cell? ⟨b, off + i, none⟩ = some (.int .u8 (x : Int)))
        (fun _ t _ => 7 - (intOf t).toNat)
      case atStart => exact ⟨0, A1, c1, rfl, rfl, by omega, by simpa using ho, hb, hc⟩
      case round =>
        obtain ⟨k, A2, c2, rfl, rfl, hk, ho2, hb2, hc2⟩ := hrel
        clear ho hb hc hbs
        have hbs := hb2.size
        by_cases hk7 : k < 7
        · have hlen : Hid ((all ++ (Leb.bits7 x).take k).length = 7 * i + k) := by rw [Hid, List.length_append, Hal.out, List.length_take]; simp [Leb.bits7]; omega
          go_wp2_with (first
            | (go_at_call 104; refine (bit_any x k _ HX.out (by omega)).mono ?_; rintro e w' ⟨rfl, rfl⟩)
            | (at_builtin; refine push_int rfl (.tmp 24) (.tmp 31) rfl wr _ rfl (x / 2 ^ k % 2) _ rfl rfl ho2 hb2.size (by rw [hlen.out]; omega) (7 * i + (k + 1)) (by rw [hlen.out]; omega) ?_ (by simp); intro A3 c3 w3 ho3 hg3))
          have hown3 := ho3
          rw [List.append_assoc, ← Leb.bits7_take x k hk7] at hown3
          have hcx : w3.cell? ⟨b, off + i, none⟩ = some (.int .u8 (x : Int)) := by
            have hg4 := (ho2.grown hg3 (Nat.le_refl _) hb2.size hb2)
            exact ((hg4.cell (p := ⟨b, off + i, none⟩) hbC).trans (hb2.cell (p := ⟨b, off + i, none⟩) hbC).symm).trans hc2
          go_roundw
          case rel => exact ⟨k + 1, A3, c3, rfl, rfl, by omega, hown3, ho2.grown hg3 (Nat.le_refl _) hb2.size hb2, hcx⟩
          case measure => simp [intOf]; omega
        · obtain rfl : k = 7 := by omega
          rw [show (Leb.bits7 x).take 7 = Leb.bits7 x from rfl] at ho2
          have hal : Hid ((all ++ Leb.bits7 x).length = 7 * i + 7) := by rw [Hid, List.length_append, Hal.out]; rfl
          obtain ⟨mv, hmv⟩ : ∃ mv, mv = Leb.must bits sg (all ++ Leb.bits7 x) := ⟨_, rfl⟩
          have HM := Lib.hid hmv
          clear hmv
          obtain ⟨hlen7, g, rfl, hg, hgs, hci⟩ := ho2.open_ (by omega)
          have HL7 := Lib.hid hlen7
          have HCI := Lib.hid hci
          clear hlen7 hci
          cases sg
          · have hm0 : mv = 0 := by rw [HM.out]; rfl
            subst hm0
            go_wp2_with fail
            obtain ⟨wq, rfl⟩ : ∃ wq : World, wq = wr := ⟨_, rfl⟩
            go_loopw [13] (fun t wr => ∃ p : Nat, t = .int .i64 p ∧ bits ≤ p ∧ wr = wq ∧ Hid (∀ q, bits ≤ q → q < p → ∀ h : q < (all ++ Leb.bits7 x).length, (all ++ Leb.bits7 x)[q] = 0)) (fun t _ => 7 * i + 7 + 64 - (intOf t).toNat)
            case atStart => exact ⟨bits, rfl, by omega, rfl, by intro q h1 h2; omega⟩
            case round =>
              obtain ⟨p, rfl, hpb, rfl, HP⟩ := hrel
              by_cases hp : p < 7 * i + 7
              · have hpl : p < (all ++ Leb.bits7 x).length := by rw [hal.out]; exact hp
                have hcp := HCI.out p hpl
                have hbad := Leb.bad_true bits false (all ++ Leb.bits7 x) p hpb hpl
                have hstep : (all ++ Leb.bits7 x)[p] = 0 → ∀ q, bits ≤ q → q < p + 1 → ∀ h : q < (all ++ Leb.bits7 x).length, (all ++ Leb.bits7 x)[q] = 0 := by
                  intro hv q h1 h2 h3
                  rcases Nat.lt_or_ge q p with h4 | h4
                  · exact HP.out q h1 h4 h3
                  · obtain rfl : q = p := by omega
                    exact hv
                generalize (all ++ Leb.bits7 x)[p] = yv at hcp hbad hstep
                have Hbad := Lib.hid hbad
                have Hstep := Lib.hid hstep
                clear hbad hstep
                by_cases hv : yv = 0
                · have hne : ((yv : Int) != (0 : Int)) = false := by simp [hv]
                  have Hv := Lib.hid hv
                  clear hv
                  go_wp2_with fail
                  go_roundw
                  case rel => exact ⟨p + 1, rfl, by omega, by first | rfl | trivial, Hstep.out Hv.out⟩
                  case measure => simp [intOf]; omega
                · have hne : ((yv : Int) != (0 : Int)) = true := by simp; omega
                  have HB : Hid (Leb.bad bits false (all ++ Leb.bits7 x) = true) := Hbad.out (by rw [← HM.out]; exact hv)
                  clear hv
                  go_wp2_with fail
                  go_ret3
                  have e := HR.out
                  rw [H3.out, Leb.rdB, HB.out, if_pos rfl] at e
                  refine ⟨none, 0, ?_, ?_, hb2⟩
                  · rw [e]; try rfl
                  · rw [e]; exact OwnI.nil _ _
              · have HB : Hid (Leb.bad bits false (all ++ Leb.bits7 x) = false) := Leb.bad_false bits false _ fun q h1 h2 => by rw [← HM.out]; exact HP.out q h1 (by rw [hal.out] at h2; omega) h2
                have e := HR.out
                rw [H3.out, Leb.rdB, HB.out] at e
                simp only [Bool.false_eq_true, if_false] at e
                by_cases h128 : x < 128
                · rw [if_pos h128] at e
                  have E := Lib.hid e
                  have hI : (x : Int) < 128 := by omega
                  clear e h128
                  go_wp2_with fail
                  go_ret3
                  refine ⟨some ⟨g, 0, none⟩, c2, ?_, ?_, hb2⟩
                  · rw [E.out, show (all ++ Leb.bits7 x).length = 7 * i + 7 from hal.out]; try rfl
                  · rw [E.out, show (all ++ Leb.bits7 x).length = 7 * i + 7 from hal.out]; exact ho2
                · rw [if_neg h128] at e
                  have hI : (128 : Int) ≤ (x : Int) := by omega
                  clear h128
                  by_cases hle : bits ≤ 7 * (i + 1)
                  · rw [if_pos hle] at e
                    have E := Lib.hid e
                    clear e
                    go_wp2_with fail
                    go_ret3
                    refine ⟨none, 0, ?_, ?_, hb2⟩
                    · rw [E.out]; try rfl
                    · rw [E.out]; exact OwnI.nil _ _
                  · rw [if_neg hle] at e
                    have E := Lib.hid e
                    have hgt : 7 * (i + 1) < bits := by omega
                    have HA2 : Hid (∀ y ∈ all ++ Leb.bits7 x, y < 2) := fun y hy => by
                      rcases List.mem_append.1 hy with h | h
                      · exact Ha2.out y h
                      · exact Leb.bits7_lt x y h
                    clear e hle
                    go_wp2_with fail
                    go_roundw
                    case rel => exact ⟨i + 1, _, c2, all ++ Leb.bits7 x, rfl, rfl, by omega, by omega, hgt, hal.out, HA2, ho2, hb2, E⟩
                    case measure => simp [intOf]; omega
          · by_cases hge : bits ≤ 7 * i + 7
            · have hpl : bits - 1 < (all ++ Leb.bits7 x).length := by rw [hal.out]; omega
              have hcb := HCI.out (bits - 1) hpl
              have hmb : (all ++ Leb.bits7 x)[bits - 1] = mv := by
                rw [HM.out]
                unfold Leb.must
                rw [if_pos (by rw [hal.out]; simpa using hge), List.getD_eq_getElem?_getD, List.getElem?_eq_getElem hpl]; rfl
              rw [hmb] at hcb
              have hge' : decide ((bits : Int) ≤ 7 * (i : Int) + 7) = true := by simp; omega
              clear hmb hpl
              go_wp2_with fail
              obtain ⟨wq, rfl⟩ : ∃ wq : World, wq = wr := ⟨_, rfl⟩
              go_loopw [13] (fun t wr => ∃ p : Nat, t = .int .i64 p ∧ bits ≤ p ∧ wr = wq ∧ Hid (∀ q, bits ≤ q → q < p → ∀ h : q < (all ++ Leb.bits7 x).length, (all ++ Leb.bits7 x)[q] = mv)) (fun t _ => 7 * i + 7 + 64 - (intOf t).toNat)
              case atStart => exact ⟨bits, rfl, by omega, rfl, by intro q h1 h2; omega⟩
              case round =>
                obtain ⟨p, rfl, hpb, rfl, HP⟩ := hrel
                by_cases hp : p < 7 * i + 7
                · have hpl : p < (all ++ Leb.bits7 x).length := by rw [hal.out]; exact hp
                  have hcp := HCI.out p hpl
                  have hbad := Leb.bad_true bits true (all ++ Leb.bits7 x) p hpb hpl
                  have hstep : (all ++ Leb.bits7 x)[p] = mv → ∀ q, bits ≤ q → q < p + 1 → ∀ h : q < (all ++ Leb.bits7 x).length, (all ++ Leb.bits7 x)[q] = mv := by
                    intro hv q h1 h2 h3
                    rcases Nat.lt_or_ge q p with h4 | h4
                    · exact HP.out q h1 h4 h3
                    · obtain rfl : q = p := by omega
                      exact hv
                  generalize (all ++ Leb.bits7 x)[p] = yv at hcp hbad hstep
                  have Hbad := Lib.hid hbad
                  have Hstep := Lib.hid hstep
                  clear hbad hstep
                  by_cases hv : yv = mv
                  · have hne : ((yv : Int) != (mv : Int)) = false := by simp [hv]
                    have Hv := Lib.hid hv
                    clear hv
                    go_wp2_with fail
                    go_roundw
                    case rel => exact ⟨p + 1, rfl, by omega, by first | rfl | trivial, Hstep.out Hv.out⟩
                    case measure => simp [intOf]; omega
                  · have hne : ((yv : Int) != (mv : Int)) = true := by simp; omega
                    have HB : Hid (Leb.bad bits true (all ++ Leb.bits7 x) = true) := Hbad.out (by rw [← HM.out]; exact hv)
                    clear hv
                    go_wp2_with fail
                    go_ret3
                    have e := HR.out
                    rw [H3.out, Leb.rdB, HB.out, if_pos rfl] at e
                    refine ⟨none, 0, ?_, ?_, hb2⟩
                    · rw [e]; try rfl
                    · rw [e]; exact OwnI.nil _ _
                · have HB : Hid (Leb.bad bits true (all ++ Leb.bits7 x) = false) := Leb.bad_false bits true _ fun q h1 h2 => by rw [← HM.out]; exact HP.out q h1 (by rw [hal.out] at h2; omega) h2
                  have e := HR.out
                  rw [H3.out, Leb.rdB, HB.out] at e
                  simp only [Bool.false_eq_true, if_false] at e
                  by_cases h128 : x < 128
                  · rw [if_pos h128] at e
                    have E := Lib.hid e
                    have hI : (x : Int) < 128 := by omega
                    clear e h128
                    go_wp2_with fail
                    go_ret3
                    refine ⟨some ⟨g, 0, none⟩, c2, ?_, ?_, hb2⟩
                    · rw [E.out, show (all ++ Leb.bits7 x).length = 7 * i + 7 from hal.out]; try rfl
                    · rw [E.out, show (all ++ Leb.bits7 x).length = 7 * i + 7 from hal.out]; exact ho2
                  · rw [if_neg h128] at e
                    have hI : (128 : Int) ≤ (x : Int) := by omega
                    clear h128
                    by_cases hle : bits ≤ 7 * (i + 1)
                    · rw [if_pos hle] at e
                      have E := Lib.hid e
                      clear e
                      go_wp2_with fail
                      go_ret3
                      refine ⟨none, 0, ?_, ?_, hb2⟩
                      · rw [E.out]; try rfl
                      · rw [E.out]; exact OwnI.nil _ _
                    · omega
            · have hge' : decide ((bits : Int) ≤ 7 * (i : Int) + 7) = false := by simp; omega
              have hm0 : mv = 0 := by
                rw [HM.out]
                unfold Leb.must
                rw [if_neg (by rw [hal.out]; simpa using hge)]
              subst hm0
              go_wp2_with fail
              obtain ⟨wq, rfl⟩ : ∃ wq : World, wq = wr := ⟨_, rfl⟩
              go_loopw [13] (fun t wr => ∃ p : Nat, t = .int .i64 p ∧ bits ≤ p ∧ wr = wq ∧ Hid (∀ q, bits ≤ q → q < p → ∀ h : q < (all ++ Leb.bits7 x).length, (all ++ Leb.bits7 x)[q] = 0)) (fun t _ => 7 * i + 7 + 64 - (intOf t).toNat)
              case atStart => exact ⟨bits, rfl, by omega, rfl, by intro q h1 h2; omega⟩
              case round =>
                obtain ⟨p, rfl, hpb, rfl, HP⟩ := hrel
                by_cases hp : p < 7 * i + 7
                · omega
                · have HB : Hid (Leb.bad bits true (all ++ Leb.bits7 x) = false) := Leb.bad_false bits true _ fun q h1 h2 => by rw [← HM.out]; exact HP.out q h1 (by rw [hal.out] at h2; omega) h2
                  have e := HR.out
                  rw [H3.out, Leb.rdB, HB.out] at e
                  simp only [Bool.false_eq_true, if_false] at e
                  by_cases h128 : x < 128
                  · rw [if_pos h128] at e
                    have E := Lib.hid e
                    have hI : (x : Int) < 128 := by omega
                    clear e h128
                    go_wp2_with fail
                    go_ret3
                    refine ⟨some ⟨g, 0, none⟩, c2, ?_, ?_, hb2⟩
                    · rw [E.out, show (all ++ Leb.bits7 x).length = 7 * i + 7 from hal.out]; try rfl
                    · rw [E.out, show (all ++ Leb.bits7 x).length = 7 * i + 7 from hal.out]; exact ho2
                  · rw [if_neg h128] at e
                    have hI : (128 : Int) ≤ (x : Int) := by omega
                    clear h128
                    by_cases hle : bits ≤ 7 * (i + 1)
                    · omega
                    · rw [if_neg hle] at e
                      have E := Lib.hid e
                      have hgt : 7 * (i + 1) < bits := by omega
                      have HA2 : Hid (∀ y ∈ all ++ Leb.bits7 x, y < 2) := fun y hy => by
                        rcases List.mem_append.1 hy with h | h
                        · exact Ha2.out y h
                        · exact Leb.bits7_lt x y h
                      clear e hle
                      go_wp2_with fail
                      go_roundw
                      case rel => exact ⟨i + 1, _, c2, all ++ Leb.bits7 x, rfl, rfl, by omega, by omega, hgt, hal.out, HA2, ho2, hb2, E⟩
                      case measure => simp [intOf]; omega
end Go.Proofs.YtphmknhlibampaaDoor

/-
  Layer 5, code: instruction, Shape, All.
-/
import Derived.Test.YtlflmobaegfnaabDoorOpS
import Derived.Test.YtlflmobaegfnaabDoorOpEa
import Derived.Test.YtlflmobaegfnaabDoorKitG
import Derived.Test.YtlflmobaegfnaabDoorKitR
namespace Go.Proofs.YtlflmobaegfnaabDoor
open Go.RowKit
set_option linter.unusedVariables false
set_option linter.unusedSimpArgs false
set_option maxRecDepth 100000

set_option maxHeartbeats 2000000 in
theorem inst_any (op : Int) (w : World) :
    Calls Tryd.prog 14 #[.int .i64 op] w fun e w' => e = .returned (.bool (Op5.inst op)) ∧ Below w.heap.size w w' := by
  obtain ⟨Q, hQ⟩ : ∃ Q : Ending → World → Prop, Q = (fun e w' => e = .returned (.bool (Op5.inst op)) ∧ Below w.heap.size w w') := ⟨_, rfl⟩
  rw [← hQ]
  have HQ := Lib.hid hQ
  clear hQ
  have HR := Lib.hid runs_any
  go_enter Tryd.func14, Tryd.ntmps14
  go_wp2_with (go_at_call 18; refine (HR.out _).mono ?_; rintro e w1 ⟨rfl, hb1⟩)
  go_loopw [6] (fun i wr => ∃ k : Nat, k ≤ 16 ∧ i = .int .i64 k ∧ (∀ j, j < k → Op5.inSpan (Op5.first j) (Op5.last j) op = false) ∧ Below w.heap.size w wr) (fun i _ => 16 - (intOf i).toNat)
  case atStart => exact ⟨0, by omega, rfl, fun _ h => by omega, hb1⟩
  case round =>
    obtain ⟨k, hk, rfl, hn, hB⟩ := hrel
    have HN := Lib.hid hn
    have HB := Lib.hid hB
    clear hn hB hb1
    by_cases hlt : k < 16
    · have hx : ∀ w, (Instr.index 42 (.agg Op5.runCells) (.int .i64 (k : Int))).run Tryd.prog w = .ok (.agg #[.int .i64 (Op5.first k : Int), .int .i64 (Op5.last k : Int), Sv (Op5.line k)]) w := fun w => runs_at k hlt w
      have HS := Lib.hid (fun W => has_any (Op5.first k) (Op5.last k) op W)
      obtain ⟨r, hr⟩ : ∃ r, Op5.inSpan (Op5.first k) (Op5.last k) op = r := ⟨_, rfl⟩
      rw [hr] at HS
      have HRr := Lib.hid hr
      clear hr
      cases r
      · go_wp2_with (go_at_call 17; ((with_reducible refine (HS.out _).mono ?_); rintro e w5 ⟨rfl, hb5⟩; have HB5 := Lib.hid hb5; clear hb5))
        go_roundw
        case rel =>
          refine ⟨k + 1, by omega, by go_num, fun j hj => ?_, HB.out.trans (below_box _ _ _ HB5.out |>.mono HB.out.size)⟩
          by_cases he : j = k
          · rw [he]; exact HRr.out
          · exact HN.out j (by omega)
        case measure => simp [intOf]; omega
      · go_wp2_with (go_at_call 17; ((with_reducible refine (HS.out _).mono ?_); rintro e w5 ⟨rfl, hb5⟩; have HB5 := Lib.hid hb5; clear hb5))
        rw [HQ.out]
        refine ⟨?_, HB.out.trans (below_box _ _ _ HB5.out |>.mono HB.out.size)⟩
        have h : Op5.inst op = true := List.any_eq_true.2 ⟨k, List.mem_range.2 hlt, HRr.out⟩
        rw [h]; rfl
    · obtain rfl : k = 16 := by omega
      go_wp2
      rw [HQ.out]
      refine ⟨?_, HB.out⟩
      have h : Op5.inst op = false := List.any_eq_false.2 (fun j hj => by rw [HN.out j (List.mem_range.1 hj)]; simp)
      rw [h]; rfl
set_option maxHeartbeats 2000000 in
theorem shape_any (op : Int) (w : World) :
    Calls Tryd.prog 6 #[.int .i64 op] w fun e w' => e = .returned (.int .i64 (Op5.shapeOf op)) ∧ Below w.heap.size w w' := by
  have HI := Lib.hid (fun W => inst_any op W)
  have HM := Lib.hid (fun W => more_any op W)
  unfold Op5.shapeOf
  obtain ⟨r, hr⟩ : ∃ r, Op5.inst op = r := ⟨_, rfl⟩
  obtain ⟨m, hm⟩ : ∃ m, Op5.moreOf op = m := ⟨_, rfl⟩
  rw [hr, hm]
  rw [hr] at HI
  rw [hm] at HM
  clear hr hm
  cases r
  · go_enter Tryd.func6, Tryd.ntmps6
    go_wp2_with (go_at_call 14; ((with_reducible refine (HI.out _).mono ?_); rintro e w1 ⟨rfl, hb1⟩))
    go_ret
    exact ⟨rfl, hb1⟩
  · by_cases h0 : m = 0
    · subst h0
      go_enter Tryd.func6, Tryd.ntmps6
      go_wp2_with (first
        | (go_at_call 14; ((with_reducible refine (HI.out _).mono ?_); rintro e w1 ⟨rfl, hb1⟩))
        | (go_at_call 15; ((with_reducible refine (HM.out _).mono ?_); rintro e w2 ⟨rfl, hb2⟩)))
      go_ret
      exact ⟨rfl, hb1.trans (hb2.mono hb1.size)⟩
    · have hne : (m != 0) = true := by simpa using h0
      rw [if_pos rfl, if_neg h0]
      clear h0
      go_enter Tryd.func6, Tryd.ntmps6
      go_wp2_with (first
        | (go_at_call 14; ((with_reducible refine (HI.out _).mono ?_); rintro e w1 ⟨rfl, hb1⟩))
        | (go_at_call 15; ((with_reducible refine (HM.out _).mono ?_); rintro e w2 ⟨rfl, hb2⟩)))
      go_ret
      exact ⟨rfl, hb1.trans (hb2.mono hb1.size)⟩

/-- Opcodes, as cells of a slice. -/
def Ox (n : Nat) : List Value := [.int .i64 (n : Int)]
theorem elemO : Elem (α := Nat) 22 29 1 Ox where
  info := by
    obtain ⟨i0, hi0, hz0, hz1, hz2⟩ := info_parts (show (Tryd.prog.info? 22).map (fun i => (i.zero, i.size, i.bytes)) = some (some (.int .i64 0), 1, 8) by kernel_rfl)
    exact ⟨i0, _, hi0, hz0, hz1, rfl, by omega⟩
  under := Tryd.underlying29
  len _ := rfl
  pos := by decide
  one x u hu := by simp [Ox] at hu; subst hu; rfl
namespace Op5
def codes (l : List (Nat × List UInt8)) : List Nat := l.map (·.1)
def rng (k j : Nat) : List Nat := (List.range j).map (first k + ·)
theorem rng_succ (k j : Nat) : rng k (j + 1) = rng k j ++ [first k + j] := by simp [rng, List.range_succ]
theorem runAt_codes : ∀ (f : Nat) (l : List (List UInt8)), codes (runAt f l) = (List.range l.length).map (f + ·)
  | f, [] => rfl
  | f, x :: l => by
    have ih := runAt_codes (f + 1) l
    unfold codes at ih ⊢
    rw [runAt, List.map_cons, ih, List.length_cons, List.range_succ_eq_map, List.map_cons, List.map_map]
    simp only [Nat.add_zero, List.cons.injEq, true_and]
    apply List.map_congr_left
    intro a _
    simp only [Function.comp]
    omega
theorem upto_codes (k : Nat) (hk : k < 16) : codes (upto (k + 1)) = codes (upto k) ++ rng k (last k + 1 - first k) ∧ first k ≤ last k ∧ last k ≤ 64600 := by
  have h := List.all_eq_true.1 runs_fit k (List.mem_range.2 hk)
  simp only [Bool.and_eq_true, decide_eq_true_eq] at h
  have h2 : ((List.range 16).all fun k => decide (last k ≤ 64600)) = true := by decide +kernel
  refine ⟨?_, h.1.2, by simpa using List.all_eq_true.1 h2 k (List.mem_range.2 hk)⟩
  unfold codes
  rw [show upto (k + 1) = upto k ++ run k from rfl, List.map_append]
  have e := runAt_codes (first k) (words (line k))
  unfold codes at e
  unfold run
  rw [e, h.1.1]
  rfl
theorem upto_len (k : Nat) (hk : k ≤ 16) : (codes (upto k)).length ≤ 167 := by
  have h : ((List.range 17).all fun k => decide ((upto k).length ≤ 167)) = true := by decide +kernel
  have := List.all_eq_true.1 h k (List.mem_range.2 (by omega))
  simpa [codes] using this
theorem line_short (k : Nat) (hk : k < 16) : last k + 1 - first k ≤ 40 := by
  have h : ((List.range 16).all fun k => decide (last k + 1 - first k ≤ 40)) = true := by decide +kernel
  simpa using List.all_eq_true.1 h k (List.mem_range.2 hk)
end Op5
set_option maxHeartbeats 4000000 in
theorem all_any (w : World) :
    Calls Tryd.prog 10 #[] w fun e w' => (∃ A c, e = .returned (.slice A 167 c) ∧ OwnG 22 1 Ox w.heap.size w' (.slice A 167 c) (Op5.codes Op5.table)) ∧ Below w.heap.size w w' := by
  obtain ⟨Q, hQ⟩ : ∃ Q : Ending → World → Prop, Q = (fun e w' => (∃ A c, e = .returned (.slice A 167 c) ∧ OwnG 22 1 Ox w.heap.size w' (.slice A 167 c) (Op5.codes Op5.table)) ∧ Below w.heap.size w w') := ⟨_, rfl⟩
  rw [← hQ]
  have HQ := Lib.hid hQ
  clear hQ
  have HR := Lib.hid runs_any
  go_enter Tryd.func10, Tryd.ntmps10
  go_wp2_with (go_at_call 18; refine (HR.out _).mono ?_; rintro e w1 ⟨rfl, hb1⟩)
  go_loopw [1, 6] (fun a i wr => ∃ (k m : Nat) (A : Option Addr) (c : Nat), k ≤ 16 ∧ i = .int .i64 k ∧ a = .slice A m c ∧ m = (Op5.codes (Op5.upto k)).length ∧ OwnG 22 1 Ox w.heap.size wr (.slice A m c) (Op5.codes (Op5.upto k)) ∧ Below w.heap.size w wr) (fun _ i _ => 16 - (intOf i).toNat)
  case atStart => exact ⟨0, 0, none, 0, by omega, rfl, rfl, rfl, OwnG.nil _ _, hb1⟩
  case round =>
    obtain ⟨k, m, A, c, hk, rfl, rfl, hm, hO, hB⟩ := hrel
    have HO := Lib.hid hO
    have HB := Lib.hid hB
    have HM := Lib.hid hm
    clear hO hB hb1 hm
    by_cases hlt : k < 16
    · have hx : ∀ w, (Instr.index 42 (.agg Op5.runCells) (.int .i64 (k : Int))).run Tryd.prog w = .ok (.agg #[.int .i64 (Op5.first k : Int), .int .i64 (Op5.last k : Int), Sv (Op5.line k)]) w := fun w => runs_at k hlt w
      obtain ⟨u1, u2, u3⟩ := Op5.upto_codes k hlt
      have HU := Lib.hid u1
      have hul := Op5.upto_len k hk
      have hls := Op5.line_short k hlt
      clear u1
      obtain ⟨wo, rfl⟩ : ∃ wo : World, wo = wr := ⟨_, rfl⟩
      obtain ⟨n, hn⟩ : ∃ n, Op5.last k + 1 - Op5.first k = n := ⟨_, rfl⟩
      rw [hn] at HU hls
      obtain ⟨f, hf⟩ : ∃ f, Op5.first k = f := ⟨_, rfl⟩
      have hlast : Op5.last k = f + n - 1 := by omega
      have hn1 : 1 ≤ n := by omega
      have hfn : f + n ≤ 64601 := by omega
      rw [hf, hlast] at hx
      have HF := Lib.hid hf
      have hxs := Lib.hid hul
      clear hn hf hlast u2 u3 hul
      have hnext : Hid (Below w.heap.size w (wo.alloc (.cells #[.int .i64 (f : Int), .int .i64 ((f + n - 1 : Nat) : Int), Sv (Op5.line k)] 41))) := Lib.hid (HB.out.alloc HB.out.size _)
      have HO0 := Lib.hid (HO.out.alloc (.cells #[.int .i64 (f : Int), .int .i64 ((f + n - 1 : Nat) : Int), Sv (Op5.line k)] 41))
      have hrow0 : Hid (∀ g, (Value.slice A m c).ownBlock = some g → g ≠ wo.heap.size) := Lib.hid fun g h => by have := (HO.out.lt g h).2; omega
      have hcast : ((f + n - 1 : Nat) : Int) = (f : Int) + n - 1 := by omega
      rw [hcast] at hx hnext HO0
      have hc1 : (wo.alloc (.cells #[.int .i64 (f : Int), .int .i64 ((f : Int) + n - 1), Sv (Op5.line k)] 41)).cell? ⟨wo.heap.size, 1, none⟩ = some (.int .i64 ((f : Int) + n - 1)) := by go_simp
      have HC1 := Lib.hid hc1
      clear hcast hc1
      have htk : decide ((k : Int) < 16) = true := by simp; omega
      go_wp2
      go_loopw [1, 4] (fun a i wr => ∃ (j m2 : Nat) (A2 : Option Addr) (c2 : Nat), j ≤ n ∧ i = .int .i64 ((f + j : Nat) : Int) ∧ a = .slice A2 m2 c2 ∧ m2 = (Op5.codes (Op5.upto k) ++ Op5.rng k j).length ∧ OwnG 22 1 Ox w.heap.size wr (.slice A2 m2 c2) (Op5.codes (Op5.upto k) ++ Op5.rng k j) ∧ Below w.heap.size w wr ∧ wr.cell? ⟨wo.heap.size, 1, none⟩ = some (.int .i64 ((f : Int) + n - 1)) ∧
        (∀ g, (Value.slice A2 m2 c2).ownBlock = some g → g ≠ wo.heap.size) ∧ wo.heap.size < wr.heap.size) (fun _ i _ => f + n - (intOf i).toNat)
      case atStart => exact ⟨0, m, A, c, by omega, by go_num, rfl, by simp [Op5.rng, HM.out], by simpa [Op5.rng] using HO0.out, hnext.out, HC1.out, hrow0.out, by simp⟩
      case round =>
        obtain ⟨j, m2, A2, c2, hj, rfl, rfl, hm2, hO2, hB2, hc2, hr2, hz2⟩ := hrel
        have HO2 := Lib.hid hO2
        have HB2 := Lib.hid hB2
        have HM2 := Lib.hid hm2
        have HR2 := Lib.hid hr2
        clear hO2 hB2 hm2 hr2
        by_cases hlt2 : j < n
        · have hl2 : Hid (m2 + 1 < 1000000) := Lib.hid (by have h1 := HM2.out; have h2 := hxs.out; rw [List.length_append] at h1; simp [Op5.rng] at h1; omega)
          have hl3 : Hid ((Op5.codes (Op5.upto k) ++ Op5.rng k j).length + 1 = m2 + 1) := Lib.hid (by rw [HM2.out])
          have hst : Hid (Op5.codes (Op5.upto k) ++ Op5.rng k (j + 1) = Op5.codes (Op5.upto k) ++ Op5.rng k j ++ [f + j]) := Lib.hid (by rw [Op5.rng_succ, HF.out, List.append_assoc])
          have hBz : Hid (w.heap.size ≤ wr.heap.size) := Lib.hid HB2.out.size
          have htest : decide ((f : Int) + j ≤ (f : Int) + n - 1) = true := by simp; omega
          go_wp2_with (at_builtin; refine push_at elemO rfl _ _ rfl wr _ rfl (f + j) _ _ rfl rfl HO2.out hBz.out (m2 + 1) hl2.out hl3.out rfl ?_; intro A8 c8 w4 hown8 hg8 hr8)
          go_roundw
          case rel =>
            refine ⟨j + 1, m2 + 1, A8, c8, by omega, by go_num, rfl, ?_, ?_, HO2.out.grown hg8 (Nat.le_refl _) hBz.out HB2.out, ?_, ?_, Nat.lt_of_lt_of_le hz2 hg8.size⟩
            · rw [hst.out, List.length_append, ← HM2.out]; rfl
            · rw [hst.out]; exact hown8
            · exact (hg8.cell_far ⟨wo.heap.size, 1, none⟩ hz2 (fun e => HR2.out _ e.symm rfl)).trans hc2
            · intro g hg
              rcases hr8 g hg with h | h
              · exact HR2.out g h
              · omega
          case measure => simp [intOf]; omega
        · obtain rfl : j = n := by omega
          have htest : decide ((f : Int) + j ≤ (f : Int) + j - 1) = false := by simp; omega
          clear hlt2
          go_wp2
          go_roundw
          case rel =>
            refine ⟨k + 1, m2, A2, c2, by omega, by go_num, rfl, ?_, ?_, HB2.out⟩
            · rw [HU.out]; exact HM2.out
            · rw [HU.out]; exact HO2.out
          case measure => simp [intOf]; omega
    · obtain rfl : k = 16 := by omega
      have h167 : (Op5.codes (Op5.upto 16)).length = 167 := by unfold Op5.codes; rw [List.length_map]; exact Op5.table_len
      obtain rfl : m = 167 := HM.out.trans h167
      clear h167
      go_wp2
      rw [HQ.out]
      exact ⟨⟨A, c, rfl, HO.out⟩, HB.out⟩
end Go.Proofs.YtlflmobaegfnaabDoor

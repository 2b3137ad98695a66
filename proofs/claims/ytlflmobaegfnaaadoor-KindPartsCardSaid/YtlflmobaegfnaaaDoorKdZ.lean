/-
  Layer 4, code: the iterator over where value types stand.
-/
import Derived.Test.YtlflmobaegfnaaaDoorKitX
import Derived.Test.YtlflmobaegfnaaaDoorKdY
import Derived.Shelf.Abstract
import Derived.Shelf.RegionOpen
import Derived.WalkKit
import Derived.OwnWalkIn
import Derived.TacticsInMore
import Derived.LoopNIn
import Derived.LoopIn
namespace Go.Proofs.YtlflmobaegfnaaaDoor
open Go.RowKit Go.Shelf
attribute [local go_sem] Oper.semAt_some
set_option linter.unusedVariables false
set_option linter.unusedSimpArgs false
set_option maxRecDepth 100000

/-- Where the o-th cells of a list's elements stand. -/
def ats (A : Option Addr) (sz o n : Nat) : List Addr := (List.range n).map fun i => match A with | some a => ⟨a.block, a.off + i * sz + o, none⟩ | none => ⟨0, 0, none⟩
theorem ats_len (A : Option Addr) (sz o n : Nat) : (ats A sz o n).length = n := by simp [ats]
theorem ats_get (b off sz o n k : Nat) (h : k < (ats (some ⟨b, off, none⟩) sz o n).length) : (ats (some ⟨b, off, none⟩) sz o n)[k] = ⟨b, off + k * sz + o, none⟩ := by simp [ats]
def valsAt (A2 : Option Addr) (n2 : Nat) (A3 : Option Addr) (n3 : Nat) (A4 : Option Addr) (n4 : Nat) : List Addr := ats A2 4 0 n2 ++ ats A3 4 0 n3 ++ ats A4 6 1 n4
abbrev At (l : List Addr) := { x : Addr // x ∈ l }
theorem attach_val (l : List Addr) (k : Nat) (h : k < l.attach.length) : (l.attach[k]).1 = l[k]'(by simpa using h) := by simp
theorem yield_at {F : Fence} {m : Nat} {P : Program} {l : Nat} {x y : Addr} {W : World} {R : Ending → World → Prop} (h : YieldAt F m P l #[.pointer (some x)] W R) (e : x = y) : YieldAt F m P l #[.pointer (some y)] W R := by rw [← e]; exact h

set_option maxHeartbeats 2000000 in
theorem vals1_seq (F : Fence) (n : Nat) (hF : F.fn 85) (hro : F.round = none) (hn : 1 ≤ n) (D : Nat → Nat → Prop) (w : World) (Bc Bs n2 c2 n3 c3 n4 c4 : Nat) (A2 A3 A4 : Option Addr) (hDc : ∀ o, ¬ D Bc o) (hDs : ∀ o, ¬ D Bs o)
    (x0 : w.cell? ⟨Bc, 0, none⟩ = some (.pointer (some ⟨Bs, 2, none⟩))) (x3 : w.cell? ⟨Bs, 3, none⟩ = some (.slice A2 n2 c2)) (x4 : w.cell? ⟨Bs, 4, none⟩ = some (.slice A3 n3 c3)) (x5 : w.cell? ⟨Bs, 5, none⟩ = some (.slice A4 n4 c4))
    (h2 : 0 < n2 → ∃ b off, A2 = some ⟨b, off, none⟩) (h3 : 0 < n3 → ∃ b off, A3 = some ⟨b, off, none⟩) (h4 : 0 < n4 → ∃ b off, A4 = some ⟨b, off, none⟩) (l2 : n2 ≤ 100) (l3 : n3 ≤ 100) (l4 : n4 ≤ 100) :
    SeqX F n Tryd.prog 85 #[.pointer (some ⟨Bc, 0, none⟩)] (fun x : At (valsAt A2 n2 A3 n3 A4 n4) => #[.pointer (some x.1)]) D (· = (valsAt A2 n2 A3 n3 A4 n4).attach) (· <+: (valsAt A2 n2 A3 n3 A4 n4).attach) (n2 + n3 + n4) w := by
  intro l J Jx W hW hl1 hl2 hJ hJx hY h0
  obtain ⟨pl, hpl⟩ : ∃ pl, pl = valsAt A2 n2 A3 n3 A4 n4 := ⟨_, rfl⟩
  subst hpl
  have hplen : (valsAt A2 n2 A3 n3 A4 n4).attach.length = n2 + n3 + n4 := by simp [valsAt, ats_len]; omega
  have bc : Bc < w.heap.size := World.block_lt_of_cell? w ⟨Bc, 0, none⟩ x0
  have bs : Bs < w.heap.size := World.block_lt_of_cell? w ⟨Bs, 3, none⟩ x3
  have fx : ∀ W' : World, Keep (fun k o => D k o ∨ k = l) W W' → W'.cell? ⟨Bc, 0, none⟩ = some (.pointer (some ⟨Bs, 2, none⟩)) ∧ W'.cell? ⟨Bs, 3, none⟩ = some (.slice A2 n2 c2) ∧ W'.cell? ⟨Bs, 4, none⟩ = some (.slice A3 n3 c3) ∧ W'.cell? ⟨Bs, 5, none⟩ = some (.slice A4 n4 c4) := fun W' hk => by
    have nc : ¬ (D Bc 0 ∨ Bc = l) := fun e => by rcases e with e | e; exact hDc _ e; omega
    have ns : ∀ o, ¬ (D Bs o ∨ Bs = l) := fun o e => by rcases e with e | e; exact hDs _ e; omega
    exact ⟨hk.cells _ _ _ nc ((hW.cell (p := ⟨Bc, 0, none⟩) bc).trans x0), hk.cells _ _ _ (ns _) ((hW.cell (p := ⟨Bs, 3, none⟩) bs).trans x3), hk.cells _ _ _ (ns _) ((hW.cell (p := ⟨Bs, 4, none⟩) bs).trans x4), hk.cells _ _ _ (ns _) ((hW.cell (p := ⟨Bs, 5, none⟩) bs).trans x5)⟩
  obtain ⟨Lst, hLst⟩ : ∃ Lst, Lst = (valsAt A2 n2 A3 n3 A4 n4).attach := ⟨_, rfl⟩
  rw [← hLst] at hplen ⊢
  have FX := Lib.hid fx
  have HY := Lib.hid hY
  have HL := Lib.hid hLst
  have HPL := Lib.hid hplen
  have y0 := (fx W (Keep.refl W)).1
  have y3 := (fx W (Keep.refl W)).2.1
  clear x0 x3 x4 x5 fx hY hLst hplen hJ hJx
  refine callsIn_of_wp Tryd.func85 rfl hF ?_ hro
  simp only [Tryd.ntmps85, List.size_toArray, List.length_cons, List.length_nil, Nat.reduceAdd, Nat.reduceSub, Array.replicate_succ, Array.replicate_zero, List.push_toArray, List.append_toArray, List.nil_append, List.cons_append]
  gi_wp2
  gi_loopw [3, 11] (fun _ i wr => ∃ k : Nat, k ≤ n2 ∧ i = .int .i64 k ∧ J (Lst.take k) wr ∧ Keep (fun k o => D k o ∨ k = l) W wr) (fun _ i _ => n2 - (intOf i).toNat)
  case atStart => exact ⟨0, Nat.zero_le _, rfl, by simpa using h0, Keep.refl W⟩
  case round =>
    obtain ⟨k, hk, rfl, hJk, hK⟩ := hrel
    obtain ⟨q0, q3, q4, q5⟩ := FX.out wr hK
    by_cases hlt : k < n2
    · obtain ⟨b, off, rfl⟩ := h2 (by omega)
      have hkl : k < Lst.length := by rw [HPL.out]; omega
      have hx : (Lst[k]'hkl).1 = ⟨b, off + k * 4, none⟩ := by
        have e : ∀ (M : List (At (valsAt (some ⟨b, off, none⟩) n2 A3 n3 A4 n4))) (h : k < M.length), M = (valsAt (some ⟨b, off, none⟩) n2 A3 n3 A4 n4).attach → (M[k]'h).1 = ⟨b, off + k * 4, none⟩ := fun M h e => by
          subst e
          rw [attach_val]
          simp [valsAt, ats_len, List.getElem_append, hlt, ats_get]
        exact e Lst hkl HL.out
      have tk : Lst.take k ++ [Lst[k]'hkl] = Lst.take (k + 1) := (List.take_succ_eq_append_getElem hkl).symm
      obtain ⟨fn, tmps, assign, body, hy, hR⟩ := yield_at (HY.out (Lst.take k) (Lst[k]'hkl) wr hJk (by rw [List.length_take]; omega)) hx
      have i0 : (0 : Int) ≤ k := by omega
      have i1 : (k : Int) < n2 := by omega
      gi_wp2
      refine hR.mono ?_
      rintro e W' (⟨rfl, hJ', hk'⟩ | ⟨rfl, hJx', -⟩)
      · rw [tk] at hJ'
        gi_wp2
        go_roundw
        case rel => exact ⟨k + 1, by omega, by go_num, by simpa [Nat.add_assoc] using hJ', hK.trans hk'⟩
        case measure => simp [intOf]; omega
      · rw [tk] at hJx'
        gi_wp2
        refine bodyPost_ret (results_none rfl _ _ _) rfl ?_
        exact ⟨⟨_, rfl⟩, .inr ⟨_, List.take_prefix _ _, hJx'⟩⟩
    · have hkn : n2 = k := by omega
      subst hkn
      clear hlt hk
      gi_wp2
      gi_loopw [4, 29] (fun _ i wr => ∃ k : Nat, k ≤ n3 ∧ i = .int .i64 k ∧ J (Lst.take (n2 + k)) wr ∧ Keep (fun k o => D k o ∨ k = l) W wr) (fun _ i _ => n3 - (intOf i).toNat)
      case atStart => exact ⟨0, Nat.zero_le _, rfl, by simpa using hJk, hK⟩
      case round =>
        obtain ⟨k, hk, rfl, hJk, hK⟩ := hrel
        obtain ⟨q0, q3, q4, q5⟩ := FX.out wr hK
        by_cases hlt : k < n3
        · obtain ⟨b, off, rfl⟩ := h3 (by omega)
          have hkl : n2 + k < Lst.length := by rw [HPL.out]; omega
          have hx : (Lst[n2 + k]'hkl).1 = ⟨b, off + k * 4, none⟩ := by
            have e : ∀ (M : List (At (valsAt A2 n2 (some ⟨b, off, none⟩) n3 A4 n4))) (h : n2 + k < M.length), M = (valsAt A2 n2 (some ⟨b, off, none⟩) n3 A4 n4).attach → (M[n2 + k]'h).1 = ⟨b, off + k * 4, none⟩ := fun M h e => by
              subst e
              rw [attach_val]
              simp [valsAt, ats_len, List.getElem_append, hlt, ats_get]
            exact e Lst hkl HL.out
          have tk : Lst.take (n2 + k) ++ [Lst[n2 + k]'hkl] = Lst.take (n2 + k + 1) := (List.take_succ_eq_append_getElem hkl).symm
          obtain ⟨fn, tmps, assign, body, hy, hR⟩ := yield_at (HY.out (Lst.take (n2 + k)) (Lst[n2 + k]'hkl) wr hJk (by rw [List.length_take]; omega)) hx
          have i0 : (0 : Int) ≤ k := by omega
          have i1 : (k : Int) < n3 := by omega
          gi_wp2
          refine hR.mono ?_
          rintro e W' (⟨rfl, hJ', hk'⟩ | ⟨rfl, hJx', -⟩)
          · rw [tk] at hJ'
            gi_wp2
            go_roundw
            case rel => exact ⟨k + 1, by omega, by go_num, by simpa [Nat.add_assoc] using hJ', hK.trans hk'⟩
            case measure => simp [intOf]; omega
          · rw [tk] at hJx'
            gi_wp2
            refine bodyPost_ret (results_none rfl _ _ _) rfl ?_
            exact ⟨⟨_, rfl⟩, .inr ⟨_, List.take_prefix _ _, hJx'⟩⟩
        · have hkn : n3 = k := by omega
          subst hkn
          clear hlt hk
          gi_wp2
          gi_loopw [5, 47] (fun _ i wr => ∃ k : Nat, k ≤ n4 ∧ i = .int .i64 k ∧ J (Lst.take (n2 + n3 + k)) wr ∧ Keep (fun k o => D k o ∨ k = l) W wr) (fun _ i _ => n4 - (intOf i).toNat)
          case atStart => exact ⟨0, Nat.zero_le _, rfl, by simpa using hJk, hK⟩
          case round =>
            obtain ⟨k, hk, rfl, hJk, hK⟩ := hrel
            obtain ⟨q0, q3, q4, q5⟩ := FX.out wr hK
            by_cases hlt : k < n4
            · obtain ⟨b, off, rfl⟩ := h4 (by omega)
              have hkl : n2 + n3 + k < Lst.length := by rw [HPL.out]; omega
              have hx : (Lst[n2 + n3 + k]'hkl).1 = ⟨b, off + k * 6 + 1, none⟩ := by
                have e : ∀ (M : List (At (valsAt A2 n2 A3 n3 (some ⟨b, off, none⟩) n4))) (h : n2 + n3 + k < M.length), M = (valsAt A2 n2 A3 n3 (some ⟨b, off, none⟩) n4).attach → (M[n2 + n3 + k]'h).1 = ⟨b, off + k * 6 + 1, none⟩ := fun M h e => by
                  subst e
                  rw [attach_val]
                  have z1 : ¬ (n2 + n3 + k < n2) := by omega
                  have z2 : ¬ (n2 + n3 + k - n2 < n3) := by omega
                  have z3 : n2 + n3 + k - n2 - n3 = k := by omega
                  simp [valsAt, ats_len, List.getElem_append, hlt, ats_get, z1, z2, z3]
                exact e Lst hkl HL.out
              have tk : Lst.take (n2 + n3 + k) ++ [Lst[n2 + n3 + k]'hkl] = Lst.take (n2 + n3 + k + 1) := (List.take_succ_eq_append_getElem hkl).symm
              obtain ⟨fn, tmps, assign, body, hy, hR⟩ := yield_at (HY.out (Lst.take (n2 + n3 + k)) (Lst[n2 + n3 + k]'hkl) wr hJk (by rw [List.length_take]; omega)) hx
              have i0 : (0 : Int) ≤ k := by omega
              have i1 : (k : Int) < n4 := by omega
              gi_wp2
              refine hR.mono ?_
              rintro e W' (⟨rfl, hJ', hk'⟩ | ⟨rfl, hJx', -⟩)
              · rw [tk] at hJ'
                gi_wp2
                go_roundw
                case rel => exact ⟨k + 1, by omega, by go_num, by simpa [Nat.add_assoc] using hJ', hK.trans hk'⟩
                case measure => simp [intOf]; omega
              · rw [tk] at hJx'
                gi_wp2
                refine bodyPost_ret (results_none rfl _ _ _) rfl ?_
                exact ⟨⟨_, rfl⟩, .inr ⟨_, List.take_prefix _ _, hJx'⟩⟩
            · have hkn : n4 = k := by omega
              subst hkn
              clear hlt hk
              gi_wp2
              go_end0
              refine ⟨⟨_, rfl⟩, .inl ⟨_, rfl, ?_⟩⟩
              have e : Lst.take (n2 + n3 + n4) = Lst := List.take_of_length_le (by rw [HPL.out]; omega)
              rw [e] at hJk
              exact hJk
end Go.Proofs.YtlflmobaegfnaaaDoor

/-
  Texts of this claim, one behind the other: part 0.
-/
import Derived.Test.YtkdhjejchdcipaaDoorMgTbinCut9
/-
  Layer 6: the row's own 'same': two lists of declared types.
-/
namespace Go.Proofs.YtkdhjejchdcipaaDoor
open Go.RowKit
set_option linter.unusedVariables false
set_option linter.unusedSimpArgs false
set_option maxRecDepth 100000

set_option maxHeartbeats 4000000 in
theorem same6_any (l m : List Sb) (xs ys : List Sr) (A A' : Option Addr) (c c' : Nat) (w : World) (hl : l.length ≤ 10000) (hm : m.length ≤ 10000) (hs : Subs w w.heap.size A c xs l) (hs' : Subs w w.heap.size A' c' ys m) (hS : ∀ s ∈ l, Kd.Small s) (hS' : ∀ s ∈ m, Kd.Small s) :
    Calls Tryd.prog 53 #[.slice A l.length c, .slice A' m.length c'] w fun e w' => e = .returned (.bool (decide (l = m))) ∧ Below w.heap.size w w' := by
  obtain ⟨Q, hQ⟩ : ∃ Q : Ending → World → Prop, Q = (fun e w' => e = .returned (.bool (decide (l = m))) ∧ Below w.heap.size w w') := ⟨_, rfl⟩
  rw [← hQ]
  have HQ := Lib.hid hQ
  clear hQ
  by_cases hlm : l.length = m.length
  · have n0 : ((l.length : Int) != (m.length : Int)) = false := by simp; omega
    have HX := Lib.hid hs.seg
    have HY := Lib.hid hs'.seg
    have HLX : Hid (xs.length = l.length) := Lib.hid hs.len
    have HLY : Hid (ys.length = l.length) := Lib.hid (by rw [hs'.len, hlm])
    have HLM := Lib.hid hlm
    have HLL := Lib.hid hl
    have HC : Hid (∀ i (h1 : i < xs.length) (h2 : i < ys.length) (h3 : i < l.length) (h4 : i < m.length) W, Below w.heap.size w W → Calls Tryd.prog 22 #[xs[i].val, ys[i].val] W fun e w' => e = .returned (.bool (decide (l[i] = m[i]))) ∧ Below W.heap.size W w') := Lib.hid fun i h1 h2 h3 h4 W hW =>
      same_any l[i] m[i] _ _ W (((hs.sub i h1 h3).below hW).more hW.size) (((hs'.sub i h2 h4).below hW).more hW.size) (hS _ (List.getElem_mem h3)) (hS' _ (List.getElem_mem h4))
    clear hs hs' hS hS' hm hl
    go_enter Tryd.func53, Tryd.ntmps53
    go_wp2
    clear n0
    rw [← hlm]
    clear hlm
    go_loopw [5] (fun i wr => ∃ k : Nat, k ≤ l.length ∧ i = .int .i64 k ∧ Below w.heap.size w wr ∧ Hid (l.take k = m.take k)) (fun i _ => l.length - (intOf i).toNat)
    case atStart => exact ⟨0, Nat.zero_le _, rfl, Below.refl _ _, rfl⟩
    case round =>
      obtain ⟨k, hk, rfl, hB, HT⟩ := hrel
      by_cases hlt : k < l.length
      · have h1 : k < xs.length := by rw [HLX.out]; exact hlt
        have h2 : k < ys.length := by rw [HLY.out]; exact hlt
        have h4 : k < m.length := by rw [← HLM.out]; exact hlt
        obtain ⟨b, off, rfl, hb, hc⟩ := HX.out.2.2 (by omega)
        obtain ⟨b', off', rfl, hb', hc'⟩ := HY.out.2.2 (by omega)
        have hz := hB.size
        have g0 := fun x : Aft wr => x.cell (Nat.lt_of_lt_of_le hb hz) ((hB.cell (p := ⟨b, off + k * 6 + 0, none⟩) hb).trans (hc k h1 0 _ rfl))
        have g1 := fun x : Aft wr => x.cell (Nat.lt_of_lt_of_le hb hz) ((hB.cell (p := ⟨b, off + k * 6 + 1, none⟩) hb).trans (hc k h1 1 _ rfl))
        have g2 := fun x : Aft wr => x.cell (Nat.lt_of_lt_of_le hb hz) ((hB.cell (p := ⟨b, off + k * 6 + 2, none⟩) hb).trans (hc k h1 2 _ rfl))
        have g3 := fun x : Aft wr => x.cell (Nat.lt_of_lt_of_le hb hz) ((hB.cell (p := ⟨b, off + k * 6 + 3, none⟩) hb).trans (hc k h1 3 _ rfl))
        have g4 := fun x : Aft wr => x.cell (Nat.lt_of_lt_of_le hb hz) ((hB.cell (p := ⟨b, off + k * 6 + 4, none⟩) hb).trans (hc k h1 4 _ rfl))
        have g5 := fun x : Aft wr => x.cell (Nat.lt_of_lt_of_le hb hz) ((hB.cell (p := ⟨b, off + k * 6 + 5, none⟩) hb).trans (hc k h1 5 _ rfl))
        have e0 := fun x : Aft wr => x.cell (Nat.lt_of_lt_of_le hb' hz) ((hB.cell (p := ⟨b', off' + k * 6 + 0, none⟩) hb').trans (hc' k h2 0 _ rfl))
        have e1 := fun x : Aft wr => x.cell (Nat.lt_of_lt_of_le hb' hz) ((hB.cell (p := ⟨b', off' + k * 6 + 1, none⟩) hb').trans (hc' k h2 1 _ rfl))
        have e2 := fun x : Aft wr => x.cell (Nat.lt_of_lt_of_le hb' hz) ((hB.cell (p := ⟨b', off' + k * 6 + 2, none⟩) hb').trans (hc' k h2 2 _ rfl))
        have e3 := fun x : Aft wr => x.cell (Nat.lt_of_lt_of_le hb' hz) ((hB.cell (p := ⟨b', off' + k * 6 + 3, none⟩) hb').trans (hc' k h2 3 _ rfl))
        have e4 := fun x : Aft wr => x.cell (Nat.lt_of_lt_of_le hb' hz) ((hB.cell (p := ⟨b', off' + k * 6 + 4, none⟩) hb').trans (hc' k h2 4 _ rfl))
        have e5 := fun x : Aft wr => x.cell (Nat.lt_of_lt_of_le hb' hz) ((hB.cell (p := ⟨b', off' + k * 6 + 5, none⟩) hb').trans (hc' k h2 5 _ rfl))
        simp only [Nat.add_zero] at g0 e0
        have HCk : Hid (∀ W, Below wr.heap.size wr W → Calls Tryd.prog 22 #[xs[k].val, ys[k].val] W fun e w' => e = .returned (.bool (decide (l[k] = m[k]))) ∧ Below W.heap.size W w') := Lib.hid fun W hW => HC.out k h1 h2 hlt h4 W (hB.trans (hW.mono hz))
        obtain ⟨q, hq⟩ : ∃ q, decide (l[k] = m[k]) = q := ⟨_, rfl⟩
        rw [hq] at HCk
        have HQk := Lib.hid hq
        obtain ⟨x, hx⟩ : ∃ x, x = xs[k] := ⟨_, rfl⟩
        obtain ⟨y, hy⟩ : ∃ y, y = ys[k] := ⟨_, rfl⟩
        rw [← hx] at g0 g1 g2 g3 g4 g5 HCk
        rw [← hy] at e0 e1 e2 e3 e4 e5 HCk
        have HLT := Lib.hid hlt
        have H4 := Lib.hid h4
        clear hc hc' HX HY HC hq hx hy
        have hbw : Below wr.heap.size wr wr := Below.refl _ _
        have inst := Aft.ne wr
        go_wp2_with fail
        refine region_aft wr hbw (by kernel_rfl) (by kernel_rfl) ?_
        repeat (go_big_quiet_step ((with_reducible exact Aft.call HCk.out _)))
        refine wpQuiet_nil ?_
        intro _ hw'
        obtain ⟨z, rfl⟩ := hw'
        have HBz : Hid (Below w.heap.size w z.W) := Lib.hid (hB.trans (z.h.mono hz))
        clear g0 g1 g2 g3 g4 g5 e0 e1 e2 e3 e4 e5
        cases q
        · go_wp2
          rw [HQ.out]
          exact ⟨ret_bool (decide_eq_false fun e => by
            have := of_decide_eq_false HQk.out
            exact this (by simp only [e])).symm, HBz.out⟩
        · have hw : wrap64 ((k : Int) + 1) = (k : Int) + 1 := IntWalk.wrap64_in _ (by have := HLL.out; have := HLT.out; omega)
          go_wp2
          go_roundw
          case rel => exact ⟨k + 1, by omega, by go_num, HBz.out, by rw [Hid, List.take_succ_eq_append_getElem HLT.out, List.take_succ_eq_append_getElem H4.out, HT.out, of_decide_eq_true HQk.out]⟩
          case measure =>
            have h2 := HLT.out
            simp only [hw]
            clear hw HQk
            simp [intOf]
            omega
      · have hkn : k = l.length := by omega
        clear HX HY HC
        go_wp2
        rw [HQ.out]
        refine ⟨ret_bool (decide_eq_true ?_).symm, hB⟩
        have h := HT.out
        rw [hkn, List.take_length, HLM.out, List.take_length] at h
        exact h
  · have n0 : ((l.length : Int) != (m.length : Int)) = true := by simp; omega
    clear hs hs' hS hS' hm hl
    have HN := Lib.hid hlm
    clear hlm
    go_enter Tryd.func53, Tryd.ntmps53
    go_wp2
    rw [HQ.out]
    exact ⟨ret_bool (decide_eq_false fun e => HN.out (by rw [e])).symm, Below.refl _ _⟩
end Go.Proofs.YtkdhjejchdcipaaDoor
/-
  PLAIN: layer 6: what is read is plain, and is put with no more bytes than it had. No Go in sight.
-/
namespace Go.Proofs.YtkdhjejchdcipaaDoor
open Go.RowKit
set_option linter.unusedVariables false

namespace Leb
/-- A signed number of 33 bits is below 2^32. -/
theorem rd33_lt : ∀ (l : List Nat) (a k n v nx : Nat), k ≤ 4 → n < 2 ^ (7 * k) → rd 33 true l a (7 * k) n = (v, nx, 0) → sOf v < 4294967296
  | [], a, k, n, v, nx, _, _, h => by simp [rd] at h
  | x :: l, a, k, n, v, nx, hk, hn, h => by
    rw [rd] at h
    split at h
    · next hf =>
      have hs := step_lt n x (7 * k) hn
      split at h
      · next hx =>
        simp only [Prod.mk.injEq] at h
        obtain ⟨rfl, -, -⟩ := h
        by_cases h4 : k ≤ 3
        · have h1 := sOf_ext _ (7 * k + 7) (by omega) hs (Nat.mod_lt _ (by omega))
          have h2 : 2 ^ (7 * k + 7 - 1) ≤ 2 ^ 27 := Nat.pow_le_pow_right (by omega) (by omega)
          have h3 : (2 : Nat) ^ 27 = 134217728 := by decide
          have h5 := h1.2
          rw [h3] at h2
          generalize 2 ^ (7 * k + 7 - 1) = z at h2 h5
          clear h1 hs
          omega
        · obtain rfl : k = 4 := by omega
          have e28 : (2 : Nat) ^ (7 * 4) = 268435456 := by decide
          rw [e28] at hn ⊢
          have hx2 : x % 128 = x := by omega
          rw [hx2] at hf ⊢
          have e1 : min (33 - 7 * 4 - 1) 8 = 4 := by decide
          have e2 : (2 : Nat) ^ 4 = 16 := by decide
          unfold fits at hf
          rw [if_pos rfl, e1, e2] at hf
          simp only [Bool.or_eq_true, decide_eq_true_eq] at hf
          have e3 : min (7 * 4 + 7 - 1) 64 = 34 := by decide
          have e4 : min (7 * 4 + 7) 64 = 35 := by decide
          have e5 : (2 : Nat) ^ 34 = 17179869184 := by decide
          have e6 : (2 : Nat) ^ 35 = 34359738368 := by decide
          unfold ext
          rw [e3, e4, e5, e6, Nat.mod_eq_of_lt (show n + x * 268435456 < 18446744073709551616 by omega)]
          rcases hf with hf | hf
          · have h7 : (n + x * 268435456) / 17179869184 = 0 := Nat.div_eq_of_lt (by omega)
            rw [h7]
            simp only [Bool.true_and, Nat.zero_mod, decide_eq_true_eq]
            rw [if_neg (by decide)]
            unfold sOf
            rw [if_pos (by omega)]
            omega
          · have h7 : (n + x * 268435456) / 17179869184 = 1 := by omega
            rw [h7]
            simp only [Bool.true_and, decide_eq_true_eq]
            rw [if_pos (by decide)]
            unfold sOf
            rw [if_neg (by omega)]
            omega
      · split at h
        · simp at h
        · exact rd33_lt l (a + 1) (k + 1) _ v nx (by omega) (by rw [Nat.mul_succ]; exact hs) (by rw [Nat.mul_succ]; exact h)
    · simp at h
theorem rd_shortU (l : List Nat) (a v nx : Nat) (h : rd 32 false l a 0 0 = (v, nx, 0)) : a + (putU v).length ≤ nx := by
  obtain ⟨n', c, h1, h2, h3, h4, h5⟩ := rd_ok 32 false l a 0 0 v nx (by simp) h
  have : v = n' := by rw [h5]; simp [ext]
  subst this
  have h6 := putU_len v c (by rw [show (128 : Nat) = 2 ^ 7 from rfl, ← Nat.pow_mul]; simpa using h3) h2
  omega
theorem rd_shortS (l : List Nat) (a v nx : Nat) (h : rd 33 true l a 0 0 = (v, nx, 0)) : a + (putS (sOf v)).length ≤ nx := by
  obtain ⟨n', c, h1, h2, h3, h4, h5⟩ := rd_ok 33 true l a 0 0 v nx (by simp) h
  rw [Nat.zero_add] at h3 h5
  have hb := sOf_ext n' (7 * c) (by omega) h3 h4
  rw [← h5] at hb
  obtain ⟨k, rfl⟩ : ∃ k, c = k + 1 := ⟨c - 1, by omega⟩
  have := putS_len (sOf v) k (by
    have e : ((2 ^ (7 * (k + 1) - 1) : Nat) : Int) = 64 * 128 ^ k := by
      have : 2 ^ (7 * (k + 1) - 1) = 64 * 128 ^ k := by rw [show 7 * (k + 1) - 1 = 6 + 7 * k by omega, Nat.pow_add, Nat.pow_mul]
      rw [this]; simp
    rw [e] at hb
    exact hb)
  omega
end Leb
namespace Tb
theorem told_at (sg : Bool) (l : List Nat) (p : Nat) (bits : Int) (hp : p ≤ l.length) (hb : 1 ≤ bits ∧ bits ≤ 64) : told sg l p bits = Leb.rd bits.toNat sg (l.drop p) p 0 0 := by
  unfold told
  rw [if_neg (by omega)]
  simp
/-- What is read, where it is, is so, and is put with no more bytes than it had. -/
def Good {α : Type} (one : Rd → α × Rd) (put : α → List Nat) (ok : α → Prop) : Prop := ∀ r, r.e = 0 → r.p ≤ r.bs.length → r.bs.length ≤ 10000 → (one r).2.e = 0 →
  ok (one r).1 ∧ (one r).2.bs = r.bs ∧ r.p + (put (one r).1).length ≤ (one r).2.p ∧ (one r).2.p ≤ r.bs.length
theorem Good.item {α : Type} {d : α} {f : List Nat → Nat → α × Nat × Nat} {put : α → List Nat} {ok : α → Prop}
    (h : ∀ l p, p ≤ l.length → l.length ≤ 10000 → (f l p).2.2 = 0 → ok (f l p).1 ∧ p + (put (f l p).1).length ≤ (f l p).2.1 ∧ (f l p).2.1 ≤ l.length) : Good (item d f) put ok := fun r h0 hp hl he => by
  have h1 : (f r.bs r.p).2.2 = 0 := by
    unfold Tb.item at he
    rw [if_pos h0] at he
    split at he
    · assumption
    · next hn => exact absurd (show (((f r.bs r.p).2.2 : Nat) : Int) = 0 from he) (by omega)
  obtain ⟨a, b, c⟩ := h _ _ hp hl h1
  unfold Tb.item
  rw [if_pos h0, if_pos h1]
  exact ⟨a, rfl, b, c⟩
theorem u_good : Good (u 32) Leb.putU (fun n => n < 4294967296) := Good.item fun l p hp hl h => by
  have h2 := told_le false l p 32 h
  have h1 : told false l p 32 = Leb.rd 32 false (l.drop p) p 0 0 := told_at false l p 32 hp (by omega)
  refine ⟨told_lt32 l p, ?_, h2⟩
  obtain ⟨v, nx, er, hq⟩ : ∃ v nx er, told false l p 32 = (v, nx, er) := ⟨_, _, _, rfl⟩
  unfold uAt at h ⊢
  rw [hq] at h ⊢
  simp only at h
  subst h
  exact Leb.rd_shortU _ _ _ _ (h1.symm.trans hq)
theorem index_good : Good index putIdx (fun h => Kd.pIdx h = true) := fun r h0 hp hl he => by
  obtain ⟨a, b, c, d⟩ := u_good r h0 hp hl he
  have hlt : ((u 32 r).1 : Nat) < 4294967296 := a
  refine ⟨?_, b, ?_, d⟩
  · unfold Kd.pIdx index
    dsimp only
    rw [decide_eq_true rfl, decide_eq_true (by omega), decide_eq_true (by omega)]
    rfl
  · unfold putIdx index
    dsimp only
    rw [Int.toNat_natCast]
    exact c
theorem kinds_given : ∀ i < 12, Kd.pHeap ⟨kinds.getD i 0, 0⟩ = true ∧ kindIx (kinds.getD i 0) < 12 ∧ kinds.getD i 0 ≠ 13 := by decide
theorem given_good {l : List Nat} {p : Nat} (h : isGiven l p = true) : Kd.pHeap (given l p) = true ∧ (putHeap (given l p)).length = 1 ∧ (given l p).k ≠ 13 ∧ p < l.length := by
  have h1 := isGiven_lt h
  unfold given
  rw [if_pos h]
  unfold isGiven at h
  simp only [Bool.and_eq_true, decide_eq_true_eq] at h
  have h2 := kinds_given (l.getD p 0 - 105) (by omega)
  exact ⟨h2.1, by rw [putHeap_short h2.2.1]; rfl, h2.2.2, h1⟩
theorem heap_good : Good heap putHeap (fun h => Kd.pHeap h = true) := Good.item fun l p hp hl h => by
  unfold heapAt at h ⊢
  by_cases hg : isGiven l p = true
  · rw [if_pos hg] at h ⊢
    have h1 := given_good hg
    exact ⟨h1.1, by dsimp only; omega, by dsimp only; omega⟩
  · rw [if_neg hg] at h ⊢
    have h1 : told true l p 33 = Leb.rd 33 true (l.drop p) p 0 0 := told_at true l p 33 hp (by omega)
    have h2 := told_le true l p 33
    obtain ⟨v, nx, er, hq⟩ : ∃ v nx er, told true l p 33 = (v, nx, er) := ⟨_, _, _, rfl⟩
    rw [hq] at h h2 ⊢
    dsimp only at h h2 ⊢
    by_cases he : er = 0
    · subst he
      rw [if_pos rfl] at h ⊢
      by_cases hs : Leb.sOf v < 0
      · rw [if_pos hs] at h; cases h
      · rw [if_neg hs] at h ⊢
        have hq' := h1.symm.trans hq
        have h3 := Leb.rd33_lt (l.drop p) p 0 0 v nx (by omega) (by simp) hq'
        have h4 := Leb.rd_shortS _ _ _ _ hq'
        refine ⟨?_, ?_, h2 rfl⟩
        · unfold Kd.pHeap Kd.given Kd.pIdx
          dsimp only
          rw [if_neg (by simp), decide_eq_true rfl, decide_eq_true (by omega), decide_eq_true (by omega)]
          rfl
        · dsimp only
          rw [putHeap_long (h := ⟨13, Leb.sOf v⟩) ix_13]
          exact h4
    · rw [if_neg he] at h
      exact absurd h he
theorem may_lt {x : Nat} {r : Rd} (h : may x r = true) : r.p < r.bs.length := by
  unfold may at h
  simp only [Bool.and_eq_true, decide_eq_true_eq] at h
  exact h.2.1
theorem ref_good (nu : Bool) : Good (ref nu) (fun v => putHeap v.h) (fun v => v.k = 3 ∧ v.nu = nu ∧ Kd.pHeap v.h = true) := fun r h0 hp hl he => by
  by_cases h1 : (heap r).2.e = 0
  · obtain ⟨a, b, c, d⟩ := heap_good r h0 hp hl h1
    unfold ref
    rw [if_pos h1]
    exact ⟨⟨rfl, rfl, a⟩, b, c, d⟩
  · unfold ref at he
    rw [if_neg h1] at he
    exact absurd he h1
theorem putVal_ref (v : Vl) (hk : v.k = 3) : (putVal v).length ≤ (putHeap v.h).length + 1 := by
  unfold putVal
  rw [if_neg (by omega), if_neg (by omega)]
  split
  · simp
  · split <;> simp
theorem pVal_ref {v : Vl} (hk : v.k = 3) (hp : Kd.pHeap v.h = true) : Kd.pVal v = true := by
  unfold Kd.pVal
  rw [if_neg (by omega), if_neg (by omega), if_pos hk]
  exact hp
theorem short_good : Good (item noVal shortAt) putVal (fun v => Kd.pVal v = true) := Good.item fun l p hp hl h => by
  unfold shortAt at h ⊢
  by_cases hg : isGiven l p = true
  · rw [if_pos hg] at h ⊢
    have h1 := given_good hg
    refine ⟨pVal_ref rfl h1.1, ?_, by dsimp only; omega⟩
    have e : putVal ⟨3, true, given l p⟩ = putHeap (given l p) := by unfold putVal; simp [h1.2.2.1]
    dsimp only
    rw [e]
    omega
  · rw [if_neg hg] at h ⊢
    split at h
    · cases h
    · exact absurd h (noneAt_no _ _ _)
theorem on_le {x : Nat} {r : Rd} (h : may x r = true) : (on r).p ≤ (on r).bs.length := may_lt h
theorem val_good : Good val putVal (fun v => Kd.pVal v = true) := fun r h0 hp hl he => by
  unfold val at he ⊢
  by_cases h1 : may 127 r = true
  · rw [if_pos h1] at he ⊢
    exact ⟨(show Kd.pVal ⟨1, false, ⟨0, 0⟩⟩ = true by decide), rfl, Nat.le_refl _, may_lt h1⟩
  rw [if_neg h1] at he ⊢
  by_cases h2 : may 126 r = true
  · rw [if_pos h2] at he ⊢
    exact ⟨(show Kd.pVal ⟨2, false, ⟨0, 0⟩⟩ = true by decide), rfl, Nat.le_refl _, may_lt h2⟩
  rw [if_neg h2] at he ⊢
  have hr : ∀ x nu, may x r = true → (ref nu (on r)).2.e = 0 → Kd.pVal (ref nu (on r)).1 = true ∧ (ref nu (on r)).2.bs = r.bs ∧ r.p + (putVal (ref nu (on r)).1).length ≤ (ref nu (on r)).2.p ∧ (ref nu (on r)).2.p ≤ r.bs.length := fun x nu hx he => by
    obtain ⟨⟨a1, a2, a3⟩, b, c, d⟩ := ref_good nu (on r) h0 (may_lt hx) hl he
    have hq := putVal_ref _ a1
    have hon : (on r).p = r.p + 1 := rfl
    dsimp only at c
    exact ⟨pVal_ref a1 a3, b, by omega, d⟩
  by_cases h3 : may 99 r = true
  · rw [if_pos h3] at he ⊢
    exact hr 99 true h3 he
  rw [if_neg h3] at he ⊢
  by_cases h4 : may 100 r = true
  · rw [if_pos h4] at he ⊢
    exact hr 100 false h4 he
  rw [if_neg h4] at he ⊢
  exact short_good r h0 hp hl he
theorem store_good : Good store (fun s => putStore s.1 s.2) (fun s => (s.1 = 0 ∧ Kd.pVal s.2 = true) ∨ ((s.1 = 8 ∨ s.1 = 16) ∧ s.2 = ⟨1, false, ⟨0, 0⟩⟩)) := fun r h0 hp hl he => by
  unfold store at he ⊢
  by_cases h1 : may 120 r = true
  · rw [if_pos h1] at he ⊢
    exact ⟨.inr ⟨.inl rfl, rfl⟩, rfl, Nat.le_refl _, may_lt h1⟩
  rw [if_neg h1] at he ⊢
  by_cases h2 : may 119 r = true
  · rw [if_pos h2] at he ⊢
    exact ⟨.inr ⟨.inr rfl, rfl⟩, rfl, Nat.le_refl _, may_lt h2⟩
  rw [if_neg h2] at he ⊢
  obtain ⟨a, b, c, d⟩ := val_good r h0 hp hl he
  exact ⟨.inl ⟨rfl, a⟩, b, c, d⟩
theorem mut_good : Good (item false mutAt) (fun m => [if m then 1 else 0]) (fun _ => True) := Good.item fun l p hp hl h => by
  unfold mutAt at h ⊢
  split
  · next h1 => exact ⟨trivial, by simp, h1.1⟩
  · next h1 =>
    rw [if_neg h1] at h
    exact absurd h (noneAt_no _ _ _)
theorem Still.ok {α β : Type} {one : Rd → α × Rd} {two : Rd → β × Rd} (h : Still two) {r : Rd} (he : (two (one r).2).2.e = 0) : (one r).2.e = 0 := by
  by_cases h1 : (one r).2.e = 0
  · exact h1
  · rw [h _ h1] at he
    exact absurd he h1
theorem field_good : Good field putField (fun f => Kd.pField f = true) := fun r h0 hp hl he => by
  have h1 : (store r).2.e = 0 := Still.ok (one := store) (two := item false mutAt) (item_still _ _) he
  obtain ⟨a, b, c, d⟩ := store_good r h0 hp hl h1
  obtain ⟨-, b2, c2, d2⟩ := mut_good (store r).2 h1 (by rw [b]; exact d) (by rw [b]; exact hl) he
  refine ⟨?_, b2.trans b, ?_, by rw [b] at d2; exact d2⟩
  · unfold Kd.pField field
    dsimp only
    rcases a with ⟨a1, a2⟩ | ⟨a1, a2⟩
    · rw [if_pos a1]; exact a2
    · rw [if_neg (by omega), if_pos a1, a2]; rfl
  · unfold putField
    rw [List.length_append, List.length_singleton]
    dsimp only at c c2 ⊢
    have e : putStore (field r).1.pk (field r).1.v = putStore (store r).1.1 (store r).1.2 := rfl
    rw [e]
    rw [List.length_singleton] at c2
    have e2 : (field r).2.p = (item false mutAt (store r).2).2.p := rfl
    omega
theorem many_good {α : Type} {one : Rd → α × Rd} {put : α → List Nat} {ok : α → Prop} (ho : Good one put ok) : ∀ (n : Nat) (out : List α) (r : Rd), r.e = 0 → r.p ≤ r.bs.length → r.bs.length ≤ 10000 → (many one n out r).2.e = 0 →
    ∃ l, (many one n out r).1 = out ++ l ∧ l.length = n ∧ (∀ x ∈ l, ok x) ∧ (many one n out r).2.bs = r.bs ∧ r.p + (l.flatMap put).length ≤ (many one n out r).2.p ∧ (many one n out r).2.p ≤ r.bs.length
  | 0, out, r, h0, hp, hl, _ => ⟨[], by simp [many], rfl, by simp, rfl, by simp [many], hp⟩
  | n + 1, out, r, h0, hp, hl, he => by
    unfold many at he ⊢
    by_cases h1 : (one r).2.e = 0
    · rw [if_pos h1] at he ⊢
      obtain ⟨a, b, c, d⟩ := ho r h0 hp hl h1
      obtain ⟨l, e1, e2, e3, e4, e5, e6⟩ := many_good ho n (out ++ [(one r).1]) (one r).2 h1 (by rw [b]; exact d) (by rw [b]; exact hl) he
      refine ⟨(one r).1 :: l, by rw [e1]; simp, by simp [e2], ?_, e4.trans b, ?_, by rw [b] at e6; exact e6⟩
      · intro x hx
        rcases List.mem_cons.1 hx with rfl | hx
        · exact a
        · exact e3 x hx
      · rw [List.flatMap_cons, List.length_append]
        omega
    · rw [if_neg h1] at he
      exact absurd he h1
theorem count_good : Good count Leb.putU (fun n => n ≤ 10000) := Good.item fun l p hp hl h => by
  have h2 := told_le false l p 32
  have h1 : told false l p 32 = Leb.rd 32 false (l.drop p) p 0 0 := told_at false l p 32 hp (by omega)
  obtain ⟨v, nx, er, hq⟩ : ∃ v nx er, told false l p 32 = (v, nx, er) := ⟨_, _, _, rfl⟩
  unfold countAt at h ⊢
  rw [hq] at h h2 ⊢
  dsimp only at h h2 ⊢
  by_cases he : er = 0
  · subst he
    rw [if_pos rfl] at h ⊢
    by_cases hc : l.length - nx < v
    · rw [if_pos hc] at h; cases h
    · rw [if_neg hc] at h ⊢
      have h3 := Leb.rd_shortU _ _ _ _ (h1.symm.trans hq)
      exact ⟨by dsimp only; omega, h3, h2 rfl⟩
  · rw [if_neg he] at h
    exact absurd h he
theorem many_still {α : Type} (one : Rd → α × Rd) (ho : Still one) (n : Nat) (r : Rd) (h : r.e ≠ 0) : (many one n [] r).2 = r := by
  cases n with
  | zero => rfl
  | succ n =>
    unfold many
    rw [ho r h, if_neg h]
theorem list_good {α : Type} {one : Rd → α × Rd} {put : α → List Nat} {ok : α → Prop} (ho : Good one put ok) (hs : Still one) : Good (list one) (putList put) (fun l => l.length ≤ 10000 ∧ ∀ x ∈ l, ok x) := fun r h0 hp hl he => by
  have h1 : (count r).2.e = 0 := by
    by_cases h1 : (count r).2.e = 0
    · exact h1
    · unfold list at he
      rw [many_still one hs _ _ h1] at he
      exact absurd he h1
  obtain ⟨a, b, c, d⟩ := count_good r h0 hp hl h1
  obtain ⟨l, e1, e2, e3, e4, e5, e6⟩ := many_good ho (count r).1 [] (count r).2 h1 (by rw [b]; exact d) (by rw [b]; exact hl) he
  have e1' : (list one r).1 = l := e1
  refine ⟨?_, e4.trans b, ?_, by rw [b] at e6; exact e6⟩
  · rw [e1']
    exact ⟨by rw [e2]; exact a, e3⟩
  · rw [e1']
    unfold putList
    rw [List.length_append, e2]
    have e7 : (list one r).2 = (many one (count r).1 [] (count r).2).2 := rfl
    rw [e7]
    omega
def OkComp (c : Cp) : Prop := Kd.pComp c = true ∧ SmallC c
theorem comp_good : Good comp putComp OkComp := fun r h0 hp hl he => by
  unfold comp at he ⊢
  by_cases h1 : may 96 r = true
  · rw [if_pos h1] at he ⊢
    dsimp only at he ⊢
    have hA : (vals (on r)).2.e = 0 := Still.ok (one := vals) (two := vals) (list_still _) he
    obtain ⟨⟨a1, a2⟩, b, c, d⟩ := list_good val_good val_still (on r) h0 (may_lt h1) hl hA
    obtain ⟨⟨a1', a2'⟩, b', c', d'⟩ := list_good val_good val_still (vals (on r)).2 hA (by show _ ≤ (list val (on r)).2.bs.length; rw [b]; exact d) (by show (list val (on r)).2.bs.length ≤ _; rw [b]; exact hl) he
    have hon : (on r).p = r.p + 1 := rfl
    have hbs : (on r).bs = r.bs := rfl
    refine ⟨⟨?_, a1, a1', by simp⟩, b'.trans (b.trans hbs), ?_, by rw [show (vals (on r)).2.bs = r.bs from b.trans hbs] at d'; exact d'⟩
    · have b1 : (vals (on r)).1.all Kd.pVal = true := List.all_eq_true.2 a2
      have b2 : (vals (vals (on r)).2).1.all Kd.pVal = true := List.all_eq_true.2 a2'
      unfold Kd.pComp
      dsimp only
      rw [if_pos rfl, b1, b2]
      rfl
    · have e : putComp ⟨1, (vals (on r)).1, (vals (vals (on r)).2).1, []⟩ = 96 :: (putList putVal (vals (on r)).1 ++ putList putVal (vals (vals (on r)).2).1) := rfl
      rw [e, List.length_cons, List.length_append]
      have e2 : (vals (on r)).1 = (list val (on r)).1 := rfl
      have e3 : (vals (on r)).2 = (list val (on r)).2 := rfl
      have e4 : vals (list val (on r)).2 = list val (list val (on r)).2 := rfl
      rw [e3] at c' ⊢
      rw [e2, e4]
      omega
  rw [if_neg h1] at he ⊢
  by_cases h2 : may 95 r = true
  · rw [if_pos h2] at he ⊢
    dsimp only at he ⊢
    obtain ⟨⟨a1, a2⟩, b, c, d⟩ := list_good field_good field_still (on r) h0 (may_lt h2) hl he
    have hon : (on r).p = r.p + 1 := rfl
    refine ⟨⟨?_, by simp, by simp, a1⟩, b, ?_, d⟩
    · unfold Kd.pComp
      dsimp only
      rw [if_neg (by decide), if_pos rfl, List.all_eq_true.2 a2]
      rfl
    · have e : putComp ⟨2, [], [], (list field (on r)).1⟩ = 95 :: putList putField (list field (on r)).1 := rfl
      rw [e, List.length_cons]
      omega
  rw [if_neg h2] at he ⊢
  by_cases h3 : may 94 r = true
  · rw [if_pos h3] at he ⊢
    dsimp only at he ⊢
    obtain ⟨a, b, c, d⟩ := field_good (on r) h0 (may_lt h3) hl he
    have hon : (on r).p = r.p + 1 := rfl
    refine ⟨⟨?_, by simp, by simp, by simp⟩, b, ?_, d⟩
    · unfold Kd.pComp
      dsimp only
      rw [if_neg (by decide), if_neg (by decide), if_pos rfl]
      simp only [List.all_cons, List.all_nil, a]
      rfl
    · have e : putComp ⟨3, [], [], [(field (on r)).1]⟩ = 94 :: putField (field (on r)).1 := rfl
      rw [e, List.length_cons]
      omega
  rw [if_neg h3] at he
  have h4 : (item noComp (noneAt noComp) r).2.e ≠ 0 := by
    unfold item
    rw [if_pos h0, if_neg (noneAt_no _ _ _)]
    have := noneAt_no noComp r.bs r.p
    dsimp only
    omega
  exact absurd he h4
def OkSub (s : Sb) : Prop := Kd.pSub s = true ∧ Kd.Small s
theorem ok_sub {fin : Bool} {sups : List Hp} {c : Cp} (h1 : sups.length ≤ 10000) (h2 : ∀ x ∈ sups, Kd.pIdx x = true) (h3 : OkComp c) : OkSub ⟨fin, sups, c⟩ := by
  refine ⟨?_, h1, h3.2.1, h3.2.2, h3.2.3⟩
  unfold Kd.pSub
  rw [List.all_eq_true.2 h2, h3.1]
  rfl
theorem sub_good : Good sub putSub OkSub := fun r h0 hp hl he => by
  unfold sub at he ⊢
  have hs : ∀ x, may x r = true → (comp (list index (on r)).2).2.e = 0 → ∀ fin, OkSub ⟨fin, (list index (on r)).1, (comp (list index (on r)).2).1⟩ ∧ (comp (list index (on r)).2).2.bs = r.bs ∧
      r.p + 1 + (putList putIdx (list index (on r)).1).length + (putComp (comp (list index (on r)).2).1).length ≤ (comp (list index (on r)).2).2.p ∧ (comp (list index (on r)).2).2.p ≤ r.bs.length := fun x hx he fin => by
    have hA : (list index (on r)).2.e = 0 := Still.ok (one := list index) (two := comp) comp_still he
    obtain ⟨⟨a1, a2⟩, b, c, d⟩ := list_good index_good index_still (on r) h0 (may_lt hx) hl hA
    obtain ⟨a', b', c', d'⟩ := comp_good (list index (on r)).2 hA (by rw [b]; exact d) (by rw [b]; exact hl) he
    have hon : (on r).p = r.p + 1 := rfl
    have hbs : (on r).bs = r.bs := rfl
    exact ⟨ok_sub a1 a2 a', b'.trans (b.trans hbs), by omega, by rw [b, hbs] at d'; exact d'⟩
  by_cases h1 : may 80 r = true
  · rw [if_pos h1] at he ⊢
    obtain ⟨a, b, c, d⟩ := hs 80 h1 he false
    refine ⟨a, b, ?_, d⟩
    have e : ∀ (s : List Hp) (c : Cp), putSub ⟨false, s, c⟩ = 80 :: (putList putIdx s ++ putComp c) := fun _ _ => rfl
    rw [e, List.length_cons, List.length_append]
    dsimp only
    omega
  rw [if_neg h1] at he ⊢
  by_cases h2 : may 79 r = true
  · rw [if_pos h2] at he ⊢
    obtain ⟨a, b, c, d⟩ := hs 79 h2 he true
    refine ⟨a, b, ?_, d⟩
    have e : ∀ (s : List Hp) (c : Cp), (putSub ⟨true, s, c⟩).length ≤ 1 + (putList putIdx s).length + (putComp c).length := fun s c => by
      unfold putSub
      dsimp only
      rw [if_neg (by decide)]
      split <;> (simp <;> omega)
    have := e (list index (on r)).1 (comp (list index (on r)).2).1
    dsimp only
    omega
  rw [if_neg h2] at he ⊢
  obtain ⟨a, b, c, d⟩ := comp_good r h0 hp hl he
  exact ⟨ok_sub (by simp) (by simp) a, b, c, d⟩
theorem sub_still : Still sub := fun r h => by
  unfold sub
  rw [may_still _ h, may_still _ h]
  exact comp_still r h
theorem rec_err (r : Rd) (h : (rec_ r).2.e ≠ 0) : (rec_ r).1 = [] := by
  unfold rec_ at h ⊢
  split
  · next h1 =>
    rw [if_pos h1] at h
    exact list_zero _ _ h
  · next h1 =>
    rw [if_neg h1] at h
    split
    · next h2 =>
      rw [if_pos h2] at h
      exact absurd h2 h
    · rfl
theorem rec_ok (l : List Nat) (hl : l.length ≤ 10000) (he : (rec_ (opened l)).2.e = 0) :
    (rec_ (opened l)).1.length ≤ 10000 ∧ (∀ s ∈ (rec_ (opened l)).1, Kd.Small s) ∧ (putRec (rec_ (opened l)).1).length ≤ (rec_ (opened l)).2.p ∧ ((rec_ (opened l)).1 ≠ [] → putRec (rec_ (opened l)).1 ≠ []) := by
  have hpos : ∀ g : List Sb, g ≠ [] → g.all Kd.pSub = true → putRec g ≠ [] := fun g h0 ha => by
    by_cases h1 : g.length = 1
    · obtain ⟨s, rfl⟩ : ∃ s, g = [s] := by
        match g, h1 with
        | [s], _ => exact ⟨s, rfl⟩
      rw [putRec_one (by simpa using ha)]
      have := putSub_pos s
      intro e
      rw [e] at this
      simp at this
    · rw [putRec_more h0 h1 ha]
      simp
  unfold rec_ at he ⊢
  by_cases hm : may 78 (opened l) = true
  · rw [if_pos hm] at he ⊢
    obtain ⟨⟨a1, a2⟩, b, c, d⟩ := list_good sub_good sub_still (on (opened l)) rfl (may_lt hm) hl he
    have hon : (on (opened l)).p = 1 := rfl
    have hall : (list sub (on (opened l))).1.all Kd.pSub = true := List.all_eq_true.2 fun x hx => (a2 x hx).1
    refine ⟨a1, fun s hs => (a2 s hs).2, ?_, fun h0 => hpos _ h0 hall⟩
    generalize (list sub (on (opened l))).1 = g at *
    by_cases h0 : g = []
    · rw [h0]
      show 0 ≤ _
      omega
    · by_cases h1 : g.length = 1
      · obtain ⟨s, rfl⟩ : ∃ s, g = [s] := by
          match g, h1 with
          | [s], _ => exact ⟨s, rfl⟩
        rw [putRec_one (a2 s (by simp)).1]
        unfold putList at c
        simp at c
        omega
      · rw [putRec_more h0 h1 hall, List.length_cons]
        omega
  · rw [if_neg hm] at he ⊢
    by_cases h1 : (sub (opened l)).2.e = 0
    · rw [if_pos h1] at he ⊢
      obtain ⟨a, b, c, d⟩ := sub_good (opened l) rfl (Nat.zero_le _) hl h1
      have hp0 : (opened l).p = 0 := rfl
      refine ⟨by simp, fun s hs => by rw [List.mem_singleton.1 hs]; exact a.2, ?_, fun h0 => hpos _ h0 (by simp [a.1])⟩
      dsimp only
      rw [putRec_one a.1]
      omega
    · rw [if_neg h1] at he
      exact absurd he h1
end Tb
end Go.Proofs.YtkdhjejchdcipaaDoor
/-
  Layer 6: a group that was read, as a list of declared types that is read.
-/
namespace Go.Proofs.YtkdhjejchdcipaaDoor
open Go.RowKit
set_option linter.unusedVariables false
set_option linter.unusedSimpArgs false
set_option maxRecDepth 100000

theorem slice_seg {α : Type} {e ts sz B : Nat} {cs : α → List Value} {w : World} {x : Sl} {l : List α} (hE : Elem e ts sz cs) (h : OwnG e sz cs B w (.slice x.a x.n x.c) l) : x.n = l.length ∧ Seg sz cs w w.heap.size x.a x.c l := by
  obtain ⟨A, c, e1, h1⟩ := h.seg hE
  injection e1 with e1 e2 e3
  subst e1 e3
  exact ⟨e2, h1⟩
theorem OwnS.isSub {B : Nat} {w : World} {x : Sr} {s : Sb} (h : OwnS B w x s) : IsSub w w.heap.size (Sr.val x) s := by
  obtain ⟨e1, s1⟩ := slice_seg elemH h.sups
  obtain ⟨e2, s2⟩ := slice_seg elemV h.comp.ps
  obtain ⟨e3, s3⟩ := slice_seg elemV h.comp.rs
  obtain ⟨e4, s4⟩ := slice_seg elemF h.comp.fs
  refine ⟨x.x1.a, x.x1.c, x.x2.a, x.x2.c, x.x3.a, x.x3.c, x.x4.a, x.x4.c, ?_, s1, s2, s3, s4⟩
  unfold Sr.val
  rw [h.fin, h.comp.k, e1, e2, e3, e4]
theorem All2.at {α β : Type} {R : α → β → Prop} : ∀ {l : List α} {m : List β}, All2 R l m → ∀ i (h : i < l.length) (h2 : i < m.length), R l[i] m[i]
  | [], [], _, i, h, _ => absurd h (by simp)
  | x :: l, y :: m, h, 0, _, _ => h.1
  | x :: l, y :: m, h, i + 1, h1, h2 => All2.at h.2 i (by simpa using h1) (by simpa using h2)
/-- What Rec tells. -/
def RecSubs (b : Nat) (A : Option Addr) (n c : Nat) (q : List Sb × Rd) (w : World) (en : Ending) (w' : World) : Prop :=
  ∃ (A' : Option Addr) (c' : Nat) (xs : List Sr), en = .returned (.slice A' q.1.length c') ∧ Subs w' w'.heap.size A' c' xs q.1 ∧ RdAt w' b A n c q.2 ∧ Keep (Db b) w w'
theorem Rec_subs {w : World} {b n c : Nat} {A : Option Addr} {r : Rd} (h : RdAt w b A n c r) (hn : n < 1000000) (hT : Tab6 w) {q : List Sb × Rd} (hq : Tb.rec_ r = q) :
    Calls Tryd.prog 45 #[.pointer (some ⟨b, 0, none⟩)] w (RecSubs b A n c q w) := by
  subst hq
  refine (Rec_any h hn hT).mono ?_
  rintro e w' ⟨x, xs, rfl, hown, hall, hrd, hk⟩
  obtain ⟨e1, s1⟩ := slice_seg elemSub hown
  have hl := hall.len
  refine ⟨x.a, x.c, xs, by rw [e1, hl], ⟨hl, s1, fun i h1 h2 => (hall.at i h1 h2).isSub⟩, hrd, hk⟩
end Go.Proofs.YtkdhjejchdcipaaDoor
/-
  geodelaw06.TbinBack: the walk.
-/
namespace Go.Proofs.YtkdhjejchdcipaaDoor
open Go.RowKit
set_option linter.unusedVariables false
set_option linter.unusedSimpArgs false
set_option maxRecDepth 100000

theorem heap_alloc_new_ (w : World) (o : Obj) : (w.alloc o).heap[w.heap.size]? = some o := Array.getElem?_push_size
theorem Subs.drewN {w : World} {C : Nat} {A : Option Addr} {c : Nat} {xs : List Sr} {l : List Sb} (h : Subs w C A c xs l) (m : Nat) : Subs (w.drewN m) C A c xs l := ⟨h.len, h.seg, h.sub⟩
/-- A box that holds a value type. -/
def BoxV (y : World) (g : Nat) (v : Vl) : Prop := y.heap[g]? = some (.cells #[.int .i64 v.k, .bool v.nu, .int .i64 v.h.k, .int .i64 v.h.n] 46 (0, 0))
theorem BoxV.below {y z : World} {g : Nat} {v : Vl} (h : BoxV y g v) (hb : Below y.heap.size y z) : BoxV z g v := (hb.block g (Array.getElem?_eq_some_iff.1 h).1).trans h
theorem BoxV.cells {y : World} {g : Nat} {v : Vl} (h : BoxV y g v) : y.cell? ⟨g, 0, none⟩ = some (.int .i64 v.k) ∧ y.cell? ⟨g, 1, none⟩ = some (.bool v.nu) ∧ y.cell? ⟨g, 2, none⟩ = some (.int .i64 v.h.k) ∧ y.cell? ⟨g, 3, none⟩ = some (.int .i64 v.h.n) :=
  ⟨cell_of_row y g 0 _ _ (0, 0) h, cell_of_row y g 1 _ _ (0, 0) h, cell_of_row y g 2 _ _ (0, 0) h, cell_of_row y g 3 _ _ (0, 0) h⟩
theorem box_made (y : World) (v : Vl) : (y.alloc (.cells #[.int .i64 0, .bool false, .int .i64 0, .int .i64 0] 46)).heap[y.heap.size]? = some (.cells #[.int .i64 0, .bool false, .int .i64 0, .int .i64 0] 46 (0, 0)) ∧
    BoxV ((y.alloc (.cells #[.int .i64 0, .bool false, .int .i64 0, .int .i64 0] 46)).setRow y.heap.size #[.int .i64 v.k, .bool v.nu, .int .i64 v.h.k, .int .i64 v.h.n]) y.heap.size v ∧
    Below y.heap.size y ((y.alloc (.cells #[.int .i64 0, .bool false, .int .i64 0, .int .i64 0] 46)).setRow y.heap.size #[.int .i64 v.k, .bool v.nu, .int .i64 v.h.k, .int .i64 v.h.n]) := by
  have h : (y.alloc (.cells #[.int .i64 0, .bool false, .int .i64 0, .int .i64 0] 46)).heap[y.heap.size]? = some (.cells #[.int .i64 0, .bool false, .int .i64 0, .int .i64 0] 46 (0, 0)) := heap_alloc_new_ _ _
  exact ⟨h, setRow_heap _ _ _ _ _ _ h, below_setRow ((Below.refl _ _).alloc (Nat.le_refl _) _) (Nat.le_refl _) _⟩
theorem run_neqV_self (x : Vl) (w : World) : (binOp .neq 46 x.val x.val).run Tryd.prog w = .ok (.bool false) w := by
  have h := run_neqV x x w
  rw [decide_eq_true (rfl : x = x)] at h
  exact h
theorem BoxV.drewN {y : World} {g : Nat} {v : Vl} (h : BoxV y g v) (m : Nat) : BoxV (y.drewN m) g v := h
/-- Where the walk stands. -/
structure BSt (w y : World) (v : Vl) : Prop where
  below : Below w.heap.size w y
  box : BoxV y w.heap.size v
  tab : Tab6 y
theorem BSt.on {w y z : World} {v : Vl} (h : BSt w y v) (hb : Below y.heap.size y z) : BSt w z v := ⟨below_trans h.below hb, h.box.below hb, h.tab.below hb⟩
theorem Tb.rec_split (l : List Nat) (hl : l.length ≤ 10000) : ∃ g bs p e bad, Tb.rec_ (Tb.opened l) = (g, ⟨bs, p, e, bad⟩) ∧ ((e ≠ 0 ∧ g = []) ∨ (e = 0 ∧ g.length ≤ 10000 ∧ (∀ s ∈ g, Kd.Small s) ∧ (Tb.putRec g).length ≤ p ∧ (g ≠ [] → Tb.putRec g ≠ []))) := by
  refine ⟨(Tb.rec_ (Tb.opened l)).1, (Tb.rec_ (Tb.opened l)).2.bs, (Tb.rec_ (Tb.opened l)).2.p, (Tb.rec_ (Tb.opened l)).2.e, (Tb.rec_ (Tb.opened l)).2.bad, rfl, ?_⟩
  by_cases he : (Tb.rec_ (Tb.opened l)).2.e = 0
  · exact .inr ⟨he, Tb.rec_ok l hl he⟩
  · exact .inl ⟨he, Tb.rec_err _ he⟩
set_option maxHeartbeats 16000000 in
theorem TbinBack_walk (w : World) (hT : Tab6 w) (A : Option Addr) (c : Nat) (xs : List Sr) (l : List Sb) (hs : Subs w w.heap.size A c xs l) (_ : True) (v : Vl) (wv : WfV v) (A3 : Option Addr) (n c3 : Nat) (tl : List Nat) (hby : Bytes w w.heap.size A3 n c3 tl) :
    Calls Tryd.prog 6 #[.slice A l.length c, v.val, .slice A3 n c3] w fun e w' => e = .returned (.bool true) ∧ Below w.heap.size w w' := by
  obtain ⟨Q, hQ⟩ : ∃ Q : Ending → World → Prop, Q = (fun e w' => e = .returned (.bool true) ∧ Below w.heap.size w w') := ⟨_, rfl⟩
  rw [← hQ]
  have HQ := Lib.hid hQ
  obtain ⟨w0, hw0⟩ : ∃ w0, w0 = w.alloc (.cells #[.int .i64 v.k, .bool v.nu, .int .i64 v.h.k, .int .i64 v.h.n] 46) := ⟨_, rfl⟩
  have hb0 : Below w.heap.size w w0 := by rw [hw0]; exact (Below.refl _ _).alloc (Nat.le_refl _) _
  have S0 : Hid (BSt w w0 v) := Lib.hid ⟨hb0, by unfold BoxV; rw [hw0]; exact heap_alloc_new_ _ _, hT.below hb0⟩
  have HW0 := Lib.hid hw0
  have HK := Lib.hid (known6_any w0 (hT.below hb0))
  have HS : Hid (∀ y, Below w.heap.size w y → Subs y y.heap.size A c xs l) := Lib.hid fun y hy => (hs.below hy).more hy.size
  have HTail : Hid (∀ y, Below w.heap.size w y → Bytes y y.heap.size A3 n c3 tl) := Lib.hid fun y hy => (hby.below hy).more hy.size
  have HTL : Hid (tl.length = n ∧ ∀ x ∈ tl, x < 256) := Lib.hid ⟨hby.1, hby.2.2.2.1⟩
  have HLX : Hid (xs.length = l.length) := Lib.hid hs.len
  clear hQ hT wv hw0 hb0 hby hs
  by_cases hbig : 30 < l.length
  · have hg : (30 : Int) < (l.length : Int) := by omega
    clear hbig
    go_enter Tryd.func6, Tryd.ntmps6
    go_wp2_with fail
    rw [← HW0.out]
    refine HK.out.mono ?_
    rintro e y ⟨rfl, hb⟩
    have S := Lib.hid (S0.out.on hb)
    clear hb
    go_wp2_with fail
    rw [HQ.out]
    exact ⟨rfl, S.out.below⟩
  have hg : (l.length : Int) ≤ 30 := by omega
  have HL : Hid (l.length ≤ 30) := Lib.hid (by omega)
  clear hbig
  by_cases hbig : 600 < n
  · have hg2 : (600 : Int) < (n : Int) := by omega
    clear hbig
    go_enter Tryd.func6, Tryd.ntmps6
    go_wp2_with fail
    rw [← HW0.out]
    refine HK.out.mono ?_
    rintro e y ⟨rfl, hb⟩
    have S := Lib.hid (S0.out.on hb)
    clear hb
    go_wp2_with fail
    rw [HQ.out]
    exact ⟨rfl, S.out.below⟩
  have hg2 : (n : Int) ≤ 600 := by omega
  have HN : Hid (n ≤ 600) := Lib.hid (by omega)
  clear hbig
  obtain ⟨gq, bsq, pq, eq_, badq, hrq, hrc⟩ := Tb.rec_split tl (by have := HTL.out.1; have := HN.out; omega)
  have HRQ := Lib.hid hrq
  have HRC := Lib.hid hrc
  clear hrq hrc
  go_enter Tryd.func6, Tryd.ntmps6
  go_wp2_with fail
  rw [← HW0.out]
  refine HK.out.mono ?_
  rintro e w1 ⟨rfl, hb⟩
  have S1 := Lib.hid (S0.out.on hb)
  have HB : Hid (Below w.heap.size w w1) := Lib.hid S1.out.below
  clear hb HK HW0 S0 w0
  go_wp2_with fail
  clear hg hg2
  go_loopw [7] (fun i wr => wr = w1 ∧ ∃ k : Nat, k ≤ l.length ∧ i = .int .i64 k ∧ Hid (∀ x ∈ l.take k, Sixty x)) (fun i _ => l.length - (intOf i).toNat)
  case atStart => exact ⟨rfl, 0, Nat.zero_le _, rfl, by intro x hx; simp at hx⟩
  case round =>
    obtain ⟨hwr, k, hk, rfl, HM⟩ := hrel
    subst hwr
    by_cases hlt : k < l.length
    · have h1 : k < xs.length := by rw [HLX.out]; exact hlt
      have hsw := HS.out _ HB.out
      obtain ⟨b, off, rfl, hb, hc⟩ := hsw.seg.2.2 (by omega)
      have hln := hsw.lens k h1 hlt
      have g1 := hc k h1 1 _ rfl
      have g3 := hc k h1 3 _ rfl
      have g4 := hc k h1 4 _ rfl
      have g5 := hc k h1 5 _ rfl
      have HT1 := Lib.hid (List.take_succ_eq_append_getElem hlt)
      rw [hln.1] at g1
      rw [hln.2.1] at g3
      rw [hln.2.2.1] at g4
      rw [hln.2.2.2] at g5
      obtain ⟨s, hsv⟩ : ∃ s, s = l[k] := ⟨_, rfl⟩
      rw [← hsv] at g1 g3 g4 g5 HT1
      obtain ⟨n1, e1⟩ : ∃ n, n = s.sups.length := ⟨_, rfl⟩
      obtain ⟨n2, e2⟩ : ∃ n, n = s.c.ps.length := ⟨_, rfl⟩
      obtain ⟨n3, e3⟩ : ∃ n, n = s.c.rs.length := ⟨_, rfl⟩
      obtain ⟨n4, e4⟩ : ∃ n, n = s.c.fs.length := ⟨_, rfl⟩
      rw [← e1] at g1
      rw [← e2] at g3
      rw [← e3] at g4
      rw [← e4] at g5
      have E1 := Lib.hid e1
      have E2 := Lib.hid e2
      have E3 := Lib.hid e3
      have E4 := Lib.hid e4
      clear hc hln hsv e1 e2 e3 e4 hsw HTail HTL HRQ HRC HS
      by_cases q1 : (60 : Int) < (n1 : Int)
      · go_wp2
        rw [HQ.out]
        exact ⟨rfl, HB.out⟩
      have q1 : (n1 : Int) ≤ 60 := by omega
      by_cases q2 : (60 : Int) < (n2 : Int)
      · go_wp2
        rw [HQ.out]
        exact ⟨rfl, HB.out⟩
      have q2 : (n2 : Int) ≤ 60 := by omega
      by_cases q3 : (60 : Int) < (n3 : Int)
      · go_wp2
        rw [HQ.out]
        exact ⟨rfl, HB.out⟩
      have q3 : (n3 : Int) ≤ 60 := by omega
      by_cases q4 : (60 : Int) < (n4 : Int)
      · go_wp2
        rw [HQ.out]
        exact ⟨rfl, HB.out⟩
      have q4 : (n4 : Int) ≤ 60 := by omega
      have HSx : Hid (Sixty s) := Lib.hid ⟨by have := E1.out; omega, by have := E2.out; omega, by have := E3.out; omega, by have := E4.out; omega⟩
      have hw : wrap64 ((k : Int) + 1) = (k : Int) + 1 := IntWalk.wrap64_in _ (by have := HL.out; omega)
      go_wp2
      go_roundw
      case rel => exact ⟨trivial, k + 1, hlt, by go_num, by
        intro x hx
        rw [HT1.out] at hx
        rcases List.mem_append.1 hx with hx | hx
        · exact HM.out x hx
        · rw [List.mem_singleton.1 hx]; exact HSx.out⟩
      case measure =>
        try simp only [hw]
        clear hw q1 q2 q3 q4
        simp [intOf]
        omega
    · have hkn : k = l.length := by omega
      have H60 : Hid (∀ x ∈ l, Sixty x) := Lib.hid (by have := HM.out; rw [hkn, List.take_length] at this; exact this)
      have HSm : Hid (∀ x ∈ l, Kd.Small x) := Lib.hid fun x hx => (H60.out x hx).small
      have HP := Lib.hid (PutRec_any l xs A c wr S1.out.tab (by have := HL.out; omega) HSm.out (HS.out _ HB.out))
      have HP256 := Lib.hid (Tb.putRec_lt l)
      have HPL := Lib.hid (Tb.putRec_len60 HL.out H60.out)
      have HROUND : Hid (Tb.putRec l ≠ [] → Tb.rec_ (Tb.opened (Tb.putRec l ++ tl)) = (l, ⟨Tb.putRec l ++ tl, (Tb.putRec l).length, 0, 0⟩)) := Lib.hid fun h0 => Tb.rec_opened h0 (by have := HL.out; omega) HSm.out tl
      generalize Tb.putRec l = pl at HP HP256 HPL HROUND
      clear HM H60
      have n0 : ¬ ((k : Int) < (l.length : Int)) := by omega
      go_wp2_with fail
      refine HP.out.mono ?_
      rintro e y ⟨v2, rfl, ho, hb⟩
      obtain ⟨A1, c1, rfl, hy, -⟩ := ho.bs HP256.out
      have S := Lib.hid (S1.out.on hb)
      have HY := Lib.hid hy
      clear ho hb hy HP n0 S1 HB
      have HALL : Hid (∀ x ∈ pl ++ tl, x < 256) := Lib.hid fun x hx => by
        rcases List.mem_append.1 hx with hx | hx
        · exact HP256.out x hx
        · exact HTL.out.2 x hx
      by_cases hpl : pl = []
      case' pos =>
        subst hpl
        have S9 := S
        obtain ⟨d0, d1, d2, d3⟩ := S9.out.box.cells
        clear HROUND HY HALL HPL HP256
        go_wp2_with fail
        clear d0 d1 d2 d3
      case' neg =>
        have h0 : (0 : Int) < (pl.length : Int) := by have := List.length_pos_iff.2 hpl; omega
        replace HROUND := Lib.hid (HROUND.out hpl)
        clear hpl
        have HE : Hid (Own y.heap.size (y.alloc (.cells #[] 5)) (.slice (some ⟨y.heap.size, 0, none⟩) 0 0) []) := Lib.hid (Own.empty y (Nat.le_refl _))
        have HBE : Hid (Below y.heap.size y (y.alloc (.cells #[] 5))) := Lib.hid ((Below.refl _ _).alloc (Nat.le_refl _) _)
        have HYE : Hid (Bytes (y.alloc (.cells #[] 5)) y.heap.size A1 pl.length c1 pl) := Lib.hid (HY.out.below HBE.out)
        have HM : Hid (pl.length + n < 1000000) := Lib.hid (by have := HPL.out; have := HN.out; omega)
        have HB : Hid (Below w.heap.size w y) := Lib.hid S.out.below
        have HT : Hid (Tab6 y) := Lib.hid S.out.tab
        go_wp2_with (first
          | (at_builtin; refine cat_slice rfl _ _ rfl _ pl pl.length rfl rfl HE.out HYE.out HBE.out.size pl.length (by have := HPL.out; omega) (by simp) ?_; intro A5 c5 y5 ho2 hg2; have HO5 := Lib.hid (show Own y.heap.size y5 (.slice A5 pl.length c5) pl by simpa using ho2); have HB5 := Lib.hid (HE.out.grown hg2 (Nat.le_refl _) HBE.out.size HBE.out); have HT5 := Lib.hid (HTail.out y5 (below_trans HB.out HB5.out)); clear ho2 hg2)
          | (at_builtin; refine cat_slice rfl _ _ rfl _ tl n rfl rfl HO5.out HT5.out HB5.out.size (pl.length + n) (by have := HM.out; omega) rfl ?_; intro A6 c6 y6 ho2 hg2; have HO6 := Lib.hid (ho2.toBytes HALL.out); have HB6 := Lib.hid (HO5.out.grown hg2 (Nat.le_refl _) HB5.out.size HB5.out); clear ho2 hg2)
          | (go_at_call 24; (with_reducible refine (Open_any HO6.out HM.out).mono ?_); rintro e y7 ⟨b, A7, c7, rfl, hz, hr, hb⟩; have HR := Lib.hid hr; have HB7 := Lib.hid (below_trans HB6.out hb); have HZ := Lib.hid (Nat.le_trans HB6.out.size hz); have HT7 := Lib.hid (HT.out.below HB7.out); clear hr hb hz)
          | (go_at_call 45; (with_reducible refine (Rec_subs HR.out HM.out HT7.out HROUND.out).mono ?_); rintro e y8 ⟨A8, c8, ys, rfl, hsub, hrd, hkp⟩; have HB8 := Lib.hid (HB7.out.trans (hkp.below HB7.out.size (fun k o hk' e => by have : k = b := e; have := HZ.out; omega))); have HS8 := Lib.hid hsub; have HR8 := Lib.hid hrd; clear hsub hrd hkp)
          | (go_at_call 49; (with_reducible refine (Err_any HR8.out).mono ?_); rintro e y9 ⟨rfl, m, rfl⟩; have HR9 := Lib.hid (HR8.out.drewN m); have HS9 : Hid (Subs (y8.drewN m) (y8.drewN m).heap.size A8 c8 ys l) := Lib.hid (HS8.out.drewN m); have HB9 := Lib.hid (below_drewN HB8.out m))
          | (go_at_call 53; (with_reducible refine (same6_any l l ys xs A8 A c8 c _ (by have := HL.out; omega) (by have := HL.out; omega) HS9.out (HS.out _ (below_trans HB.out HB9.out)) HSm.out HSm.out).mono ?_); rw [decide_eq_true (rfl : l = l)]; rintro e y10 ⟨rfl, hb⟩; have HR10 := Lib.hid (HR9.out.below (Nat.le_refl _) hb); have HB10 := Lib.hid (below_trans HB9.out hb); clear hb)
          | (go_at_call 50; (with_reducible refine (At_any HR10.out).mono ?_); rintro e y11 ⟨rfl, rfl⟩; have S9 := Lib.hid (S.out.on HB10.out); obtain ⟨d0, d1, d2, d3⟩ := S9.out.box.cells))
        clear HE HBE HYE HM HO5 HB5 HT5 HO6 HB6 HR HB7 HZ HT7 HB8 HS8 HR8 HR9 HB9 HS9 HR10 HB10 h0 HB HT d0 d1 d2 d3 HROUND HY HALL HPL HP256
      all_goals
        clear S
        obtain ⟨pv, hpv⟩ : ∃ pv, (if Kd.pVal v then Tb.putVal v else []) = pv := ⟨_, rfl⟩
        have HPV : Hid (pv = [] ∨ (Kd.pVal v = true ∧ pv = Tb.putVal v)) := Lib.hid (by
          rw [← hpv]
          cases Kd.pVal v
          · left; rfl
          · right; exact ⟨rfl, rfl⟩)
        have HP256 : Hid (∀ x ∈ pv, x < 256) := Lib.hid (by
          rcases HPV.out with h | ⟨-, h⟩
          · rw [h]; intro x hx; cases hx
          · rw [h]; exact Tb.putVal_lt v)
        have HPL : Hid (pv.length ≤ 100000) := Lib.hid (by
          rcases HPV.out with h | ⟨h1, h⟩
          · rw [h]; simp
          · rw [h]; have := Tb.putVal_len12 h1; omega)
        have HROUND : Hid (pv ≠ [] → Tb.val (Tb.opened (pv ++ tl)) = (v, ⟨pv ++ tl, pv.length, 0, 0⟩)) := Lib.hid (by
          rcases HPV.out with h | ⟨h1, h⟩
          · rw [h]; intro h; exact absurd rfl h
          · rw [h]; intro _; exact Tb.val_opened h1 tl)
        have HALL : Hid (∀ x ∈ pv ++ tl, x < 256) := Lib.hid fun x hx => by
          rcases List.mem_append.1 hx with hx | hx
          · exact HP256.out x hx
          · exact HTL.out.2 x hx
        refine (PutVal_any v _ S9.out.tab).mono ?_
        rw [hpv]
        clear hpv HPV
        rintro e y ⟨v3, rfl, ho, hb⟩
        obtain ⟨A1, c1, rfl, hy, -⟩ := ho.bs HP256.out
        have S := Lib.hid (S9.out.on hb)
        have HY := Lib.hid hy
        clear ho hb hy S9
        by_cases hpl : pv = []
        case' pos =>
          subst hpl
          have S9 := S
          clear HROUND HY HALL HPL HP256
          go_wp2_with fail
        case' neg =>
          have h0 : (0 : Int) < (pv.length : Int) := by have := List.length_pos_iff.2 hpl; omega
          replace HROUND := Lib.hid (HROUND.out hpl)
          clear hpl
          have HE : Hid (Own y.heap.size (y.alloc (.cells #[] 5)) (.slice (some ⟨y.heap.size, 0, none⟩) 0 0) []) := Lib.hid (Own.empty y (Nat.le_refl _))
          have HBE : Hid (Below y.heap.size y (y.alloc (.cells #[] 5))) := Lib.hid ((Below.refl _ _).alloc (Nat.le_refl _) _)
          have HYE : Hid (Bytes (y.alloc (.cells #[] 5)) y.heap.size A1 pv.length c1 pv) := Lib.hid (HY.out.below HBE.out)
          have HM : Hid (pv.length + n < 1000000) := Lib.hid (by have := HPL.out; have := HN.out; omega)
          have HB : Hid (Below w.heap.size w y) := Lib.hid S.out.below
          have HT : Hid (Tab6 y) := Lib.hid S.out.tab
          go_wp2_with (first
            | (at_builtin; refine cat_slice rfl _ _ rfl _ pv pv.length rfl rfl HE.out HYE.out HBE.out.size pv.length (by have := HPL.out; omega) (by simp) ?_; intro A5 c5 y5 ho2 hg2; have HO5 := Lib.hid (show Own y.heap.size y5 (.slice A5 pv.length c5) pv by simpa using ho2); have HB5 := Lib.hid (HE.out.grown hg2 (Nat.le_refl _) HBE.out.size HBE.out); have HT5 := Lib.hid (HTail.out y5 (below_trans HB.out HB5.out)); clear ho2 hg2)
            | (at_builtin; refine cat_slice rfl _ _ rfl _ tl n rfl rfl HO5.out HT5.out HB5.out.size (pv.length + n) (by have := HM.out; omega) rfl ?_; intro A6 c6 y6 ho2 hg2; have HO6 := Lib.hid (ho2.toBytes HALL.out); have HB6 := Lib.hid (HO5.out.grown hg2 (Nat.le_refl _) HB5.out.size HB5.out); clear ho2 hg2)
            | (go_at_call 24; (with_reducible refine (Open_any HO6.out HM.out).mono ?_); rintro e y7 ⟨b, A7, c7, rfl, hz, hr, hb⟩; have HR := Lib.hid hr; have HB7 := Lib.hid (below_trans HB6.out hb); have HZ := Lib.hid (Nat.le_trans HB6.out.size hz); have HT7 := Lib.hid (HT.out.below HB7.out); clear hr hb hz)
            | (go_at_call 39; (with_reducible refine (Val_rd HR.out HT7.out).mono ?_); rw [HROUND.out]; rintro e y8 ⟨rfl, hrd, hkp⟩; have HB8 := Lib.hid (HB7.out.trans (hkp.below HB7.out.size (fun k o hk' e => by have : k = b := e; have := HZ.out; omega))); have F := box_made y8 v; have F1 := Lib.hid F.1; have F2 := Lib.hid F.2.1; have HR8 := Lib.hid (hrd.below (Nat.le_refl _) F.2.2); have HB8 := Lib.hid (below_trans HB8.out F.2.2); clear hrd hkp F)
            | (refine wpList_store_row rfl 46 _ _ rfl y8.heap.size #[.int .i64 v.k, .bool v.nu, .int .i64 v.h.k, .int .i64 v.h.n] rfl rfl _ _ F1.out (by kernel_rfl) rfl (by simp [Value.oneCell']) ?_)
            | (go_at_call 49; (with_reducible refine (Err_any HR8.out).mono ?_); rintro e y9 ⟨rfl, m, rfl⟩; have HR10 := Lib.hid (HR8.out.drewN m); have HB10 := Lib.hid (below_drewN HB8.out m); obtain ⟨f0, f1, f2, f3⟩ := (F2.out.drewN m).cells; have S9 := Lib.hid (S.out.on HB10.out); obtain ⟨d0, d1, d2, d3⟩ := S9.out.box.cells; have hne := fun w => run_neqV_self v w)
            | (go_at_call 50; (with_reducible refine (At_any HR10.out).mono ?_); rintro e y11 ⟨rfl, rfl⟩))
          clear HE HBE HYE HM HO5 HB5 HT5 HO6 HB6 HR HB7 HZ HT7 HB8 F1 F2 HR8 HR10 HB10 h0 HB HT d0 d1 d2 d3 f0 f1 f2 f3 hne HROUND HY HALL HPL HP256
        all_goals
          clear S
          have HN6 : Hid (n < 1000000) := Lib.hid (by have := HN.out; omega)
          refine (Open_any (HTail.out _ S9.out.below) HN6.out).mono ?_
          rintro e y2 ⟨b, A7, c7, rfl, hz, hr, hb⟩
          have HB2 := Lib.hid (below_trans S9.out.below hb)
          have HZ := Lib.hid (Nat.le_trans S9.out.below.size hz)
          have HR := Lib.hid hr
          have HT := Lib.hid (S9.out.tab.below hb)
          clear hr hb hz S9
          go_wp2_with fail
          refine (Rec_subs HR.out HN6.out HT.out HRQ.out).mono ?_
          rintro e y3 ⟨A8, c8, ys, rfl, hsub, hrd, hkp⟩
          have HB3 := Lib.hid (HB2.out.trans (hkp.below HB2.out.size (fun k o hk' e => by have : k = b := e; have := HZ.out; omega)))
          have HT3 := Lib.hid (HT.out.out HR.out hkp)
          have HS3 := Lib.hid hsub
          have HR3 := Lib.hid hrd
          clear hsub hrd hkp HT HR HB2
          go_wp2_with fail
          refine (Err_any HR3.out).mono ?_
          rintro e y4 ⟨rfl, m, rfl⟩
          have HB4 := Lib.hid (below_drewN HB3.out m)
          have HR4 := Lib.hid (HR3.out.drewN m)
          have HT4 : Hid (Tab6 (y3.drewN m)) := Lib.hid HT3.out
          have HS4 : Hid (Subs (y3.drewN m) (y3.drewN m).heap.size A8 c8 ys gq) := Lib.hid (HS3.out.drewN m)
          clear HB3 HR3 HT3 HS3
          rcases HRC.out with ⟨he, hg0⟩ | ⟨he, h1, h2, h3, h4⟩
          · subst hg0
            have hn1 : (eq_ != 0) = true := by simp [he]
            clear he
            go_wp2
            rw [HQ.out]
            exact ⟨rfl, HB4.out⟩
          · subst he
            have H1 := Lib.hid h1
            have H2 := Lib.hid h2
            have H3 := Lib.hid h3
            have H4 := Lib.hid h4
            clear h1 h2 h3 h4
            go_wp2_with fail
            refine (PutRec_any gq ys A8 c8 _ HT4.out H1.out H2.out HS4.out).mono ?_
            rintro e y5 ⟨v5, rfl, ho, hb⟩
            obtain ⟨A9, c9, rfl, hy, -⟩ := ho.bs (Tb.putRec_lt gq)
            have HB5 := Lib.hid (below_trans HB4.out hb)
            have HR5 := Lib.hid (HR4.out.below (Nat.le_refl _) hb)
            have HT5 := Lib.hid (HT4.out.below hb)
            have HS5 := Lib.hid ((HS4.out.below hb).more hb.size)
            have HY5 := Lib.hid hy
            clear ho hb hy HB4 HR4 HT4 HS4
            by_cases hg0 : gq = []
            · subst hg0
              go_wp2
              rw [HQ.out]
              exact ⟨rfl, HB5.out⟩
            · have hne := H4.out hg0
              have HQ1 := Lib.hid (show Tb.rec_ (Tb.opened (Tb.putRec gq)) = (gq, ⟨Tb.putRec gq, (Tb.putRec gq).length, 0, 0⟩) by have := Tb.rec_opened hne H1.out H2.out []; rw [List.append_nil] at this; exact this)
              have HP6 : Hid ((Tb.putRec gq).length < 1000000) := Lib.hid (by
                have h1 := H3.out
                have h2 := HR5.out.pl
                have h3 := HN.out
                dsimp only at h2
                omega)
              have h5 : (0 : Int) < ((Tb.putRec gq).length : Int) := by have := List.length_pos_iff.2 hne; omega
              have h6 : ((Tb.putRec gq).length : Int) ≤ (pq : Int) := by have := H3.out; omega
              have h7 : ((gq.length : Int) == 0) = false := by rw [beq_eq_false_iff_ne]; have := List.length_pos_iff.2 hg0; omega
              generalize Tb.putRec gq = pg at *
              clear hne hg0 H4 H3 HRQ HRC
              go_wp2_with (first
                | (go_at_call 50; (with_reducible refine (At_any HR5.out).mono ?_); rintro e y6 ⟨rfl, rfl⟩)
                | (go_at_call 24; (with_reducible refine (Open_any HY5.out HP6.out).mono ?_); rintro e y7 ⟨b7, A10, c10, rfl, hz, hr, hb⟩; have HR7 := Lib.hid hr; have HT7 := Lib.hid (HT5.out.below hb); have HB57 := Lib.hid hb; have HZ8 := Lib.hid hz; clear hr hb hz)
                | (go_at_call 45; (with_reducible refine (Rec_subs HR7.out HP6.out HT7.out HQ1.out).mono ?_); rintro e y8 ⟨A11, c11, zs, rfl, hsub, hrd, hkp⟩; have hk8 := HB57.out.trans (hkp.below HB57.out.size (fun k o hk' e => by have : k = b7 := e; have := HZ8.out; omega)); have HB8 := Lib.hid (below_trans HB5.out hk8); have HS8 := Lib.hid hsub; have HS9 := Lib.hid ((HS5.out.below hk8).more hk8.size); clear hsub hrd hkp hk8)
                | (go_at_call 53; (with_reducible refine (same6_any gq gq zs ys A11 A8 c11 c8 _ H1.out H1.out HS8.out HS9.out H2.out H2.out).mono ?_); rw [decide_eq_true (rfl : gq = gq)]; rintro e y10 ⟨rfl, hb⟩; have HB10 := Lib.hid (below_trans HB8.out hb); clear hb))
              rw [HQ.out]
              exact ⟨rfl, HB10.out⟩
end Go.Proofs.YtkdhjejchdcipaaDoor

/-
  Texts of this claim, one behind the other: part 1.
-/
import Derived.Lib.LaidTab
import Derived.Lib.ItoaNum
import Derived.Lib.ItoaLen
import Derived.Lib.AppendIntMem
import Derived.Test.YtkdhjejchdcipaaDoorMgKindMaps0
/-
  Layer 4, code: Heaps: the iterator that is handed back.
-/
namespace Go.Proofs.YtkdhjejchdcipaaDoor
open Go.RowKit
set_option linter.unusedVariables false
set_option linter.unusedSimpArgs false
set_option maxRecDepth 100000

theorem OwnG.far2 {α : Type} {e sz n b i : Nat} {cs : α → List Value} {w : World} {v u : Value} {l : List α} (h : OwnG e sz cs n w v l) (hb : ∀ g, v.ownBlock = some g → g ≠ b) : OwnG e sz cs n (w.setCell ⟨b, i, none⟩ u) v l :=
  h.kept (Lib.grownBy_setCell w b i u) (fun g hg e => hb g hg (Option.some.inj e).symm)
set_option maxHeartbeats 2000000 in
theorem heapsF_any (s : Sb) (x : Value) (w : World) (h : IsSub w w.heap.size x s) (hS : Kd.Small s) :
    Calls Tryd.prog 12 #[x] w fun e w' => (∃ Bo A1 c1 A2 c2 A3 c3 A4 c4, e = .returned (.func (.func 60) #[] #[.pointer (some ⟨Bo, 0, none⟩)]) ∧
      BoxS w.heap.size w' Bo s (.slice A1 s.sups.length c1) (.slice A2 s.c.ps.length c2) (.slice A3 s.c.rs.length c3) (.slice A4 s.c.fs.length c4)) ∧ Below w.heap.size w w' := by
  obtain ⟨Q, hQ⟩ : ∃ Q : Ending → World → Prop, Q = (fun e w' => (∃ Bo A1 c1 A2 c2 A3 c3 A4 c4, e = .returned (.func (.func 60) #[] #[.pointer (some ⟨Bo, 0, none⟩)]) ∧
      BoxS w.heap.size w' Bo s (.slice A1 s.sups.length c1) (.slice A2 s.c.ps.length c2) (.slice A3 s.c.rs.length c3) (.slice A4 s.c.fs.length c4)) ∧ Below w.heap.size w w') := ⟨_, rfl⟩
  rw [← hQ]
  have hQ' := Lib.hid hQ
  clear hQ
  have H := Lib.hid h
  obtain ⟨A1, c1, A2, c2, A3, c3, A4, c4, rfl, -⟩ := h
  have HB0 : Hid (Below w.heap.size w (w.alloc (.cells #[.bool s.fin, .slice A1 s.sups.length c1, .int .i64 s.c.k, .slice A2 s.c.ps.length c2, .slice A3 s.c.rs.length c3, .slice A4 s.c.fs.length c4] 29))) := Lib.hid ((Below.refl _ _).alloc (Nat.le_refl _) _)
  go_enter Tryd.func12, Tryd.ntmps12
  go_wp2_with (go_at_call 59; refine (fresh_any s _ _ ((H.out.below HB0.out).more (by simp)) hS).mono ?_; rintro e w2 ⟨⟨v, rfl, ⟨B1, d1, B2, d2, B3, d3, B4, d4, rfl, o1, o2, o3, o4, a12, a13, a14, a23, a24, a34⟩⟩, hb2⟩; have O1 := Lib.hid o1; have O2 := Lib.hid o2; have O3 := Lib.hid o3; have O4 := Lib.hid o4; have HB2 := Lib.hid hb2; clear o1 o2 o3 o4 hb2)
  rw [hQ'.out]
  have h1 := HB2.out.size
  rw [World.size_alloc] at h1
  have hlo : w.heap.size ≤ (w.alloc (.cells #[.bool s.fin, .slice A1 s.sups.length c1, .int .i64 s.c.k, .slice A2 s.c.ps.length c2, .slice A3 s.c.rs.length c3, .slice A4 s.c.fs.length c4] 29)).heap.size := by simp
  refine ⟨⟨w2.heap.size, B1, d1, B2, d2, B3, d3, B4, d4, rfl, ⟨by go_simp, by go_simp, by go_simp, by go_simp, by go_simp, by go_simp, (O1.out.alloc _).base hlo, (O2.out.alloc _).base hlo, (O3.out.alloc _).base hlo, (O4.out.alloc _).base hlo, a12, a13, a14, a23, a24, a34, by omega⟩⟩, ?_⟩
  exact (HB0.out.trans (HB2.out.mono hlo)).alloc (by omega) _
end Go.Proofs.YtkdhjejchdcipaaDoor
/-
  Layer 4: the tables that are listed: what they hold, and that it stays.
-/
namespace Go.Proofs.YtkdhjejchdcipaaDoor
open Go.RowKit
set_option linter.unusedVariables false
set_option maxRecDepth 100000

abbrev Str (l : List UInt8) : Value := .string ⟨l.toArray⟩
theorem gPow : Tryd.prog.globalNamed "internal/strconv.uint64pow10" = some 2 := by kernel_rfl
theorem gNames : Tryd.prog.globalNamed "geode/kind.heapNames" = some 0 := by kernel_rfl
/-- The tables that the writing reads. -/
structure Tabs (W : World) : Prop where
  pow : Lib.TabIs Tryd.prog W "internal/strconv.uint64pow10" .u64 Lib.pow10Tab
  names : ∀ j : Nat, 1 ≤ j → j ≤ 12 → W.cell? ⟨0, j, none⟩ = some (Str (Kd.nm j))
theorem Tabs.below {W W' : World} (h : Tabs W) (hb : Below W.heap.size W W') : Tabs W' := by
  obtain ⟨h1, h2⟩ := h
  refine ⟨?_, fun j ha hj => ?_⟩
  · unfold Lib.TabIs World.var? at h1 ⊢
    simp only [gPow, Option.bind_some] at h1 ⊢
    have hlt : 2 < W.heap.size := by
      cases hg : W.heap[2]? with
      | none => rw [hg] at h1; cases h1
      | some o => exact (Array.getElem?_eq_some_iff.1 hg).1
    rw [hb.block _ hlt]
    exact h1
  · have hc := h2 j ha hj
    have hlt := World.block_lt_of_cell? W ⟨0, j, none⟩ hc
    rw [hb.cell (p := ⟨0, j, none⟩) hlt]
    exact hc
end Go.Proofs.YtkdhjejchdcipaaDoor
/-
  Layer 4, code: the writing of heap types, value types, fields.
-/
namespace Go.Proofs.YtkdhjejchdcipaaDoor
open Go.RowKit
set_option linter.unusedVariables false
set_option maxRecDepth 100000

theorem cat_ (a b : Array UInt8) : (⟨a⟩ : ByteArray) ++ ⟨b⟩ = ⟨a ++ b⟩ := by
  apply ByteArray.ext; simp
theorem ret_str {a b : List UInt8} (h : a = b) : Ending.returned (Str a) = .returned (Str b) := by rw [h]
theorem nm_len (k : Int) : (Kd.nm k).length ≤ 21 := by
  unfold Kd.nm
  repeat (first | (split; · decide) | decide)
/-- What has a writing that is looked at: a number, or one that is given. -/
def Kd.okH (h : Hp) : Bool := (decide (h.k = 13) && (decide (-9223372036854775808 ≤ h.n) && decide (h.n ≤ 9223372036854775807))) || Kd.given h.k
theorem Kd.hT_len (h : Hp) (ho : Kd.okH h = true) : (Kd.hT h).length ≤ 21 := by
  unfold Kd.hT
  split
  · rename_i hk
    unfold Kd.okH Kd.given at ho
    simp only [hk, Bool.or_eq_true, Bool.and_eq_true, decide_eq_true_eq] at ho
    rcases ho with ho | ho
    · exact Lib.itoa_length_le h.n ho.2.1 ho.2.2
    · omega
  · exact nm_len _
theorem Kd.okH_of {h : Hp} (hp : Kd.pHeap h = true) : Kd.okH h = true := by
  unfold Kd.pHeap Kd.pIdx at hp
  unfold Kd.okH
  split at hp
  · rename_i hg; simp [hg]
  · simp only [Bool.and_eq_true, decide_eq_true_eq] at hp
    simp only [Bool.or_eq_true, Bool.and_eq_true, decide_eq_true_eq]
    omega
theorem hT_any (h : Hp) (ho : Kd.okH h = true) (w : World) (hT : Tabs w) :
    Calls Tryd.prog 104 #[h.val] w fun e w' => e = .returned (Str (Kd.hT h)) ∧ Below w.heap.size w w' := by
  obtain ⟨k, n⟩ := h
  unfold Hp.val
  unfold Kd.okH at ho
  have hb0 : Below w.heap.size w (w.alloc (.cells #[.int .i64 k, .int .i64 n] 39)) := (Below.refl _ _).alloc (Nat.le_refl _) _
  have hT1 := hT.below hb0
  dsimp only at ho ⊢
  rcases Decidable.em (k = 13) with hk | hk
  · subst hk
    have hn : -9223372036854775808 ≤ n ∧ n ≤ 9223372036854775807 := by
      have hg : Kd.given 13 = false := by decide
      simpa [hg] using ho
    have hn' := Lib.hid hn
    clear ho hn
    have hpow := Lib.hid hT1.pow
    clear hT hT1
    have hB := Lib.hid hb0
    clear hb0
    go_enter Tryd.func104, Tryd.ntmps104
    go_wp2_with fail
    refine (Tryd.strconv_Itoa n hn'.out.1 hn'.out.2 _ hpow.out).mono ?_
    rintro e w' ⟨rfl, k, os, rfl⟩
    go_wp2
    go_ret
    exact ⟨by simp [Kd.hT], below_trans hB.out (Lib.below_grow _ _ (Nat.le_refl _) _ _)⟩
  · have hg : Kd.given k = true := by simpa [hk] using ho
    obtain ⟨j, hj, h1, h12⟩ : ∃ j : Nat, k = (j : Int) ∧ 1 ≤ j ∧ j ≤ 12 := by
      unfold Kd.given at hg
      simp only [Bool.and_eq_true, decide_eq_true_eq] at hg
      exact ⟨k.toNat, by omega, by omega, by omega⟩
    have g0 := hT1.names j h1 h12
    have hG := Lib.hid hg
    clear hg ho hT hT1
    subst hj
    have hk13 : ((j : Int) == 13) = false := by simp; omega
    have hk14 : ((j : Int) == 14) = false := by simp; omega
    have hk15 : ((j : Int) == 15) = false := by simp; omega
    have hB := Lib.hid hb0
    clear hb0
    have i0 : (0 : Int) ≤ j := by omega
    have i1 : (j : Int) < 13 := by omega
    have j1 : j < 13 := by omega
    go_enter Tryd.func104, Tryd.ntmps104
    go_wp2_with fail
    refine (kGiven_any _ _).mono ?_
    rw [hG.out]
    rintro e w' ⟨rfl, rfl⟩
    go_wp2
    go_ret
    exact ⟨by simp [Kd.hT]; omega, hB.out⟩
theorem vT_any (v : Vl) (hp : Kd.pVal v = true) (w : World) (hT : Tabs w) :
    Calls Tryd.prog 57 #[v.val] w fun e w' => e = .returned (Str (Kd.vT v)) ∧ Below w.heap.size w w' := by
  obtain ⟨k, nu, h⟩ := v
  have hb0 : Below w.heap.size w (w.alloc (.cells #[.int .i64 k, .bool nu, .int .i64 h.k, .int .i64 h.n] 46)) := (Below.refl _ _).alloc (Nat.le_refl _) _
  have hT1 := hT.below hb0
  have hT' := Lib.hid hT1
  have hB := Lib.hid hb0
  clear hT hT1 hb0
  unfold Vl.val
  dsimp only
  by_cases h1 : k = 1
  · subst h1
    go_enter Tryd.func57, Tryd.ntmps57
    go_wp2
    go_ret
    exact ⟨by simp [Kd.vT], hB.out⟩
  · by_cases h2 : k = 2
    · subst h2
      go_enter Tryd.func57, Tryd.ntmps57
      go_wp2
      go_ret
      exact ⟨by simp [Kd.vT], hB.out⟩
    · have hk : k = 3 ∧ Kd.pHeap h = true := by
        unfold Kd.pVal at hp
        rw [if_neg h1, if_neg h2] at hp
        split at hp
        · exact ⟨by assumption, hp⟩
        · cases hp
      obtain ⟨rfl, hph⟩ := hk
      have ho := Lib.hid (Kd.okH_of hph)
      have hl := Kd.hT_len h ho.out
      clear hp hph
      obtain ⟨t, ht⟩ : ∃ t, Kd.hT h = t := ⟨_, rfl⟩
      have HC : Hid (∀ W, Tabs W → Calls Tryd.prog 104 #[h.val] W fun e w' => e = .returned (Str t) ∧ Below W.heap.size W w') := Lib.hid fun W hW => by
        rw [← ht]; exact hT_any h ho.out W hW
      rw [ht] at hl
      have ht' := Lib.hid ht
      clear ht
      have s1 : (9223372036854775807 < 10 + t.length) = False := eq_false (by omega)
      have s2 : (9223372036854775807 < 10 + t.length + 1) = False := eq_false (by omega)
      have s3 : (9223372036854775807 < 5 + t.length) = False := eq_false (by omega)
      have s4 : (9223372036854775807 < 5 + t.length + 1) = False := eq_false (by omega)
      cases nu
      all_goals
        go_enter Tryd.func57, Tryd.ntmps57
        go_wp2_with fail
        refine (HC.out _ hT'.out).mono ?_
        rintro e w1 ⟨rfl, hb1⟩
        go_wp2
        go_ret
        exact ⟨by simp [Kd.vT, ht'.out, cat_], below_trans hB.out hb1⟩
theorem Kd.vT_len (v : Vl) (hp : Kd.pVal v = true) : (Kd.vT v).length ≤ 40 := by
  unfold Kd.vT
  split
  · decide
  · rename_i n1
    split
    · decide
    · rename_i n2
      have hh : Kd.pHeap v.h = true := by
        unfold Kd.pVal at hp
        rw [if_neg n1, if_neg n2] at hp
        split at hp
        · exact hp
        · cases hp
      have := Kd.hT_len v.h (Kd.okH_of hh)
      split <;> simp <;> omega
/-- A store is plain: what stands in a field. -/
def Kd.okS (pk : Int) (v : Vl) : Bool := decide (pk = 8) || (decide (pk = 16) || Kd.pVal v)
theorem Kd.okS_of {f : Fd} (hp : Kd.pField f = true) : Kd.okS f.pk f.v = true := by
  unfold Kd.pField at hp
  unfold Kd.okS
  split at hp
  · simp [hp]
  · split at hp
    · rename_i h; rcases h with h | h <;> simp [h]
    · cases hp
theorem Kd.sT_len (pk : Int) (v : Vl) (hp : Kd.okS pk v = true) : (Kd.sT pk v).length ≤ 40 := by
  unfold Kd.sT
  unfold Kd.okS at hp
  split
  · decide
  · split
    · decide
    · rename_i a b
      simp only [a, b, decide_false, Bool.false_or] at hp
      exact Kd.vT_len v hp
theorem sT_any (pk : Int) (v : Vl) (hp : Kd.okS pk v = true) (w : World) (hT : Tabs w) :
    Calls Tryd.prog 170 #[.agg #[.int .i64 pk, .int .i64 v.k, .bool v.nu, .int .i64 v.h.k, .int .i64 v.h.n]] w fun e w' => e = .returned (Str (Kd.sT pk v)) ∧ Below w.heap.size w w' := by
  have hb0 : Below w.heap.size w (w.alloc (.cells #[.int .i64 pk, .int .i64 v.k, .bool v.nu, .int .i64 v.h.k, .int .i64 v.h.n] 48)) := (Below.refl _ _).alloc (Nat.le_refl _) _
  have hT' := Lib.hid (hT.below hb0)
  have hB := Lib.hid hb0
  clear hT hb0
  by_cases h1 : pk = 8
  · subst h1
    go_enter Tryd.func170, Tryd.ntmps170
    go_wp2
    go_ret
    exact ⟨by simp [Kd.sT], hB.out⟩
  · by_cases h2 : pk = 16
    · subst h2
      go_enter Tryd.func170, Tryd.ntmps170
      go_wp2
      go_ret
      exact ⟨by simp [Kd.sT], hB.out⟩
    · have hv : Kd.pVal v = true := by
        unfold Kd.okS at hp
        simpa [h1, h2] using hp
      have hv' := Lib.hid hv
      clear hv hp
      go_enter Tryd.func170, Tryd.ntmps170
      go_wp2_with fail
      refine (vT_any v hv'.out _ hT'.out).mono ?_
      rintro e w1 ⟨rfl, hb1⟩
      go_wp2
      go_ret
      exact ⟨by simp [Kd.sT, h1, h2], below_trans hB.out hb1⟩
theorem Kd.fT_len (f : Fd) (hp : Kd.pField f = true) : (Kd.fT f).length ≤ 60 := by
  have := Kd.sT_len f.pk f.v (Kd.okS_of hp)
  unfold Kd.fT
  split <;> simp <;> omega
theorem fT_any (f : Fd) (hp : Kd.pField f = true) (w : World) (hT : Tabs w) :
    Calls Tryd.prog 141 #[f.val] w fun e w' => e = .returned (Str (Kd.fT f)) ∧ Below w.heap.size w w' := by
  obtain ⟨pk, v, mu⟩ := f
  have hb0 : Below w.heap.size w (w.alloc (.cells #[.int .i64 pk, .int .i64 v.k, .bool v.nu, .int .i64 v.h.k, .int .i64 v.h.n, .bool mu] 50)) := (Below.refl _ _).alloc (Nat.le_refl _) _
  have hT' := Lib.hid (hT.below hb0)
  have hB := Lib.hid hb0
  have ho := Kd.okS_of hp
  dsimp only at ho
  have hl := Kd.sT_len pk v ho
  obtain ⟨t, ht⟩ : ∃ t, Kd.sT pk v = t := ⟨_, rfl⟩
  have HC : Hid (∀ W, Tabs W → Calls Tryd.prog 170 #[.agg #[.int .i64 pk, .int .i64 v.k, .bool v.nu, .int .i64 v.h.k, .int .i64 v.h.n]] W fun e w' => e = .returned (Str t) ∧ Below W.heap.size W w') := Lib.hid fun W hW => by
    rw [← ht]; exact sT_any pk v ho W hW
  rw [ht] at hl
  have ht' := Lib.hid ht
  clear ht hT hb0 hp ho
  unfold Fd.val
  dsimp only
  have s1 : (9223372036854775807 < 5 + t.length) = False := eq_false (by omega)
  have s2 : (9223372036854775807 < 5 + t.length + 1) = False := eq_false (by omega)
  cases mu
  all_goals
    go_enter Tryd.func141, Tryd.ntmps141
    go_wp2_with fail
    refine (HC.out _ hT'.out).mono ?_
    rintro e w1 ⟨rfl, hb1⟩
    go_wp2
    go_ret
    exact ⟨by simp [Kd.fT, ht'.out, cat_], below_trans hB.out hb1⟩
end Go.Proofs.YtkdhjejchdcipaaDoor
/-
  Layer 4, code: 'texts' at the three element types.
-/
namespace Go.Proofs.YtkdhjejchdcipaaDoor
open Go.RowKit
set_option linter.unusedVariables false
set_option maxRecDepth 100000
theorem fill_next {α : Type} (T : α → List UInt8) (l : List α) (k : Nat) (h : k < l.length) : ((l.take k).map T ++ List.replicate (l.length - k) []).set k (T l[k]) = (l.take (k + 1)).map T ++ List.replicate (l.length - (k + 1)) [] := by
  have e : (l.take k).length = k := by rw [List.length_take]; omega
  rw [List.set_append_right _ _ (by rw [List.length_map, e]; exact Nat.le_refl _), List.length_map, e, Nat.sub_self, show l.length - k = (l.length - (k + 1)) + 1 by omega, List.replicate_succ, List.set_cons_zero,
    List.take_succ_eq_append_getElem h, List.map_append, List.append_assoc]
  rfl

theorem tx_h (l : List Hp) (A : Option Addr) (c : Nat) (w : World) (hT : Tabs w) (hl : l.length ≤ 10000) (hp : ∀ x ∈ l, Kd.pHeap x = true) (hs : Seg 2 Hp.cs w w.heap.size A c l) :
    Calls Tryd.prog 103 #[.slice A l.length c, .func (.func 104) #[] #[]] w fun e w' => (∃ v, e = .returned v ∧ OwnG 9 1 Sx w.heap.size w' v (l.map Kd.hT)) ∧ Below w.heap.size w w' := by
  obtain ⟨Q, hQ⟩ : ∃ Q : Ending → World → Prop, Q = (fun e w' => (∃ v, e = .returned v ∧ OwnG 9 1 Sx w.heap.size w' v (l.map Kd.hT)) ∧ Below w.heap.size w w') := ⟨_, rfl⟩
  rw [← hQ]
  have hQ' := Lib.hid hQ
  clear hQ
  obtain ⟨w2, hrun, hown, hgrow⟩ := run_make_strs w w.heap.size l.length (by omega) (Nat.le_refl _)
  have hb2 : Below w.heap.size w w2 := grownNone hgrow (Nat.le_refl _) (Below.refl _ _)
  have HP := Lib.hid hp
  have HT := Lib.hid hT
  have HS := Lib.hid hs
  clear hp hT hs hgrow
  go_enter Tryd.func103, Tryd.ntmps103
  go_wp2
  clear hrun
  go_loopw [6, 7, 13] (fun _ _ i wr => ∃ k : Nat, k ≤ l.length ∧ i = .int .i64 k ∧ Below w.heap.size w wr ∧ OwnG 9 1 Sx w.heap.size wr (.slice (some ⟨w.heap.size, 0, none⟩) l.length l.length) ((l.take k).map Kd.hT ++ List.replicate (l.length - k) [])) (fun _ _ i _ => l.length - (intOf i).toNat)
  case atStart => exact ⟨0, Nat.zero_le _, rfl, hb2, by simpa using hown⟩
  case round =>
    obtain ⟨k, hk, rfl, hB, hown⟩ := hrel
    have HO := Lib.hid hown
    clear hown
    by_cases hlt : k < l.length
    · obtain ⟨b, off, rfl, hb, hc⟩ := HS.out.2.2 (by omega)
      have g0 := (hB.cell (p := ⟨b, off + k * 2 + 0, none⟩) hb).trans (hc k hlt 0 _ rfl)
      have g1 := (hB.cell (p := ⟨b, off + k * 2 + 1, none⟩) hb).trans (hc k hlt 1 _ rfl)
      simp only [Nat.add_zero] at g0
      clear hc HS
      obtain ⟨x, hx⟩ : ∃ x, x = l[k] := ⟨_, rfl⟩
      rw [← hx] at g0 g1
      have hpx := Lib.hid (HP.out l[k] (List.getElem_mem hlt))
      rw [← hx] at hpx
      have hx' := Lib.hid hx
      clear hx
      have hB' := Lib.hid hB
      have HC : Hid (∀ W, Tabs W → Calls Tryd.prog 104 #[x.val] W fun e w' => e = .returned (Str (Kd.hT x)) ∧ Below W.heap.size W w') := Lib.hid fun W hW => hT_any x (Kd.okH_of hpx.out) W hW
      have hTr := Lib.hid (HT.out.below hB)
      have hz : w.heap.size < wr.heap.size := (HO.out.openS).2.2.1
      go_wp2_with fail
      refine (HC.out _ (hTr.out.below ((Below.refl _ _).alloc (Nat.le_refl _) _))).mono ?_
      rintro e w1 ⟨rfl, hb1⟩
      have hbw : Below wr.heap.size wr w1 := below_trans ((Below.refl _ _).alloc (Nat.le_refl _) _) hb1
      obtain ⟨-, -, hz1, hcell, hfro, hset⟩ := (HO.out.below hbw).openS
      have hck := hcell k (by simp; omega)
      have hfk := hfro k
      have HS1 := Lib.hid (hset k (Kd.hT x))
      have HB1 := Lib.hid (below_trans2 hB hbw)
      clear hcell hfro hset HO hbw
      go_wp2
      go_roundw
      case rel =>
        refine ⟨k + 1, by omega, by go_num, HB1.out.setCell (Nat.le_refl _) _, ?_⟩
        have h := HS1.out
        rw [hx'.out, fill_next Kd.hT l k hlt] at h
        rw [hx'.out]
        exact h
      case measure => simp [intOf]; omega
    · have hkn : k = l.length := by omega
      clear HS
      go_wp2
      rw [hQ'.out]
      refine ⟨⟨_, rfl, ?_⟩, hB⟩
      have h := HO.out
      rw [hkn] at h
      simpa using h

theorem tx_v (l : List Vl) (A : Option Addr) (c : Nat) (w : World) (hT : Tabs w) (hl : l.length ≤ 10000) (hp : ∀ x ∈ l, Kd.pVal x = true) (hs : Seg 4 Vl.cs w w.heap.size A c l) :
    Calls Tryd.prog 169 #[.slice A l.length c, .func (.func 57) #[] #[]] w fun e w' => (∃ v, e = .returned v ∧ OwnG 9 1 Sx w.heap.size w' v (l.map Kd.vT)) ∧ Below w.heap.size w w' := by
  obtain ⟨Q, hQ⟩ : ∃ Q : Ending → World → Prop, Q = (fun e w' => (∃ v, e = .returned v ∧ OwnG 9 1 Sx w.heap.size w' v (l.map Kd.vT)) ∧ Below w.heap.size w w') := ⟨_, rfl⟩
  rw [← hQ]
  have hQ' := Lib.hid hQ
  clear hQ
  obtain ⟨w2, hrun, hown, hgrow⟩ := run_make_strs w w.heap.size l.length (by omega) (Nat.le_refl _)
  have hb2 : Below w.heap.size w w2 := grownNone hgrow (Nat.le_refl _) (Below.refl _ _)
  have HP := Lib.hid hp
  have HT := Lib.hid hT
  have HS := Lib.hid hs
  clear hp hT hs hgrow
  go_enter Tryd.func169, Tryd.ntmps169
  go_wp2
  clear hrun
  go_loopw [6, 7, 13] (fun _ _ i wr => ∃ k : Nat, k ≤ l.length ∧ i = .int .i64 k ∧ Below w.heap.size w wr ∧ OwnG 9 1 Sx w.heap.size wr (.slice (some ⟨w.heap.size, 0, none⟩) l.length l.length) ((l.take k).map Kd.vT ++ List.replicate (l.length - k) [])) (fun _ _ i _ => l.length - (intOf i).toNat)
  case atStart => exact ⟨0, Nat.zero_le _, rfl, hb2, by simpa using hown⟩
  case round =>
    obtain ⟨k, hk, rfl, hB, hown⟩ := hrel
    have HO := Lib.hid hown
    clear hown
    by_cases hlt : k < l.length
    · obtain ⟨b, off, rfl, hb, hc⟩ := HS.out.2.2 (by omega)
      have g0 := (hB.cell (p := ⟨b, off + k * 4 + 0, none⟩) hb).trans (hc k hlt 0 _ rfl)
      have g1 := (hB.cell (p := ⟨b, off + k * 4 + 1, none⟩) hb).trans (hc k hlt 1 _ rfl)
      have g2 := (hB.cell (p := ⟨b, off + k * 4 + 2, none⟩) hb).trans (hc k hlt 2 _ rfl)
      have g3 := (hB.cell (p := ⟨b, off + k * 4 + 3, none⟩) hb).trans (hc k hlt 3 _ rfl)
      simp only [Nat.add_zero] at g0
      clear hc HS
      obtain ⟨x, hx⟩ : ∃ x, x = l[k] := ⟨_, rfl⟩
      rw [← hx] at g0 g1 g2 g3
      have hpx := Lib.hid (HP.out l[k] (List.getElem_mem hlt))
      rw [← hx] at hpx
      have hx' := Lib.hid hx
      clear hx
      have hB' := Lib.hid hB
      have HC : Hid (∀ W, Tabs W → Calls Tryd.prog 57 #[x.val] W fun e w' => e = .returned (Str (Kd.vT x)) ∧ Below W.heap.size W w') := Lib.hid fun W hW => vT_any x hpx.out W hW
      have hTr := Lib.hid (HT.out.below hB)
      have hz : w.heap.size < wr.heap.size := (HO.out.openS).2.2.1
      go_wp2_with fail
      refine (HC.out _ (hTr.out.below ((Below.refl _ _).alloc (Nat.le_refl _) _))).mono ?_
      rintro e w1 ⟨rfl, hb1⟩
      have hbw : Below wr.heap.size wr w1 := below_trans ((Below.refl _ _).alloc (Nat.le_refl _) _) hb1
      obtain ⟨-, -, hz1, hcell, hfro, hset⟩ := (HO.out.below hbw).openS
      have hck := hcell k (by simp; omega)
      have hfk := hfro k
      have HS1 := Lib.hid (hset k (Kd.vT x))
      have HB1 := Lib.hid (below_trans2 hB hbw)
      clear hcell hfro hset HO hbw
      go_wp2
      go_roundw
      case rel =>
        refine ⟨k + 1, by omega, by go_num, HB1.out.setCell (Nat.le_refl _) _, ?_⟩
        have h := HS1.out
        rw [hx'.out, fill_next Kd.vT l k hlt] at h
        rw [hx'.out]
        exact h
      case measure => simp [intOf]; omega
    · have hkn : k = l.length := by omega
      clear HS
      go_wp2
      rw [hQ'.out]
      refine ⟨⟨_, rfl, ?_⟩, hB⟩
      have h := HO.out
      rw [hkn] at h
      simpa using h

theorem tx_f (l : List Fd) (A : Option Addr) (c : Nat) (w : World) (hT : Tabs w) (hl : l.length ≤ 10000) (hp : ∀ x ∈ l, Kd.pField x = true) (hs : Seg 6 Fd.cs w w.heap.size A c l) :
    Calls Tryd.prog 140 #[.slice A l.length c, .func (.func 141) #[] #[]] w fun e w' => (∃ v, e = .returned v ∧ OwnG 9 1 Sx w.heap.size w' v (l.map Kd.fT)) ∧ Below w.heap.size w w' := by
  obtain ⟨Q, hQ⟩ : ∃ Q : Ending → World → Prop, Q = (fun e w' => (∃ v, e = .returned v ∧ OwnG 9 1 Sx w.heap.size w' v (l.map Kd.fT)) ∧ Below w.heap.size w w') := ⟨_, rfl⟩
  rw [← hQ]
  have hQ' := Lib.hid hQ
  clear hQ
  obtain ⟨w2, hrun, hown, hgrow⟩ := run_make_strs w w.heap.size l.length (by omega) (Nat.le_refl _)
  have hb2 : Below w.heap.size w w2 := grownNone hgrow (Nat.le_refl _) (Below.refl _ _)
  have HP := Lib.hid hp
  have HT := Lib.hid hT
  have HS := Lib.hid hs
  clear hp hT hs hgrow
  go_enter Tryd.func140, Tryd.ntmps140
  go_wp2
  clear hrun
  go_loopw [6, 7, 13] (fun _ _ i wr => ∃ k : Nat, k ≤ l.length ∧ i = .int .i64 k ∧ Below w.heap.size w wr ∧ OwnG 9 1 Sx w.heap.size wr (.slice (some ⟨w.heap.size, 0, none⟩) l.length l.length) ((l.take k).map Kd.fT ++ List.replicate (l.length - k) [])) (fun _ _ i _ => l.length - (intOf i).toNat)
  case atStart => exact ⟨0, Nat.zero_le _, rfl, hb2, by simpa using hown⟩
  case round =>
    obtain ⟨k, hk, rfl, hB, hown⟩ := hrel
    have HO := Lib.hid hown
    clear hown
    by_cases hlt : k < l.length
    · obtain ⟨b, off, rfl, hb, hc⟩ := HS.out.2.2 (by omega)
      have g0 := (hB.cell (p := ⟨b, off + k * 6 + 0, none⟩) hb).trans (hc k hlt 0 _ rfl)
      have g1 := (hB.cell (p := ⟨b, off + k * 6 + 1, none⟩) hb).trans (hc k hlt 1 _ rfl)
      have g2 := (hB.cell (p := ⟨b, off + k * 6 + 2, none⟩) hb).trans (hc k hlt 2 _ rfl)
      have g3 := (hB.cell (p := ⟨b, off + k * 6 + 3, none⟩) hb).trans (hc k hlt 3 _ rfl)
      have g4 := (hB.cell (p := ⟨b, off + k * 6 + 4, none⟩) hb).trans (hc k hlt 4 _ rfl)
      have g5 := (hB.cell (p := ⟨b, off + k * 6 + 5, none⟩) hb).trans (hc k hlt 5 _ rfl)
      simp only [Nat.add_zero] at g0
      clear hc HS
      obtain ⟨x, hx⟩ : ∃ x, x = l[k] := ⟨_, rfl⟩
      rw [← hx] at g0 g1 g2 g3 g4 g5
      have hpx := Lib.hid (HP.out l[k] (List.getElem_mem hlt))
      rw [← hx] at hpx
      have hx' := Lib.hid hx
      clear hx
      have hB' := Lib.hid hB
      have HC : Hid (∀ W, Tabs W → Calls Tryd.prog 141 #[x.val] W fun e w' => e = .returned (Str (Kd.fT x)) ∧ Below W.heap.size W w') := Lib.hid fun W hW => fT_any x hpx.out W hW
      have hTr := Lib.hid (HT.out.below hB)
      have hz : w.heap.size < wr.heap.size := (HO.out.openS).2.2.1
      go_wp2_with fail
      refine (HC.out _ (hTr.out.below ((Below.refl _ _).alloc (Nat.le_refl _) _))).mono ?_
      rintro e w1 ⟨rfl, hb1⟩
      have hbw : Below wr.heap.size wr w1 := below_trans ((Below.refl _ _).alloc (Nat.le_refl _) _) hb1
      obtain ⟨-, -, hz1, hcell, hfro, hset⟩ := (HO.out.below hbw).openS
      have hck := hcell k (by simp; omega)
      have hfk := hfro k
      have HS1 := Lib.hid (hset k (Kd.fT x))
      have HB1 := Lib.hid (below_trans2 hB hbw)
      clear hcell hfro hset HO hbw
      go_wp2
      go_roundw
      case rel =>
        refine ⟨k + 1, by omega, by go_num, HB1.out.setCell (Nat.le_refl _) _, ?_⟩
        have h := HS1.out
        rw [hx'.out, fill_next Kd.fT l k hlt] at h
        rw [hx'.out]
        exact h
      case measure => simp [intOf]; omega
    · have hkn : k = l.length := by omega
      clear HS
      go_wp2
      rw [hQ'.out]
      refine ⟨⟨_, rfl, ?_⟩, hB⟩
      have h := HO.out
      rw [hkn] at h
      simpa using h
end Go.Proofs.YtkdhjejchdcipaaDoor
/-
  Layer 4, code: the writing of composite and declared types.
-/
namespace Go.Proofs.YtkdhjejchdcipaaDoor
open Go.RowKit
set_option linter.unusedVariables false
set_option maxRecDepth 100000

theorem inBr_any (x : List UInt8) (l : List (List UInt8)) (A : Option Addr) (c n : Nat) (w : World) (hn : n = l.length + 1) (hs : Seg 1 Sx w w.heap.size A c (x :: l)) (hl : (Kd.br x l).length ≤ 1000000000000) (hm : l.length ≤ 100000) :
    Calls Tryd.prog 105 #[.slice A n c] w fun e w' => e = .returned (Str (Kd.br x l)) ∧ Below w.heap.size w w' := by
  subst hn
  obtain ⟨b, off, rfl, hb, hc⟩ := hs.2.2 (by simp)
  have hcap : l.length + 1 ≤ c := by simpa using hs.1
  obtain ⟨t, ht⟩ : ∃ t, x ++ Kd.sp l = t := ⟨_, rfl⟩
  have hlt : t.length ≤ 1000000000000 := by
    have : (Kd.br x l).length = t.length + 2 := by unfold Kd.br; rw [ht]; simp
    omega
  have HC : Hid (∀ W, Below w.heap.size w W → Calls Tryd.prog 137 #[.slice (some ⟨b, off, none⟩) (l.length + 1) c, .string ⟨#[32]⟩] W fun e w' => e = .returned (Str t) ∧ Below W.heap.size W w') := Lib.hid fun W hW => by
    have e1 : ((x :: l).map (fun l => (⟨l.toArray⟩ : ByteArray))).map (fun b => b.data.toList) = x :: l := by
      rw [List.map_map]
      have : ((fun b : ByteArray => b.data.toList) ∘ fun l : List UInt8 => (⟨l.toArray⟩ : ByteArray)) = id := by funext l; rfl
      rw [this, List.map_id]
    have e2 : Lib.join (((x :: l).map (fun l => (⟨l.toArray⟩ : ByteArray))).map (·.data.toList)) (⟨#[32]⟩ : ByteArray).data.toList = t := by
      rw [e1, ← ht]; exact Kd.join_sp x l
    have h := Tryd.strings_Join b off c ((x :: l).map (fun l => (⟨l.toArray⟩ : ByteArray))) ⟨#[32]⟩ W (fun j y hy => by
      rw [List.getElem?_map] at hy
      obtain ⟨z, hz, rfl⟩ := Option.map_eq_some_iff.1 hy
      have hj := (List.getElem?_eq_some_iff.1 hz).1
      have hz2 : (x :: l)[j] = z := (List.getElem?_eq_some_iff.1 hz).2
      have := hc j hj 0 (.string ⟨z.toArray⟩) (by rw [hz2]; rfl)
      rw [Nat.mul_one, Nat.add_zero] at this
      exact (hW.cell (p := ⟨b, off + j, none⟩) hb).trans this) (Nat.lt_of_lt_of_le hb hW.size) (by simp; omega) (by simp; omega) (by rw [e2]; omega)
    rw [e2] at h
    simpa using h
  have ht' := Lib.hid ht
  clear ht hs hc
  have s1 : (9223372036854775807 < 1 + t.length) = False := eq_false (by omega)
  have s2 : (9223372036854775807 < 1 + t.length + 1) = False := eq_false (by omega)
  go_enter Tryd.func105, Tryd.ntmps105
  go_wp2_with fail
  refine (HC.out _ (Below.refl _ _)).mono ?_
  rintro e w1 ⟨rfl, hb1⟩
  go_wp2
  go_ret
  exact ⟨by unfold Kd.br; rw [ht'.out, cat_, cat_]; simp, hb1⟩
theorem headed_any (x : List UInt8) (l : List (List UInt8)) (A : Option Addr) (c : Nat) (w : World) (hs : Seg 1 Sx w w.heap.size A c l) (hl : (Kd.br x l).length ≤ 1000000000000) (hm : l.length ≤ 100000) :
    Calls Tryd.prog 139 #[Str x, .slice A l.length c] w fun e w' => e = .returned (Str (Kd.br x l)) ∧ Below w.heap.size w w' := by
  have HL := Lib.hid hl
  have b1 : Below w.heap.size w (w.alloc (.cells #[Str x] 9)) := (Below.refl _ _).alloc (Nat.le_refl _) _
  have hown := Lib.hid (OwnG.lit1 (B := w.heap.size) elemS w (Nat.le_refl _) x #[Str x] rfl)
  have HS := Lib.hid ((hs.below b1))
  have B1 := Lib.hid b1
  clear hs hl b1
  go_enter Tryd.func139, Tryd.ntmps139
  go_wp2_with (at_builtin; refine cat_g elemS rfl _ _ rfl _ l.length rfl rfl hown.out rfl HS.out (by simp) (l.length + 1) (by omega) (by simp; omega) ?_; intro A' c' w2 hown2 hg2)
  have hB2 := hown.out.grown hg2 (Nat.le_refl _) (by simp) B1.out
  obtain ⟨A2, c2, e2, hs2⟩ := hown2.seg elemS
  injection e2 with e3 e4 e5
  subst e3 e5
  refine (inBr_any x l A' c' _ w2 rfl hs2 HL.out hm).mono ?_
  rintro e w3 ⟨rfl, hb3⟩
  dsimp only
  go_wp2
  go_ret
  exact ⟨rfl, below_trans2 hB2 hb3⟩
end Go.Proofs.YtkdhjejchdcipaaDoor
/-
  Layer 4, code: the writing of composite and declared types, put together.
-/
namespace Go.Proofs.YtkdhjejchdcipaaDoor
open Go.RowKit
set_option linter.unusedVariables false
set_option maxRecDepth 100000

namespace Kd
theorem sp_len (m : Nat) : ∀ l : List (List UInt8), (∀ x ∈ l, x.length ≤ m) → (sp l).length ≤ l.length * (m + 1)
  | [], _ => by simp [sp]
  | x :: l, h => by
    have h1 := sp_len m l fun y hy => h y (List.mem_cons_of_mem _ hy)
    have h2 := h x List.mem_cons_self
    have e : sp (x :: l) = 32 :: x ++ sp l := by simp [sp]
    rw [e, List.length_append, List.length_cons, List.length_cons, Nat.add_mul]
    omega
theorem br_len (x : List UInt8) (m : Nat) (l : List (List UInt8)) (h : ∀ y ∈ l, y.length ≤ m) : (br x l).length ≤ x.length + l.length * (m + 1) + 2 := by
  have := sp_len m l h
  unfold br
  simp
  omega
theorem vals_len (l : List Vl) (hl : l.length ≤ 10000) (hp : ∀ x ∈ l, pVal x = true) (x : List UInt8) (hx : x.length ≤ 6) : (br x (l.map vT)).length ≤ 420000 := by
  have := br_len x 40 (l.map vT) (fun y hy => by obtain ⟨v, hv, rfl⟩ := List.mem_map.1 hy; exact vT_len v (hp v hv))
  rw [List.length_map] at this
  have h2 := Nat.mul_le_mul_right 41 hl
  omega
theorem some_len (l : List Vl) (hl : l.length ≤ 10000) (hp : ∀ x ∈ l, pVal x = true) (x : List UInt8) (hx : x.length ≤ 6) : (some_ x (l.map vT)).length ≤ 1 ∧ ∀ y ∈ some_ x (l.map vT), y.length ≤ 420000 := by
  unfold some_
  split
  · simp
  · exact ⟨by simp, fun y hy => by simp at hy; subst hy; exact vals_len l hl hp x hx⟩
theorem fields_len (l : List Fd) (hl : l.length ≤ 10000) (hp : ∀ x ∈ l, pField x = true) (x : List UInt8) (hx : x.length ≤ 6) : (br x (l.map fT)).length ≤ 900000 := by
  have := br_len x 60 (l.map fT) (fun y hy => by obtain ⟨v, hv, rfl⟩ := List.mem_map.1 hy; exact fT_len v (hp v hv))
  rw [List.length_map] at this
  have h2 := Nat.mul_le_mul_right 61 hl
  omega
/-- What the writing asks of a composite type. -/
structure OkC (c : Cp) : Prop where
  k : c.k = 1 ∨ c.k = 2 ∨ c.k = 3
  p : ∀ x ∈ c.ps, pVal x = true
  r : ∀ x ∈ c.rs, pVal x = true
  f : ∀ x ∈ c.fs, pField x = true
theorem okC_of {c : Cp} (h : pComp c = true) : OkC c := by
  unfold pComp at h
  have nil_of : takes c = false → c.ps = [] ∧ c.rs = [] := fun ht => by
    unfold takes at ht
    simp only [decide_eq_false_iff_not] at ht
    exact ⟨List.eq_nil_of_length_eq_zero (by omega), List.eq_nil_of_length_eq_zero (by omega)⟩
  split at h
  · rename_i hk
    simp only [Bool.and_eq_true, List.all_eq_true, decide_eq_true_eq] at h
    exact ⟨.inl hk, h.1, h.2.1, fun x hx => (by rw [List.eq_nil_of_length_eq_zero h.2.2] at hx; exact absurd hx List.not_mem_nil)⟩
  · split at h
    · rename_i hk
      simp only [Bool.and_eq_true, List.all_eq_true, Bool.not_eq_true'] at h
      obtain ⟨e1, e2⟩ := nil_of h.1
      exact ⟨.inr (.inl hk), fun x hx => (by rw [e1] at hx; exact absurd hx List.not_mem_nil), fun x hx => (by rw [e2] at hx; exact absurd hx List.not_mem_nil), h.2⟩
    · split at h
      · rename_i hk
        simp only [Bool.and_eq_true, List.all_eq_true, Bool.not_eq_true'] at h
        obtain ⟨e1, e2⟩ := nil_of h.1
        exact ⟨.inr (.inr hk), fun x hx => (by rw [e1] at hx; exact absurd hx List.not_mem_nil), fun x hx => (by rw [e2] at hx; exact absurd hx List.not_mem_nil), h.2.2⟩
      · cases h
theorem cT_len (c : Cp) (hS : SmallC c) (h : OkC c) : (cT c).length ≤ 910000 := by
  unfold cT
  split
  · have h1 := some_len c.ps hS.p h.p [112, 97, 114, 97, 109] (by decide)
    have h2 := some_len c.rs hS.r h.r [114, 101, 115, 117, 108, 116] (by decide)
    have := br_len [102, 117, 110, 99] 420000 (some_ [112, 97, 114, 97, 109] (c.ps.map vT) ++ some_ [114, 101, 115, 117, 108, 116] (c.rs.map vT)) (fun y hy => by
      rcases List.mem_append.1 hy with hy | hy
      · exact h1.2 y hy
      · exact h2.2 y hy)
    rw [List.length_append] at this
    have h3 := Nat.mul_le_mul_right 420001 (Nat.add_le_add h1.1 h2.1)
    simp at this
    omega
  · split
    · have := fields_len c.fs hS.f h.f [115, 116, 114, 117, 99, 116] (by decide); omega
    · have := fields_len c.fs hS.f h.f [97, 114, 114, 97, 121] (by decide); omega
end Kd

theorem vals_any (x : List UInt8) (l : List Vl) (A : Option Addr) (c : Nat) (w : World) (hT : Tabs w) (hx : x.length ≤ 6) (hl : l.length ≤ 10000) (hp : ∀ y ∈ l, Kd.pVal y = true) (hs : Seg 4 Vl.cs w w.heap.size A c l) :
    Calls Tryd.prog 138 #[Str x, .slice A l.length c] w fun e w' => (∃ v, e = .returned v ∧ OwnG 9 1 Sx w.heap.size w' v (Kd.some_ x (l.map Kd.vT))) ∧ Below w.heap.size w w' := by
  obtain ⟨Q, hQ⟩ : ∃ Q : Ending → World → Prop, Q = (fun e w' => (∃ v, e = .returned v ∧ OwnG 9 1 Sx w.heap.size w' v (Kd.some_ x (l.map Kd.vT))) ∧ Below w.heap.size w w') := ⟨_, rfl⟩
  rw [← hQ]
  have hQ' := Lib.hid hQ
  have HT := Lib.hid hT
  have HP := Lib.hid hp
  have HS := Lib.hid hs
  have HX := Lib.hid hx
  clear hQ hT hp hs hx
  rcases Nat.eq_zero_or_pos l.length with h0 | h0
  · have hn : l = [] := List.eq_nil_of_length_eq_zero h0
    subst hn
    go_enter Tryd.func138, Tryd.ntmps138
    go_wp2
    rw [hQ'.out]
    exact ⟨⟨_, rfl, OwnG.nil _ _⟩, Below.refl _ _⟩
  · have hne : ((l.length : Int) == 0) = false := by rw [beq_eq_false_iff_ne]; omega
    have hln : Hid (l.map Kd.vT ≠ []) := Lib.hid (by intro e; rw [List.map_eq_nil_iff] at e; subst e; simp at h0)
    go_enter Tryd.func138, Tryd.ntmps138
    go_wp2_with fail
    refine (tx_v l A c w HT.out hl HP.out HS.out).mono ?_
    rintro e w1 ⟨⟨v, rfl, hown⟩, hb1⟩
    obtain ⟨A1, c1, rfl, hs1⟩ := hown.seg elemS
    have HC : Hid (Calls Tryd.prog 139 #[Str x, .slice A1 (l.map Kd.vT).length c1] w1 fun e w' => e = .returned (Str (Kd.br x (l.map Kd.vT))) ∧ Below w1.heap.size w1 w') :=
      Lib.hid (headed_any x (l.map Kd.vT) A1 c1 w1 hs1 (by have := Kd.vals_len l hl HP.out x HX.out; omega) (by rw [List.length_map]; omega))
    clear hown hs1
    obtain ⟨t, ht⟩ : ∃ t, Kd.br x (l.map Kd.vT) = t := ⟨_, rfl⟩
    rw [ht] at HC
    have ht' := Lib.hid ht
    clear ht
    rw [List.length_map] at HC ⊢
    dsimp only
    go_wp2_with fail
    refine HC.out.mono ?_
    rintro e w2 ⟨rfl, hb2⟩
    dsimp only
    have hB := below_trans2 hb1 hb2
    go_wp2
    rw [hQ'.out]
    refine ⟨⟨_, rfl, ?_⟩, hB.alloc hB.size _⟩
    have e1 : Kd.some_ x (l.map Kd.vT) = [t] := by unfold Kd.some_; rw [if_neg hln.out, ht'.out]
    rw [e1]
    exact OwnG.lit1 elemS w2 hB.size t _ rfl

set_option maxHeartbeats 1000000 in
theorem cT_any (c : Cp) (v : Value) (w : World) (hT : Tabs w) (h : IsComp w w.heap.size v c) (hS : SmallC c) (ho : Kd.OkC c) :
    Calls Tryd.prog 106 #[v] w fun e w' => e = .returned (Str (Kd.cT c)) ∧ Below w.heap.size w w' := by
  obtain ⟨A2, c2, A3, c3, A4, c4, rfl, s2, s3, s4⟩ := h
  have hB0 : Below w.heap.size w (w.alloc (.cells #[.int .i64 c.k, .slice A2 c.ps.length c2, .slice A3 c.rs.length c3, .slice A4 c.fs.length c4] 27)) := (Below.refl _ _).alloc (Nat.le_refl _) _
  rcases ho.k with hk | hk | hk
  · -- functions
    have L1 := Lib.hid (Kd.some_len c.ps hS.p ho.p [112, 97, 114, 97, 109] (by decide))
    have L2 := Lib.hid (Kd.some_len c.rs hS.r ho.r [114, 101, 115, 117, 108, 116] (by decide))
    have CP : Hid (∀ W, Below w.heap.size w W → Calls Tryd.prog 138 #[Str [112, 97, 114, 97, 109], .slice A2 c.ps.length c2] W fun e w' => (∃ v, e = .returned v ∧ OwnG 9 1 Sx W.heap.size w' v (Kd.some_ [112, 97, 114, 97, 109] (c.ps.map Kd.vT))) ∧ Below W.heap.size W w') :=
      Lib.hid fun W hW => vals_any _ c.ps A2 c2 W (hT.below hW) (by decide) hS.p ho.p ((s2.below hW).more hW.size)
    have CR : Hid (∀ W, Below w.heap.size w W → Calls Tryd.prog 138 #[Str [114, 101, 115, 117, 108, 116], .slice A3 c.rs.length c3] W fun e w' => (∃ v, e = .returned v ∧ OwnG 9 1 Sx W.heap.size w' v (Kd.some_ [114, 101, 115, 117, 108, 116] (c.rs.map Kd.vT))) ∧ Below W.heap.size W w') :=
      Lib.hid fun W hW => vals_any _ c.rs A3 c3 W (hT.below hW) (by decide) hS.r ho.r ((s3.below hW).more hW.size)
    obtain ⟨r, hr⟩ : ∃ r, Kd.cT c = r := ⟨_, rfl⟩
    rw [hr]
    have hr' := Lib.hid hr
    have hlen := Lib.hid (Kd.cT_len c hS ho)
    clear hr hS ho hT s2 s3 s4
    obtain ⟨k, ps, rs, fs⟩ := c
    dsimp only at hk hB0 CP CR L1 L2 ⊢
    subst hk
    obtain ⟨lp, hlp⟩ : ∃ lp, Kd.some_ [112, 97, 114, 97, 109] (ps.map Kd.vT) = lp := ⟨_, rfl⟩
    obtain ⟨lr, hlr⟩ : ∃ lr, Kd.some_ [114, 101, 115, 117, 108, 116] (rs.map Kd.vT) = lr := ⟨_, rfl⟩
    rw [hlp] at CP L1
    rw [hlr] at CR L2
    have hlp' := Lib.hid hlp
    have hlr' := Lib.hid hlr
    clear hlp hlr
    have hW1 : Below (w.alloc (.cells #[.int .i64 1, .slice A2 ps.length c2, .slice A3 rs.length c3, .slice A4 fs.length c4] 27)).heap.size (w.alloc (.cells #[.int .i64 1, .slice A2 ps.length c2, .slice A3 rs.length c3, .slice A4 fs.length c4] 27)) ((w.alloc (.cells #[.int .i64 1, .slice A2 ps.length c2, .slice A3 rs.length c3, .slice A4 fs.length c4] 27)).alloc (.cells #[Str [102, 117, 110, 99]] 9)) := (Below.refl _ _).alloc (Nat.le_refl _) _
    have hown0 := OwnG.lit1 (B := (w.alloc (.cells #[.int .i64 1, .slice A2 ps.length c2, .slice A3 rs.length c3, .slice A4 fs.length c4] 27)).heap.size) elemS (w.alloc (.cells #[.int .i64 1, .slice A2 ps.length c2, .slice A3 rs.length c3, .slice A4 fs.length c4] 27)) (Nat.le_refl _) [102, 117, 110, 99] #[Str [102, 117, 110, 99]] rfl
    have HO0 := Lib.hid hown0
    have HW1 := Lib.hid hW1
    have HB0 := Lib.hid hB0
    clear hown0 hW1 hB0
    go_enter Tryd.func106, Tryd.ntmps106
    go_wp2_with fail
    refine (CP.out _ (HB0.out.alloc HB0.out.size _)).mono ?_
    rintro e w1 ⟨⟨v1, rfl, hown1⟩, hb1⟩
    obtain ⟨A5, c5, rfl, hs5⟩ := hown1.seg elemS
    have HS5 := Lib.hid hs5
    have HO1 := Lib.hid (HO0.out.below hb1)
    have HW2 := Lib.hid (HW1.out.trans (hb1.mono HW1.out.size))
    have hsz := Lib.hid hb1
    clear hown1 hs5 hb1
    dsimp only
    rw [World.size_alloc] at HO1
    have hs1 : Hid (w.heap.size + 1 ≤ w1.heap.size) := Lib.hid (by have := HW2.out.size; simpa using this)
    go_wp2_with (at_builtin; refine cat_g elemS rfl _ _ rfl _ lp.length rfl rfl HO1.out rfl HS5.out hs1.out (1 + lp.length) (by have := L1.out.1; omega) rfl ?_; intro A' cc' w2 hown2 hg2; have HW3 := Lib.hid (HO1.out.grown hg2 (Nat.le_refl _) hs1.out (by have := HW2.out; rw [World.size_alloc] at this; exact this)); obtain ⟨hc2, hf2⟩ := bcell (by have := HW3.out; rw [← World.size_alloc] at this; exact this); have HO2 := Lib.hid hown2; clear hown2 hg2)
    have HF2 := Lib.hid (HB0.out.trans (HW3.out.mono (Nat.le_succ _)))
    refine (CR.out _ HF2.out).mono ?_
    rintro e w3 ⟨⟨v2, rfl, hown3⟩, hb3⟩
    obtain ⟨A6, c6, rfl, hs6⟩ := hown3.seg elemS
    have HS6 := Lib.hid hs6
    have HO3 := Lib.hid (HO2.out.below hb3)
    have HF3 := Lib.hid (below_trans2 HF2.out hb3)
    have hs3 : Hid (w.heap.size + 1 ≤ w3.heap.size) := Lib.hid (Nat.le_trans (by have := HW3.out.size; simpa using this) hb3.size)
    clear hown3 hs6 hb3 hc2 hf2
    dsimp only
    go_wp2_with (at_builtin; refine cat_g elemS rfl _ _ rfl _ lr.length rfl rfl HO3.out rfl HS6.out hs3.out (1 + lp.length + lr.length) (by have := L1.out.1; have := L2.out.1; omega) (by simp; omega) ?_; intro A7 c7 w4 hown4 hg4; have HF4 := Lib.hid (HO3.out.grown hg4 (Nat.le_succ _) (Nat.le_of_succ_le hs3.out) HF3.out); have HO4 := Lib.hid hown4; clear hown4 hg4)
    obtain ⟨A8, c8, e8, hs8⟩ := HO4.out.seg elemS
    injection e8 with e9 e10 e11
    subst e9 e11
    have el : r = Kd.br [102, 117, 110, 99] (lp ++ lr) := by rw [← hr'.out]; simp [Kd.cT, hlp'.out, hlr'.out]
    refine (inBr_any [102, 117, 110, 99] (lp ++ lr) A7 c7 _ w4 (by simp; omega) (by simpa using hs8) (by rw [← el, ← hr'.out]; have := hlen.out; omega) (by have := L1.out.1; have := L2.out.1; simp; omega)).mono ?_
    rw [← el]
    rintro e w5 ⟨rfl, hb5⟩
    dsimp only
    have hB := below_trans2 HF4.out hb5
    go_wp2
    go_ret
    exact ⟨rfl, hB⟩
  · have L := Lib.hid (Kd.fields_len c.fs hS.f ho.f [115, 116, 114, 117, 99, 116] (by decide))
    have hfl := hS.f
    have CF : Hid (∀ W, Below w.heap.size w W → Calls Tryd.prog 140 #[.slice A4 c.fs.length c4, .func (.func 141) #[] #[]] W fun e w' => (∃ v, e = .returned v ∧ OwnG 9 1 Sx W.heap.size w' v (c.fs.map Kd.fT)) ∧ Below W.heap.size W w') :=
      Lib.hid fun W hW => tx_f c.fs A4 c4 W (hT.below hW) hS.f ho.f ((s4.below hW).more hW.size)
    clear hS ho hT s2 s3 s4
    obtain ⟨k, ps, rs, fs⟩ := c
    dsimp only at hk hB0 CF L hfl ⊢
    subst hk
    have hr' : Hid (Kd.cT ⟨2, ps, rs, fs⟩ = Kd.br [115, 116, 114, 117, 99, 116] (fs.map Kd.fT)) := Lib.hid (by simp [Kd.cT])
    have HB0 := Lib.hid hB0
    have HL : Hid ((fs.map Kd.fT).length ≤ 100000) := Lib.hid (by rw [List.length_map]; omega)
    clear hB0 hfl
    go_enter Tryd.func106, Tryd.ntmps106
    go_wp2_with fail
    refine (CF.out _ HB0.out).mono ?_
    rintro e w1 ⟨⟨v, rfl, hown⟩, hb1⟩
    obtain ⟨A5, c5, rfl, hs5⟩ := hown.seg elemS
    have HS5 := Lib.hid hs5
    have HB1 := Lib.hid (below_trans HB0.out hb1)
    clear hown hs5 hb1
    dsimp only
    go_wp2_with fail
    have HC := headed_any [115, 116, 114, 117, 99, 116] (fs.map Kd.fT) A5 c5 w1 HS5.out (Nat.le_trans L.out (by decide)) HL.out
    rw [← hr'.out, List.length_map] at HC
    refine HC.mono ?_
    rintro e w2 ⟨rfl, hb2⟩
    dsimp only
    have hB := below_trans2 HB1.out hb2
    go_wp2
    go_ret
    exact ⟨rfl, hB⟩
  · have L := Lib.hid (Kd.fields_len c.fs hS.f ho.f [97, 114, 114, 97, 121] (by decide))
    have hfl := hS.f
    have CF : Hid (∀ W, Below w.heap.size w W → Calls Tryd.prog 140 #[.slice A4 c.fs.length c4, .func (.func 141) #[] #[]] W fun e w' => (∃ v, e = .returned v ∧ OwnG 9 1 Sx W.heap.size w' v (c.fs.map Kd.fT)) ∧ Below W.heap.size W w') :=
      Lib.hid fun W hW => tx_f c.fs A4 c4 W (hT.below hW) hS.f ho.f ((s4.below hW).more hW.size)
    clear hS ho hT s2 s3 s4
    obtain ⟨k, ps, rs, fs⟩ := c
    dsimp only at hk hB0 CF L hfl ⊢
    subst hk
    have hr' : Hid (Kd.cT ⟨3, ps, rs, fs⟩ = Kd.br [97, 114, 114, 97, 121] (fs.map Kd.fT)) := Lib.hid (by simp [Kd.cT])
    have HB0 := Lib.hid hB0
    have HL : Hid ((fs.map Kd.fT).length ≤ 100000) := Lib.hid (by rw [List.length_map]; omega)
    clear hB0 hfl
    go_enter Tryd.func106, Tryd.ntmps106
    go_wp2_with fail
    refine (CF.out _ HB0.out).mono ?_
    rintro e w1 ⟨⟨v, rfl, hown⟩, hb1⟩
    obtain ⟨A5, c5, rfl, hs5⟩ := hown.seg elemS
    have HS5 := Lib.hid hs5
    have HB1 := Lib.hid (below_trans HB0.out hb1)
    clear hown hs5 hb1
    dsimp only
    go_wp2_with fail
    have HC := headed_any [97, 114, 114, 97, 121] (fs.map Kd.fT) A5 c5 w1 HS5.out (Nat.le_trans L.out (by decide)) HL.out
    rw [← hr'.out, List.length_map] at HC
    refine HC.mono ?_
    rintro e w2 ⟨rfl, hb2⟩
    dsimp only
    have hB := below_trans2 HB1.out hb2
    go_wp2
    go_ret
    exact ⟨rfl, hB⟩
end Go.Proofs.YtkdhjejchdcipaaDoor
/-
  Layer 4, code: the writing of a declared type.
-/
namespace Go.Proofs.YtkdhjejchdcipaaDoor
open Go.RowKit
set_option linter.unusedVariables false
set_option maxRecDepth 100000

theorem Kd.pHeap_of {h : Hp} (hp : Kd.pIdx h = true) : Kd.pHeap h = true := by
  unfold Kd.pHeap
  split
  · rename_i hg
    unfold Kd.pIdx at hp
    unfold Kd.given at hg
    simp only [Bool.and_eq_true, decide_eq_true_eq] at hp hg
    omega
  · exact hp
theorem Kd.pSub_parts {s : Sb} (h : Kd.pSub s = true) : (∀ x ∈ s.sups, Kd.pHeap x = true) ∧ Kd.OkC s.c := by
  unfold Kd.pSub at h
  simp only [Bool.and_eq_true, List.all_eq_true] at h
  exact ⟨fun x hx => Kd.pHeap_of (h.1 x hx), Kd.okC_of h.2⟩
theorem Kd.sups_len (l : List Hp) (hp : ∀ x ∈ l, Kd.pHeap x = true) : ∀ y ∈ l.map Kd.hT, y.length ≤ 910000 := fun y hy => by
  obtain ⟨v, hv, rfl⟩ := List.mem_map.1 hy
  have := Kd.hT_len v (Kd.okH_of (hp v hv))
  omega

set_option maxHeartbeats 1000000 in
theorem tT_any (s : Sb) (v : Value) (w : World) (hT : Tabs w) (h : IsSub w w.heap.size v s) (hS : Kd.Small s) (ho : Kd.pSub s = true) :
    Calls Tryd.prog 56 #[v] w fun e w' => e = .returned (Str (Kd.tT s)) ∧ Below w.heap.size w w' := by
  obtain ⟨hps, hoc⟩ := Kd.pSub_parts ho
  obtain ⟨A1, c1, A2, c2, A3, c3, A4, c4, rfl, s1, s2, s3, s4⟩ := h
  have hB0 : Below w.heap.size w (w.alloc (.cells #[.bool s.fin, .slice A1 s.sups.length c1, .int .i64 s.c.k, .slice A2 s.c.ps.length c2, .slice A3 s.c.rs.length c3, .slice A4 s.c.fs.length c4] 29)) := (Below.refl _ _).alloc (Nat.le_refl _) _
  have CS : Hid (∀ W, Below w.heap.size w W → Calls Tryd.prog 103 #[.slice A1 s.sups.length c1, .func (.func 104) #[] #[]] W fun e w' => (∃ v, e = .returned v ∧ OwnG 9 1 Sx W.heap.size w' v (s.sups.map Kd.hT)) ∧ Below W.heap.size W w') :=
    Lib.hid fun W hW => tx_h s.sups A1 c1 W (hT.below hW) hS.a hps ((s1.below hW).more hW.size)
  have CC : Hid (∀ W, Below w.heap.size w W → Calls Tryd.prog 106 #[.agg #[.int .i64 s.c.k, .slice A2 s.c.ps.length c2, .slice A3 s.c.rs.length c3, .slice A4 s.c.fs.length c4]] W fun e w' => e = .returned (Str (Kd.cT s.c)) ∧ Below W.heap.size W w') :=
    Lib.hid fun W hW => cT_any s.c _ W (hT.below hW) ⟨A2, c2, A3, c3, A4, c4, rfl, (s2.below hW).more hW.size, (s3.below hW).more hW.size, (s4.below hW).more hW.size⟩ hS.c hoc
  have hlc := Kd.cT_len s.c hS.c hoc
  have hls := Kd.sups_len s.sups hps
  have hla : (s.sups.map Kd.hT).length = s.sups.length := by rw [List.length_map]
  have hlb := hS.a
  obtain ⟨r, hr⟩ : ∃ r, Kd.tT s = r := ⟨_, rfl⟩
  rw [hr]
  have hr' := Lib.hid hr
  clear hr hS ho hT s1 s2 s3 s4 hps hoc
  obtain ⟨fin, sups, k, ps, rs, fs⟩ := s
  dsimp only at hB0 CS CC hlc hls hla hlb ⊢
  obtain ⟨tc, htc⟩ : ∃ tc, Kd.cT ⟨k, ps, rs, fs⟩ = tc := ⟨_, rfl⟩
  obtain ⟨lp, hlp⟩ : ∃ lp, sups.map Kd.hT = lp := ⟨_, rfl⟩
  rw [htc] at CC hlc
  rw [hlp] at CS hls hla
  have htc' := Lib.hid htc
  have hlp' := Lib.hid hlp
  have hlc' := Lib.hid hlc
  have hls' := Lib.hid hls
  have hla' := Lib.hid hla
  have hlb' := Lib.hid hlb
  clear htc hlp hlc hls hla hlb
  cases fin
  · have hown0 := OwnG.lit1 (B := w.heap.size + 1) elemS (w.alloc (.cells #[.bool false, .slice A1 sups.length c1, .int .i64 k, .slice A2 ps.length c2, .slice A3 rs.length c3, .slice A4 fs.length c4] 29)) (by simp) [115, 117, 98] #[Str [115, 117, 98]] rfl
    rw [World.size_alloc] at hown0
    have HO0 := Lib.hid hown0
    have HB0 := Lib.hid hB0
    clear hown0 hB0
    go_enter Tryd.func56, Tryd.ntmps56
    go_wp2_with fail
    have hW1 := HB0.out.alloc HB0.out.size (.cells #[Str [115, 117, 98]] 9)
    have HOh := HO0
    have HBh : Hid (Below (w.heap.size + 1) (w.alloc (.cells #[.bool false, .slice A1 sups.length c1, .int .i64 k, .slice A2 ps.length c2, .slice A3 rs.length c3, .slice A4 fs.length c4] 29)) ((w.alloc (.cells #[.bool false, .slice A1 sups.length c1, .int .i64 k, .slice A2 ps.length c2, .slice A3 rs.length c3, .slice A4 fs.length c4] 29)).alloc (.cells #[Str [115, 117, 98]] 9))) := Lib.hid ((Below.refl _ _).alloc (by simp) _)
    have HBs : Hid (w.heap.size + 1 ≤ ((w.alloc (.cells #[.bool false, .slice A1 sups.length c1, .int .i64 k, .slice A2 ps.length c2, .slice A3 rs.length c3, .slice A4 fs.length c4] 29)).alloc (.cells #[Str [115, 117, 98]] 9)).heap.size) := Lib.hid (by simp)
    refine (CS.out _ hW1).mono ?_
    rintro e w1 ⟨⟨v1, rfl, hown1⟩, hb1⟩
    obtain ⟨A5, c5, rfl, hs5⟩ := hown1.seg elemS
    have HS5 := Lib.hid hs5
    have HO1 := Lib.hid (HOh.out.below hb1)
    have HB1 := Lib.hid (HBh.out.trans (hb1.mono HBs.out))
    have hs1 : Hid (w.heap.size + 1 ≤ w1.heap.size) := Lib.hid (Nat.le_trans HBs.out hb1.size)
    clear hown1 hs5 hb1
    dsimp only
    go_wp2_with (at_builtin; refine cat_g elemS rfl _ _ rfl _ lp.length rfl rfl HO1.out rfl HS5.out hs1.out (1 + lp.length) (by have := hla'.out; have := hlb'.out; omega) rfl ?_; intro A' cc' w2 hown2 hg2; have HW3 := Lib.hid (HO1.out.grown hg2 (Nat.le_refl _) hs1.out HB1.out); obtain ⟨hc2, hf2⟩ := bcell (by have := HW3.out; rw [← World.size_alloc] at this; exact this); have HO2 := Lib.hid hown2; clear hown2 hg2)
    have HF2 := Lib.hid (HB0.out.trans (HW3.out.mono (Nat.le_succ _)))
    refine (CC.out _ HF2.out).mono ?_
    rintro e w3 ⟨rfl, hb3⟩
    have HO3 := Lib.hid (HO2.out.below hb3)
    have HF3 := Lib.hid (below_trans2 HF2.out hb3)
    have hs3 : Hid (w.heap.size + 1 ≤ w3.heap.size) := Lib.hid (Nat.le_trans (by have := HW3.out.size; simpa using this) hb3.size)
    clear hb3 hc2 hf2
    dsimp only
    go_wp2_with (at_builtin; refine push_g elemS rfl _ _ rfl w3 _ rfl tc _ _ rfl rfl HO3.out hs3.out (by have := hla'.out; have := hlb'.out; simp; omega) (1 + lp.length + 1) (by simp; omega) ?_ rfl; intro A7 c7 w4 hown4 hg4; have HF4 := Lib.hid (HO3.out.grown hg4 (Nat.le_succ _) (Nat.le_of_succ_le hs3.out) HF3.out); have HO4 := Lib.hid hown4; clear hown4 hg4)
    obtain ⟨A8, c8, e8, hs8⟩ := HO4.out.seg elemS
    injection e8 with e9 e10 e11
    subst e9 e11
    have el : r = Kd.br [115, 117, 98] (([] : List (List UInt8)) ++ lp ++ [tc]) := by rw [← hr'.out]; simp [Kd.tT, hlp'.out, htc'.out]
    have hbl : (Kd.br [115, 117, 98] (([] : List (List UInt8)) ++ lp ++ [tc])).length ≤ 1000000000000 := by
      have h := Kd.br_len [115, 117, 98] 910000 (([] : List (List UInt8)) ++ lp ++ [tc]) (fun y hy => by
        rcases List.mem_append.1 hy with hy | hy
        · rcases List.mem_append.1 hy with hy | hy
          · simp at hy; try (subst hy; decide)
          · exact hls'.out y hy
        · simp at hy; subst hy; exact hlc'.out)
      have h1 := hla'.out
      have h2 := hlb'.out
      have h3 : (([] : List (List UInt8)) ++ lp ++ [tc]).length ≤ 10002 := by simp; omega
      have h4 := Nat.mul_le_mul_right 910001 h3
      simp only [List.length_cons, List.length_nil] at h
      omega
    have HC := inBr_any [115, 117, 98] (([] : List (List UInt8)) ++ lp ++ [tc]) A7 c7 (1 + lp.length + 1) w4 (by simp; omega) (by simpa using hs8) hbl (by have := hla'.out; have := hlb'.out; simp; omega)
    rw [← el] at HC
    refine HC.mono ?_
    rintro e w5 ⟨rfl, hb5⟩
    dsimp only
    have hB := below_trans2 HF4.out hb5
    go_wp2
    go_ret
    exact ⟨rfl, hB⟩
  · have hown0 := OwnG.lit1 (B := w.heap.size + 1) elemS (w.alloc (.cells #[.bool true, .slice A1 sups.length c1, .int .i64 k, .slice A2 ps.length c2, .slice A3 rs.length c3, .slice A4 fs.length c4] 29)) (by simp) [115, 117, 98] #[Str [115, 117, 98]] rfl
    rw [World.size_alloc] at hown0
    have HO0 := Lib.hid hown0
    have HB0 := Lib.hid hB0
    have HB9 : Hid (Below (w.heap.size + 1) (w.alloc (.cells #[.bool true, .slice A1 sups.length c1, .int .i64 k, .slice A2 ps.length c2, .slice A3 rs.length c3, .slice A4 fs.length c4] 29)) ((w.alloc (.cells #[.bool true, .slice A1 sups.length c1, .int .i64 k, .slice A2 ps.length c2, .slice A3 rs.length c3, .slice A4 fs.length c4] 29)).alloc (.cells #[Str [115, 117, 98]] 9))) := Lib.hid ((Below.refl _ _).alloc (by simp) _)
    clear hown0 hB0
    go_enter Tryd.func56, Tryd.ntmps56
    go_wp2_with (at_builtin; refine push_g elemS rfl _ _ rfl _ _ (by simp) [102, 105, 110, 97, 108] _ _ rfl rfl HO0.out (by simp) (by simp) 2 rfl ?_ rfl; intro A0 c0 wh hownh hgh; have HBh := Lib.hid (HO0.out.grown hgh (Nat.le_refl _) (by simp) HB9.out); obtain ⟨hc0, hf0⟩ := bcell (by have := HBh.out; rw [← World.size_alloc] at this; exact this); have HOh := Lib.hid hownh; clear hownh hgh)
    have HBs : Hid (w.heap.size + 1 ≤ wh.heap.size) := Lib.hid (by have := HBh.out.size; simpa using this)
    refine (CS.out _ (HB0.out.trans (HBh.out.mono (Nat.le_succ _)))).mono ?_
    clear hc0 hf0
    rintro e w1 ⟨⟨v1, rfl, hown1⟩, hb1⟩
    obtain ⟨A5, c5, rfl, hs5⟩ := hown1.seg elemS
    have HS5 := Lib.hid hs5
    have HO1 := Lib.hid (HOh.out.below hb1)
    have HB1 := Lib.hid (HBh.out.trans (hb1.mono HBs.out))
    have hs1 : Hid (w.heap.size + 1 ≤ w1.heap.size) := Lib.hid (Nat.le_trans HBs.out hb1.size)
    clear hown1 hs5 hb1
    dsimp only
    go_wp2_with (at_builtin; refine cat_g elemS rfl _ _ rfl _ lp.length rfl rfl HO1.out rfl HS5.out hs1.out (2 + lp.length) (by have := hla'.out; have := hlb'.out; omega) rfl ?_; intro A' cc' w2 hown2 hg2; have HW3 := Lib.hid (HO1.out.grown hg2 (Nat.le_refl _) hs1.out HB1.out); obtain ⟨hc2, hf2⟩ := bcell (by have := HW3.out; rw [← World.size_alloc] at this; exact this); have HO2 := Lib.hid hown2; clear hown2 hg2)
    have HF2 := Lib.hid (HB0.out.trans (HW3.out.mono (Nat.le_succ _)))
    refine (CC.out _ HF2.out).mono ?_
    rintro e w3 ⟨rfl, hb3⟩
    have HO3 := Lib.hid (HO2.out.below hb3)
    have HF3 := Lib.hid (below_trans2 HF2.out hb3)
    have hs3 : Hid (w.heap.size + 1 ≤ w3.heap.size) := Lib.hid (Nat.le_trans (by have := HW3.out.size; simpa using this) hb3.size)
    clear hb3 hc2 hf2
    dsimp only
    go_wp2_with (at_builtin; refine push_g elemS rfl _ _ rfl w3 _ rfl tc _ _ rfl rfl HO3.out hs3.out (by have := hla'.out; have := hlb'.out; simp; omega) (2 + lp.length + 1) (by simp; omega) ?_ rfl; intro A7 c7 w4 hown4 hg4; have HF4 := Lib.hid (HO3.out.grown hg4 (Nat.le_succ _) (Nat.le_of_succ_le hs3.out) HF3.out); have HO4 := Lib.hid hown4; clear hown4 hg4)
    obtain ⟨A8, c8, e8, hs8⟩ := HO4.out.seg elemS
    injection e8 with e9 e10 e11
    subst e9 e11
    have el : r = Kd.br [115, 117, 98] ([[102, 105, 110, 97, 108]] ++ lp ++ [tc]) := by rw [← hr'.out]; simp [Kd.tT, hlp'.out, htc'.out]
    have hbl : (Kd.br [115, 117, 98] ([[102, 105, 110, 97, 108]] ++ lp ++ [tc])).length ≤ 1000000000000 := by
      have h := Kd.br_len [115, 117, 98] 910000 ([[102, 105, 110, 97, 108]] ++ lp ++ [tc]) (fun y hy => by
        rcases List.mem_append.1 hy with hy | hy
        · rcases List.mem_append.1 hy with hy | hy
          · simp at hy; try (subst hy; decide)
          · exact hls'.out y hy
        · simp at hy; subst hy; exact hlc'.out)
      have h1 := hla'.out
      have h2 := hlb'.out
      have h3 : ([[102, 105, 110, 97, 108]] ++ lp ++ [tc]).length ≤ 10002 := by simp; omega
      have h4 := Nat.mul_le_mul_right 910001 h3
      simp only [List.length_cons, List.length_nil] at h
      omega
    have HC := inBr_any [115, 117, 98] ([[102, 105, 110, 97, 108]] ++ lp ++ [tc]) A7 c7 (2 + lp.length + 1) w4 (by simp; omega) (by simpa using hs8) hbl (by have := hla'.out; have := hlb'.out; simp; omega)
    rw [← el] at HC
    refine HC.mono ?_
    rintro e w5 ⟨rfl, hb5⟩
    dsimp only
    have hB := below_trans2 HF4.out hb5
    go_wp2
    go_ret
    exact ⟨rfl, hB⟩
end Go.Proofs.YtkdhjejchdcipaaDoor
/-
  Layer 4, the document's side: the walk of With.
-/
namespace Go.Proofs.YtkdhjejchdcipaaDoor
open Go.RowKit
attribute [local go_sem ↓] Go.wp_at_zero Go.wp_at_succ
set_option linter.unusedVariables false
set_option maxRecDepth 100000

set_option maxHeartbeats 4000000 in
theorem with_any (s : Sb) (x : Value) (w : World) (l : List Hp) (A : Option Addr) (c : Nat) (h : IsSub w w.heap.size x s) (hS : Kd.Small s) (hl : Seg 2 Hp.cs w w.heap.size A c l) (hn : (Kd.heaps s).length ≤ l.length) (hm : l.length ≤ 100000) :
    Calls Tryd.prog 16 #[x, .slice A l.length c] w fun e w' => (∃ v, e = .returned v ∧ IsSub w' w'.heap.size v (Kd.withS s l) ∧ NewSub w.heap.size v) ∧ Below w.heap.size w w' := by
  obtain ⟨Q, hQ⟩ : ∃ Q : Ending → World → Prop, Q = (fun e w' => (∃ v, e = .returned v ∧ IsSub w' w'.heap.size v (Kd.withS s l) ∧ NewSub w.heap.size v) ∧ Below w.heap.size w w') := ⟨_, rfl⟩
  rw [← hQ]
  have hQ' := Lib.hid hQ
  clear hQ
  obtain ⟨A1, c1, A2, c2, A3, c3, A4, c4, rfl, s1, s2, s3, s4⟩ := h
  obtain ⟨fin, sups, k, ps, rs, fs⟩ := s
  obtain ⟨la, lp, lr, lf⟩ := hS
  dsimp only at *
  have HS1 := Lib.hid s1
  have HS2 := Lib.hid s2
  have HS3 := Lib.hid s3
  have HS4 := Lib.hid s4
  have HLp := Lib.hid lp
  have HLr := Lib.hid lr
  have HLf := Lib.hid lf
  have HSl := Lib.hid hl
  have HN := Lib.hid hn
  clear s1 s2 s3 s4 lp lr lf hl hn
  obtain ⟨w2, hw2⟩ : ∃ w2, w2 = (w.alloc (.cells #[.bool fin, .slice A1 sups.length c1, .int .i64 k, .slice A2 ps.length c2, .slice A3 rs.length c3, .slice A4 fs.length c4] 29)).alloc (.cells #[.bool false, .slice none 0 0, .int .i64 0, .slice none 0 0, .slice none 0 0, .slice none 0 0] 29) := ⟨_, rfl⟩
  have X1 : Hid (w2.cell? ⟨w.heap.size, 1, none⟩ = some (.slice A1 sups.length c1)) := Lib.hid (by rw [hw2]; simp)
  have X3 : Hid (w2.cell? ⟨w.heap.size, 3, none⟩ = some (.slice A2 ps.length c2)) := Lib.hid (by rw [hw2]; simp)
  have X4 : Hid (w2.cell? ⟨w.heap.size, 4, none⟩ = some (.slice A3 rs.length c3)) := Lib.hid (by rw [hw2]; simp)
  have X5 : Hid (w2.cell? ⟨w.heap.size, 5, none⟩ = some (.slice A4 fs.length c4)) := Lib.hid (by rw [hw2]; simp)
  have RZ0 : Hid (w2.cell? ⟨w.heap.size + 1, 0, none⟩ = some (.bool false)) := Lib.hid (by rw [hw2]; go_simp)
  have RZ1 : Hid (w2.cell? ⟨w.heap.size + 1, 1, none⟩ = some (.slice none 0 0)) := Lib.hid (by rw [hw2]; go_simp)
  have RZ2 : Hid (w2.cell? ⟨w.heap.size + 1, 2, none⟩ = some (.int .i64 0)) := Lib.hid (by rw [hw2]; go_simp)
  have RZ3 : Hid (w2.cell? ⟨w.heap.size + 1, 3, none⟩ = some (.slice none 0 0)) := Lib.hid (by rw [hw2]; go_simp)
  have RZ4 : Hid (w2.cell? ⟨w.heap.size + 1, 4, none⟩ = some (.slice none 0 0)) := Lib.hid (by rw [hw2]; go_simp)
  have RZ5 : Hid (w2.cell? ⟨w.heap.size + 1, 5, none⟩ = some (.slice none 0 0)) := Lib.hid (by rw [hw2]; go_simp)
  have RF : Hid (∀ i, w2.frozen? ⟨w.heap.size + 1, i, none⟩ = false) := Lib.hid (fun i => by rw [hw2]; go_simp)
  have XB : Hid (Below w.heap.size w w2) := Lib.hid (by rw [hw2]; exact ((Below.refl _ _).alloc (Nat.le_refl _) _).alloc (by simp) _)
  have HW2 := Lib.hid hw2
  clear hw2
  go_enter Tryd.func16, Tryd.ntmps16
  go_wp2
  go_loopw [5, 7] (fun a i wr => ∃ (j : Nat) (A' : Option Addr) (c' : Nat), j ≤ sups.length ∧ a = .int .i64 j ∧ i = .int .i64 j ∧
    Out (w.heap.size + 1 + 1) w2 wr fin k (.slice A' j c') (.slice none 0 0) (.slice none 0 0) (.slice none 0 0) (l.take j) [] [] []) (fun _ i _ => sups.length - (intOf i).toNat)
  case atStart =>
    refine ⟨0, none, 0, Nat.zero_le _, rfl, rfl, ?_⟩
    rw [HW2.out]
    refine ⟨by go_simp, by go_simp, by go_simp, by go_simp, by go_simp, by go_simp, fun i => by go_simp, (Below.refl _ _).alloc (by simp) _, OwnG.nil _ _, OwnG.nil _ _, OwnG.nil _ _, OwnG.nil _ _, Ap.none_l _, Ap.none_l _, Ap.none_l _, Ap.none_l _, Ap.none_l _, Ap.none_l _⟩
  case round =>
    obtain ⟨j, A', c', hj, rfl, rfl, hO⟩ := hrel
    have HO := Lib.hid hO
    clear hO
    have hc1 : wr.cell? ⟨w.heap.size, 1, none⟩ = some (.slice A1 sups.length c1) := (HO.out.b.cell (p := ⟨w.heap.size, 1, none⟩) (by show w.heap.size < _; omega)).trans X1.out
    by_cases hlt : j < sups.length
    · have hjl : j < l.length := by have := HN.out; simp [Kd.heaps] at this; omega
      obtain ⟨b, off, rfl, hb, hc⟩ := HSl.out.2.2 (by omega)
      have hW : ∀ o, wr.cell? ⟨b, o, none⟩ = w.cell? ⟨b, o, none⟩ := fun o => (HO.out.b.cell (p := ⟨b, o, none⟩) (by show b < _; omega)).trans (XB.out.cell (p := ⟨b, o, none⟩) hb)
      obtain ⟨x, hx⟩ : ∃ x, x = l[j] := ⟨_, rfl⟩
      have g0 := (hW (off + j * 2 + 0)).trans (hc j hjl 0 _ rfl)
      have g1 := (hW (off + j * 2 + 1)).trans (hc j hjl 1 _ rfl)
      rw [← hx] at g0 g1
      simp only [Nat.add_zero] at g0
      have hx' := Lib.hid hx
      clear hx hc hW
      have hco := HO.out.c1
      have hcoA := (HO.out.alloc (.cells #[.int .i64 x.k, .int .i64 x.n] 39)).c1
      have i0 : (0 : Int) ≤ j := by omega
      have i1 : (j : Int) < l.length := by omega
      have hk1 : Hid (j + 1 < 1000000) := Lib.hid (by omega)
      have hk2 : Hid ((l.take j).length + 1 = j + 1) := Lib.hid (by rw [List.length_take]; omega)
      have HOd := Lib.hid HO.out.drew
      go_wp2_with fail
      go_region_law ((refine step_push elemH (by rfl) _ _ (by rfl) wr.drew _ rfl x _ _ (by rfl) (by rfl) HOd.out.o1 HOd.out.size (j + 1) hk1.out hk2.out rfl ?_; intro A8 c8 w4 hown8 hg8 hr8; obtain ⟨hd1, hf1, hO2⟩ := HOd.out.push1 hown8 hg8 hr8; have HO2 := Lib.hid hO2; clear hown8 hg8 hr8 hO2))
      all_goals
        go_wp2
        go_roundw
        case rel =>
          refine ⟨j + 1, A8, c8, by omega, by go_num, by go_num, ?_⟩
          have h := HO2.out
          rw [hx'.out, ← List.take_succ_eq_append_getElem hjl] at h
          exact h
        case measure => simp [intOf]; omega
    · have hjn : j = sups.length := by omega
      subst hjn
      have hc3 : wr.cell? ⟨w.heap.size, 3, none⟩ = some (.slice A2 ps.length c2) := (HO.out.b.cell (p := ⟨w.heap.size, 3, none⟩) (by show w.heap.size < _; omega)).trans X3.out
      have hc4 : wr.cell? ⟨w.heap.size, 4, none⟩ = some (.slice A3 rs.length c3) := (HO.out.b.cell (p := ⟨w.heap.size, 4, none⟩) (by show w.heap.size < _; omega)).trans X4.out
      obtain ⟨w5, rfl⟩ : ∃ w5, w5 = wr := ⟨_, rfl⟩
      have HO5 := Lib.hid (HO.out.alloc (.cells #[.slice A2 ps.length c2, .slice A3 rs.length c3] 95))
      go_wp2
      refine wp_loop_rounds 3 ?_
      rw [rounds_succ]
      go_wp2
      obtain ⟨M, hM⟩ : ∃ M, M = w5.heap.size := ⟨_, rfl⟩
      have hNM : Hid (w.heap.size + 1 + 1 ≠ M) := Lib.hid (by have := HO.out.size; omega)
      have hA0 : Arr M (w5.alloc (.cells #[.slice A2 ps.length c2, .slice A3 rs.length c3] 95)) (.slice A2 ps.length c2) (.slice A3 rs.length c3) (.slice none 0 0) := ⟨by subst hM; go_simp, by subst hM; go_simp, fun g e => by cases e⟩
      rw [← hM]
      have HA0 := Lib.hid hA0
      have hM' := Lib.hid hM
      clear hM hA0 hlt hj hc3 hc4 hc1
      go_loopw [5, 10] (fun a i wr => ∃ (j : Nat) (B' : Option Addr) (b' : Nat), j ≤ ps.length ∧ a = .int .i64 ((sups.length + (Kd.refs (ps.take j)).length : Nat) : Int) ∧ i = .int .i64 j ∧
        Out (w.heap.size + 1 + 1) w2 wr fin k (.slice A' sups.length c') (.slice B' j b') (.slice none 0 0) (.slice none 0 0) (l.take sups.length) (Kd.withV (ps.take j) (l.drop sups.length)) [] [] ∧
        Arr M wr (.slice A2 ps.length c2) (.slice A3 rs.length c3) (.slice B' j b')) (fun _ i _ => ps.length - (intOf i).toNat)
      case atStart => exact ⟨0, none, 0, Nat.zero_le _, by simp [Kd.refs], rfl, by simpa [Kd.withV] using HO5.out, HA0.out⟩
      case round =>
        obtain ⟨j, B', b', hj, rfl, rfl, hO, hA⟩ := hrel
        have HO := Lib.hid hO
        have HA := Lib.hid hA
        have hm0 := hA.c0
        clear hO hA
        by_cases hlt : j < ps.length
        · obtain ⟨b, off, rfl, hb, hc⟩ := HS2.out.2.2 (by omega)
          have hW : ∀ o, wr.cell? ⟨b, o, none⟩ = w.cell? ⟨b, o, none⟩ := fun o => (HO.out.b.cell (p := ⟨b, o, none⟩) (by show b < _; omega)).trans (XB.out.cell (p := ⟨b, o, none⟩) hb)
          obtain ⟨x, hx⟩ : ∃ x, x = ps[j] := ⟨_, rfl⟩
          have g0 := (hW (off + j * 4 + 0)).trans (hc j hlt 0 _ rfl)
          have g1 := (hW (off + j * 4 + 1)).trans (hc j hlt 1 _ rfl)
          have g2 := (hW (off + j * 4 + 2)).trans (hc j hlt 2 _ rfl)
          have g3 := (hW (off + j * 4 + 3)).trans (hc j hlt 3 _ rfl)
          rw [← hx] at g0 g1 g2 g3
          simp only [Nat.add_zero] at g0
          have hx' := Lib.hid hx
          clear hx hc hW
          obtain ⟨xk, xnu, xh⟩ := x
          dsimp only at g0 g1 g2 g3
          have hp100 := HLp.out
          obtain ⟨n, hn⟩ : ∃ n, sups.length + (Kd.refs (ps.take j)).length = n := ⟨_, rfl⟩
          rw [hn]
          have hn' := Lib.hid hn
          clear hn
          by_cases hk3 : xk = 3
          · subst hk3
            have hrt : Hid ((Kd.refs (ps.take (j + 1))).length = (Kd.refs (ps.take j)).length + 1) := Lib.hid (by rw [Kd.refs_take ps j hlt, ← hx'.out]; simp)
            have hnl : n < l.length := by
              have h1 := HN.out
              rw [Kd.heads] at h1
              have h2 := Kd.refs_take_le ps (j + 1)
              have h3 := hrt.out
              have h5 := hn'.out
              dsimp only at h1
              omega
            obtain ⟨d, doff, rfl, hd, hdc⟩ := HSl.out.2.2 (by omega)
            have hW : ∀ o, wr.cell? ⟨d, o, none⟩ = w.cell? ⟨d, o, none⟩ := fun o => (HO.out.b.cell (p := ⟨d, o, none⟩) (by show d < _; omega)).trans (XB.out.cell (p := ⟨d, o, none⟩) hd)
            obtain ⟨y, hy⟩ : ∃ y, y = l[n] := ⟨_, rfl⟩
            have k0 := (hW (doff + n * 2 + 0)).trans (hdc n hnl 0 _ rfl)
            have k1 := (hW (doff + n * 2 + 1)).trans (hdc n hnl 1 _ rfl)
            rw [← hy] at k0 k1
            simp only [Nat.add_zero] at k0
            have hy' := Lib.hid hy
            clear hy hdc hW
            have hd' : d < wr.heap.size := by have := HO.out.size; omega
            have hNlt : w.heap.size + 1 + 1 < wr.heap.size := HO.out.size
            have hco := HO.out.c3
            have HOa := Lib.hid (HO.out.alloc (.cells #[.int .i64 3, .bool xnu, .int .i64 y.k, .int .i64 y.n] 46))
            have HAa := Lib.hid (HA.out.alloc (.cells #[.int .i64 3, .bool xnu, .int .i64 y.k, .int .i64 y.n] 46))
            have hlen := Lib.hid (show (Kd.withV (ps.take j) (l.drop sups.length)).length + 1 = j + 1 by rw [Kd.withV_len, List.length_take]; omega)
            go_wp2_with (at_builtin; refine push_at elemV rfl _ _ rfl _ _ (by simp) ⟨3, xnu, y⟩ _ _ rfl rfl HOa.out.o3 HOa.out.size (j + 1) (by have := HLp.out; omega) hlen.out rfl ?_; intro A8 c8 w4 hown8 hg8 hr8; obtain ⟨hd1, hf1, hO2⟩ := HOa.out.push3 hown8 hg8 hr8; have HO2 := Lib.hid hO2; have HA2 := Lib.hid (HAa.out.push hg8 hr8 hNM.out 3 (.slice A8 (j + 1) c8)); clear hown8 hg8 hr8 hO2)
            go_roundw
            case rel =>
              refine ⟨j + 1, A8, c8, by omega, by rw [hrt.out, ← Nat.add_assoc, hn'.out]; go_num, by go_num, ?_, HA2.out⟩
              have h := HO2.out
              have e : Kd.setV ⟨3, xnu, xh⟩ ((l.drop sups.length).drop (Kd.refs (ps.take j)).length) = ⟨3, xnu, y⟩ := by
                unfold Kd.setV
                rw [List.drop_drop, hn'.out, List.drop_eq_getElem_cons hnl, ← hy'.out]; rfl
              rw [List.take_succ_eq_append_getElem hlt, Kd.withV_snoc, ← hx'.out, e]
              exact h
            case measure => simp [intOf]; omega
          · have hrt : Hid ((Kd.refs (ps.take (j + 1))).length = (Kd.refs (ps.take j)).length) := Lib.hid (by rw [Kd.refs_take ps j hlt, ← hx'.out]; simp [hk3])
            have hNlt : w.heap.size + 1 + 1 < wr.heap.size := HO.out.size
            have hco := HO.out.c3
            have hk4 : (xk == 3) = false := by simpa using hk3
            have HOa := Lib.hid (HO.out.alloc (.cells #[.int .i64 xk, .bool xnu, .int .i64 xh.k, .int .i64 xh.n] 46))
            have HAa := Lib.hid (HA.out.alloc (.cells #[.int .i64 xk, .bool xnu, .int .i64 xh.k, .int .i64 xh.n] 46))
            have hlen := Lib.hid (show (Kd.withV (ps.take j) (l.drop sups.length)).length + 1 = j + 1 by rw [Kd.withV_len, List.length_take]; omega)
            go_wp2_with (at_builtin; refine push_at elemV rfl _ _ rfl _ _ (by simp) ⟨xk, xnu, xh⟩ _ _ rfl rfl HOa.out.o3 HOa.out.size (j + 1) (by have := HLp.out; omega) hlen.out rfl ?_; intro A8 c8 w4 hown8 hg8 hr8; obtain ⟨hd1, hf1, hO2⟩ := HOa.out.push3 hown8 hg8 hr8; have HO2 := Lib.hid hO2; have HA2 := Lib.hid (HAa.out.push hg8 hr8 hNM.out 3 (.slice A8 (j + 1) c8)); clear hown8 hg8 hr8 hO2)
            go_roundw
            case rel =>
              refine ⟨j + 1, A8, c8, by omega, by rw [hrt.out, hn'.out], by go_num, ?_, HA2.out⟩
              have h := HO2.out
              have e : Kd.setV ⟨xk, xnu, xh⟩ ((l.drop sups.length).drop (Kd.refs (ps.take j)).length) = ⟨xk, xnu, xh⟩ := by
                unfold Kd.setV
                rw [if_neg hk3]
              rw [List.take_succ_eq_append_getElem hlt, Kd.withV_snoc, ← hx'.out, e]
              exact h
            case measure => simp [intOf]; omega
        · have hjn : j = ps.length := by omega
          subst hjn
          rw [List.take_length]
          have hO := HO.out
          rw [List.take_length] at hO
          go_wp2
          rw [rounds_succ]
          obtain ⟨n1, hn1e⟩ : ∃ n1, sups.length + (Kd.refs ps).length = n1 := ⟨_, rfl⟩
          rw [hn1e]
          have hn1 := Lib.hid hn1e
          clear hn1e
          obtain ⟨w6, rfl⟩ : ∃ w6, w6 = wr := ⟨_, rfl⟩
          obtain ⟨B3, rfl⟩ : ∃ B3, B3 = B' := ⟨_, rfl⟩
          obtain ⟨b3, rfl⟩ : ∃ b3, b3 = b' := ⟨_, rfl⟩
          have HO6 := Lib.hid hO
          have HA6 : Hid (Arr M w6 (.slice A2 ps.length c2) (.slice A3 rs.length c3) (.slice none 0 0)) := Lib.hid ⟨HA.out.c0, HA.out.c1, fun g e => by cases e⟩
          clear hO hlt hj
          go_wp2
          go_loopw [5, 10] (fun a i wr => ∃ (j : Nat) (B' : Option Addr) (b' : Nat), j ≤ rs.length ∧ a = .int .i64 ((n1 + (Kd.refs (rs.take j)).length : Nat) : Int) ∧ i = .int .i64 j ∧
            Out (w.heap.size + 1 + 1) w2 wr fin k (.slice A' sups.length c') (.slice B3 ps.length b3) (.slice B' j b') (.slice none 0 0) (l.take sups.length) (Kd.withV ps (l.drop sups.length)) (Kd.withV (rs.take j) (l.drop n1)) [] ∧
            Arr M wr (.slice A2 ps.length c2) (.slice A3 rs.length c3) (.slice B' j b')) (fun _ i _ => rs.length - (intOf i).toNat)
          case atStart => exact ⟨0, none, 0, Nat.zero_le _, by simp [Kd.refs], rfl, by simpa [Kd.withV] using HO6.out, HA6.out⟩
          case round =>
            obtain ⟨j, B', b', hj, rfl, rfl, hO, hA⟩ := hrel
            have HO := Lib.hid hO
            have HA := Lib.hid hA
            have hm0 := hA.c1
            clear hO hA
            by_cases hlt : j < rs.length
            · obtain ⟨b, off, rfl, hb, hc⟩ := HS3.out.2.2 (by omega)
              have hW : ∀ o, wr.cell? ⟨b, o, none⟩ = w.cell? ⟨b, o, none⟩ := fun o => (HO.out.b.cell (p := ⟨b, o, none⟩) (by show b < _; omega)).trans (XB.out.cell (p := ⟨b, o, none⟩) hb)
              obtain ⟨x, hx⟩ : ∃ x, x = rs[j] := ⟨_, rfl⟩
              have g0 := (hW (off + j * 4 + 0)).trans (hc j hlt 0 _ rfl)
              have g1 := (hW (off + j * 4 + 1)).trans (hc j hlt 1 _ rfl)
              have g2 := (hW (off + j * 4 + 2)).trans (hc j hlt 2 _ rfl)
              have g3 := (hW (off + j * 4 + 3)).trans (hc j hlt 3 _ rfl)
              rw [← hx] at g0 g1 g2 g3
              simp only [Nat.add_zero] at g0
              have hx' := Lib.hid hx
              clear hx hc hW
              obtain ⟨xk, xnu, xh⟩ := x
              dsimp only at g0 g1 g2 g3
              have hp100 := HLr.out
              obtain ⟨n, hn⟩ : ∃ n, n1 + (Kd.refs (rs.take j)).length = n := ⟨_, rfl⟩
              rw [hn]
              have hn' := Lib.hid hn
              clear hn
              by_cases hk3 : xk = 3
              · subst hk3
                have hrt : Hid ((Kd.refs (rs.take (j + 1))).length = (Kd.refs (rs.take j)).length + 1) := Lib.hid (by rw [Kd.refs_take rs j hlt, ← hx'.out]; simp)
                have hnl : n < l.length := by
                  have h1 := HN.out
                  rw [Kd.heads] at h1
                  have h2 := Kd.refs_take_le rs (j + 1)
                  have h3 := hrt.out
                  have h5 := hn'.out
                  have h4 := hn1.out
                  dsimp only at h1
                  omega
                obtain ⟨d, doff, rfl, hd, hdc⟩ := HSl.out.2.2 (by omega)
                have hW : ∀ o, wr.cell? ⟨d, o, none⟩ = w.cell? ⟨d, o, none⟩ := fun o => (HO.out.b.cell (p := ⟨d, o, none⟩) (by show d < _; omega)).trans (XB.out.cell (p := ⟨d, o, none⟩) hd)
                obtain ⟨y, hy⟩ : ∃ y, y = l[n] := ⟨_, rfl⟩
                have k0 := (hW (doff + n * 2 + 0)).trans (hdc n hnl 0 _ rfl)
                have k1 := (hW (doff + n * 2 + 1)).trans (hdc n hnl 1 _ rfl)
                rw [← hy] at k0 k1
                simp only [Nat.add_zero] at k0
                have hy' := Lib.hid hy
                clear hy hdc hW
                have hd' : d < wr.heap.size := by have := HO.out.size; omega
                have hNlt : w.heap.size + 1 + 1 < wr.heap.size := HO.out.size
                have hco := HO.out.c4
                have HOa := Lib.hid (HO.out.alloc (.cells #[.int .i64 3, .bool xnu, .int .i64 y.k, .int .i64 y.n] 46))
                have HAa := Lib.hid (HA.out.alloc (.cells #[.int .i64 3, .bool xnu, .int .i64 y.k, .int .i64 y.n] 46))
                have hlen := Lib.hid (show (Kd.withV (rs.take j) (l.drop n1)).length + 1 = j + 1 by rw [Kd.withV_len, List.length_take]; omega)
                go_wp2_with (at_builtin; refine push_at elemV rfl _ _ rfl _ _ (by simp) ⟨3, xnu, y⟩ _ _ rfl rfl HOa.out.o4 HOa.out.size (j + 1) (by have := HLr.out; omega) hlen.out rfl ?_; intro A8 c8 w4 hown8 hg8 hr8; obtain ⟨hd1, hf1, hO2⟩ := HOa.out.push4 hown8 hg8 hr8; have HO2 := Lib.hid hO2; have HA2 := Lib.hid (HAa.out.push hg8 hr8 hNM.out 4 (.slice A8 (j + 1) c8)); clear hown8 hg8 hr8 hO2)
                go_roundw
                case rel =>
                  refine ⟨j + 1, A8, c8, by omega, by rw [hrt.out, ← Nat.add_assoc, hn'.out]; go_num, by go_num, ?_, HA2.out⟩
                  have h := HO2.out
                  have e : Kd.setV ⟨3, xnu, xh⟩ ((l.drop n1).drop (Kd.refs (rs.take j)).length) = ⟨3, xnu, y⟩ := by
                    unfold Kd.setV
                    rw [List.drop_drop, hn'.out, List.drop_eq_getElem_cons hnl, ← hy'.out]; rfl
                  rw [List.take_succ_eq_append_getElem hlt, Kd.withV_snoc, ← hx'.out, e]
                  exact h
                case measure => simp [intOf]; omega
              · have hrt : Hid ((Kd.refs (rs.take (j + 1))).length = (Kd.refs (rs.take j)).length) := Lib.hid (by rw [Kd.refs_take rs j hlt, ← hx'.out]; simp [hk3])
                have hNlt : w.heap.size + 1 + 1 < wr.heap.size := HO.out.size
                have hco := HO.out.c4
                have hk4 : (xk == 3) = false := by simpa using hk3
                have HOa := Lib.hid (HO.out.alloc (.cells #[.int .i64 xk, .bool xnu, .int .i64 xh.k, .int .i64 xh.n] 46))
                have HAa := Lib.hid (HA.out.alloc (.cells #[.int .i64 xk, .bool xnu, .int .i64 xh.k, .int .i64 xh.n] 46))
                have hlen := Lib.hid (show (Kd.withV (rs.take j) (l.drop n1)).length + 1 = j + 1 by rw [Kd.withV_len, List.length_take]; omega)
                go_wp2_with (at_builtin; refine push_at elemV rfl _ _ rfl _ _ (by simp) ⟨xk, xnu, xh⟩ _ _ rfl rfl HOa.out.o4 HOa.out.size (j + 1) (by have := HLr.out; omega) hlen.out rfl ?_; intro A8 c8 w4 hown8 hg8 hr8; obtain ⟨hd1, hf1, hO2⟩ := HOa.out.push4 hown8 hg8 hr8; have HO2 := Lib.hid hO2; have HA2 := Lib.hid (HAa.out.push hg8 hr8 hNM.out 4 (.slice A8 (j + 1) c8)); clear hown8 hg8 hr8 hO2)
                go_roundw
                case rel =>
                  refine ⟨j + 1, A8, c8, by omega, by rw [hrt.out, hn'.out], by go_num, ?_, HA2.out⟩
                  have h := HO2.out
                  have e : Kd.setV ⟨xk, xnu, xh⟩ ((l.drop n1).drop (Kd.refs (rs.take j)).length) = ⟨xk, xnu, xh⟩ := by
                    unfold Kd.setV
                    rw [if_neg hk3]
                  rw [List.take_succ_eq_append_getElem hlt, Kd.withV_snoc, ← hx'.out, e]
                  exact h
                case measure => simp [intOf]; omega
            · have hjn : j = rs.length := by omega
              subst hjn
              rw [List.take_length]
              have hO := HO.out
              rw [List.take_length] at hO
              go_wp2
              rw [rounds_succ]
              obtain ⟨n2, hn2e⟩ : ∃ n2, n1 + (Kd.refs rs).length = n2 := ⟨_, rfl⟩
              rw [hn2e]
              have hn2 := Lib.hid hn2e
              clear hn2e
              obtain ⟨w7, rfl⟩ : ∃ w7, w7 = wr := ⟨_, rfl⟩
              obtain ⟨B4, rfl⟩ : ∃ B4, B4 = B' := ⟨_, rfl⟩
              obtain ⟨b4, rfl⟩ : ∃ b4, b4 = b' := ⟨_, rfl⟩
              have HO7 := Lib.hid hO
              clear hO hlt hj
              go_wp2
              go_loopw [5, 12] (fun a i wr => ∃ (j : Nat) (B' : Option Addr) (b' : Nat), j ≤ fs.length ∧ a = .int .i64 ((n2 + (Kd.refs ((fs.map Fd.v).take j)).length : Nat) : Int) ∧ i = .int .i64 j ∧
                Out (w.heap.size + 1 + 1) w2 wr fin k (.slice A' sups.length c') (.slice B3 ps.length b3) (.slice B4 rs.length b4) (.slice B' j b') (l.take sups.length) (Kd.withV ps (l.drop sups.length)) (Kd.withV rs (l.drop n1)) (Kd.withF (fs.take j) (l.drop n2))) (fun _ i _ => fs.length - (intOf i).toNat)
              case atStart => exact ⟨0, none, 0, Nat.zero_le _, by simp [Kd.refs], rfl, by simpa [Kd.withF] using HO7.out⟩
              case round =>
                obtain ⟨j, B', b', hj, rfl, rfl, hO⟩ := hrel
                have HO := Lib.hid hO
                have hc5 : wr.cell? ⟨w.heap.size, 5, none⟩ = some (.slice A4 fs.length c4) := (HO.out.b.cell (p := ⟨w.heap.size, 5, none⟩) (by show w.heap.size < _; omega)).trans X5.out
                clear hO
                by_cases hlt : j < fs.length
                · obtain ⟨b, off, rfl, hb, hc⟩ := HS4.out.2.2 (by omega)
                  have hW : ∀ o, wr.cell? ⟨b, o, none⟩ = w.cell? ⟨b, o, none⟩ := fun o => (HO.out.b.cell (p := ⟨b, o, none⟩) (by show b < _; omega)).trans (XB.out.cell (p := ⟨b, o, none⟩) hb)
                  obtain ⟨x, hx⟩ : ∃ x, x = fs[j] := ⟨_, rfl⟩
                  have g0 := (hW (off + j * 6 + 0)).trans (hc j hlt 0 _ rfl)
                  have g1 := (hW (off + j * 6 + 1)).trans (hc j hlt 1 _ rfl)
                  have g2 := (hW (off + j * 6 + 2)).trans (hc j hlt 2 _ rfl)
                  have g3 := (hW (off + j * 6 + 3)).trans (hc j hlt 3 _ rfl)
                  have g4 := (hW (off + j * 6 + 4)).trans (hc j hlt 4 _ rfl)
                  have g5 := (hW (off + j * 6 + 5)).trans (hc j hlt 5 _ rfl)
                  rw [← hx] at g0 g1 g2 g3 g4 g5
                  simp only [Nat.add_zero] at g0
                  have hx' := Lib.hid hx
                  have hxm : Hid ((fs.map Fd.v)[j]'(by simpa using hlt) = x.v) := Lib.hid (by rw [List.getElem_map, hx])
                  clear hx hc hW
                  obtain ⟨xp, ⟨xk, xnu, xh⟩, xm⟩ := x
                  dsimp only at g0 g1 g2 g3 g4 g5 hxm
                  have hp100 := HLf.out
                  obtain ⟨n, hn⟩ : ∃ n, n2 + (Kd.refs ((fs.map Fd.v).take j)).length = n := ⟨_, rfl⟩
                  rw [hn]
                  have hn' := Lib.hid hn
                  clear hn
                  have hjm : Hid (j < (fs.map Fd.v).length) := Lib.hid (by simpa using hlt)
                  by_cases hk3 : xk = 3
                  · subst hk3
                    have hrt : Hid ((Kd.refs ((fs.map Fd.v).take (j + 1))).length = (Kd.refs ((fs.map Fd.v).take j)).length + 1) := Lib.hid (by rw [Kd.refs_take _ j hjm.out, hxm.out]; simp)
                    have hnl : n < l.length := by
                      have h1 := HN.out
                      rw [Kd.heads] at h1
                      have h2 := Kd.refs_take_le (fs.map Fd.v) (j + 1)
                      have h3 := hrt.out
                      have h5 := hn'.out
                      have h4 := hn1.out
                      have h6 := hn2.out
                      dsimp only at h1
                      omega
                    obtain ⟨d, doff, rfl, hd, hdc⟩ := HSl.out.2.2 (by omega)
                    have hW : ∀ o, wr.cell? ⟨d, o, none⟩ = w.cell? ⟨d, o, none⟩ := fun o => (HO.out.b.cell (p := ⟨d, o, none⟩) (by show d < _; omega)).trans (XB.out.cell (p := ⟨d, o, none⟩) hd)
                    obtain ⟨y, hy⟩ : ∃ y, y = l[n] := ⟨_, rfl⟩
                    have k0 := (hW (doff + n * 2 + 0)).trans (hdc n hnl 0 _ rfl)
                    have k1 := (hW (doff + n * 2 + 1)).trans (hdc n hnl 1 _ rfl)
                    rw [← hy] at k0 k1
                    simp only [Nat.add_zero] at k0
                    have hy' := Lib.hid hy
                    clear hy hdc hW
                    have hd' : d < wr.heap.size := by have := HO.out.size; omega
                    have hNlt : w.heap.size + 1 + 1 < wr.heap.size := HO.out.size
                    have hco := HO.out.c5
                    have HOa := Lib.hid (HO.out.alloc (.cells #[.int .i64 xp, .int .i64 3, .bool xnu, .int .i64 y.k, .int .i64 y.n, .bool xm] 50))
                    have hlen := Lib.hid (show (Kd.withF (fs.take j) (l.drop n2)).length + 1 = j + 1 by rw [Kd.withF_len, List.length_take]; omega)
                    go_wp2_with (at_builtin; refine push_at elemF rfl _ _ rfl _ _ (by simp) ⟨xp, ⟨3, xnu, y⟩, xm⟩ _ _ rfl rfl HOa.out.o5 HOa.out.size (j + 1) (by have := HLf.out; omega) hlen.out rfl ?_; intro A8 c8 w4 hown8 hg8 hr8; obtain ⟨hd1, hf1, hO2⟩ := HOa.out.push5 hown8 hg8 hr8; have HO2 := Lib.hid hO2; clear hown8 hg8 hr8 hO2)
                    go_roundw
                    case rel =>
                      refine ⟨j + 1, A8, c8, by omega, by rw [hrt.out, ← Nat.add_assoc, hn'.out]; go_num, by go_num, ?_⟩
                      have h := HO2.out
                      have e : Kd.setF ⟨xp, ⟨3, xnu, xh⟩, xm⟩ ((l.drop n2).drop (Kd.refs ((fs.take j).map Fd.v)).length) = ⟨xp, ⟨3, xnu, y⟩, xm⟩ := by
                        unfold Kd.setF Kd.setV
                        rw [← List.map_take] at hn'
                        rw [List.drop_drop, hn'.out, List.drop_eq_getElem_cons hnl, ← hy'.out]; rfl
                      rw [List.take_succ_eq_append_getElem hlt, Kd.withF_snoc, ← hx'.out, e]
                      exact h
                    case measure => simp [intOf]; omega
                  · have hrt : Hid ((Kd.refs ((fs.map Fd.v).take (j + 1))).length = (Kd.refs ((fs.map Fd.v).take j)).length) := Lib.hid (by rw [Kd.refs_take _ j hjm.out, hxm.out]; simp [hk3])
                    have hNlt : w.heap.size + 1 + 1 < wr.heap.size := HO.out.size
                    have hco := HO.out.c5
                    have hk4 : (xk == 3) = false := by simpa using hk3
                    have HOa := Lib.hid (HO.out.alloc (.cells #[.int .i64 xp, .int .i64 xk, .bool xnu, .int .i64 xh.k, .int .i64 xh.n, .bool xm] 50))
                    have hlen := Lib.hid (show (Kd.withF (fs.take j) (l.drop n2)).length + 1 = j + 1 by rw [Kd.withF_len, List.length_take]; omega)
                    go_wp2_with (at_builtin; refine push_at elemF rfl _ _ rfl _ _ (by simp) ⟨xp, ⟨xk, xnu, xh⟩, xm⟩ _ _ rfl rfl HOa.out.o5 HOa.out.size (j + 1) (by have := HLf.out; omega) hlen.out rfl ?_; intro A8 c8 w4 hown8 hg8 hr8; obtain ⟨hd1, hf1, hO2⟩ := HOa.out.push5 hown8 hg8 hr8; have HO2 := Lib.hid hO2; clear hown8 hg8 hr8 hO2)
                    go_roundw
                    case rel =>
                      refine ⟨j + 1, A8, c8, by omega, by rw [hrt.out, hn'.out], by go_num, ?_⟩
                      have h := HO2.out
                      have e : Kd.setF ⟨xp, ⟨xk, xnu, xh⟩, xm⟩ ((l.drop n2).drop (Kd.refs ((fs.take j).map Fd.v)).length) = ⟨xp, ⟨xk, xnu, xh⟩, xm⟩ := by
                        unfold Kd.setF Kd.setV
                        rw [if_neg hk3]
                      rw [List.take_succ_eq_append_getElem hlt, Kd.withF_snoc, ← hx'.out, e]
                      exact h
                    case measure => simp [intOf]; omega
                · have hjn : j = fs.length := by omega
                  subst hjn
                  have hO := HO.out
                  rw [List.take_length] at hO
                  have hN1 : Hid (w.heap.size + 1 < w.heap.size + 1 + 1) := Lib.hid (by omega)
                  have z0 := (HO.out.b.cell (p := ⟨w.heap.size + 1, 0, none⟩) hN1.out).trans RZ0.out
                  have z1 := (HO.out.b.cell (p := ⟨w.heap.size + 1, 1, none⟩) hN1.out).trans RZ1.out
                  have z2 := (HO.out.b.cell (p := ⟨w.heap.size + 1, 2, none⟩) hN1.out).trans RZ2.out
                  have z3 := (HO.out.b.cell (p := ⟨w.heap.size + 1, 3, none⟩) hN1.out).trans RZ3.out
                  have z4 := (HO.out.b.cell (p := ⟨w.heap.size + 1, 4, none⟩) hN1.out).trans RZ4.out
                  have z5 := (HO.out.b.cell (p := ⟨w.heap.size + 1, 5, none⟩) hN1.out).trans RZ5.out
                  have zf : ∀ i, wr.frozen? ⟨w.heap.size + 1, i, none⟩ = false := fun i => (HO.out.b.frozen (p := ⟨w.heap.size + 1, i, none⟩) hN1.out).trans (RF.out i)
                  have q0 := hO.c0
                  have q1 := hO.c1
                  have q2 := hO.c2
                  have q3 := hO.c3
                  have q4 := hO.c4
                  have q5 := hO.c5
                  have HO8 := Lib.hid hO
                  clear hO
                  go_wp2
                  have hR : w.heap.size + 1 < w.heap.size + 1 + 1 := hN1.out
                  have o1 := own_setR (own_setR (own_setR (own_setR (own_setR (own_setR (u := .bool fin) HO8.out.o1 hR 0) hR 1 (u := .slice A' sups.length c')) hR 2 (u := .int .i64 k)) hR 3 (u := .slice B3 ps.length b3)) hR 4 (u := .slice B4 rs.length b4)) hR 5 (u := .slice B' fs.length b')
                  have o3 := own_setR (own_setR (own_setR (own_setR (own_setR (own_setR (u := .bool fin) HO8.out.o3 hR 0) hR 1 (u := .slice A' sups.length c')) hR 2 (u := .int .i64 k)) hR 3 (u := .slice B3 ps.length b3)) hR 4 (u := .slice B4 rs.length b4)) hR 5 (u := .slice B' fs.length b')
                  have o4 := own_setR (own_setR (own_setR (own_setR (own_setR (own_setR (u := .bool fin) HO8.out.o4 hR 0) hR 1 (u := .slice A' sups.length c')) hR 2 (u := .int .i64 k)) hR 3 (u := .slice B3 ps.length b3)) hR 4 (u := .slice B4 rs.length b4)) hR 5 (u := .slice B' fs.length b')
                  have o5 := own_setR (own_setR (own_setR (own_setR (own_setR (own_setR (u := .bool fin) HO8.out.o5 hR 0) hR 1 (u := .slice A' sups.length c')) hR 2 (u := .int .i64 k)) hR 3 (u := .slice B3 ps.length b3)) hR 4 (u := .slice B4 rs.length b4)) hR 5 (u := .slice B' fs.length b')
                  have hBe := HO8.out.b
                  refine bodyPost_ret (v := .agg #[.bool fin, .slice A' sups.length c', .int .i64 k, .slice B3 ps.length b3, .slice B4 rs.length b4, .slice B' fs.length b']) (by simp [results, Tryd.results16, go_sem, z0, z1, z2, z3, z4, z5]) rfl ?_
                  rw [hQ'.out]
                  obtain ⟨A1', c1', e1, s1⟩ := o1.seg elemH
                  obtain ⟨A3', c3', e3, s3⟩ := o3.seg elemV
                  obtain ⟨A4', c4', e4, s4⟩ := o4.seg elemV
                  obtain ⟨A5', c5', e5, s5⟩ := o5.seg elemF
                  have hl1 : sups.length ≤ l.length := by have h1 := HN.out; rw [Kd.heads] at h1; dsimp only at h1; omega
                  have t1 : (l.take sups.length).length = sups.length := by rw [List.length_take]; omega
                  rw [t1] at e1
                  rw [Kd.withV_len] at e3 e4
                  rw [Kd.withF_len] at e5
                  injection e1 with e1 _ e1'
                  injection e3 with e3 _ e3'
                  injection e4 with e4 _ e4'
                  injection e5 with e5 _ e5'
                  subst e1 e1' e3 e3' e4 e4' e5 e5'
                  refine ⟨⟨_, rfl, ⟨A', c', B3, b3, B4, b4, B', b', ?_, ?_, ?_, ?_, ?_⟩, NewSub.mk (fun g e => ?_) (fun g e => ?_) (fun g e => ?_) (fun g e => ?_)⟩, ?_⟩
                  · simp only [Kd.withS, t1, Kd.withV_len, Kd.withF_len]
                  · exact s1
                  · exact s3
                  · simp only [Kd.withS, hn1.out]; exact s4
                  · simp only [Kd.withS, hn1.out, hn2.out]; exact s5
                  · have := (o1.lt g e).1; omega
                  · have := (o3.lt g e).1; omega
                  · have := (o4.lt g e).1; omega
                  · have := (o5.lt g e).1; omega
                  · exact (((((((XB.out.trans (hBe.mono (by omega))).setCell (p := ⟨w.heap.size + 1, 0, none⟩) (Nat.le_succ _) _).setCell (p := ⟨w.heap.size + 1, 1, none⟩) (Nat.le_succ _) _).setCell (p := ⟨w.heap.size + 1, 2, none⟩) (Nat.le_succ _) _).setCell (p := ⟨w.heap.size + 1, 3, none⟩) (Nat.le_succ _) _).setCell (p := ⟨w.heap.size + 1, 4, none⟩) (Nat.le_succ _) _).setCell (p := ⟨w.heap.size + 1, 5, none⟩) (Nat.le_succ _) _)
end Go.Proofs.YtkdhjejchdcipaaDoor
/-
  Layer 4, the document's side: Copy.
-/
namespace Go.Proofs.YtkdhjejchdcipaaDoor
open Go.RowKit
attribute [local go_sem ↓] Go.wp_at_zero Go.wp_at_succ
set_option linter.unusedVariables false
set_option maxRecDepth 100000

namespace Kd
theorem withV_refs : ∀ (a : List Vl) (r : List Hp), withV a (refs a ++ r) = a
  | [], _ => rfl
  | x :: a, r => by
    rw [withV, refs_cons]
    unfold setV restV
    by_cases h : x.k = 3
    · simp only [h, if_true, List.cons_append, List.nil_append, List.headD_cons, List.tail_cons]
      rw [withV_refs a r]
      obtain ⟨k, nu, hh⟩ := x
      dsimp only at h
      subst h
      rfl
    · simp only [h, if_false, List.nil_append]
      rw [withV_refs a r]
theorem withF_refs : ∀ (a : List Fd) (r : List Hp), withF a (refs (a.map Fd.v) ++ r) = a
  | [], _ => rfl
  | x :: a, r => by
    rw [withF, List.map_cons, refs_cons]
    unfold setF setV restV
    by_cases h : x.v.k = 3
    · simp only [h, if_true, List.cons_append, List.nil_append, List.headD_cons, List.tail_cons]
      rw [withF_refs a r]
      obtain ⟨p, ⟨k, nu, hh⟩, m⟩ := x
      dsimp only at h
      subst h
      rfl
    · simp only [h, if_false, List.nil_append]
      rw [withF_refs a r]
theorem withS_heaps (s : Sb) : withS s (heaps s) = s := by
  obtain ⟨fin, sups, k, ps, rs, fs⟩ := s
  unfold withS heaps allV
  dsimp only
  rw [refs_append, refs_append]
  have e1 : (sups ++ (refs ps ++ refs rs ++ refs (fs.map Fd.v))).take sups.length = sups := by simp
  have e2 : (sups ++ (refs ps ++ refs rs ++ refs (fs.map Fd.v))).drop sups.length = refs ps ++ (refs rs ++ refs (fs.map Fd.v)) := by simp
  have e3 : (sups ++ (refs ps ++ refs rs ++ refs (fs.map Fd.v))).drop (sups.length + (refs ps).length) = refs rs ++ refs (fs.map Fd.v) := by
    rw [← List.drop_drop, e2]; simp
  have e4 : (sups ++ (refs ps ++ refs rs ++ refs (fs.map Fd.v))).drop (sups.length + (refs ps).length + (refs rs).length) = refs (fs.map Fd.v) ++ [] := by
    rw [← List.drop_drop, e3]; simp
  rw [e1, e2, e3, e4, withV_refs, withV_refs, withF_refs]
theorem heaps_le (s : Sb) (h : Small s) : (heaps s).length ≤ 40000 := by
  rw [heads]
  have h1 := refs_len s.c.ps
  have h2 := refs_len s.c.rs
  have h3 := refs_len (s.c.fs.map Fd.v)
  rw [List.length_map] at h3
  have := h.a; have := h.p; have := h.r; have := h.f
  omega
end Kd

/-- Six cells of a block stay, and stay writable. -/
theorem six_keep {W w3 : World} {b : Nat} {u0 u1 u2 u3 u4 u5 : Value} (h : Below W.heap.size W w3) (hlt : b < W.heap.size) (c0 : W.cell? ⟨b, 0, none⟩ = some u0) (c1 : W.cell? ⟨b, 1, none⟩ = some u1) (c2 : W.cell? ⟨b, 2, none⟩ = some u2) (c3 : W.cell? ⟨b, 3, none⟩ = some u3) (c4 : W.cell? ⟨b, 4, none⟩ = some u4) (c5 : W.cell? ⟨b, 5, none⟩ = some u5) :
    w3.cell? ⟨b, 0, none⟩ = some u0 ∧ w3.cell? ⟨b, 1, none⟩ = some u1 ∧ w3.cell? ⟨b, 2, none⟩ = some u2 ∧ w3.cell? ⟨b, 3, none⟩ = some u3 ∧ w3.cell? ⟨b, 4, none⟩ = some u4 ∧ w3.cell? ⟨b, 5, none⟩ = some u5 :=
  ⟨(h.cell (p := ⟨b, 0, none⟩) hlt).trans c0, (h.cell (p := ⟨b, 1, none⟩) hlt).trans c1, (h.cell (p := ⟨b, 2, none⟩) hlt).trans c2, (h.cell (p := ⟨b, 3, none⟩) hlt).trans c3, (h.cell (p := ⟨b, 4, none⟩) hlt).trans c4, (h.cell (p := ⟨b, 5, none⟩) hlt).trans c5⟩
set_option maxHeartbeats 2000000 in
theorem copy_any (s : Sb) (x : Value) (w : World) (h : IsSub w w.heap.size x s) (hS : Kd.Small s) :
    Calls Tryd.prog 10 #[x] w fun e w' => (∃ v, e = .returned v ∧ IsSub w' w'.heap.size v s ∧ NewSub w.heap.size v) ∧ Below w.heap.size w w' := by
  obtain ⟨Q, hQ⟩ : ∃ Q : Ending → World → Prop, Q = (fun e w' => (∃ v, e = .returned v ∧ IsSub w' w'.heap.size v s ∧ NewSub w.heap.size v) ∧ Below w.heap.size w w') := ⟨_, rfl⟩
  rw [← hQ]
  have hQ' := Lib.hid hQ
  clear hQ
  have HI := Lib.hid h
  have HS := Lib.hid hS
  obtain ⟨A1, c1, A2, c2, A3, c3, A4, c4, rfl, _, _, _, _⟩ := h
  clear hS
  obtain ⟨w2, hw2⟩ : ∃ w2, w2 = (w.alloc (.cells #[.bool s.fin, .slice A1 s.sups.length c1, .int .i64 s.c.k, .slice A2 s.c.ps.length c2, .slice A3 s.c.rs.length c3, .slice A4 s.c.fs.length c4] 29)).alloc (.cells #[.bool false, .slice none 0 0, .int .i64 0, .slice none 0 0, .slice none 0 0, .slice none 0 0] 29) := ⟨_, rfl⟩
  have XB : Hid (Below w.heap.size w w2) := Lib.hid (by rw [hw2]; exact ((Below.refl _ _).alloc (Nat.le_refl _) _).alloc (by simp) _)
  have hx0 : w2.cell? ⟨w.heap.size, 0, none⟩ = some (.bool s.fin) := by rw [hw2]; go_simp
  have hx1 : w2.cell? ⟨w.heap.size, 1, none⟩ = some (.slice A1 s.sups.length c1) := by rw [hw2]; go_simp
  have hx2 : w2.cell? ⟨w.heap.size, 2, none⟩ = some (.int .i64 s.c.k) := by rw [hw2]; go_simp
  have hx3 : w2.cell? ⟨w.heap.size, 3, none⟩ = some (.slice A2 s.c.ps.length c2) := by rw [hw2]; go_simp
  have hx4 : w2.cell? ⟨w.heap.size, 4, none⟩ = some (.slice A3 s.c.rs.length c3) := by rw [hw2]; go_simp
  have hx5 : w2.cell? ⟨w.heap.size, 5, none⟩ = some (.slice A4 s.c.fs.length c4) := by rw [hw2]; go_simp
  go_enter Tryd.func10, Tryd.ntmps10
  go_wp2
  rw [← hw2]
  have hy0 : Hid (w2.cell? ⟨w.heap.size + 1, 0, none⟩ = some (.bool false)) := Lib.hid (by rw [hw2]; go_simp)
  have hy1 : Hid (w2.cell? ⟨w.heap.size + 1, 1, none⟩ = some (.slice none 0 0)) := Lib.hid (by rw [hw2]; go_simp)
  have hy2 : Hid (w2.cell? ⟨w.heap.size + 1, 2, none⟩ = some (.int .i64 0)) := Lib.hid (by rw [hw2]; go_simp)
  have hy3 : Hid (w2.cell? ⟨w.heap.size + 1, 3, none⟩ = some (.slice none 0 0)) := Lib.hid (by rw [hw2]; go_simp)
  have hy4 : Hid (w2.cell? ⟨w.heap.size + 1, 4, none⟩ = some (.slice none 0 0)) := Lib.hid (by rw [hw2]; go_simp)
  have hy5 : Hid (w2.cell? ⟨w.heap.size + 1, 5, none⟩ = some (.slice none 0 0)) := Lib.hid (by rw [hw2]; go_simp)
  have hyf : Hid (∀ i, w2.frozen? ⟨w.heap.size + 1, i, none⟩ = false) := Lib.hid (fun i => by rw [hw2]; go_simp)
  have hsz : Hid (w2.heap.size = w.heap.size + 1 + 1) := Lib.hid (by rw [hw2]; simp)
  have hl0 : Hid (w.heap.size < w2.heap.size) := Lib.hid (by rw [hsz.out]; omega)
  have hl1 : Hid (w.heap.size + 1 < w2.heap.size) := Lib.hid (by rw [hsz.out]; omega)
  clear hw2
  have CH := Lib.hid (refHeaps_any s _ w2.drew ((HI.out.below XB.out.drew).more XB.out.drew.size) HS.out)
  have CW : Hid (∀ (W : World) (A : Option Addr) (c : Nat), Below w2.heap.size w2 W → Seg 2 Hp.cs W W.heap.size A c (Kd.heaps s) → Calls Tryd.prog 16 #[.agg #[.bool s.fin, .slice A1 s.sups.length c1, .int .i64 s.c.k, .slice A2 s.c.ps.length c2, .slice A3 s.c.rs.length c3, .slice A4 s.c.fs.length c4], .slice A (Kd.heaps s).length c] W fun e w' => (∃ v, e = .returned v ∧ IsSub w' w'.heap.size v s ∧ NewSub W.heap.size v) ∧ Below W.heap.size W w') := Lib.hid fun W A c hW hseg => by
    have hb := XB.out.trans (hW.mono XB.out.size)
    have h := with_any s _ W (Kd.heaps s) A c ((HI.out.below hb).more hb.size) HS.out hseg (Nat.le_refl _) (by have := Kd.heaps_le s HS.out; omega)
    rw [Kd.withS_heaps] at h
    exact h
  clear HI HS
  go_region_with (first
    | (go_at_call 11; ((with_reducible refine CH.out.mono ?_); rintro e w3 ⟨⟨v, rfl, hown⟩, hb3⟩; obtain ⟨A5, c5, rfl, hs5⟩ := hown.seg elemH; have HS5 := Lib.hid hs5; have HB3 : Hid (Below w2.heap.size w2 w3) := Lib.hid (Below.trans (Below.refl _ _).drew hb3); obtain ⟨a0, a1, a2, a3, a4, a5⟩ := six_keep HB3.out hl0.out hx0 hx1 hx2 hx3 hx4 hx5; clear hown hs5 hb3))
    | (go_at_call 16; ((with_reducible refine (CW.out _ _ _ HB3.out HS5.out).mono ?_); rintro e w4 ⟨⟨v, rfl, hI, hN⟩, hb4⟩; have HI4 := Lib.hid hI; have HN4 := Lib.hid (hN.le HB3.out.size); obtain ⟨B1, d1, B2, d2, B3, d3, B4, d4, rfl, _⟩ := hI; have HB4 := Lib.hid (HB3.out.trans (hb4.mono HB3.out.size)); obtain ⟨z0, z1, z2, z3, z4, z5⟩ := six_keep HB4.out hl1.out hy0.out hy1.out hy2.out hy3.out hy4.out hy5.out; have zf := fun i => (HB4.out.frozen (p := ⟨w.heap.size + 1, i, none⟩) hl1.out).trans (hyf.out i); clear hb4 hN)))
  all_goals go_wp2
  all_goals
    refine bodyPost_ret (v := .agg #[.bool s.fin, .slice B1 s.sups.length d1, .int .i64 s.c.k, .slice B2 s.c.ps.length d2, .slice B3 s.c.rs.length d3, .slice B4 s.c.fs.length d4]) (by simp [results, Tryd.results10, go_sem, z0, z1, z2, z3, z4, z5]) rfl ?_
    rw [hQ'.out]
    have hs4 := HB4.out.size
    refine ⟨⟨_, rfl, ?_, HN4.out.le (by rw [hsz.out]; omega)⟩, ?_⟩
    · have h0 := HI4.out.set (Nat.le_refl _) HN4.out hl1.out (i := 0) (u := .bool s.fin)
      have h1 := h0.set (by simp) HN4.out hl1.out (i := 1) (u := .slice B1 s.sups.length d1)
      have h2 := h1.set (by simp) HN4.out hl1.out (i := 2) (u := .int .i64 s.c.k)
      have h3 := h2.set (by simp) HN4.out hl1.out (i := 3) (u := .slice B2 s.c.ps.length d2)
      have h4 := h3.set (by simp) HN4.out hl1.out (i := 4) (u := .slice B3 s.c.rs.length d3)
      have h5 := h4.set (by simp) HN4.out hl1.out (i := 5) (u := .slice B4 s.c.fs.length d4)
      exact h5.more (by simp)
    · exact ((((((XB.out.trans (HB4.out.mono (Nat.le_of_lt hl0.out))).setCell (p := ⟨w.heap.size + 1, 0, none⟩) (Nat.le_succ _) _).setCell (p := ⟨w.heap.size + 1, 1, none⟩) (Nat.le_succ _) _).setCell (p := ⟨w.heap.size + 1, 2, none⟩) (Nat.le_succ _) _).setCell (p := ⟨w.heap.size + 1, 3, none⟩) (Nat.le_succ _) _).setCell (p := ⟨w.heap.size + 1, 4, none⟩) (Nat.le_succ _) _).setCell (p := ⟨w.heap.size + 1, 5, none⟩) (Nat.le_succ _) _
end Go.Proofs.YtkdhjejchdcipaaDoor

/-
  Layer 6, code: the items of bytes that tell structs: given, noneAt, heapAt, shortAt; Take$1.
-/
import Derived.Test.YtphmknhlibampaaDoorTbF
namespace Go.Proofs.YtphmknhlibampaaDoor
open Go.RowKit
set_option linter.unusedVariables false
set_option linter.unusedSimpArgs false
set_option maxRecDepth 100000

theorem results_row_two {P : Program} {fn : Func} {p t1 : Tmp} {ty : TypeId} (h : fn.results = #[.cell p ty, .tmp t1]) (tmps : Array Value) (w : World) (g : Nat) (t : TypeId) (cs : Array Value) (fr : Nat × Nat) (d : TypeDesc)
    (hp : tmps.getD p undef = .pointer (some ⟨g, 0, none⟩)) (hg : w.heap[g]? = some (.cells cs t fr))
    (hu : P.underlying ty = some d) (hd : (match d with | .struct _ | .array _ _ => true | _ => false) = true) (hi : (P.info? ty).map (·.size) = some cs.size) :
    (results fn tmps).run P w = .ok (.tuple #[.agg cs, tmps.getD t1 undef]) w := by
  have hp' : tmps[p]?.getD undef = .pointer (some ⟨g, 0, none⟩) := by simpa using hp
  simp [results, h, hp', asAddr, run_loadVar_row w g t ty cs fr d hg hu hd hi]
theorem results_row_three {P : Program} {fn : Func} {p t1 t2 : Tmp} {ty : TypeId} (h : fn.results = #[.cell p ty, .tmp t1, .tmp t2]) (tmps : Array Value) (w : World) (g : Nat) (t : TypeId) (cs : Array Value) (fr : Nat × Nat) (d : TypeDesc)
    (hp : tmps.getD p undef = .pointer (some ⟨g, 0, none⟩)) (hg : w.heap[g]? = some (.cells cs t fr))
    (hu : P.underlying ty = some d) (hd : (match d with | .struct _ | .array _ _ => true | _ => false) = true) (hi : (P.info? ty).map (·.size) = some cs.size) :
    (results fn tmps).run P w = .ok (.tuple #[.agg cs, tmps.getD t1 undef, tmps.getD t2 undef]) w := by
  have hp' : tmps[p]?.getD undef = .pointer (some ⟨g, 0, none⟩) := by simpa using hp
  simp [results, h, hp', asAddr, run_loadVar_row w g t ty cs fr d hg hu hd hi]

section
variable {w : World} {A : Option Addr} {n c C : Nat} {l : List Nat}
/-- A struct variable was laid, and is written whole. -/
theorem new_row (w : World) (z cs : Array Value) (t : TypeId) : ((w.alloc (.cells z t)).setRow w.heap.size cs).heap[w.heap.size]? = some (.cells cs t (0, 0)) := setRow_heap _ _ _ _ _ _ (World.alloc_heap_new _ _)
theorem new_row_below (w : World) (z cs : Array Value) (t : TypeId) : Below w.heap.size w ((w.alloc (.cells z t)).setRow w.heap.size cs) := below_setRow ((Below.refl _ _).alloc (Nat.le_refl _) _) (Nat.le_refl _) _
def Two (v v2 : Value) (w : World) (e : Ending) (w' : World) : Prop := e = .returned (.tuple #[v, v2]) ∧ Below w.heap.size w w'
set_option maxHeartbeats 2000000 in
theorem given_any (h : Bytes w C A n c l) (hT : Tab6 w) {p : Nat} (hp : p ≤ n) (g : Bool) (hg : Tb.isGiven l p = g) : Calls Tryd.prog 83 #[.slice A n c, .int .i64 (p : Int)] w (Two (.agg #[.int .i64 (Tb.given l p).k, .int .i64 (Tb.given l p).n]) (.bool g) w) := by
  have hl := h.1
  have hm := h.max
  have HR0 := Lib.hid (new_row w #[.int .i64 0, .int .i64 0] #[.int .i64 (Tb.given l p).k, .int .i64 (Tb.given l p).n] 42)
  have HB0 := Lib.hid (new_row_below w #[.int .i64 0, .int .i64 0] #[.int .i64 (Tb.given l p).k, .int .i64 (Tb.given l p).n] 42)
  have HA : Hid ((w.alloc (.cells #[.int .i64 0, .int .i64 0] 42)).heap[w.heap.size]? = some (.cells #[.int .i64 0, .int .i64 0] 42 (0, 0))) := Lib.hid (World.alloc_heap_new _ _)
  by_cases hlt : p < n
  · obtain ⟨bb, off, rfl, hc, hx⟩ := h.byte hlt
    have hgy : g = (decide (105 ≤ l.getD p 0) && decide (l.getD p 0 < 117)) := by rw [← hg]; unfold Tb.isGiven; rw [hl]; simp [hlt]
    have hcg : Tb.given l p = if g = true then ⟨Tb.kinds.getD (l.getD p 0 - 105) 0, 0⟩ else ⟨0, 0⟩ := by unfold Tb.given; rw [hg]
    obtain ⟨y, hy⟩ : ∃ y, l.getD p 0 = y := ⟨_, rfl⟩
    rw [hy] at hc hx hgy hcg
    have hi1 : (0 : Int) ≤ (p : Int) := by omega
    have hi2 : (p : Int) < (n : Int) := by omega
    have hne : ((p : Int) == (n : Int)) = false := by rw [beq_eq_false_iff_ne]; omega
    have hbb := World.block_lt_of_cell? w ⟨bb, off + p, none⟩ hc
    cases g with
    | true =>
      rw [if_pos rfl] at hcg
      have hr : 105 ≤ y ∧ y < 117 := by simpa using hgy.symm
      have hr1 : (105 : Int) ≤ (y : Int) := by omega
      have hr2 : (y : Int) < 117 := by omega
      have hs : IntKind.u8.wrap ((y : Int) - 105) = ((y - 105 : Nat) : Int) := by rw [IntWalk.u8_in _ (by omega)]; omega
      rw [hcg] at HR0 HB0 ⊢
      dsimp only at HR0 HB0 ⊢
      have hk := hT (y - 105) (by omega)
      obtain ⟨j, hj⟩ : ∃ j, y - 105 = j := ⟨_, rfl⟩
      rw [hj] at hk hs HR0 HB0 ⊢
      have hj1 : (0 : Int) ≤ (j : Int) := by omega
      have hj2 : (j : Int) < 12 := by omega
      have hyj : (y : Int) - 105 = (j : Int) := by omega
      obtain ⟨k, hkk⟩ : ∃ k, Tb.kinds.getD j 0 = k := ⟨_, rfl⟩
      rw [hkk] at hk HR0 HB0 ⊢
      have hgl := World.block_lt_of_cell? w ⟨0, j, none⟩ hk
      dsimp only at hgl hbb
      have HJ := Lib.hid hyj
      clear h hl hm hg hgy hcg hy hp hlt hT hr hkk hj hyj
      go_enter Tryd.func83, Tryd.ntmps83
      go_wp2_with (refine wpList_store_row rfl 42 (.tmp 4) (.tmp 33) rfl w.heap.size #[.int .i64 k, .int .i64 0] rfl rfl _ _ HA.out (by kernel_rfl) rfl (by simp [Value.oneCell']) ?_)
      exact bodyPost_ret (results_row_two rfl _ _ w.heap.size _ _ (0, 0) _ rfl HR0.out Tryd.underlying42 rfl (by as_aux_lemma => kernel_rfl)) rfl ⟨rfl, HB0.out⟩
    | false =>
      rw [if_neg (by simp)] at hcg
      rw [hcg] at HR0 HB0 ⊢
      dsimp only at HR0 HB0 ⊢
      have hr : y < 105 ∨ 117 ≤ y := by have := hgy; simp at this; omega
      clear h hl hm hg hgy hcg hy hp hlt hT
      rcases hr with hr | hr
      · have hr1 : (y : Int) < 105 := by omega
        clear hr
        go_enter Tryd.func83, Tryd.ntmps83
        go_wp2_with (refine wpList_store_row rfl 42 (.tmp 4) (.tmp 25) rfl w.heap.size #[.int .i64 0, .int .i64 0] rfl rfl _ _ HA.out (by kernel_rfl) rfl (by simp [Value.oneCell']) ?_)
        exact bodyPost_ret (results_row_two rfl _ _ w.heap.size _ _ (0, 0) _ rfl HR0.out Tryd.underlying42 rfl (by as_aux_lemma => kernel_rfl)) rfl ⟨rfl, HB0.out⟩
      · have hr1 : (105 : Int) ≤ (y : Int) := by omega
        have hr2 : (117 : Int) ≤ (y : Int) := by omega
        clear hr
        go_enter Tryd.func83, Tryd.ntmps83
        go_wp2_with (refine wpList_store_row rfl 42 (.tmp 4) (.tmp 25) rfl w.heap.size #[.int .i64 0, .int .i64 0] rfl rfl _ _ HA.out (by kernel_rfl) rfl (by simp [Value.oneCell']) ?_)
        exact bodyPost_ret (results_row_two rfl _ _ w.heap.size _ _ (0, 0) _ rfl HR0.out Tryd.underlying42 rfl (by as_aux_lemma => kernel_rfl)) rfl ⟨rfl, HB0.out⟩
  · have hpn : p = n := by omega
    subst hpn
    have hgf : g = false := by rw [← hg]; unfold Tb.isGiven; rw [hl]; simp
    subst hgf
    have hcg : Tb.given l p = ⟨0, 0⟩ := by unfold Tb.given; rw [hg]; rfl
    rw [hcg] at HR0 HB0 ⊢
    dsimp only at HR0 HB0 ⊢
    clear h hl hm hg hcg hp hlt hT
    go_enter Tryd.func83, Tryd.ntmps83
    go_wp2_with (refine wpList_store_row rfl 42 (.tmp 4) (.tmp 25) rfl w.heap.size #[.int .i64 0, .int .i64 0] rfl rfl _ _ HA.out (by kernel_rfl) rfl (by simp [Value.oneCell']) ?_)
    exact bodyPost_ret (results_row_two rfl _ _ w.heap.size _ _ (0, 0) _ rfl HR0.out Tryd.underlying42 rfl (by as_aux_lemma => kernel_rfl)) rfl ⟨rfl, HB0.out⟩
set_option maxHeartbeats 2000000 in
theorem noneV_any (h : Bytes w C A n c l) (p : Nat) : Calls Tryd.prog 84 #[.slice A n c, .int .i64 (p : Int)] w (Item (.agg #[.int .i64 0, .bool false, .int .i64 0, .int .i64 0]) 0 (if p = n then 10 else 60) w) := by
  obtain ⟨W0, hW0⟩ : ∃ W0, W0 = (w.alloc (.cells #[.int .i64 0, .bool false, .int .i64 0, .int .i64 0] 46)).alloc (.cells #[.int .i64 0, .bool false, .int .i64 0, .int .i64 0] 46) := ⟨_, rfl⟩
  have hB0 : Below w.heap.size w W0 := by rw [hW0]; exact ((Below.refl _ _).alloc (Nat.le_refl _) _).alloc (by simp) _
  have R0 : Hid (W0.heap[w.heap.size]? = some (.cells #[.int .i64 0, .bool false, .int .i64 0, .int .i64 0] 46 (0, 0))) := Lib.hid (by rw [hW0]; exact heap_alloc2_old _ _ _)
  have R1 : Hid (W0.heap[w.heap.size + 1]? = some (.cells #[.int .i64 0, .bool false, .int .i64 0, .int .i64 0] 46 (0, 0))) := Lib.hid (by rw [hW0]; exact heap_alloc2_new _ _ _)
  have HB := Lib.hid hB0
  have HW0 := Lib.hid hW0
  clear hB0 hW0 h
  by_cases hp : p = n
  · rw [if_pos hp]
    have hd : ((p : Int) == (n : Int)) = true := by simp; omega
    clear hp
    go_enter Tryd.func84, Tryd.ntmps84
    go_wp2_with fail
    rw [← HW0.out]
    exact bodyPost_ret (results_row_three rfl _ _ w.heap.size _ _ (0, 0) _ rfl R0.out Tryd.underlying46 rfl (by as_aux_lemma => kernel_rfl)) rfl ⟨rfl, HB.out⟩
  · rw [if_neg hp]
    have hd : ((p : Int) == (n : Int)) = false := by rw [beq_eq_false_iff_ne]; omega
    clear hp
    go_enter Tryd.func84, Tryd.ntmps84
    go_wp2_with fail
    rw [← HW0.out]
    exact bodyPost_ret (results_row_three rfl _ _ w.heap.size _ _ (0, 0) _ rfl R0.out Tryd.underlying46 rfl (by as_aux_lemma => kernel_rfl)) rfl ⟨rfl, HB.out⟩
set_option maxHeartbeats 2000000 in
theorem noneC_any (h : Bytes w C A n c l) (p : Nat) : Calls Tryd.prog 110 #[.slice A n c, .int .i64 (p : Int)] w (Item (.agg #[.int .i64 0, .slice none 0 0, .slice none 0 0, .slice none 0 0]) 0 (if p = n then 10 else 60) w) := by
  obtain ⟨W0, hW0⟩ : ∃ W0, W0 = (w.alloc (.cells #[.int .i64 0, .slice none 0 0, .slice none 0 0, .slice none 0 0] 68)).alloc (.cells #[.int .i64 0, .slice none 0 0, .slice none 0 0, .slice none 0 0] 68) := ⟨_, rfl⟩
  have hB0 : Below w.heap.size w W0 := by rw [hW0]; exact ((Below.refl _ _).alloc (Nat.le_refl _) _).alloc (by simp) _
  have R0 : Hid (W0.heap[w.heap.size]? = some (.cells #[.int .i64 0, .slice none 0 0, .slice none 0 0, .slice none 0 0] 68 (0, 0))) := Lib.hid (by rw [hW0]; exact heap_alloc2_old _ _ _)
  have R1 : Hid (W0.heap[w.heap.size + 1]? = some (.cells #[.int .i64 0, .slice none 0 0, .slice none 0 0, .slice none 0 0] 68 (0, 0))) := Lib.hid (by rw [hW0]; exact heap_alloc2_new _ _ _)
  have HB := Lib.hid hB0
  have HW0 := Lib.hid hW0
  clear hB0 hW0 h
  by_cases hp : p = n
  · rw [if_pos hp]
    have hd : ((p : Int) == (n : Int)) = true := by simp; omega
    clear hp
    go_enter Tryd.func110, Tryd.ntmps110
    go_wp2_with fail
    rw [← HW0.out]
    exact bodyPost_ret (results_row_three rfl _ _ w.heap.size _ _ (0, 0) _ rfl R0.out Tryd.underlying68 rfl (by as_aux_lemma => kernel_rfl)) rfl ⟨rfl, HB.out⟩
  · rw [if_neg hp]
    have hd : ((p : Int) == (n : Int)) = false := by rw [beq_eq_false_iff_ne]; omega
    clear hp
    go_enter Tryd.func110, Tryd.ntmps110
    go_wp2_with fail
    rw [← HW0.out]
    exact bodyPost_ret (results_row_three rfl _ _ w.heap.size _ _ (0, 0) _ rfl R0.out Tryd.underlying68 rfl (by as_aux_lemma => kernel_rfl)) rfl ⟨rfl, HB.out⟩
set_option maxHeartbeats 4000000 in
theorem heapAt_any (h : Bytes w C A n c l) (hC : C ≤ w.heap.size) (hT : Tab6 w) {p : Nat} (hp : p ≤ n) : Calls Tryd.prog 59 #[.slice A n c, .int .i64 (p : Int)] w (Item (.agg #[.int .i64 (Tb.heapAt l p).1.k, .int .i64 (Tb.heapAt l p).1.n]) (Tb.heapAt l p).2.1 (Tb.heapAt l p).2.2 w) := by
  have hl := h.1
  have hm := h.max
  obtain ⟨W0, hW0⟩ : ∃ W0, W0 = w.alloc (.cells #[.int .i64 0, .int .i64 0] 42) := ⟨_, rfl⟩
  have hB0 : Below w.heap.size w W0 := by rw [hW0]; exact (Below.refl _ _).alloc (Nat.le_refl _) _
  have hz : W0.heap.size = w.heap.size + 1 := by rw [hW0]; simp
  have r0 : W0.heap[w.heap.size]? = some (.cells #[.int .i64 0, .int .i64 0] 42 (0, 0)) := by rw [hW0]; exact World.alloc_heap_new _ _
  obtain ⟨g, hg⟩ : ∃ g, Tb.isGiven l p = g := ⟨_, rfl⟩
  have hy0 := (h.more hC).below hB0
  have HG := Lib.hid (given_any hy0 (hT.below hB0) hp g hg)
  obtain ⟨gv, hgv⟩ : ∃ gv, Tb.given l p = gv := ⟨_, rfl⟩
  have HW0 := Lib.hid hW0
  rw [hgv] at HG
  cases g with
  | true =>
    have e : Tb.heapAt l p = (gv, p + 1, 0) := by unfold Tb.heapAt; rw [if_pos hg, hgv]
    rw [e]
    have hlt : p < n := by unfold Tb.isGiven at hg; rw [hl] at hg; simp at hg; exact hg.1
    have hw := wrap1 hlt hm
    have hi2 : (p : Int) < (n : Int) := by omega
    have FIN : Hid (∀ W, Below W0.heap.size W0 W → W.heap[w.heap.size]? = some (.cells #[.int .i64 0, .int .i64 0] 42 (0, 0)) ∧ (W.setRow w.heap.size #[.int .i64 gv.k, .int .i64 gv.n]).heap[w.heap.size]? = some (.cells #[.int .i64 gv.k, .int .i64 gv.n] 42 (0, 0)) ∧ Below w.heap.size w (W.setRow w.heap.size #[.int .i64 gv.k, .int .i64 gv.n])) := Lib.hid fun W hW => by
      have e0 := (hW.block _ (by omega)).trans r0
      exact ⟨e0, setRow_heap _ _ _ _ _ _ e0, below_setRow (hB0.trans (hW.mono (by omega))) (Nat.le_refl _) _⟩
    clear h hy0 hT hp hg hgv hl hB0 hW0 hz r0 e hlt
    go_enter Tryd.func59, Tryd.ntmps59
    go_wp2_with fail
    rw [← HW0.out]
    go_wp2_with (first
      | (go_at_call 83; refine HG.out.mono ?_; rintro e w1 ⟨rfl, hb1⟩; have F := FIN.out (w1.alloc (.cells #[.int .i64 gv.k, .int .i64 gv.n] 42)) (hb1.alloc hb1.size _); have F1 := Lib.hid F.1; have F2 := Lib.hid F.2.1; have F3 := Lib.hid F.2.2; clear F hb1)
      | (refine wpList_store_row rfl 42 (.tmp 4) (.tmp 19) rfl w.heap.size #[.int .i64 gv.k, .int .i64 gv.n] rfl rfl _ _ F1.out (by kernel_rfl) rfl (by simp [Value.oneCell']) ?_))
    refine bodyPost_ret (results_row_three rfl _ _ w.heap.size _ _ (0, 0) _ rfl F2.out Tryd.underlying42 rfl (by as_aux_lemma => kernel_rfl)) rfl ?_
    exact item_end rfl rfl rfl F3.out
  | false =>
    obtain ⟨⟨x, y, z⟩, hq⟩ : ∃ q, told true l p 33 = q := ⟨_, rfl⟩
    obtain ⟨sx, hsx⟩ : ∃ sx, Leb.sOf x = sx := ⟨_, rfl⟩
    have HS : Hid (∀ W, Below W0.heap.size W0 W → Calls Tryd.prog 49 #[.slice A n c, .int .i64 (p : Int), .int .i64 33] W fun e w' => e = .returned (.tuple #[.int .i64 sx, .int .i64 (y : Int), .int .i64 (z : Int)]) ∧ ∃ k, w' = W.drewN k) := Lib.hid fun W hW =>
      S_at A n c l W.heap.size p 33 W sx x y z ((hy0.below (hW.mono (by omega))).more (by have := hW.size; omega)) hq hsx
    have e : Tb.heapAt l p = (if z = 0 then (if sx < 0 then (⟨0, 0⟩, 0, 60) else (⟨13, sx⟩, y, 0)) else (⟨0, 0⟩, 0, z)) := by unfold Tb.heapAt; rw [if_neg (by rw [hg]; simp), hq, ← hsx]
    rw [e]
    have FIN : Hid (∀ (W : World) (a b : Int), Below W0.heap.size W0 W → W.heap[w.heap.size]? = some (.cells #[.int .i64 0, .int .i64 0] 42 (0, 0)) ∧ (W.setRow w.heap.size #[.int .i64 a, .int .i64 b]).heap[w.heap.size]? = some (.cells #[.int .i64 a, .int .i64 b] 42 (0, 0)) ∧ Below w.heap.size w (W.setRow w.heap.size #[.int .i64 a, .int .i64 b])) := Lib.hid fun W a b hW => by
      have e0 := (hW.block _ (by omega)).trans r0
      exact ⟨e0, setRow_heap _ _ _ _ _ _ e0, below_setRow (hB0.trans (hW.mono (by omega))) (Nat.le_refl _) _⟩
    clear h hy0 hT hp hg hgv hl hB0 hW0 hz r0 e hq hsx hm
    by_cases hz0 : z = 0
    · subst hz0
      rw [if_pos rfl]
      by_cases hs0 : sx < 0
      · rw [if_pos hs0]
        go_enter Tryd.func59, Tryd.ntmps59
        go_wp2_with fail
        rw [← HW0.out]
        go_wp2_with (first
          | (go_at_call 83; refine HG.out.mono ?_; rintro e w1 ⟨rfl, hb1⟩; have HB1 := Lib.hid (hb1.alloc hb1.size (.cells #[.int .i64 gv.k, .int .i64 gv.n] 42)); clear hb1)
          | (go_at_call 49; refine (HS.out _ HB1.out).mono ?_; rintro e w2 ⟨rfl, k, rfl⟩; have F := FIN.out _ 0 0 (below_drewN HB1.out k); have F1 := Lib.hid F.1; have F2 := Lib.hid F.2.1; have F3 := Lib.hid F.2.2; clear F)
          | (refine wpList_store_row rfl 42 (.tmp 4) (.tmp 37) rfl w.heap.size #[.int .i64 0, .int .i64 0] rfl rfl _ _ F1.out (by kernel_rfl) rfl (by simp [Value.oneCell']) ?_))
        refine bodyPost_ret (results_row_three rfl _ _ w.heap.size _ _ (0, 0) _ rfl F2.out Tryd.underlying42 rfl (by as_aux_lemma => kernel_rfl)) rfl ?_
        exact item_end rfl rfl rfl F3.out
      · rw [if_neg hs0]
        have hs1 : 0 ≤ sx := by omega
        go_enter Tryd.func59, Tryd.ntmps59
        go_wp2_with fail
        rw [← HW0.out]
        go_wp2_with (first
          | (go_at_call 83; refine HG.out.mono ?_; rintro e w1 ⟨rfl, hb1⟩; have HB1 := Lib.hid (hb1.alloc hb1.size (.cells #[.int .i64 gv.k, .int .i64 gv.n] 42)); clear hb1)
          | (go_at_call 49; refine (HS.out _ HB1.out).mono ?_; rintro e w2 ⟨rfl, k, rfl⟩; have F := FIN.out _ 13 sx (below_drewN HB1.out k); have F1 := Lib.hid F.1; have F2 := Lib.hid F.2.1; have F3 := Lib.hid F.2.2; clear F)
          | (refine wpList_store_row rfl 42 (.tmp 4) (.tmp 40) rfl w.heap.size #[.int .i64 13, .int .i64 sx] rfl rfl _ _ F1.out (by kernel_rfl) rfl (by simp [Value.oneCell']) ?_))
        refine bodyPost_ret (results_row_three rfl _ _ w.heap.size _ _ (0, 0) _ rfl F2.out Tryd.underlying42 rfl (by as_aux_lemma => kernel_rfl)) rfl ?_
        exact item_end rfl rfl rfl F3.out
    · rw [if_neg hz0]
      have hz1 : ((z : Int) == 0) = false := by rw [beq_eq_false_iff_ne]; omega
      have hz2 : ((z : Int) != 0) = true := by simp; omega
      clear hz0
      go_enter Tryd.func59, Tryd.ntmps59
      go_wp2_with fail
      rw [← HW0.out]
      go_wp2_with (first
        | (go_at_call 83; refine HG.out.mono ?_; rintro e w1 ⟨rfl, hb1⟩; have HB1 := Lib.hid (hb1.alloc hb1.size (.cells #[.int .i64 gv.k, .int .i64 gv.n] 42)); clear hb1)
        | (go_at_call 49; refine (HS.out _ HB1.out).mono ?_; rintro e w2 ⟨rfl, k, rfl⟩; have F := FIN.out _ 0 0 (below_drewN HB1.out k); have F1 := Lib.hid F.1; have F2 := Lib.hid F.2.1; have F3 := Lib.hid F.2.2; clear F)
        | (refine wpList_store_row rfl 42 (.tmp 4) (.tmp 37) rfl w.heap.size #[.int .i64 0, .int .i64 0] rfl rfl _ _ F1.out (by kernel_rfl) rfl (by simp [Value.oneCell']) ?_))
      refine bodyPost_ret (results_row_three rfl _ _ w.heap.size _ _ (0, 0) _ rfl F2.out Tryd.underlying42 rfl (by as_aux_lemma => kernel_rfl)) rfl ?_
      exact item_end rfl rfl rfl F3.out
set_option maxHeartbeats 4000000 in
theorem shortAt_any (h : Bytes w C A n c l) (hC : C ≤ w.heap.size) (hT : Tab6 w) {p : Nat} (hp : p ≤ n) :
    Calls Tryd.prog 64 #[.slice A n c, .int .i64 (p : Int)] w (Item (Tb.shortAt l p).1.val (Tb.shortAt l p).2.1 (Tb.shortAt l p).2.2 w) := by
  unfold Vl.val
  have hl := h.1
  have hm := h.max
  obtain ⟨W0, hW0⟩ : ∃ W0, W0 = w.alloc (.cells #[.int .i64 0, .bool false, .int .i64 0, .int .i64 0] 46) := ⟨_, rfl⟩
  have hB0 : Below w.heap.size w W0 := by rw [hW0]; exact (Below.refl _ _).alloc (Nat.le_refl _) _
  have hz : W0.heap.size = w.heap.size + 1 := by rw [hW0]; simp
  have r0 : W0.heap[w.heap.size]? = some (.cells #[.int .i64 0, .bool false, .int .i64 0, .int .i64 0] 46 (0, 0)) := by rw [hW0]; exact World.alloc_heap_new _ _
  obtain ⟨g, hg⟩ : ∃ g, Tb.isGiven l p = g := ⟨_, rfl⟩
  have hy0 := (h.more hC).below hB0
  have HG := Lib.hid (given_any hy0 (hT.below hB0) hp g hg)
  obtain ⟨gv, hgv⟩ : ∃ gv, Tb.given l p = gv := ⟨_, rfl⟩
  have HW0 := Lib.hid hW0
  rw [hgv] at HG
  have FIN : Hid (∀ (W : World) (a : Int) (u : Bool) (b d : Int), Below W0.heap.size W0 W → W.heap[w.heap.size]? = some (.cells #[.int .i64 0, .bool false, .int .i64 0, .int .i64 0] 46 (0, 0)) ∧ (W.setRow w.heap.size #[.int .i64 a, .bool u, .int .i64 b, .int .i64 d]).heap[w.heap.size]? = some (.cells #[.int .i64 a, .bool u, .int .i64 b, .int .i64 d] 46 (0, 0)) ∧ Below w.heap.size w (W.setRow w.heap.size #[.int .i64 a, .bool u, .int .i64 b, .int .i64 d])) := Lib.hid fun W a u b d hW => by
    have e0 := (hW.block _ (by omega)).trans r0
    exact ⟨e0, setRow_heap _ _ _ _ _ _ e0, below_setRow (hB0.trans (hW.mono (by omega))) (Nat.le_refl _) _⟩
  have HY : Hid (∀ W, Below W0.heap.size W0 W → Bytes W W.heap.size A n c l) := Lib.hid fun W hW => (hy0.below (hW.mono (by omega))).more (by have := hW.size; omega)
  cases g with
  | true =>
    have e : Tb.shortAt l p = (⟨3, true, gv⟩, p + 1, 0) := by unfold Tb.shortAt; rw [if_pos hg, hgv]
    rw [e]
    have hlt : p < n := by unfold Tb.isGiven at hg; rw [hl] at hg; simp at hg; exact hg.1
    have hw := wrap1 hlt hm
    have hi2 : (p : Int) < (n : Int) := by omega
    clear h hy0 hT hp hg hgv hl hB0 hW0 hz r0 e hlt
    go_enter Tryd.func64, Tryd.ntmps64
    go_wp2_with fail
    rw [← HW0.out]
    go_wp2_with (first
      | (go_at_call 83; refine HG.out.mono ?_; rintro e w1 ⟨rfl, hb1⟩; have F := FIN.out (w1.alloc (.cells #[.int .i64 gv.k, .int .i64 gv.n] 42)) 3 true gv.k gv.n (hb1.alloc hb1.size _); have F1 := Lib.hid F.1; have F2 := Lib.hid F.2.1; have F3 := Lib.hid F.2.2; clear F hb1)
      | (refine wpList_store_row rfl 46 (.tmp 4) (.tmp 17) rfl w.heap.size #[.int .i64 3, .bool true, .int .i64 gv.k, .int .i64 gv.n] rfl rfl _ _ F1.out (by kernel_rfl) rfl (by simp [Value.oneCell']) ?_))
    refine bodyPost_ret (results_row_three rfl _ _ w.heap.size _ _ (0, 0) _ rfl F2.out Tryd.underlying46 rfl (by as_aux_lemma => kernel_rfl)) rfl ?_
    exact item_end rfl rfl rfl F3.out
  | false =>
    have HN : Hid (∀ W, Below W0.heap.size W0 W → Calls Tryd.prog 84 #[.slice A n c, .int .i64 (p : Int)] W (Item (.agg #[.int .i64 0, .bool false, .int .i64 0, .int .i64 0]) 0 (if p = n then 10 else 60) W)) := Lib.hid fun W hW => noneV_any (HY.out W hW) p
    by_cases hlt : p < n
    · obtain ⟨bb, off, rfl, hc, hx⟩ := h.byte hlt
      have hbb := World.block_lt_of_cell? w ⟨bb, off + p, none⟩ hc
      dsimp only at hbb
      obtain ⟨y, hy⟩ : ∃ y, l.getD p 0 = y := ⟨_, rfl⟩
      have e : Tb.shortAt l p = if 123 ≤ y ∧ y ≤ 125 then (Tb.noVal, 0, 61) else (Tb.noVal, 0, if p = n then 10 else 60) := by
        unfold Tb.shortAt Tb.noneAt
        rw [if_neg (by rw [hg]; simp), hl, hy]
        by_cases h1 : 123 ≤ y ∧ y ≤ 125
        · rw [if_pos ⟨hlt, h1⟩, if_pos h1]
        · rw [if_neg (fun e => h1 e.2), if_neg h1]; split <;> rfl
      rw [e]
      rw [hy] at hc hx
      have hcw : Hid (∀ W, Below W0.heap.size W0 W → W.cell? ⟨bb, off + p, none⟩ = some (.int .u8 (y : Int))) := Lib.hid fun W hW => (hW.cell (p := ⟨bb, off + p, none⟩) (by dsimp only; omega)).trans ((hB0.cell (p := ⟨bb, off + p, none⟩) hbb).trans hc)
      have hi1 : (0 : Int) ≤ (p : Int) := by omega
      have hi2 : (p : Int) < (n : Int) := by omega
      by_cases h1 : 123 ≤ y ∧ y ≤ 125
      · rw [if_pos h1]
        have hy1 : (123 : Int) ≤ (y : Int) := by omega
        have hy2 : (y : Int) ≤ 125 := by omega
        clear h hy0 hT hp hg hgv hl hB0 hW0 hz r0 e hlt hm h1 hc hy HN
        go_enter Tryd.func64, Tryd.ntmps64
        go_wp2_with fail
        rw [← HW0.out]
        go_wp2_with (first
          | (go_at_call 83; refine HG.out.mono ?_; rintro e w1 ⟨rfl, hb1⟩; have hbq := hb1.alloc hb1.size (.cells #[.int .i64 gv.k, .int .i64 gv.n] 42); have hcc := hcw.out _ hbq; have F := FIN.out _ 0 false 0 0 hbq; have F1 := Lib.hid F.1; have F2 := Lib.hid F.2.1; have F3 := Lib.hid F.2.2; clear F hb1 hbq)
          | (refine wpList_store_row rfl 46 (.tmp 4) (.tmp 38) rfl w.heap.size #[.int .i64 0, .bool false, .int .i64 0, .int .i64 0] rfl rfl _ _ F1.out (by kernel_rfl) rfl (by simp [Value.oneCell']) ?_))
        refine bodyPost_ret (results_row_three rfl _ _ w.heap.size _ _ (0, 0) _ rfl F2.out Tryd.underlying46 rfl (by as_aux_lemma => kernel_rfl)) rfl ?_
        exact item_end rfl rfl rfl F3.out
      · rw [if_neg h1]
        obtain ⟨er, her⟩ : ∃ er, (if p = n then 10 else 60) = er := ⟨_, rfl⟩
        rw [her] at HN ⊢
        have hyy : (y : Int) < 123 ∨ ((123 : Int) ≤ (y : Int) ∧ (125 : Int) < (y : Int)) := by omega
        clear h hy0 hT hp hg hgv hl hB0 hW0 hz r0 e hlt hm h1 hc hy her
        rcases hyy with hy1 | ⟨hy1, hy2⟩
        all_goals
          go_enter Tryd.func64, Tryd.ntmps64
          go_wp2_with fail
          rw [← HW0.out]
          go_wp2_with (first
            | (go_at_call 83; refine HG.out.mono ?_; rintro e w1 ⟨rfl, hb1⟩; have hbq := hb1.alloc hb1.size (.cells #[.int .i64 gv.k, .int .i64 gv.n] 42); have hcc := hcw.out _ hbq; have HBQ := Lib.hid hbq; clear hb1 hbq)
            | (go_at_call 84; refine (HN.out _ HBQ.out).mono ?_; rintro e w2 ⟨rfl, hb2⟩; have F := FIN.out _ 0 false 0 0 (HBQ.out.trans (hb2.mono HBQ.out.size)); have F1 := Lib.hid F.1; have F2 := Lib.hid F.2.1; have F3 := Lib.hid F.2.2; clear F hb2)
            | (refine wpList_store_row rfl 46 (.tmp 4) (.tmp 42) rfl w.heap.size #[.int .i64 0, .bool false, .int .i64 0, .int .i64 0] rfl rfl _ _ F1.out (by kernel_rfl) rfl (by simp [Value.oneCell']) ?_))
          refine bodyPost_ret (results_row_three rfl _ _ w.heap.size _ _ (0, 0) _ rfl F2.out Tryd.underlying46 rfl (by as_aux_lemma => kernel_rfl)) rfl ?_
          exact item_end rfl rfl rfl F3.out
    · have hpn : p = n := by omega
      subst hpn
      have e : Tb.shortAt l p = (Tb.noVal, 0, 10) := by
        unfold Tb.shortAt Tb.noneAt
        rw [if_neg (by rw [hg]; simp), hl, if_neg (fun e => hlt e.1), if_pos rfl]
      rw [e]
      rw [if_pos rfl] at HN
      clear h hy0 hT hp hg hgv hl hB0 hW0 hz r0 e hlt hm
      go_enter Tryd.func64, Tryd.ntmps64
      go_wp2_with fail
      rw [← HW0.out]
      go_wp2_with (first
        | (go_at_call 83; refine HG.out.mono ?_; rintro e w1 ⟨rfl, hb1⟩; have HBQ := Lib.hid (hb1.alloc hb1.size (.cells #[.int .i64 gv.k, .int .i64 gv.n] 42)); clear hb1)
        | (go_at_call 84; refine (HN.out _ HBQ.out).mono ?_; rintro e w2 ⟨rfl, hb2⟩; have F := FIN.out _ 0 false 0 0 (HBQ.out.trans (hb2.mono HBQ.out.size)); have F1 := Lib.hid F.1; have F2 := Lib.hid F.2.1; have F3 := Lib.hid F.2.2; clear F hb2)
        | (refine wpList_store_row rfl 46 (.tmp 4) (.tmp 42) rfl w.heap.size #[.int .i64 0, .bool false, .int .i64 0, .int .i64 0] rfl rfl _ _ F1.out (by kernel_rfl) rfl (by simp [Value.oneCell']) ?_))
      refine bodyPost_ret (results_row_three rfl _ _ w.heap.size _ _ (0, 0) _ rfl F2.out Tryd.underlying46 rfl (by as_aux_lemma => kernel_rfl)) rfl ?_
      exact item_end rfl rfl rfl F3.out
end
end Go.Proofs.YtphmknhlibampaaDoor

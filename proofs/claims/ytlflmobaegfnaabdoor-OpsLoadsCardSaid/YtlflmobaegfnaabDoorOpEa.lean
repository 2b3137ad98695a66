/-
  Layer 5, code: each: the instructions, rising, told to a function that is handed in.
-/
import Derived.Test.YtlflmobaegfnaabDoorOpE
import Derived.Test.YtlflmobaegfnaabDoorKitY
namespace Go.Proofs.YtlflmobaegfnaabDoor
open Go.RowKit Go.Shelf
attribute [local go_sem] Oper.semAt_some
set_option linter.unusedVariables false
set_option linter.unusedSimpArgs false
set_option maxRecDepth 100000

theorem fieldsF_any (s : ByteArray) (W : World) :
    Calls Tryd.prog 19 #[.string s] W fun e w' => e = .returned (.func (.func 20) #[] #[.pointer (some ⟨W.heap.size, 0, none⟩)]) ∧ w' = W.alloc (.cells #[.string s] 9) := by
  go_enter Tryd.func19, Tryd.ntmps19
  go_wp2
  go_ret
  exact ⟨rfl, rfl⟩
namespace Op5
theorem runAt_snoc (f : Nat) (l : List (List UInt8)) (x : List UInt8) : runAt f (l ++ [x]) = runAt f l ++ [(f + l.length, x)] := by
  induction l generalizing f with
  | nil => simp [runAt]
  | cons y r ih => simp [runAt, ih (f + 1)]; omega
theorem line_fit (k : Nat) (hk : k < 16) : (words (line k)).length ≤ 40 ∧ first k ≤ 64600 ∧ (line k).length ≤ 1000 ∧ ∀ c ∈ line k, c = 32 ∨ (32 < c ∧ c < 128) := by
  have h := runs_fit
  have h1 := List.all_eq_true.1 h k (List.mem_range.2 hk)
  simp only [Bool.and_eq_true, decide_eq_true_eq, List.all_eq_true, Bool.or_eq_true] at h1
  have h2 : ((List.range 16).all fun k => decide ((words (line k)).length ≤ 40) && decide (first k ≤ 64600) && decide ((line k).length ≤ 1000)) = true := by decide +kernel
  have h3 := List.all_eq_true.1 h2 k (List.mem_range.2 hk)
  simp only [Bool.and_eq_true, decide_eq_true_eq] at h3
  exact ⟨h3.1.1, h3.1.2, h3.2, h1.2⟩
theorem upto_pre : ∀ (d k : Nat), upto k <+: upto (k + d)
  | 0, k => List.prefix_refl _
  | d + 1, k => (upto_pre d k).trans (List.prefix_append _ _)
theorem runAt_pre : ∀ (f : Nat) (a b : List (List UInt8)), runAt f a <+: runAt f (a ++ b)
  | f, [], b => List.nil_prefix
  | f, x :: a, b => by
    obtain ⟨t, ht⟩ := runAt_pre (f + 1) a b
    exact ⟨t, by simp [runAt, ht]⟩
theorem pre_table (k : Nat) (hk : k < 16) (pre : List (List UInt8)) (h : pre <+: words (line k)) : upto k ++ runAt (first k) pre <+: table := by
  obtain ⟨t, ht⟩ := h
  have h1 : upto k ++ runAt (first k) pre <+: upto (k + 1) := by
    show _ <+: upto k ++ run k
    unfold run
    rw [← ht]
    exact (List.prefix_append_right_inj _).2 (runAt_pre _ _ _)
  have h2 := upto_pre (16 - (k + 1)) (k + 1)
  rw [show k + 1 + (16 - (k + 1)) = 16 by omega] at h2
  exact h1.trans h2
end Op5
theorem box_lt (w : World) (o : Obj) (w1 : World) (h : Below (w.alloc o).heap.size (w.alloc o) w1) : w.heap.size < w1.heap.size := by have := h.size; rw [World.size_alloc] at this; exact this
set_option maxHeartbeats 8000000 in
theorem each_any (w : World) (hT : Tab5 w) (fid : Nat) (lb : Array Value) (he : ∀ args w, (callFunc fid args).run Tryd.prog w = .ok (.enter fid args) w) (Dt : Nat → Nat → Prop) (hDt : ∀ k o, Dt k o → k < w.heap.size ∧ k ≠ 0)
    (J Jx : List (Nat × List UInt8) → World → Prop) (hJ : Lies w.heap.size J) (hJx : Lies w.heap.size Jx) (h0 : J [] w)
    (hf : ∀ pre (f : Nat) (x : List UInt8) W, J pre W → Calls Tryd.prog fid (#[.int .i64 (f : Int), Sv x] ++ lb) W fun e W' => ∃ r, e = .returned (.bool r) ∧ ((r = true ∧ J (pre ++ [(f, x)]) W' ∧ Keep Dt W W') ∨ (r = false ∧ Jx (pre ++ [(f, x)]) W' ∧ Keep Dt W W'))) :
    Calls Tryd.prog 12 #[.func (.func fid) #[] lb] w fun e w' => (∃ v, e = .returned v) ∧ (J Op5.table w' ∨ ∃ pre, pre <+: Op5.table ∧ Jx pre w') ∧ Keep Dt w w' := by
  obtain ⟨Q, hQ⟩ : ∃ Q : Ending → World → Prop, Q = (fun e w' => (∃ v, e = .returned v) ∧ (J Op5.table w' ∨ ∃ pre, pre <+: Op5.table ∧ Jx pre w') ∧ Keep Dt w w') := ⟨_, rfl⟩
  rw [← hQ]
  have HQ := Lib.hid hQ
  have HJ := Lib.hid hJ
  have HJx := Lib.hid hJx
  have HF := Lib.hid hf
  have HDt := Lib.hid hDt
  have hg := hT.lt
  have HT := Lib.hid hT
  clear hQ hJ hJx hf hT hDt
  have HR := Lib.hid runs_any
  refine calls_marks Tryd.func12 rfl ?_
  simp only [Tryd.ntmps12, List.size_toArray, List.length_cons, List.length_nil, Nat.reduceAdd, Nat.reduceSub, Array.replicate_succ, Array.replicate_zero, List.push_toArray, List.append_toArray, List.nil_append, List.cons_append]
  go_wp2_with (go_at_call 18; refine (HR.out _).mono ?_; rintro e w1 ⟨rfl, hb1⟩)
  have hw1 : Below w.heap.size w w1 := below_box w _ _ hb1
  have z1 : w.heap.size < w1.heap.size := box_lt w _ _ hb1
  have t1 : w1.cell? ⟨w.heap.size, 0, none⟩ = some (.func (.func fid) #[] lb) := (hb1.cell (p := ⟨w.heap.size, 0, none⟩) (by simp)).trans (by go_simp)
  have st1 : J [] w1 := HJ.out _ _ _ h0 hw1
  have HW1 := Lib.hid hw1
  clear hb1 h0 hw1
  refine wp_loop (fun a' W => ∃ (k : Nat) (Ks : List Nat) (u3 u4 u5 u8 u9 u10 u11 u12 u13 u14 u15 u16 u17 u18 u19 u20 u21 u22 u23 u24 : Value), a' = { tmps := #[(.func (.func fid) #[] lb), .pointer (some ⟨w.heap.size, 0, none⟩), undef, u3, u4, u5, .agg Op5.runCells, .int .i64 (k : Int), u8, u9, u10, u11, u12, u13, u14, u15, u16, u17, u18, u19, u20, u21, u22, u23, u24], defers := Ks.map mark } ∧ k ≤ 16 ∧ J (Op5.upto k) W ∧ W.cell? ⟨w.heap.size, 0, none⟩ = some (.func (.func fid) #[] lb) ∧ Keep Dt w W ∧ Marks w.heap.size W Ks ∧ w.heap.size ∉ Ks ∧ w.heap.size < W.heap.size)
    (fun a' _ => 16 - (intOf (a'.tmps.getD 7 undef)).toNat) ?_ ?_
  · exact ⟨0, [], _, _, _, _, _, _, _, _, _, _, _, _, _, _, _, _, _, _, _, _, rfl, by omega, st1, t1, Keep.of_below HW1.out, Marks.nil _ _, by simp, z1⟩
  clear st1 t1 z1 HW1
  rintro a' W ⟨k, Ks, u3, u4, u5, u8, u9, u10, u11, u12, u13, u14, u15, u16, u17, u18, u19, u20, u21, u22, u23, u24, rfl, hk, hJk, ht, hK, hM, hn, hz⟩
  by_cases hlt : k < 16
  · have hx : ∀ w, (Instr.index 42 (.agg Op5.runCells) (.int .i64 (k : Int))).run Tryd.prog w = .ok (.agg #[.int .i64 (Op5.first k : Int), .int .i64 (Op5.last k : Int), Sv (Op5.line k)]) w := fun w => runs_at k hlt w
    obtain ⟨f1, f2, f3, f4⟩ := Op5.line_fit k hlt
    go_wp2_with (go_at_call 19; refine (fieldsF_any _ _).mono ?_; rintro e w4 ⟨rfl, rfl⟩)
    obtain ⟨W2, hW2⟩ : ∃ W2, W2 = ((W.alloc (.cells #[.int .i64 (Op5.first k : Int), .int .i64 (Op5.last k : Int), Sv (Op5.line k)] 41)).alloc (.cells #[.int .i64 (Op5.first k : Int)] 22)).alloc (.cells #[Sv (Op5.line k)] 9) := ⟨_, rfl⟩
    rw [← hW2]
    have hb2 : Below W.heap.size W W2 := by rw [hW2]; exact (((Below.refl _ _).alloc (Nat.le_refl _) _).alloc (by simp) _).alloc (by simp; omega) _
    have hz2 : W2.heap.size = W.heap.size + 3 := by rw [hW2]; simp
    have c0 : W2.cell? ⟨W.heap.size + 1, 0, none⟩ = some (.int .i64 (Op5.first k : Int)) := by rw [hW2]; go_simp
    have cf : W2.frozen? ⟨W.heap.size + 1, 0, none⟩ = false := by rw [hW2]; go_simp
    have cs : W2.cell? ⟨W.heap.size + 2, 0, none⟩ = some (Sv (Op5.line k)) := by rw [hW2]; go_simp
    have ht2 := (hb2.cell (p := ⟨w.heap.size, 0, none⟩) hz).trans ht
    have hj2 : J (Op5.upto k) W2 := HJ.out _ _ _ hJk (hb2.mono (Nat.le_of_lt hz))
    have hK2 : Keep Dt w W2 := hK.lies (Nat.le_of_lt hz) hb2
    have hM2 : Marks w.heap.size W2 Ks := hM.below hb2 hM.lt
    have hMlt : ∀ K ∈ Ks, K < W.heap.size := hM.lt
    have hT2 : Tab5 W2 := (HT.out.keep hK2 (fun o h => (HDt.out _ _ h).2 rfl))
    have HC0 := Lib.hid c0
    have HCF := Lib.hid cf
    have HCS := Lib.hid cs
    have HT2' := Lib.hid ht2
    have HJ2 := Lib.hid hj2
    have HK2 := Lib.hid hK2
    have HM2 := Lib.hid hM2
    have HTT := Lib.hid hT2
    have HZ2 := Lib.hid hz2
    have HL := Lib.hid hMlt
    have HF4 := Lib.hid f4
    clear hW2 hb2 c0 cf cs ht2 hj2 hK2 hM2 hT2 hMlt hx ht hJk hK hM hz2 f4
    refine (wpIn_wide (n := 20)).1 ?_
    refine wpIn_range_x rfl (by omega) (gf := 20) (lb := #[.pointer (some ⟨W.heap.size + 2, 0, none⟩)]) rfl trivial (enters_of Tryd.func20 (by kernel_rfl) rfl)
      (fields1_seq Fence.wide _ trivial rfl (by omega) (fun b o => Dt b o ∨ b = W.heap.size + 1) W2 (W.heap.size + 2) ⟨(Op5.line k).toArray⟩ (fun o h => by
        rcases h with h | h
        · have := (HDt.out _ _ h).1; omega
        · omega) (fun o h => by
        rcases h with h | h
        · exact (HDt.out _ _ h).2 rfl
        · omega) HTT.out HCS.out (by show (Op5.line k).toArray.size ≤ _; simp; omega) HF4.out)
      (fun b o h => by
        rw [HZ2.out]
        rcases h with h | h
        · have := (HDt.out _ _ h).1; omega
        · omega) (Below.refl _ _) (fun _ => rfl)
      (fun pre U => J (Op5.upto k ++ Op5.runAt (Op5.first k) pre) U ∧ U.cell? ⟨W.heap.size + 1, 0, none⟩ = some (.int .i64 ((Op5.first k + pre.length : Nat) : Int)) ∧ U.frozen? ⟨W.heap.size + 1, 0, none⟩ = false ∧ U.cell? ⟨w.heap.size, 0, none⟩ = some (.func (.func fid) #[] lb) ∧ Keep Dt w U ∧ Marks w.heap.size U Ks)
      (fun c pre U => c = .ret ∧ Jx (Op5.upto k ++ Op5.runAt (Op5.first k) pre) U ∧ Keep Dt w U ∧ Marks w.heap.size U Ks)
      ?hI ?hIx ?h0 ?a₁ ?assign ?body ?done ?stop
    case assign =>
      intro l' x U K hK'
      gi_wp2
      exact hK'
    case hI =>
      rintro pre A C ⟨i1, i2, i3, i4, i5, i6⟩ hb
      have hz' := HZ2.out
      rw [hz'] at hb
      exact ⟨HJ.out _ _ _ i1 (hb.mono (by omega)), (hb.cell (p := ⟨W.heap.size + 1, 0, none⟩) (by dsimp only; omega)).trans i2, (hb.frozen (p := ⟨W.heap.size + 1, 0, none⟩) (by dsimp only; omega)).trans i3, (hb.cell (p := ⟨w.heap.size, 0, none⟩) (by dsimp only; omega)).trans i4, i5.lies (by omega) hb, i6.below hb (fun K h => by have := HL.out K h; omega)⟩
    case hIx =>
      rintro c pre A C ⟨i0, i1, i5, i6⟩ hb
      have hz' := HZ2.out
      rw [hz'] at hb
      exact ⟨i0, HJx.out _ _ _ i1 (hb.mono (by omega)), i5.lies (by omega) hb, i6.below hb (fun K h => by have := HL.out K h; omega)⟩
    case h0 => exact ⟨by simpa [Op5.runAt] using HJ2.out, HC0.out, HCF.out, HT2'.out, HK2.out, HM2.out⟩
    case body =>
      rintro l' pre x U ⟨i1, i2, i3, i4, i5, i6⟩ hlen hz
      have hl40 : pre.length ≤ 40 := by
        have h : (Op5.words (ByteArray.data ⟨(Op5.line k).toArray⟩).toList).length ≤ 40 := f1
        omega
      have HFc := Lib.hid (HF.out _ (Op5.first k + pre.length) x U i1)
      obtain ⟨nn, hnn⟩ : ∃ nn, Op5.first k + pre.length = nn := ⟨_, rfl⟩
      rw [hnn] at HFc i2
      have HNN := Lib.hid hnn
      have hn9 : (nn : Int) ≤ 70000 := by omega
      have K5 := Lib.hid i5
      have M6 := Lib.hid i6
      have hst : Hid (Op5.upto k ++ Op5.runAt (Op5.first k) (pre ++ [x]) = Op5.upto k ++ Op5.runAt (Op5.first k) pre ++ [(nn, x)]) := Lib.hid (by rw [Op5.runAt_snoc, HNN.out, List.append_assoc])
      have HUz : Hid (W.heap.size + 1 < U.heap.size) := Lib.hid (World.block_lt_of_cell? U ⟨W.heap.size + 1, 0, none⟩ i2)
      have HDo : Hid (∀ o, ¬ Dt (W.heap.size + 1) o) := Lib.hid (fun o h => by have := (HDt.out _ _ h).1; omega)
      have HDw : Hid (∀ o, ¬ Dt w.heap.size o) := Lib.hid (fun o h => by have := (HDt.out _ _ h).1; omega)
      clear hnn i1 i5 i6 hlen
      gi_wp2_with (refine ⟨trivial, ?_⟩; (with_reducible refine (CallsIn.inRound l' (callsIn_wide.2 HFc.out)).mono ?_); rintro e' W' ⟨r, rfl, hp⟩; have hk' : Hid (Keep Dt U W') := Lib.hid (by rcases hp with ⟨_, _, h⟩ | ⟨_, _, h⟩ <;> exact h); have hp' := Lib.hid hp; clear hp; have hblk := hk'.out.block (W.heap.size + 1) HUz.out HDo.out; have q2 := (World.cell?_of_block (w := U) (a := ⟨W.heap.size + 1, 0, none⟩) hblk).trans i2; have q3 := (World.frozen?_of_block (w := U) (a := ⟨W.heap.size + 1, 0, none⟩) hblk).trans i3; clear hblk)
      · have hr : r = false := by
          have h : (!r) = true := by assumption
          simpa using h
        rcases hp'.out with ⟨h, _, _⟩ | ⟨_, hx', hk2⟩
        · rw [hr] at h; cases h
        · refine ⟨hk2.wide (fun k o h => .inl h), rfl, ?_, K5.out.trans hk2, M6.out.keep hk2 (fun K h o e => ?_)⟩
          · rw [hst.out]; exact hx'
          · have h1 := (M6.out.2 K h).1
            have h2 := (HDt.out _ _ e).1
            omega
      · have hr : r = true := by
          have h : (!r) = false := by assumption
          simpa using h
        rcases hp'.out with ⟨_, hx', hk2⟩ | ⟨h, _, _⟩
        · have hb9 : Below w.heap.size W' (W'.setCell ⟨W.heap.size + 1, 0, none⟩ (.int .i64 ((nn : Int) + 1))) := (Below.refl _ _).setCell (p := ⟨W.heap.size + 1, 0, none⟩) (by show w.heap.size ≤ W.heap.size + 1; omega) _
          refine ⟨(hk2.wide (fun k o h => .inl h)).trans (Keep.setCell _ (.inr rfl)), ?_, ?_, by rw [World.frozen?_setCell]; exact q3, ?_, (K5.out.trans hk2).lies (Nat.le_refl _) hb9, (M6.out.keep hk2 (fun K h o e => ?_)).keep (D := fun b o => b = W.heap.size + 1) (Keep.setCell _ rfl) (fun K h o e => ?_)⟩
          · rw [hst.out]
            exact HJ.out _ _ _ hx' hb9
          · rw [World.cell?_setCell_same _ _ _ q2, List.length_append, ← HNN.out]
            simp [Int.add_assoc]
          · rw [World.cell?_setCell_other _ _ _ _ (by intro e; injection e; omega)]
            exact hk2.cells _ _ _ (HDw.out 0) i4
          · have h1 := (M6.out.2 K h).1
            have h2 := (HDt.out _ _ e).1
            omega
          · have h1 := HL.out K h
            omega
        · rw [hr] at h; cases h
    case done =>
      rintro K xs U hKz rfl ⟨i1, i2, i3, i4, i5, i6⟩ hd
      have hnK : K ∉ Ks := fun h => by have h1 := HL.out K h; have h2 := HZ2.out; omega
      have hM3 := Lib.hid (i6.cons (by have h2 := HZ2.out; omega) hd hnK)
      have hKn : Hid (w.heap.size ∉ K :: Ks) := Lib.hid (by
        intro h
        rcases List.mem_cons.1 h with h | h
        · have h2 := HZ2.out; omega
        · exact hn h)
      have j1 := Lib.hid (show J (Op5.upto (k + 1)) U from i1)
      have K5 := Lib.hid i5
      clear i1 i5 i6 hd hnK
      go_wp2
      refine ⟨⟨k + 1, K :: Ks, ⟨by omega, rfl⟩, by omega, j1.out, K5.out, hM3.out, hKn.out, ?_⟩, by simp [intOf]; omega⟩
      exact World.block_lt_of_cell? U ⟨w.heap.size, 0, none⟩ i4
    case stop =>
      rintro K c pre U hKz hpr ⟨rfl, i1, i5, i6⟩ hd
      have hnK : K ∉ Ks := fun h => by have h1 := HL.out K h; have h2 := HZ2.out; omega
      have hM3 := i6.cons (by have h2 := HZ2.out; omega) hd hnK
      gi_wp2
      refine leaves_marks (B := w.heap.size) (fun w => results_none rfl _ _ _) (K :: Ks) U hM3 (fun w' hb => ?_)
      rw [HQ.out]
      refine ⟨⟨_, rfl⟩, .inr ⟨_, ?_, HJx.out _ _ _ i1 hb⟩, i5.lies (Nat.le_refl _) hb⟩
      exact Op5.pre_table k hlt pre hpr
  · obtain rfl : k = 16 := by omega
    go_wp2
    refine leaves_marks (B := w.heap.size) (fun w => results_none rfl _ _ _) Ks W hM (fun w' hb => ?_)
    rw [HQ.out]
    exact ⟨⟨_, rfl⟩, .inl (HJ.out _ _ _ hJk hb), hK.lies (Nat.le_refl _) hb⟩
end Go.Proofs.YtlflmobaegfnaabDoor

/-
  Layer 4, code: the iterator over where heap types stand, its contract.
-/
import Derived.Test.YtlflmobaegfnaaaDoorKdZp
import Derived.Stop.RegionWithIn
namespace Go.Proofs.YtlflmobaegfnaaaDoor
open Go.RowKit Go.Shelf
attribute [local go_sem] Oper.semAt_some
set_option linter.unusedVariables false
set_option linter.unusedSimpArgs false
set_option maxRecDepth 100000

theorem room_any {F : Fence} (hd : F.depth = none) (k : Nat) : F.room k := by simp [Fence.room, hd]
theorem round_in {F : Fence} (hd : F.depth = none) {m m' : Nat} {P : Program} {l l' : Nat} {f : FuncId} {tmps : Array Value} {assign body : Code} {w : World} {R : Ending → World → Prop} (h : RoundIn F m P l f tmps assign body w R) : RoundIn (F.inRound l') m' P l f tmps assign body w R :=
  ⟨h.1, fun c cs _ => h.2 c cs (room_any hd _)⟩
set_option maxHeartbeats 20000000 in
theorem places1_seq (F : Fence) (n : Nat) (h67 : F.fn 67) (h68 : F.fn 68) (h80 : F.fn 85) (hro : F.round = none) (hn : 6 ≤ n) (hd : F.depth = none) (D : Nat → Nat → Prop) (w : World) (Bp Bs n1 c1 n2 c2 n3 c3 n4 c4 : Nat) (A1 A2 A3 A4 : Option Addr) (kd : Addr → Int)
    (hDp : ∀ o, ¬ D Bp o) (hDs : ∀ o, ¬ D Bs o) (hDw : ∀ k o, D k o → k < w.heap.size)
    (x0 : w.cell? ⟨Bp, 0, none⟩ = some (.pointer (some ⟨Bs, 0, none⟩))) (x1 : w.cell? ⟨Bs, 1, none⟩ = some (.slice A1 n1 c1)) (x3 : w.cell? ⟨Bs, 3, none⟩ = some (.slice A2 n2 c2)) (x4 : w.cell? ⟨Bs, 4, none⟩ = some (.slice A3 n3 c3)) (x5 : w.cell? ⟨Bs, 5, none⟩ = some (.slice A4 n4 c4))
    (h1 : 0 < n1 → ∃ b off, A1 = some ⟨b, off, none⟩) (h2 : 0 < n2 → ∃ b off, A2 = some ⟨b, off, none⟩) (h3 : 0 < n3 → ∃ b off, A3 = some ⟨b, off, none⟩) (h4 : 0 < n4 → ∃ b off, A4 = some ⟨b, off, none⟩) (l1 : n1 ≤ 100) (l2 : n2 ≤ 100) (l3 : n3 ≤ 100) (l4 : n4 ≤ 100)
    (hkd : ∀ x ∈ valsAt A2 n2 A3 n3 A4 n4, x.spot = none ∧ w.cell? ⟨x.block, x.off, none⟩ = some (.int .i64 (kd x)) ∧ ¬ D x.block x.off) :
    SeqX F n Tryd.prog 67 #[.pointer (some ⟨Bp, 0, none⟩)] (fun x : At (heapsAt kd A1 n1 (valsAt A2 n2 A3 n3 A4 n4)) => #[.pointer (some x.1)]) D (fun xs => xs.map (·.1) = heapsAt kd A1 n1 (valsAt A2 n2 A3 n3 A4 n4)) (fun xs => xs.map (·.1) <+: heapsAt kd A1 n1 (valsAt A2 n2 A3 n3 A4 n4)) (n1 + (n2 + n3 + n4)) w := by
  intro l J Jx W hW hl1 hl2 hJ hJx hY h0
  have bp : Bp < w.heap.size := World.block_lt_of_cell? w ⟨Bp, 0, none⟩ x0
  have bs : Bs < w.heap.size := World.block_lt_of_cell? w ⟨Bs, 3, none⟩ x3
  obtain ⟨W1, hW1⟩ : ∃ W1, W1 = W.alloc (.cells #[.func (.yield l) #[] #[]] 104) := ⟨_, rfl⟩
  have hb1 : Below W.heap.size W W1 := by rw [hW1]; exact (Below.refl _ _).alloc (Nat.le_refl _) _
  have hbw := hW.trans (hb1.mono hW.size)
  have hz1 : W1.heap.size = W.heap.size + 1 := by rw [hW1]; simp
  have y0 : W1.cell? ⟨W.heap.size, 0, none⟩ = some (.func (.yield l) #[] #[]) := by rw [hW1]; go_simp
  have fx : ∀ W' : World, Keep (fun k o => D k o ∨ k = l) W1 W' → W'.cell? ⟨W.heap.size, 0, none⟩ = some (.func (.yield l) #[] #[]) ∧ W'.cell? ⟨Bp, 0, none⟩ = some (.pointer (some ⟨Bs, 0, none⟩)) ∧ W'.cell? ⟨Bs, 1, none⟩ = some (.slice A1 n1 c1) ∧ W'.cell? ⟨Bs, 3, none⟩ = some (.slice A2 n2 c2) ∧ W'.cell? ⟨Bs, 4, none⟩ = some (.slice A3 n3 c3) ∧ W'.cell? ⟨Bs, 5, none⟩ = some (.slice A4 n4 c4) := fun W' hk => by
    have nt : ¬ (D W.heap.size 0 ∨ W.heap.size = l) := fun e => by
      rcases e with e | e
      · have := hDw _ _ e; have := hW.size; omega
      · omega
    have np : ¬ (D Bp 0 ∨ Bp = l) := fun e => by rcases e with e | e; exact hDp _ e; omega
    have ns : ∀ o, ¬ (D Bs o ∨ Bs = l) := fun o e => by rcases e with e | e; exact hDs _ e; omega
    exact ⟨hk.cells _ _ _ nt y0, hk.cells _ _ _ np ((hbw.cell (p := ⟨Bp, 0, none⟩) bp).trans x0), hk.cells _ _ _ (ns _) ((hbw.cell (p := ⟨Bs, 1, none⟩) bs).trans x1), hk.cells _ _ _ (ns _) ((hbw.cell (p := ⟨Bs, 3, none⟩) bs).trans x3), hk.cells _ _ _ (ns _) ((hbw.cell (p := ⟨Bs, 4, none⟩) bs).trans x4), hk.cells _ _ _ (ns _) ((hbw.cell (p := ⟨Bs, 5, none⟩) bs).trans x5)⟩
  have fk : ∀ W' : World, Keep (fun k o => D k o ∨ k = l) W1 W' → ∀ x ∈ valsAt A2 n2 A3 n3 A4 n4, W'.cell? ⟨x.block, x.off, none⟩ = some (.int .i64 (kd x)) := fun W' hk x hx => by
    obtain ⟨_, e2, e3⟩ := hkd x hx
    have bx := World.block_lt_of_cell? w ⟨x.block, x.off, none⟩ e2
    refine hk.cells _ _ _ (fun e => ?_) ((hbw.cell (p := ⟨x.block, x.off, none⟩) bx).trans e2)
    rcases e with e | e
    · exact e3 e
    · dsimp only at bx; omega
  have FX := Lib.hid fx
  have FK := Lib.hid fk
  have FS := Lib.hid (fun x hx => (hkd x hx).1 : ∀ x ∈ valsAt A2 n2 A3 n3 A4 n4, x.spot = none)
  have HY := Lib.hid hY
  have HJ := Lib.hid hJ
  have HJx := Lib.hid hJx
  have HW1 := Lib.hid hW1
  have hpre : ats A1 2 0 n1 <+: heapsAt kd A1 n1 (valsAt A2 n2 A3 n3 A4 n4) := List.prefix_append _ _
  have HP := Lib.hid hpre
  have hj1 : J [] W1 := hJ _ _ _ h0 hb1
  obtain ⟨q0, qp, q1, -, -, -⟩ := fx W1 (Keep.refl _)
  have xw0 := (hW.cell (p := ⟨Bp, 0, none⟩) bp).trans x0
  have xw1 := (hW.cell (p := ⟨Bs, 1, none⟩) bs).trans x1
  have bpW : Bp < W.heap.size := Nat.lt_of_lt_of_le bp hW.size
  have bsW : Bs < W.heap.size := Nat.lt_of_lt_of_le bs hW.size
  clear x0 x1 x3 x4 x5 fx fk hY hJ hJx hW1 hkd hpre h0
  refine callsIn_of_wp_marks Tryd.func67 rfl h67 ?_ hro
  simp only [Tryd.ntmps67, List.size_toArray, List.length_cons, List.length_nil, Nat.reduceAdd, Nat.reduceSub, Array.replicate_succ, Array.replicate_zero, List.push_toArray, List.append_toArray, List.nil_append, List.cons_append]
  gi_wp2
  rw [← HW1.out]
  clear xw0 xw1
  gi_loopw [3, 10] (fun _ i wr => ∃ (k : Nat) (xs : List (At (heapsAt kd A1 n1 (valsAt A2 n2 A3 n3 A4 n4)))), k ≤ n1 ∧ i = .int .i64 k ∧ xs.map (·.1) = (ats A1 2 0 n1).take k ∧ J xs wr ∧ Keep (fun k o => D k o ∨ k = l) W1 wr) (fun _ i _ => n1 - (intOf i).toNat)
  case atStart => exact ⟨0, [], Nat.zero_le _, rfl, by simp, hj1, Keep.refl W1⟩
  case round =>
    obtain ⟨k, xs, hk, rfl, hxs, hJk, hK⟩ := hrel
    obtain ⟨q0, qp, q1, q3, q4, q5⟩ := FX.out wr hK
    by_cases hlt : k < n1
    · obtain ⟨b, off, rfl⟩ := h1 (by omega)
      obtain ⟨y, hy0⟩ := take_map_at HP.out k hlt b off rfl
      have hxl : xs.length = k := by have e := congrArg List.length hxs; simp [ats_len] at e; omega
      have hxs' : (xs ++ [y]).map (·.1) = (ats (some ⟨b, off, none⟩) 2 0 n1).take (k + 1) := by
        rw [List.map_append, hxs, List.take_succ_eq_append_getElem (by rw [ats_len]; exact hlt), ats_get]
        simp [hy0]
      have hxp : Hid ((xs ++ [y]).map (·.1) <+: heapsAt kd (some ⟨b, off, none⟩) n1 (valsAt A2 n2 A3 n3 A4 n4)) := Lib.hid (by rw [hxs']; exact (List.take_prefix _ _).trans HP.out)
      have HK2 : Hid (Keep (fun k o => D k o ∨ k = l) W1 wr.drew) := Lib.hid (hK.trans (Keep.of_below (Below.refl _ _).drew))
      obtain ⟨fn, tmps, assign, body, hy, hR⟩ := yield_bool (yield_at (HY.out xs y wr.drew (HJ.out _ _ _ hJk (Below.refl _ _).drew) (by omega)) hy0)
      have i0 : (0 : Int) ≤ k := by omega
      have i1 : (k : Int) < n1 := by omega
      gi_wp2
      gi_region_with (refine hR.mono ?_; rintro e W' ⟨r, rfl, hp⟩; have hp' := Lib.hid hp; clear hp)
      all_goals
        rcases hp'.out with ⟨rfl, hJ', hk'⟩ | ⟨rfl, hJx', -⟩
        · gi_wp2
          go_roundw
          case rel => exact ⟨k + 1, xs ++ [y], by omega, by go_num, hxs', hJ', HK2.out.trans hk'⟩
          case measure => simp [intOf]; omega
        · gi_wp2
          exact ⟨_, results_none rfl _ _ _, ⟨_, rfl⟩, .inr ⟨_, hxp.out, hJx'⟩⟩
    · have hkn : n1 = k := by omega
      subst hkn
      have hxl : xs.length = n1 := by have e := congrArg List.length hxs; simp [ats_len] at e; omega
      clear hlt hk
      gi_wp2_with (gi_at_call 68; refine (vals_in F _ h68 hro ⟨Bs, 2, none⟩ _).mono ?_; rintro e w2 ⟨rfl, t, rfl⟩)
      have hwz : W1.heap.size ≤ wr.heap.size := hK.size
      have hvc : (wr.alloc (.cells #[.pointer (some ⟨Bs, 2, none⟩)] t)).cell? ⟨wr.heap.size, 0, none⟩ = some (.pointer (some ⟨Bs, 2, none⟩)) := by go_simp
      have hal : Below wr.heap.size wr (wr.alloc (.cells #[.pointer (some ⟨Bs, 2, none⟩)] t)) := (Below.refl _ _).alloc (Nat.le_refl _) _
      have bsr : Bs < wr.heap.size := by have := hbw.size; omega
      have v3 := (hal.cell (p := ⟨Bs, 3, none⟩) bsr).trans q3
      have v4 := (hal.cell (p := ⟨Bs, 4, none⟩) bsr).trans q4
      have v5 := (hal.cell (p := ⟨Bs, 5, none⟩) bsr).trans q5
      have hd1 : ∀ o, ¬ (D wr.heap.size o ∨ wr.heap.size = l) := fun o e => by
        rcases e with e | e
        · have := hDw _ _ e; have := hbw.size; omega
        · omega
      have hd2 : ∀ o, ¬ (D Bs o ∨ Bs = l) := fun o e => by
        rcases e with e | e
        · exact hDs _ e
        · omega
      have hd3 : ∀ k o, (D k o ∨ k = l) → k < (wr.alloc (.cells #[.pointer (some ⟨Bs, 2, none⟩)] t)).heap.size := fun k o e => by
        rw [World.size_alloc]
        rcases e with e | e
        · have := hDw _ _ e; have := hbw.size; omega
        · omega
      refine wpIn_range_x hro (by omega) (gf := 85) (lb := #[.pointer (some ⟨wr.heap.size, 0, none⟩)]) rfl h80 (enters_of Tryd.func85 (by kernel_rfl) rfl)
        (vals1_seq F _ h80 hro (by omega) (fun k o => D k o ∨ k = l) (wr.alloc (.cells #[.pointer (some ⟨Bs, 2, none⟩)] t)) wr.heap.size Bs n2 c2 n3 c3 n4 c4 A2 A3 A4 hd1
          hd2 hvc v3 v4 v5 h2 h3 h4 l2 l3 l4)
        hd3 (Below.refl _ _) (fun _ => rfl)
        (fun pre U => (∃ ys : List (At (heapsAt kd A1 n1 (valsAt A2 n2 A3 n3 A4 n4))), ys.map (·.1) = ats A1 2 0 n1 ++ ((pre.map (·.1)).filter fun x => decide (kd x = 3)).map shiftA ∧ J ys U) ∧ Keep (fun k o => D k o ∨ k = l) W1 U)
        (fun c pre U => c = .ret ∧ ∃ ys : List (At (heapsAt kd A1 n1 (valsAt A2 n2 A3 n3 A4 n4))), ys.map (·.1) = ats A1 2 0 n1 ++ ((pre.map (·.1)).filter fun x => decide (kd x = 3)).map shiftA ∧ Jx ys U)
        ?hI ?hIx ?h0 ?a₁ ?assign ?body ?done ?stop
      case assign =>
        intro l' x U K hK'
        gi_wp2
        exact hK'
      case hI =>
        rintro pre A C ⟨⟨ys, e, hj⟩, hk⟩ hb
        rw [World.size_alloc] at hb
        exact ⟨⟨ys, e, HJ.out _ _ _ hj (hb.mono (by omega))⟩, hk.lies (by omega) hb⟩
      case hIx =>
        rintro c pre A C ⟨rfl, ys, e, hj⟩ hb
        rw [World.size_alloc] at hb
        exact ⟨rfl, ys, e, HJx.out _ _ _ hj (hb.mono (by omega))⟩
      case h0 =>
        refine ⟨⟨xs, ?_, HJ.out _ _ _ hJk (hal.mono (by omega))⟩, hK.trans (Keep.of_below hal)⟩
        rw [hxs, List.take_of_length_le (by rw [ats_len]; exact Nat.le_refl _)]
        simp
      case body =>
        rintro l' pre ⟨⟨xb, xo, xsp⟩, hx⟩ U ⟨⟨ys, e, hj⟩, hk⟩ hlen hz
        obtain rfl : xsp = none := FS.out _ hx
        have zk := FK.out U hk _ hx
        dsimp only at zk
        obtain ⟨zt, -, -, -, -, -⟩ := FX.out U hk
        have hkU : Hid (Keep (fun k o => D k o ∨ k = l) W1 U.drew) := Lib.hid (hk.trans (Keep.of_below (Below.refl _ _).drew))
        have hjU : Hid (J ys U.drew) := Lib.hid (HJ.out _ _ _ hj (Below.refl _ _).drew)
        by_cases h3k : kd ⟨xb, xo, none⟩ = 3
        · rw [h3k] at zk
          have hmem : shiftA ⟨xb, xo, none⟩ ∈ heapsAt kd A1 n1 (valsAt A2 n2 A3 n3 A4 n4) := List.mem_append_right _ (List.mem_map.2 ⟨_, List.mem_filter.2 ⟨hx, by simp [h3k]⟩, rfl⟩)
          have hyl : ys.length < n1 + (n2 + n3 + n4) := by
            have e2 := congrArg List.length e
            simp only [List.length_map, List.length_append, ats_len] at e2
            have e3 := List.length_filter_le (fun x => decide (kd x = 3)) (pre.map (·.1))
            rw [List.length_map] at e3
            omega
          obtain ⟨fn, tmps, assign, body, hy, hR0⟩ := yield_bool (yield_at (HY.out ys ⟨_, hmem⟩ U.drew hjU.out hyl) (y := ⟨xb, xo + 2, none⟩) rfl)
          have he' : (ys ++ [(⟨_, hmem⟩ : At (heapsAt kd A1 n1 (valsAt A2 n2 A3 n3 A4 n4)))]).map (·.1) = ats A1 2 0 n1 ++ (((pre ++ [(⟨⟨xb, xo, none⟩, hx⟩ : At (valsAt A2 n2 A3 n3 A4 n4))]).map (·.1)).filter fun x => decide (kd x = 3)).map shiftA := by
            rw [List.map_append, e, List.map_append, List.filter_append, List.map_append]
            simp [h3k]
          have he2 := Lib.hid he'
          clear he'
          have hR := fun m' => round_in (l' := l') (m' := m') hd hR0
          gi_wp2
          gi_region_with (refine (hR _).mono ?_; rintro e' W' ⟨r, rfl, hp⟩; have hp' := Lib.hid hp; clear hp)
          all_goals
            rcases hp'.out with ⟨rfl, hJ', hk'⟩ | ⟨rfl, hJx', hk'⟩
            · gi_wp2
              exact ⟨(Keep.of_below (Below.refl _ _).drew).trans hk', ⟨_, he2.out, hJ'⟩, hkU.out.trans hk'⟩
            · gi_wp2
              exact ⟨(Keep.of_below (Below.refl _ _).drew).trans hk', rfl, _, he2.out, hJx'⟩
        · have h3b : (kd ⟨xb, xo, none⟩ == 3) = false := by simpa using h3k
          gi_wp2
          gi_region_with (refine ⟨fun _ h => (by cases h), ?_⟩)
          all_goals gi_wp2
          all_goals exact ⟨Keep.of_below (Below.refl _ _).drew, ⟨ys, by simp [e, h3k], hjU.out⟩, hkU.out⟩
      case done =>
        rintro K xs2 U hKz rfl ⟨⟨ys, e, hj⟩, hk⟩ hd2
        gi_wp2
        have hb9 : Below W.heap.size U (U.putObj K (.deferred none)) := ⟨rfl, rfl, rfl, by simp, fun k hk => World.putObj_heap_other (by rw [World.size_alloc] at hKz; omega)⟩
        refine ⟨by simp, .inl ⟨_, _, rfl, run_takeDeferred hd2, ?_⟩⟩
        refine ⟨_, results_none rfl _ _ _, ⟨_, rfl⟩, .inl ⟨ys, ?_, HJ.out _ _ _ hj hb9⟩⟩
        rw [e, List.attach_map_subtype_val]
        rfl
      case stop =>
        rintro K c pre U hKz hpr ⟨rfl, ys, e, hj⟩ hd2
        gi_wp2
        have hb9 : Below W.heap.size U (U.putObj K (.deferred none)) := ⟨rfl, rfl, rfl, by simp, fun k hk => World.putObj_heap_other (by rw [World.size_alloc] at hKz; omega)⟩
        refine ⟨by simp, .inl ⟨_, _, rfl, run_takeDeferred hd2, ?_⟩⟩
        refine ⟨_, results_none rfl _ _ _, ⟨_, rfl⟩, .inr ⟨ys, ?_, HJx.out _ _ _ hj hb9⟩⟩
        rw [e]
        have h5 := (hpr.map (·.1))
        rw [List.attach_map_subtype_val] at h5
        exact List.prefix_append_right_inj _ |>.2 ((h5.filter _).map _)
end Go.Proofs.YtlflmobaegfnaaaDoor

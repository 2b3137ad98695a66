/-
  Layer 4, code: the iterator over all heap types of a type, its contract.
-/
import Derived.Test.YtlflmobaegfnaaaDoorKdZq
import Derived.Test.YtlflmobaegfnaaaDoorKdXa
namespace Go.Proofs.YtlflmobaegfnaaaDoor
open Go.RowKit Go.Shelf
attribute [local go_sem] Oper.semAt_some
set_option linter.unusedVariables false
set_option linter.unusedSimpArgs false
set_option maxRecDepth 100000

/-- A type in block Bo whose lists lie in rows of their own, from block B on. -/
structure BoxS (B : Nat) (w : World) (Bo : Nat) (s : Sb) (v1 v2 v3 v4 : Value) : Prop where
  c0 : w.cell? ⟨Bo, 0, none⟩ = some (.bool s.fin)
  c1 : w.cell? ⟨Bo, 1, none⟩ = some v1
  c2 : w.cell? ⟨Bo, 2, none⟩ = some (.int .i64 s.c.k)
  c3 : w.cell? ⟨Bo, 3, none⟩ = some v2
  c4 : w.cell? ⟨Bo, 4, none⟩ = some v3
  c5 : w.cell? ⟨Bo, 5, none⟩ = some v4
  o1 : OwnG 39 2 Hp.cs B w v1 s.sups
  o2 : OwnG 46 4 Vl.cs B w v2 s.c.ps
  o3 : OwnG 46 4 Vl.cs B w v3 s.c.rs
  o4 : OwnG 50 6 Fd.cs B w v4 s.c.fs
  a12 : Ap v1 v2
  a13 : Ap v1 v3
  a14 : Ap v1 v4
  a23 : Ap v2 v3
  a24 : Ap v2 v4
  a34 : Ap v3 v4
  lo : B ≤ Bo
theorem BoxS.lt {B Bo : Nat} {w : World} {s : Sb} {v1 v2 v3 v4 : Value} (h : BoxS B w Bo s v1 v2 v3 v4) : Bo < w.heap.size := World.block_lt_of_cell? w ⟨Bo, 0, none⟩ h.c0
theorem BoxS.below {B Bo : Nat} {w w' : World} {s : Sb} {v1 v2 v3 v4 : Value} (h : BoxS B w Bo s v1 v2 v3 v4) (hb : Below w.heap.size w w') : BoxS B w' Bo s v1 v2 v3 v4 :=
  ⟨(hb.cell (p := ⟨Bo, 0, none⟩) h.lt).trans h.c0, (hb.cell (p := ⟨Bo, 1, none⟩) h.lt).trans h.c1, (hb.cell (p := ⟨Bo, 2, none⟩) h.lt).trans h.c2, (hb.cell (p := ⟨Bo, 3, none⟩) h.lt).trans h.c3, (hb.cell (p := ⟨Bo, 4, none⟩) h.lt).trans h.c4, (hb.cell (p := ⟨Bo, 5, none⟩) h.lt).trans h.c5,
    h.o1.below hb, h.o2.below hb, h.o3.below hb, h.o4.below hb, h.a12, h.a13, h.a14, h.a23, h.a24, h.a34, h.lo⟩
theorem own_at {α : Type} {e ts sz B n c : Nat} {cs : α → List Value} {w : World} {A : Option Addr} {l : List α} (hE : Elem e ts sz cs) (h : OwnG e sz cs B w (.slice A n c) l) :
    n = l.length ∧ Seg sz cs w w.heap.size A c l ∧ (0 < n → ∃ b off, A = some ⟨b, off, none⟩ ∧ B ≤ b) := by
  obtain ⟨A', c', e', hs⟩ := h.seg hE
  injection e' with e1 e2 e3
  subst e1 e2 e3
  refine ⟨rfl, hs, fun h0 => ?_⟩
  obtain ⟨b, off, rfl, _, _⟩ := hs.2.2 h0
  exact ⟨b, off, rfl, (h.lt b rfl).1⟩

theorem Keep.sub {D : Nat → Nat → Prop} {w w' : World} {b o : Nat} {v : Value} (h : Keep D w w') (hn : ¬ D b o) (hc : w.cell? ⟨b, o, none⟩ = some v) : w'.cell? ⟨b, o, none⟩ = some v := h.cells b o v hn hc

set_option maxHeartbeats 20000000 in
theorem heaps1_seq (F : Fence) (n : Nat) (h43 : F.fn 43) (h44 : F.fn 44) (h67 : F.fn 67) (h68 : F.fn 68) (h80 : F.fn 85) (hro : F.round = none) (hn : 8 ≤ n) (hd : F.depth = none)
    (D : Nat → Nat → Prop) (w : World) (B Bo n1 c1 n2 c2 n3 c3 n4 c4 : Nat) (A1 A2 A3 A4 : Option Addr) (s : Sb) (hS : Kd.Small s) (hb : BoxS B w Bo s (.slice A1 n1 c1) (.slice A2 n2 c2) (.slice A3 n3 c3) (.slice A4 n4 c4)) (hD : ∀ k o, D k o → k < B) :
    SeqX F n Tryd.prog 43 #[.pointer (some ⟨Bo, 0, none⟩)] (fun h : Hp => #[h.val]) D (· = Kd.heaps s) (· <+: Kd.heaps s) (n1 + (n2 + n3 + n4)) w := by
  intro l J Jx W hW hl1 hl2 hJ hJx hY h0
  obtain ⟨e1, g1, p1⟩ := own_at elemH hb.o1
  obtain ⟨e2, g2, p2⟩ := own_at elemV hb.o2
  obtain ⟨e3, g3, p3⟩ := own_at elemV hb.o3
  obtain ⟨e4, g4, p4⟩ := own_at elemF hb.o4
  have bo := hb.lt
  have lo := hb.lo
  obtain ⟨W1, hW1⟩ : ∃ W1, W1 = W.alloc (.cells #[.func (.yield l) #[] #[]] 71) := ⟨_, rfl⟩
  have hb1 : Below W.heap.size W W1 := by rw [hW1]; exact (Below.refl _ _).alloc (Nat.le_refl _) _
  have hz1 : W1.heap.size = W.heap.size + 1 := by rw [hW1]; simp
  obtain ⟨W2, hW2⟩ : ∃ W2, W2 = fun t => W1.alloc (.cells #[.pointer (some ⟨Bo, 0, none⟩)] t) := ⟨_, rfl⟩
  have hb2 : ∀ t, Below W1.heap.size W1 (W2 t) := fun t => by rw [hW2]; exact (Below.refl _ _).alloc (Nat.le_refl _) _
  have hz2 : ∀ t, (W2 t).heap.size = W.heap.size + 2 := fun t => by rw [hW2]; simp [hz1]
  have hbw : ∀ t, Below w.heap.size w (W2 t) := fun t => (hW.trans (hb1.mono hW.size)).trans ((hb2 t).mono (by have := hW.size; omega))
  have y0 : W1.cell? ⟨W.heap.size, 0, none⟩ = some (.func (.yield l) #[] #[]) := by rw [hW1]; go_simp
  have q0 : ∀ t, (W2 t).cell? ⟨W.heap.size + 1, 0, none⟩ = some (.pointer (some ⟨Bo, 0, none⟩)) := fun t => by rw [hW2, ← hz1]; go_simp
  have hb' : ∀ t, BoxS B (W2 t) Bo s (.slice A1 n1 c1) (.slice A2 n2 c2) (.slice A3 n3 c3) (.slice A4 n4 c4) := fun t => hb.below (hbw t)
  have HA : ∀ t, Al (HpAt (W2 t)) (heapsAt (kdW (W2 t)) A1 n1 (valsAt A2 n2 A3 n3 A4 n4)) (Kd.heaps s) := fun t => by
    have G1 := (own_at elemH (hb' t).o1).2.1
    have G2 := (own_at elemV (hb' t).o2).2.1
    have G3 := (own_at elemV (hb' t).o3).2.1
    have G4 := (own_at elemF (hb' t).o4).2.1
    rw [e1, e2, e3, e4]
    exact heaps_al G1 G2 G3 G4
  have HV : ∀ t, Al (VlAt (W2 t)) (valsAt A2 n2 A3 n3 A4 n4) (Kd.allV s.c) := fun t => by
    have G2 := (own_at elemV (hb' t).o2).2.1
    have G3 := (own_at elemV (hb' t).o3).2.1
    have G4 := (own_at elemF (hb' t).o4).2.1
    rw [e2, e3, e4]
    exact vals_al G2 G3 G4
  have HB2 : ∀ x ∈ valsAt A2 n2 A3 n3 A4 n4, B ≤ x.block := fun x hx => by
    unfold valsAt at hx
    rcases List.mem_append.1 hx with hx | hx
    · rcases List.mem_append.1 hx with hx | hx
      · exact ats_block p2 hx
      · exact ats_block p3 hx
    · exact ats_block p4 hx
  have HB1 : ∀ kd, ∀ y ∈ heapsAt kd A1 n1 (valsAt A2 n2 A3 n3 A4 n4), B ≤ y.block := fun kd y hy => by
    rcases List.mem_append.1 hy with hy | hy
    · exact ats_block p1 hy
    · obtain ⟨x, hx, rfl⟩ := List.mem_map.1 hy
      exact HB2 x (List.mem_filter.1 hx).1
  -- whatever stands below w's size and above B stays
  have stay : ∀ t U, Keep (fun k o => D k o ∨ k = l) W1 U → ∀ b o v, B ≤ b → b < w.heap.size → (W2 t).cell? ⟨b, o, none⟩ = some v → U.cell? ⟨b, o, none⟩ = some v := fun t U hk b o v h1 h2 hc => by
    refine hk.cells b o v (fun e => ?_) ?_
    · rcases e with e | e
      · have := hD _ _ e; omega
      · omega
    · rw [← hc]
      exact ((hb2 t).cell (p := ⟨b, o, none⟩) (by have := hW.size; dsimp only; omega)).symm
  have ltW : ∀ t, ∀ y ∈ heapsAt (kdW (W2 t)) A1 n1 (valsAt A2 n2 A3 n3 A4 n4), ∃ h, HpAt (W2 t) y h ∧ y.block < w.heap.size := fun t y hy => by
    obtain ⟨h, hh⟩ := (HA t).mem y hy
    refine ⟨h, hh, ?_⟩
    rcases List.mem_append.1 hy with hy | hy
    · have h0 : 0 < n1 := by
        have := List.length_pos_of_mem hy
        rwa [ats_len] at this
      obtain ⟨b, off, rfl, hlt, _⟩ := g1.2.2 (by omega)
      rw [ats_mem hy]; exact hlt
    · obtain ⟨x, hx, rfl⟩ := List.mem_map.1 hy
      have hx := (List.mem_filter.1 hx).1
      unfold valsAt at hx
      rcases List.mem_append.1 hx with hx | hx
      · rcases List.mem_append.1 hx with hx | hx
        · have h0 : 0 < n2 := by
            have := List.length_pos_of_mem hx
            rwa [ats_len] at this
          obtain ⟨b, off, rfl, hlt, _⟩ := g2.2.2 (by omega)
          show x.block < _
          rw [ats_mem hx]; exact hlt
        · have h0 : 0 < n3 := by
            have := List.length_pos_of_mem hx
            rwa [ats_len] at this
          obtain ⟨b, off, rfl, hlt, _⟩ := g3.2.2 (by omega)
          show x.block < _
          rw [ats_mem hx]; exact hlt
      · have h0 : 0 < n4 := by
          have := List.length_pos_of_mem hx
          rwa [ats_len] at this
        obtain ⟨b, off, rfl, hlt, _⟩ := g4.2.2 (by omega)
        show x.block < _
        rw [ats_mem hx]; exact hlt
  have q1 : 0 < n1 → ∃ b off, A1 = some ⟨b, off, none⟩ := fun h => by obtain ⟨b, off, e, _⟩ := p1 h; exact ⟨b, off, e⟩
  have q2 : 0 < n2 → ∃ b off, A2 = some ⟨b, off, none⟩ := fun h => by obtain ⟨b, off, e, _⟩ := p2 h; exact ⟨b, off, e⟩
  have q3 : 0 < n3 → ∃ b off, A3 = some ⟨b, off, none⟩ := fun h => by obtain ⟨b, off, e, _⟩ := p3 h; exact ⟨b, off, e⟩
  have q4 : 0 < n4 → ∃ b off, A4 = some ⟨b, off, none⟩ := fun h => by obtain ⟨b, off, e, _⟩ := p4 h; exact ⟨b, off, e⟩
  have hkd : ∀ t, ∀ x ∈ valsAt A2 n2 A3 n3 A4 n4, x.spot = none ∧ (W2 t).cell? ⟨x.block, x.off, none⟩ = some (.int .i64 (kdW (W2 t) x)) ∧ ¬ (D x.block x.off ∨ x.block = l) := fun t x hx => by
    obtain ⟨v, hv⟩ := (HV t).mem x hx
    refine ⟨hv.1, by rw [hv.kd]; exact hv.2.1, fun e => ?_⟩
    have hlo := HB2 x hx
    rcases e with e | e
    · have := hD _ _ e; omega
    · have : x.block < w.heap.size := by
        unfold valsAt at hx
        rcases List.mem_append.1 hx with hx | hx
        · rcases List.mem_append.1 hx with hx | hx
          · have h0 : 0 < n2 := by
              have := List.length_pos_of_mem hx
              rwa [ats_len] at this
            obtain ⟨b, off, rfl, hlt, _⟩ := g2.2.2 (by omega)
            rw [ats_mem hx]; exact hlt
          · have h0 : 0 < n3 := by
              have := List.length_pos_of_mem hx
              rwa [ats_len] at this
            obtain ⟨b, off, rfl, hlt, _⟩ := g3.2.2 (by omega)
            rw [ats_mem hx]; exact hlt
        · have h0 : 0 < n4 := by
            have := List.length_pos_of_mem hx
            rwa [ats_len] at this
          obtain ⟨b, off, rfl, hlt, _⟩ := g4.2.2 (by omega)
          rw [ats_mem hx]; exact hlt
      omega
  have L1 : n1 ≤ 100 := by rw [e1]; exact hS.a
  have L2 : n2 ≤ 100 := by rw [e2]; exact hS.p
  have L3 : n3 ≤ 100 := by rw [e3]; exact hS.r
  have L4 : n4 ≤ 100 := by rw [e4]; exact hS.f
  have HYh := Lib.hid hY
  have HJ := Lib.hid hJ
  have HJx := Lib.hid hJx
  have HW1 := Lib.hid hW1
  have HW2 := Lib.hid hW2
  have hj1 : ∀ t, J [] (W2 t) := fun t => hJ _ _ _ h0 (hb1.trans ((hb2 t).mono (by omega)))
  have HSt := Lib.hid stay
  have HLt := Lib.hid ltW
  have HHA := Lib.hid HA
  have HKd := Lib.hid hkd
  have HB1' := Lib.hid HB1
  have Y0 := Lib.hid y0
  have Q0 := Lib.hid q0
  have HBx := Lib.hid hb'
  have HZ2 := Lib.hid hz2
  have Hb2 := Lib.hid hb2
  have HS' := Lib.hid hS
  clear hY hJ hJx hW1 hW2 h0 stay ltW HA HV hkd HB1 HB2 y0 q0 hb hb' g1 g2 g3 g4 e1 e2 e3 e4 hz2 hb2 hbw hS p1 p2 p3 p4
  refine callsIn_of_wp_marks Tryd.func43 rfl h43 ?_ hro
  simp only [Tryd.ntmps43, List.size_toArray, List.length_cons, List.length_nil, Nat.reduceAdd, Nat.reduceSub, Array.replicate_succ, Array.replicate_zero, List.push_toArray, List.append_toArray, List.nil_append, List.cons_append]
  gi_wp2
  rw [← HW1.out]
  gi_wp2_with (gi_at_call 44; refine (placesF_in F _ h44 hro ⟨Bo, 0, none⟩ _).mono ?_; rintro e w2 ⟨rfl, t, rfl⟩)
  have ew : W1.alloc (.cells #[.pointer (some ⟨Bo, 0, none⟩)] t) = W2 t := by rw [HW2.out]
  rw [ew]
  clear ew
  have hd2 : ∀ k o, (D k o ∨ k = l) → k < (W2 t).heap.size := fun k o e => by
    rw [HZ2.out t]
    rcases e with e | e
    · have := hD _ _ e; have := hW.size; omega
    · omega
  have hDp : ∀ o, ¬ (D (W.heap.size + 1) o ∨ W.heap.size + 1 = l) := fun o e => by
    rcases e with e | e
    · have := hD _ _ e; have := hW.size; omega
    · omega
  have hDb : ∀ o, ¬ (D Bo o ∨ Bo = l) := fun o e => by
    rcases e with e | e
    · have := hD _ _ e; omega
    · omega
  refine wpIn_range_x hro (by omega) (gf := 67) (lb := #[.pointer (some ⟨W.heap.size + 1, 0, none⟩)]) rfl h67 (enters_of Tryd.func67 (by kernel_rfl) rfl)
    (places1_seq F _ h67 h68 h80 hro (by omega) hd (fun k o => D k o ∨ k = l) (W2 t) (W.heap.size + 1) Bo n1 c1 n2 c2 n3 c3 n4 c4 A1 A2 A3 A4 (kdW (W2 t)) hDp hDb hd2
      (Q0.out t) (HBx.out t).c1 (HBx.out t).c3 (HBx.out t).c4 (HBx.out t).c5 q1 q2 q3 q4 L1 L2 L3 L4 (HKd.out t))
    hd2 (Below.refl _ _) (fun _ => rfl)
    (fun pre U => (∃ hs : List Hp, Al (HpAt (W2 t)) (pre.map (·.1)) hs ∧ J hs U) ∧ Keep (fun k o => D k o ∨ k = l) W1 U)
    (fun c pre U => c = .ret ∧ ∃ hs : List Hp, Al (HpAt (W2 t)) (pre.map (·.1)) hs ∧ Jx hs U)
    ?hI ?hIx ?h0 ?a₁ ?assign ?body ?done ?stop
  case assign =>
    intro l' x U K hK'
    gi_wp2
    exact hK'
  case hI =>
    rintro pre A C ⟨⟨ys, e, hj⟩, hk⟩ hb
    rw [HZ2.out t] at hb
    exact ⟨⟨ys, e, HJ.out _ _ _ hj (hb.mono (by omega))⟩, hk.lies (by omega) hb⟩
  case hIx =>
    rintro c pre A C ⟨rfl, ys, e, hj⟩ hb
    rw [HZ2.out t] at hb
    exact ⟨rfl, ys, e, HJx.out _ _ _ hj (hb.mono (by omega))⟩
  case h0 => exact ⟨⟨[], trivial, hj1 t⟩, Keep.of_below (Hb2.out t)⟩
  case body =>
    rintro l' pre ⟨⟨xb, xo, xsp⟩, hx⟩ U ⟨⟨hs, e, hj⟩, hk⟩ hlen hz
    obtain ⟨h, hh, hlt⟩ := HLt.out t _ hx
    obtain rfl : xsp = none := hh.1
    have hlo := HB1'.out _ _ hx
    have zk := HSt.out t U hk _ _ _ hlo hlt hh.2.1
    have zn := HSt.out t U hk _ _ _ hlo hlt hh.2.2
    dsimp only at zk zn
    have zy : U.cell? ⟨W.heap.size, 0, none⟩ = some (.func (.yield l) #[] #[]) := hk.cells _ _ _ (fun e => by
      rcases e with e | e
      · have := hD _ _ e; have := hW.size; omega
      · omega) Y0.out
    have hjU : Hid (J hs U.drew) := Lib.hid (HJ.out _ _ _ hj (Below.refl _ _).drew)
    have hln : hs.length < n1 + (n2 + n3 + n4) := by
      have := e.len
      rw [List.length_map] at this
      omega
    obtain ⟨fn, tmps, assign, body, hy, hR0⟩ := yield_bool (HYh.out hs h U.drew hjU.out hln)
    have he' : Hid (Al (HpAt (W2 t)) ((pre ++ [(⟨⟨xb, xo, none⟩, hx⟩ : At (heapsAt (kdW (W2 t)) A1 n1 (valsAt A2 n2 A3 n3 A4 n4)))]).map (·.1)) (hs ++ [h])) := Lib.hid (by
      rw [List.map_append]
      exact e.append ⟨hh, trivial⟩)
    have hkU : Hid (Keep (fun k o => D k o ∨ k = l) W1 U.drew) := Lib.hid (hk.trans (Keep.of_below (Below.refl _ _).drew))
    have hR := fun m' => round_in (l' := l') (m' := m') hd hR0
    clear e hj hlen hln hlo hlt hh hk
    gi_wp2
    gi_region_with (refine (hR _).mono ?_; rintro e' W' ⟨r, rfl, hp⟩; have hp' := Lib.hid hp; clear hp)
    all_goals
      rcases hp'.out with ⟨rfl, hJ', hk'⟩ | ⟨rfl, hJx', hk'⟩
      · gi_wp2
        exact ⟨(Keep.of_below (Below.refl _ _).drew).trans hk', ⟨_, he'.out, hJ'⟩, hkU.out.trans hk'⟩
      · gi_wp2
        exact ⟨(Keep.of_below (Below.refl _ _).drew).trans hk', rfl, _, he'.out, hJx'⟩
  case done =>
    rintro K xs2 U hKz hS2 ⟨⟨hs, e, hj⟩, hk⟩ hd3
    gi_wp2
    have hb9 : Below W.heap.size U (U.putObj K (.deferred none)) := ⟨rfl, rfl, rfl, by simp, fun k hk => World.putObj_heap_other (by rw [HZ2.out t] at hKz; omega)⟩
    refine ⟨by simp, .inl ⟨_, _, rfl, run_takeDeferred hd3, ?_⟩⟩
    refine ⟨_, results_none rfl _ _ _, ⟨_, rfl⟩, .inl ⟨hs, ?_, HJ.out _ _ _ hj hb9⟩⟩
    rw [hS2] at e
    exact Al.same HpAt.same e (HHA.out t)
  case stop =>
    rintro K c pre U hKz hpr ⟨rfl, hs, e, hj⟩ hd3
    gi_wp2
    have hb9 : Below W.heap.size U (U.putObj K (.deferred none)) := ⟨rfl, rfl, rfl, by simp, fun k hk => World.putObj_heap_other (by rw [HZ2.out t] at hKz; omega)⟩
    refine ⟨by simp, .inl ⟨_, _, rfl, run_takeDeferred hd3, ?_⟩⟩
    refine ⟨_, results_none rfl _ _ _, ⟨_, rfl⟩, .inr ⟨hs, ?_, HJx.out _ _ _ hj hb9⟩⟩
    rw [Al.same HpAt.same e ((HHA.out t).pre hpr)]
    exact List.take_prefix _ _
end Go.Proofs.YtlflmobaegfnaaaDoor

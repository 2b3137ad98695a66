/-
  Texts of this claim, one behind the other: part 8.
-/
import Derived.Deep.Slices
import Derived.ChangeSame
import Derived.OpenShut
import Derived.Test.YtkdhjejchdcipaaDoorMgTbinCut7
/-
  Layer 6, code: a declared type's bytes.
-/
namespace Go.Proofs.YtkdhjejchdcipaaDoor
open Go.RowKit
set_option linter.unusedVariables false
set_option linter.unusedSimpArgs false
set_option maxRecDepth 100000

theorem Tb.putComp_lt (c : Cp) : ∀ x ∈ Tb.putComp c, x < 256 := by
  unfold Tb.putComp
  split
  · intro x hx
    rcases List.mem_cons.1 hx with rfl | hx
    · omega
    · rcases List.mem_append.1 hx with hx | hx <;> exact Tb.putList_lt _ Tb.putVal_lt _ x hx
  · split
    · intro x hx
      rcases List.mem_cons.1 hx with rfl | hx
      · omega
      · exact Tb.putList_lt _ Tb.putField_lt _ x hx
    · intro x hx
      rcases List.mem_cons.1 hx with rfl | hx
      · omega
      · exact Tb.putField_lt _ x hx
theorem Tb.putComp_len {c : Cp} (hS : SmallC c) (hp : Kd.pComp c = true) : (Tb.putComp c).length ≤ 240021 := by
  unfold Kd.pComp at hp
  unfold Tb.putComp
  split
  · rename_i h1
    rw [if_pos h1] at hp
    simp only [Bool.and_eq_true, List.all_eq_true] at hp
    have h2 := Tb.putList_len Tb.putVal 12 c.ps hS.p fun x hx => Nat.le_trans (Tb.putVal_len11 (hp.1 x hx)) (by omega)
    have h3 := Tb.putList_len Tb.putVal 12 c.rs hS.r fun x hx => Nat.le_trans (Tb.putVal_len11 (hp.2.1 x hx)) (by omega)
    rw [List.length_cons, List.length_append]
    omega
  · rename_i h1
    rw [if_neg h1] at hp
    split
    · rename_i h2
      rw [if_pos h2] at hp
      simp only [Bool.and_eq_true, List.all_eq_true] at hp
      have h3 := Tb.putList_len Tb.putField 12 c.fs hS.f fun x hx => Tb.putField_len (hp.2 x hx)
      rw [List.length_cons]
      omega
    · rename_i h2
      rw [if_neg h2] at hp
      split at hp
      · simp only [Bool.and_eq_true, List.all_eq_true, decide_eq_true_eq] at hp
        obtain ⟨f, hf⟩ : ∃ f, c.fs = [f] := by
          match h : c.fs, hp.2.1 with
          | [f], _ => exact ⟨f, rfl⟩
        rw [hf]
        have := Tb.putField_len (hp.2.2 f (by rw [hf]; simp))
        rw [List.length_cons]
        simp only [List.headD_cons]
        omega
      · cases hp
set_option maxHeartbeats 4000000 in
theorem putSub_open (s : Sb) (hfin : s.fin = false) (v : Value) (w : World) (hT : Tab6 w) (h : IsSub w w.heap.size v s) (hS : Kd.Small s) (hp : Kd.pSub s = true) : Calls Tryd.prog 96 #[v] w (Made (Tb.putSub s) w) := by
  obtain ⟨Q, hQ⟩ : ∃ Q : Ending → World → Prop, Q = Made (Tb.putSub s) w := ⟨_, rfl⟩
  rw [← hQ]
  have hSC : SmallC s.c := ⟨hS.p, hS.r, hS.f⟩
  have hsa := hS.a
  obtain ⟨A1, c1, A2, c2, A3, c3, A4, c4, rfl, s1, s2, s3, s4⟩ := h
  unfold Kd.pSub at hp
  simp only [Bool.and_eq_true, List.all_eq_true] at hp
  obtain ⟨fin, sups, c⟩ := s
  dsimp only at hp hSC hsa s1 s2 s3 s4 hfin ⊢
  subst hfin
  obtain ⟨W0, hW0⟩ : ∃ W0, W0 = w.alloc (.cells #[.bool false, .slice A1 sups.length c1, .int .i64 c.k, .slice A2 c.ps.length c2, .slice A3 c.rs.length c3, .slice A4 c.fs.length c4] 29) := ⟨_, rfl⟩
  have hB0 : Below w.heap.size w W0 := by rw [hW0]; exact (Below.refl _ _).alloc (Nat.le_refl _) _
  have hb0 : w.heap.size < W0.heap.size := by rw [hW0]; simp
  have d2 : W0.cell? ⟨w.heap.size, 2, none⟩ = some (.int .i64 c.k) := by rw [hW0]; go_simp
  have d3 : W0.cell? ⟨w.heap.size, 3, none⟩ = some (.slice A2 c.ps.length c2) := by rw [hW0]; go_simp
  have d4 : W0.cell? ⟨w.heap.size, 4, none⟩ = some (.slice A3 c.rs.length c3) := by rw [hW0]; go_simp
  have d5 : W0.cell? ⟨w.heap.size, 5, none⟩ = some (.slice A4 c.fs.length c4) := by rw [hW0]; go_simp
  have CC : Hid (∀ W, Below W0.heap.size W0 W → Calls Tryd.prog 125 #[.agg #[.int .i64 c.k, .slice A2 c.ps.length c2, .slice A3 c.rs.length c3, .slice A4 c.fs.length c4]] W (Made (Tb.putComp c) W)) :=
    Lib.hid fun W hW => have h1 := hB0.trans (hW.mono hB0.size); putComp_any c _ W (hT.below h1) ⟨A2, c2, A3, c3, A4, c4, rfl, (s2.below h1).more h1.size, (s3.below h1).more h1.size, (s4.below h1).more h1.size⟩ hSC hp.2
  have HLC := Lib.hid (Tb.putComp_len hSC hp.2)
  have HXC := Lib.hid (Tb.putComp_lt c)
  have HI : Hid (Q = Made (80 :: Tb.putList Tb.putIdx sups ++ Tb.putComp c) w) := Lib.hid (by rw [hQ]; rfl)
  have CS : Hid (∀ W, Below W0.heap.size W0 W → Calls Tryd.prog 123 #[.slice A1 sups.length c1, .func (.func 124) #[] #[]] W (Made (Tb.putList Tb.putIdx sups) W)) :=
    Lib.hid fun W hW => have h1 := hB0.trans (hW.mono hB0.size); putList_h sups A1 c1 W (hT.below h1) hsa hp.1 ((s1.below h1).more h1.size)
  have HLS := Lib.hid (Tb.putList_len Tb.putIdx 12 sups hsa fun x hx => Nat.le_trans (Tb.putIdx_len (hp.1 x hx)) (by omega))
  have HXS := Lib.hid (Tb.putList_lt Tb.putIdx (fun h : Hp => Leb.putU_lt h.n.toNat) sups)
  generalize Tb.putList Tb.putIdx sups = ls at HI CS HLS HXS
  generalize Tb.putComp c = lc at HI CC HLC HXC
  have HO0 : Hid (Own W0.heap.size (W0.alloc (.cells #[.int .u8 ((80 : Nat) : Int)] 5)) (.slice (some ⟨w.heap.size + 1, 0, none⟩) 1 1) [80]) := Lib.hid (by have h := Own.lit1 W0 (Nat.le_refl _) 80; rw [show W0.heap.size = w.heap.size + 1 by rw [hW0]; simp] at h ⊢; exact h)
  have HB1 : Hid (∀ o, Below W0.heap.size W0 (W0.alloc o)) := Lib.hid fun o => (Below.refl _ _).alloc (Nat.le_refl _) _
  have HB0 := Lib.hid hB0
  have HW0 := Lib.hid hW0
  clear s1 s2 s3 s4 hsa hSC hS hp hT hQ hW0 hB0
  go_enter Tryd.func96, Tryd.ntmps96
  go_wp2_with fail
  rw [← HW0.out]
  go_wp2_with (first
    | ((with_reducible refine (CS.out _ (HB1.out _)).mono ?_); rintro e w2 ⟨v2, rfl, ho, hb⟩; obtain ⟨A5, c5, rfl, hy, -⟩ := ho.bs HXS.out; have HY := Lib.hid hy; have HO2 := Lib.hid (HO0.out.below hb); have HB2 : Hid (Below W0.heap.size W0 w2) := Lib.hid ((HB1.out _).trans (hb.mono (HB1.out _).size)); clear ho hb hy)
    | (at_builtin; refine cat_slice rfl _ _ rfl _ ls ls.length rfl rfl HO2.out HY.out HB2.out.size (ls.length + 1) (by have := HLS.out; omega) (Nat.add_comm 1 ls.length) ?_; intro A7 c7 w5 ho2 hg2; have HO5 := Lib.hid ho2; have HB5 := Lib.hid (HO2.out.grown hg2 (Nat.le_refl _) HB2.out.size HB2.out); have q2 := (HB5.out.cell (p := ⟨w.heap.size, 2, none⟩) hb0).trans d2; have q3 := (HB5.out.cell (p := ⟨w.heap.size, 3, none⟩) hb0).trans d3; have q4 := (HB5.out.cell (p := ⟨w.heap.size, 4, none⟩) hb0).trans d4; have q5 := (HB5.out.cell (p := ⟨w.heap.size, 5, none⟩) hb0).trans d5; clear ho2 hg2 HO2 HB2 HY)
    | ((with_reducible refine (CC.out _ HB5.out).mono ?_); rintro e w6 ⟨v2, rfl, ho, hb⟩; obtain ⟨A8, c8, rfl, hy, -⟩ := ho.bs HXC.out; have HY6 := Lib.hid hy; have HO6 := Lib.hid (HO5.out.below hb); have HB6 : Hid (Below W0.heap.size W0 w6) := Lib.hid (HB5.out.trans (hb.mono HB5.out.size)); clear ho hb hy)
    | (at_builtin; refine cat_slice rfl _ _ rfl _ lc lc.length rfl rfl HO6.out HY6.out HB6.out.size (ls.length + 1 + lc.length) (by have := HLS.out; have := HLC.out; omega) (by rw [List.length_append, List.length_singleton]; omega) ?_; intro A9 c9 w7 ho2 hg2; have HO7 := Lib.hid ho2; have HB7 := Lib.hid (HO6.out.grown hg2 (Nat.le_refl _) HB6.out.size HB6.out); clear ho2 hg2))
  rw [HI.out]
  exact ⟨_, rfl, HO7.out.base HB0.out.size, below_trans HB0.out HB7.out⟩
set_option maxHeartbeats 4000000 in
theorem putSub_super (s : Sb) (hfin : s.fin = true) (hne : s.sups.length ≠ 0) (v : Value) (w : World) (hT : Tab6 w) (h : IsSub w w.heap.size v s) (hS : Kd.Small s) (hp : Kd.pSub s = true) : Calls Tryd.prog 96 #[v] w (Made (Tb.putSub s) w) := by
  obtain ⟨Q, hQ⟩ : ∃ Q : Ending → World → Prop, Q = Made (Tb.putSub s) w := ⟨_, rfl⟩
  rw [← hQ]
  have hSC : SmallC s.c := ⟨hS.p, hS.r, hS.f⟩
  have hsa := hS.a
  obtain ⟨A1, c1, A2, c2, A3, c3, A4, c4, rfl, s1, s2, s3, s4⟩ := h
  unfold Kd.pSub at hp
  simp only [Bool.and_eq_true, List.all_eq_true] at hp
  obtain ⟨fin, sups, c⟩ := s
  dsimp only at hp hSC hsa s1 s2 s3 s4 hfin hne ⊢
  subst hfin
  obtain ⟨W0, hW0⟩ : ∃ W0, W0 = w.alloc (.cells #[.bool true, .slice A1 sups.length c1, .int .i64 c.k, .slice A2 c.ps.length c2, .slice A3 c.rs.length c3, .slice A4 c.fs.length c4] 29) := ⟨_, rfl⟩
  have hB0 : Below w.heap.size w W0 := by rw [hW0]; exact (Below.refl _ _).alloc (Nat.le_refl _) _
  have hb0 : w.heap.size < W0.heap.size := by rw [hW0]; simp
  have d2 : W0.cell? ⟨w.heap.size, 2, none⟩ = some (.int .i64 c.k) := by rw [hW0]; go_simp
  have d3 : W0.cell? ⟨w.heap.size, 3, none⟩ = some (.slice A2 c.ps.length c2) := by rw [hW0]; go_simp
  have d4 : W0.cell? ⟨w.heap.size, 4, none⟩ = some (.slice A3 c.rs.length c3) := by rw [hW0]; go_simp
  have d5 : W0.cell? ⟨w.heap.size, 5, none⟩ = some (.slice A4 c.fs.length c4) := by rw [hW0]; go_simp
  have CC : Hid (∀ W, Below W0.heap.size W0 W → Calls Tryd.prog 125 #[.agg #[.int .i64 c.k, .slice A2 c.ps.length c2, .slice A3 c.rs.length c3, .slice A4 c.fs.length c4]] W (Made (Tb.putComp c) W)) :=
    Lib.hid fun W hW => have h1 := hB0.trans (hW.mono hB0.size); putComp_any c _ W (hT.below h1) ⟨A2, c2, A3, c3, A4, c4, rfl, (s2.below h1).more h1.size, (s3.below h1).more h1.size, (s4.below h1).more h1.size⟩ hSC hp.2
  have HLC := Lib.hid (Tb.putComp_len hSC hp.2)
  have HXC := Lib.hid (Tb.putComp_lt c)
  have HI : Hid (Q = Made (79 :: Tb.putList Tb.putIdx sups ++ Tb.putComp c) w) := Lib.hid (by rw [hQ]; unfold Tb.putSub; dsimp only; rw [if_neg (by decide), if_neg (fun e => hne (by rw [e]; rfl))])
  have CS : Hid (∀ W, Below W0.heap.size W0 W → Calls Tryd.prog 123 #[.slice A1 sups.length c1, .func (.func 124) #[] #[]] W (Made (Tb.putList Tb.putIdx sups) W)) :=
    Lib.hid fun W hW => have h1 := hB0.trans (hW.mono hB0.size); putList_h sups A1 c1 W (hT.below h1) hsa hp.1 ((s1.below h1).more h1.size)
  have HLS := Lib.hid (Tb.putList_len Tb.putIdx 12 sups hsa fun x hx => Nat.le_trans (Tb.putIdx_len (hp.1 x hx)) (by omega))
  have HXS := Lib.hid (Tb.putList_lt Tb.putIdx (fun h : Hp => Leb.putU_lt h.n.toNat) sups)
  generalize Tb.putList Tb.putIdx sups = ls at HI CS HLS HXS
  generalize Tb.putComp c = lc at HI CC HLC HXC
  have HO0 : Hid (Own W0.heap.size (W0.alloc (.cells #[.int .u8 ((79 : Nat) : Int)] 5)) (.slice (some ⟨w.heap.size + 1, 0, none⟩) 1 1) [79]) := Lib.hid (by have h := Own.lit1 W0 (Nat.le_refl _) 79; rw [show W0.heap.size = w.heap.size + 1 by rw [hW0]; simp] at h ⊢; exact h)
  have HB1 : Hid (∀ o, Below W0.heap.size W0 (W0.alloc o)) := Lib.hid fun o => (Below.refl _ _).alloc (Nat.le_refl _) _
  have hpos : (0 : Int) < (sups.length : Int) := by omega
  clear hne
  have HB0 := Lib.hid hB0
  have HW0 := Lib.hid hW0
  clear s1 s2 s3 s4 hsa hSC hS hp hT hQ hW0 hB0
  go_enter Tryd.func96, Tryd.ntmps96
  go_wp2_with fail
  rw [← HW0.out]
  go_wp2_with (first
    | ((with_reducible refine (CS.out _ (HB1.out _)).mono ?_); rintro e w2 ⟨v2, rfl, ho, hb⟩; obtain ⟨A5, c5, rfl, hy, -⟩ := ho.bs HXS.out; have HY := Lib.hid hy; have HO2 := Lib.hid (HO0.out.below hb); have HB2 : Hid (Below W0.heap.size W0 w2) := Lib.hid ((HB1.out _).trans (hb.mono (HB1.out _).size)); clear ho hb hy)
    | (at_builtin; refine cat_slice rfl _ _ rfl _ ls ls.length rfl rfl HO2.out HY.out HB2.out.size (ls.length + 1) (by have := HLS.out; omega) (Nat.add_comm 1 ls.length) ?_; intro A7 c7 w5 ho2 hg2; have HO5 := Lib.hid ho2; have HB5 := Lib.hid (HO2.out.grown hg2 (Nat.le_refl _) HB2.out.size HB2.out); have q2 := (HB5.out.cell (p := ⟨w.heap.size, 2, none⟩) hb0).trans d2; have q3 := (HB5.out.cell (p := ⟨w.heap.size, 3, none⟩) hb0).trans d3; have q4 := (HB5.out.cell (p := ⟨w.heap.size, 4, none⟩) hb0).trans d4; have q5 := (HB5.out.cell (p := ⟨w.heap.size, 5, none⟩) hb0).trans d5; clear ho2 hg2 HO2 HB2 HY)
    | ((with_reducible refine (CC.out _ HB5.out).mono ?_); rintro e w6 ⟨v2, rfl, ho, hb⟩; obtain ⟨A8, c8, rfl, hy, -⟩ := ho.bs HXC.out; have HY6 := Lib.hid hy; have HO6 := Lib.hid (HO5.out.below hb); have HB6 : Hid (Below W0.heap.size W0 w6) := Lib.hid (HB5.out.trans (hb.mono HB5.out.size)); clear ho hb hy)
    | (at_builtin; refine cat_slice rfl _ _ rfl _ lc lc.length rfl rfl HO6.out HY6.out HB6.out.size (ls.length + 1 + lc.length) (by have := HLS.out; have := HLC.out; omega) (by rw [List.length_append, List.length_singleton]; omega) ?_; intro A9 c9 w7 ho2 hg2; have HO7 := Lib.hid ho2; have HB7 := Lib.hid (HO6.out.grown hg2 (Nat.le_refl _) HB6.out.size HB6.out); clear ho2 hg2))
  rw [HI.out]
  exact ⟨_, rfl, HO7.out.base HB0.out.size, below_trans HB0.out HB7.out⟩
set_option maxHeartbeats 4000000 in
theorem putSub_plain (s : Sb) (hfin : s.fin = true) (hne : s.sups.length = 0) (v : Value) (w : World) (hT : Tab6 w) (h : IsSub w w.heap.size v s) (hS : Kd.Small s) (hp : Kd.pSub s = true) : Calls Tryd.prog 96 #[v] w (Made (Tb.putSub s) w) := by
  obtain ⟨Q, hQ⟩ : ∃ Q : Ending → World → Prop, Q = Made (Tb.putSub s) w := ⟨_, rfl⟩
  rw [← hQ]
  have hSC : SmallC s.c := ⟨hS.p, hS.r, hS.f⟩
  have hsa := hS.a
  obtain ⟨A1, c1, A2, c2, A3, c3, A4, c4, rfl, s1, s2, s3, s4⟩ := h
  unfold Kd.pSub at hp
  simp only [Bool.and_eq_true, List.all_eq_true] at hp
  obtain ⟨fin, sups, c⟩ := s
  dsimp only at hp hSC hsa s1 s2 s3 s4 hfin hne ⊢
  subst hfin
  obtain ⟨W0, hW0⟩ : ∃ W0, W0 = w.alloc (.cells #[.bool true, .slice A1 sups.length c1, .int .i64 c.k, .slice A2 c.ps.length c2, .slice A3 c.rs.length c3, .slice A4 c.fs.length c4] 29) := ⟨_, rfl⟩
  have hB0 : Below w.heap.size w W0 := by rw [hW0]; exact (Below.refl _ _).alloc (Nat.le_refl _) _
  have hb0 : w.heap.size < W0.heap.size := by rw [hW0]; simp
  have d2 : W0.cell? ⟨w.heap.size, 2, none⟩ = some (.int .i64 c.k) := by rw [hW0]; go_simp
  have d3 : W0.cell? ⟨w.heap.size, 3, none⟩ = some (.slice A2 c.ps.length c2) := by rw [hW0]; go_simp
  have d4 : W0.cell? ⟨w.heap.size, 4, none⟩ = some (.slice A3 c.rs.length c3) := by rw [hW0]; go_simp
  have d5 : W0.cell? ⟨w.heap.size, 5, none⟩ = some (.slice A4 c.fs.length c4) := by rw [hW0]; go_simp
  have CC : Hid (∀ W, Below W0.heap.size W0 W → Calls Tryd.prog 125 #[.agg #[.int .i64 c.k, .slice A2 c.ps.length c2, .slice A3 c.rs.length c3, .slice A4 c.fs.length c4]] W (Made (Tb.putComp c) W)) :=
    Lib.hid fun W hW => have h1 := hB0.trans (hW.mono hB0.size); putComp_any c _ W (hT.below h1) ⟨A2, c2, A3, c3, A4, c4, rfl, (s2.below h1).more h1.size, (s3.below h1).more h1.size, (s4.below h1).more h1.size⟩ hSC hp.2
  have HLC := Lib.hid (Tb.putComp_len hSC hp.2)
  have HXC := Lib.hid (Tb.putComp_lt c)
  have HI : Hid (Q = Made (Tb.putComp c) w) := Lib.hid (by rw [hQ]; unfold Tb.putSub; dsimp only; rw [if_neg (by decide), if_pos (List.eq_nil_of_length_eq_zero hne)]; rfl)
  generalize Tb.putComp c = lc at HI CC HLC HXC
  have HO5 : Hid (Own W0.heap.size W0 (.slice none 0 0) []) := Lib.hid (Own.nil _ _)
  have HB5 : Hid (Below W0.heap.size W0 W0) := Lib.hid (Below.refl _ _)
  obtain rfl : sups = [] := List.eq_nil_of_length_eq_zero hne
  clear hne
  rw [List.length_nil] at hW0
  have HB0 := Lib.hid hB0
  have HW0 := Lib.hid hW0
  clear s1 s2 s3 s4 hsa hSC hS hp hT hQ hW0 hB0
  go_enter Tryd.func96, Tryd.ntmps96
  go_wp2_with fail
  rw [← HW0.out]
  go_wp2_with (first
    | ((with_reducible refine (CC.out _ HB5.out).mono ?_); rintro e w6 ⟨v2, rfl, ho, hb⟩; obtain ⟨A8, c8, rfl, hy, -⟩ := ho.bs HXC.out; have HY6 := Lib.hid hy; have HO6 := Lib.hid (HO5.out.below hb); have HB6 : Hid (Below W0.heap.size W0 w6) := Lib.hid (HB5.out.trans (hb.mono HB5.out.size)); clear ho hb hy)
    | (at_builtin; refine cat_slice rfl _ _ rfl _ lc lc.length rfl rfl HO6.out HY6.out HB6.out.size lc.length (by have := HLC.out; omega) (Nat.zero_add _) ?_; intro A9 c9 w7 ho2 hg2; have HO7 := Lib.hid ho2; have HB7 := Lib.hid (HO6.out.grown hg2 (Nat.le_refl _) HB6.out.size HB6.out); clear ho2 hg2))
  rw [HI.out]
  exact ⟨_, rfl, HO7.out.base HB0.out.size, below_trans HB0.out HB7.out⟩
theorem putSub_any (s : Sb) (v : Value) (w : World) (hT : Tab6 w) (h : IsSub w w.heap.size v s) (hS : Kd.Small s) (hp : Kd.pSub s = true) : Calls Tryd.prog 96 #[v] w (Made (Tb.putSub s) w) := by
  by_cases h1 : s.fin = false
  · exact putSub_open s h1 v w hT h hS hp
  have h1 : s.fin = true := by simpa using h1
  by_cases h2 : s.sups.length = 0
  · exact putSub_plain s h1 h2 v w hT h hS hp
  · exact putSub_super s h1 h2 v w hT h hS hp
end Go.Proofs.YtkdhjejchdcipaaDoor
/-
  PLAIN: layer 6: lists, composite types, declared types, groups are read back.
-/
namespace Go.Proofs.YtkdhjejchdcipaaDoor
open Go.RowKit
set_option linter.unusedVariables false

namespace Tb
theorem count_back {r : Rd} {t : List Nat} {n : Nat} (hn : n < 4294967296) (ht : n ≤ t.length) (h : Sees r (Leb.putU n ++ t)) : count r = (n, r.go (Leb.putU n).length) := by
  refine h.item _ _ _ _ ?_
  unfold countAt
  rw [told_U hn h, if_pos rfl]
  have hl := h.len
  rw [List.length_append] at hl
  dsimp only
  rw [if_neg (by omega)]
theorem many_back {α : Type} (one : Rd → α × Rd) (put : α → List Nat) (t : List Nat) : ∀ (l : List α) (out : List α) (r : Rd), (∀ x ∈ l, ∀ r t, Sees r (put x ++ t) → one r = (x, r.go (put x).length)) → Sees r (l.flatMap put ++ t) → many one l.length out r = (out ++ l, r.go (l.flatMap put).length)
  | [], out, r, _, h => by simp [many, Rd.go]
  | x :: l, out, r, ho, h => by
    rw [List.flatMap_cons, List.append_assoc] at h
    have h1 := ho x (by simp) r _ h
    have h2 := many_back one put t l (out ++ [x]) (r.go (put x).length) (fun y hy => ho y (by simp [hy])) h.go
    rw [List.length_cons]
    unfold many
    rw [h1, if_pos (show (r.go (put x).length).e = 0 from h.e)]
    dsimp only
    rw [h2, Rd.go_go, List.flatMap_cons, List.length_append, List.append_assoc]
    rfl
theorem flat_ge {α : Type} (put : α → List Nat) (l : List α) (h : ∀ x ∈ l, 1 ≤ (put x).length) : l.length ≤ (l.flatMap put).length := by
  induction l with
  | nil => simp
  | cons x l ih =>
    have h1 := h x (by simp)
    have h2 := ih fun y hy => h y (by simp [hy])
    rw [List.flatMap_cons, List.length_append, List.length_cons]
    omega
theorem list_back {α : Type} (one : Rd → α × Rd) (put : α → List Nat) (l : List α) (hl : l.length ≤ 10000) (h1 : ∀ x ∈ l, 1 ≤ (put x).length) (ho : ∀ x ∈ l, ∀ r t, Sees r (put x ++ t) → one r = (x, r.go (put x).length)) {r : Rd} {t : List Nat} (h : Sees r (putList put l ++ t)) :
    list one r = (l, r.go (putList put l).length) := by
  unfold putList at h ⊢
  rw [List.append_assoc] at h
  have hc := count_back (by omega) (by rw [List.length_append]; have := flat_ge put l h1; omega) h
  unfold list
  rw [hc]
  dsimp only
  rw [many_back one put t l [] _ ho h.go, Rd.go_go, List.length_append]
  rfl
theorem putHeap_pos (h : Hp) : 1 ≤ (putHeap h).length := by
  unfold putHeap
  split
  · simp
  · exact Leb.putS_pos _
theorem putVal_pos (v : Vl) : 1 ≤ (putVal v).length := by
  unfold putVal
  have := putHeap_pos v.h
  repeat' split
  all_goals simp
  all_goals omega
theorem putField_pos (f : Fd) : 1 ≤ (putField f).length := by
  unfold putField
  rw [List.length_append, List.length_singleton]
  omega
theorem vals_back {l : List Vl} (hl : l.length ≤ 10000) (hp : ∀ x ∈ l, Kd.pVal x = true) {r : Rd} {t : List Nat} (h : Sees r (putList putVal l ++ t)) : vals r = (l, r.go (putList putVal l).length) :=
  list_back val putVal l hl (fun x _ => putVal_pos x) (fun x hx r t h => val_back (hp x hx) h) h
theorem fields_back {l : List Fd} (hl : l.length ≤ 10000) (hp : ∀ x ∈ l, Kd.pField x = true) {r : Rd} {t : List Nat} (h : Sees r (putList putField l ++ t)) : list field r = (l, r.go (putList putField l).length) :=
  list_back field putField l hl (fun x _ => putField_pos x) (fun x hx r t h => field_back (hp x hx) h) h
theorem sups_back {l : List Hp} (hl : l.length ≤ 10000) (hp : ∀ x ∈ l, Kd.pIdx x = true) {r : Rd} {t : List Nat} (h : Sees r (putList putIdx l ++ t)) : list index r = (l, r.go (putList putIdx l).length) :=
  list_back index putIdx l hl (fun x _ => Leb.putU_pos _) (fun x hx r t h => index_back (hp x hx) h) h
theorem comp_back {c : Cp} (hS : SmallC c) (hp : Kd.pComp c = true) {r : Rd} {t : List Nat} (h : Sees r (putComp c ++ t)) : comp r = (c, r.go (putComp c).length) := by
  obtain ⟨k, ps, rs, fs⟩ := c
  obtain ⟨s1, s2, s3⟩ := hS
  dsimp only at s1 s2 s3
  unfold Kd.pComp at hp
  dsimp only at hp
  by_cases h1 : k = 1
  · subst h1
    rw [if_pos rfl] at hp
    simp only [Bool.and_eq_true, List.all_eq_true, decide_eq_true_eq] at hp
    obtain rfl : fs = [] := List.eq_nil_of_length_eq_zero hp.2.2
    have e : putComp ⟨1, ps, rs, []⟩ = 96 :: (putList putVal ps ++ putList putVal rs) := rfl
    rw [e] at h ⊢
    have hn : Sees (on r) (putList putVal ps ++ (putList putVal rs ++ t)) := by
      have := Sees.next (s := (putList putVal ps ++ putList putVal rs) ++ t) h
      rw [List.append_assoc] at this
      exact this
    unfold comp
    rw [may_of h rfl, if_pos (by decide), vals_back s1 hp.1 hn, vals_back s2 hp.2.1 hn.go]
    dsimp only
    rw [Rd.go_go, on_go, List.length_cons, List.length_append]
  rw [if_neg h1] at hp
  by_cases h2 : k = 2
  · subst h2
    rw [if_pos rfl] at hp
    simp only [Bool.and_eq_true, List.all_eq_true, Kd.takes, Bool.not_eq_true', decide_eq_false_iff_not] at hp
    obtain rfl : ps = [] := List.eq_nil_of_length_eq_zero (by omega)
    obtain rfl : rs = [] := List.eq_nil_of_length_eq_zero (by omega)
    have e : putComp ⟨2, [], [], fs⟩ = 95 :: putList putField fs := rfl
    rw [e] at h ⊢
    unfold comp
    rw [may_of h rfl, if_neg (by decide), may_of h rfl, if_pos (by decide), fields_back s3 hp.2 (Sees.next h)]
    dsimp only
    rw [on_go, List.length_cons]
  rw [if_neg h2] at hp
  by_cases h3 : k = 3
  · subst h3
    rw [if_pos rfl] at hp
    simp only [Bool.and_eq_true, List.all_eq_true, Kd.takes, Bool.not_eq_true', decide_eq_false_iff_not, decide_eq_true_eq] at hp
    obtain rfl : ps = [] := List.eq_nil_of_length_eq_zero (by omega)
    obtain rfl : rs = [] := List.eq_nil_of_length_eq_zero (by omega)
    obtain ⟨f, rfl⟩ : ∃ f, fs = [f] := by
      match fs, hp.2.1 with
      | [f], _ => exact ⟨f, rfl⟩
    have e : putComp ⟨3, [], [], [f]⟩ = 94 :: putField f := rfl
    rw [e] at h ⊢
    unfold comp
    rw [may_of h rfl, if_neg (by decide), may_of h rfl, if_neg (by decide), may_of h rfl, if_pos (by decide), field_back (hp.2.2 f (by simp)) (Sees.next h)]
    dsimp only
    rw [on_go, List.length_cons]
  rw [if_neg h3] at hp
  cases hp
theorem putComp_first (c : Cp) : ∃ x u, putComp c = x :: u ∧ x ≠ 78 ∧ x ≠ 79 ∧ x ≠ 80 := by
  unfold putComp
  split
  · exact ⟨96, _, rfl, by decide, by decide, by decide⟩
  · split
    · exact ⟨95, _, rfl, by decide, by decide, by decide⟩
    · exact ⟨94, _, rfl, by decide, by decide, by decide⟩
theorem sub_back {s : Sb} (hS : Kd.Small s) (hp : Kd.pSub s = true) {r : Rd} {t : List Nat} (h : Sees r (putSub s ++ t)) : sub r = (s, r.go (putSub s).length) := by
  have hSC : SmallC s.c := ⟨hS.p, hS.r, hS.f⟩
  have hsa := hS.a
  unfold Kd.pSub at hp
  simp only [Bool.and_eq_true, List.all_eq_true] at hp
  obtain ⟨fin, sups, c⟩ := s
  dsimp only at hSC hsa hp
  cases fin with
  | false =>
    have e : putSub ⟨false, sups, c⟩ = 80 :: (putList putIdx sups ++ putComp c) := rfl
    rw [e] at h ⊢
    have hn : Sees (on r) (putList putIdx sups ++ (putComp c ++ t)) := by
      have := Sees.next (s := (putList putIdx sups ++ putComp c) ++ t) h
      rw [List.append_assoc] at this
      exact this
    unfold sub
    rw [may_of h rfl, if_pos (by decide), sups_back hsa hp.1 hn]
    dsimp only
    rw [comp_back hSC hp.2 hn.go, Rd.go_go, on_go, List.length_cons, List.length_append]
  | true =>
    by_cases h0 : sups = []
    · subst h0
      have e : putSub ⟨true, [], c⟩ = putComp c := rfl
      rw [e] at h ⊢
      obtain ⟨x, u, hx, n1, n2, n3⟩ := putComp_first c
      unfold sub
      rw [may_of h hx, if_neg (by simp [n3]), may_of h hx, if_neg (by simp [n2]), comp_back hSC hp.2 h]
    · have e : putSub ⟨true, sups, c⟩ = 79 :: (putList putIdx sups ++ putComp c) := by unfold putSub; dsimp only; rw [if_neg (by decide), if_neg h0]; rfl
      rw [e] at h ⊢
      have hn : Sees (on r) (putList putIdx sups ++ (putComp c ++ t)) := by
        have := Sees.next (s := (putList putIdx sups ++ putComp c) ++ t) h
        rw [List.append_assoc] at this
        exact this
      unfold sub
      rw [may_of h rfl, if_neg (by decide), may_of h rfl, if_pos (by decide), sups_back hsa hp.1 hn]
      dsimp only
      rw [comp_back hSC hp.2 hn.go, Rd.go_go, on_go, List.length_cons, List.length_append]
theorem putSub_first (s : Sb) : ∃ x u, putSub s = x :: u ∧ x ≠ 78 := by
  obtain ⟨x, u, hx, n1, -⟩ := putComp_first s.c
  unfold putSub
  split
  · exact ⟨80, _, rfl, by decide⟩
  · split
    · exact ⟨x, u, hx, n1⟩
    · exact ⟨79, _, rfl, by decide⟩
theorem putSub_pos (s : Sb) : 1 ≤ (putSub s).length := by
  obtain ⟨x, u, hx, -⟩ := putSub_first s
  rw [hx, List.length_cons]
  omega
end Tb
end Go.Proofs.YtkdhjejchdcipaaDoor
/-
  Layer 6, code: a list of declared types: whether all are plain; its bytes; PutVal, PutRec.
-/
namespace Go.Proofs.YtkdhjejchdcipaaDoor
open Go.RowKit
set_option linter.unusedVariables false
set_option linter.unusedSimpArgs false
set_option maxRecDepth 100000

abbrev Sr.val (x : Sr) : Value := .agg #[.bool x.fin, .slice x.x1.a x.x1.n x.x1.c, .int .i64 x.k, .slice x.x2.a x.x2.n x.x2.c, .slice x.x3.a x.x3.n x.x3.c, .slice x.x4.a x.x4.n x.x4.c]
/-- A list of declared types that is read: its row, and what each place says. -/
structure Subs (w : World) (C : Nat) (A : Option Addr) (c : Nat) (xs : List Sr) (l : List Sb) : Prop where
  len : xs.length = l.length
  seg : Seg 6 Sr.cs w C A c xs
  sub : ∀ i (h : i < xs.length) (h2 : i < l.length), IsSub w C (Sr.val xs[i]) l[i]
theorem Subs.below {w w' : World} {C : Nat} {A : Option Addr} {c : Nat} {xs : List Sr} {l : List Sb} (h : Subs w C A c xs l) (hb : Below C w w') : Subs w' C A c xs l :=
  ⟨h.len, h.seg.below hb, fun i h1 h2 => (h.sub i h1 h2).below hb⟩
theorem Subs.more {w : World} {C C' : Nat} {A : Option Addr} {c : Nat} {xs : List Sr} {l : List Sb} (h : Subs w C A c xs l) (hC : C ≤ C') : Subs w C' A c xs l :=
  ⟨h.len, h.seg.more hC, fun i h1 h2 => (h.sub i h1 h2).more hC⟩

set_option maxHeartbeats 2000000 in
theorem ix_s (xs : List Sr) (A : Option Addr) (c : Nat) (B : Nat) (q : Nat → Bool) (w : World) (hl : xs.length ≤ 10000) (hs : Seg 6 Sr.cs w w.heap.size A c xs)
    (hq : Hid (∀ i (h : i < xs.length) W, Below w.heap.size w W → Calls Tryd.prog 122 #[xs[i].val, .pointer (some ⟨B, 0, none⟩)] W fun e W' => e = .returned (.bool (q i)) ∧ Below W.heap.size W W')) :
    Calls Tryd.prog 154 #[.slice A xs.length c, .func (.func 122) #[] #[.pointer (some ⟨B, 0, none⟩)]] w fun e w' => (∃ i : Int, e = .returned (.int .i64 i) ∧ decide (0 ≤ i) = (List.range xs.length).any q) ∧ Below w.heap.size w w' := by
  obtain ⟨Q, hQ⟩ : ∃ Q : Ending → World → Prop, Q = (fun e w' => (∃ i : Int, e = .returned (.int .i64 i) ∧ decide (0 ≤ i) = (List.range xs.length).any q) ∧ Below w.heap.size w w') := ⟨_, rfl⟩
  rw [← hQ]
  have hQ' := Lib.hid hQ
  clear hQ
  have HS := Lib.hid hs
  clear hs
  go_enter Tryd.func154, Tryd.ntmps154
  go_wp2
  go_loopw [5, 8] (fun _ i wr => ∃ k : Nat, k ≤ xs.length ∧ i = .int .i64 k ∧ Below w.heap.size w wr ∧ Hid (∀ j < k, q j = false)) (fun _ i _ => xs.length - (intOf i).toNat)
  case atStart => exact ⟨0, Nat.zero_le _, rfl, Below.refl _ _, fun j hj => absurd hj (by omega)⟩
  case round =>
    obtain ⟨k, hk, rfl, hB, hany'⟩ := hrel
    by_cases hlt : k < xs.length
    · obtain ⟨b, off, rfl, hb, hc⟩ := HS.out.2.2 (by omega)
      have g0 := (hB.cell (p := ⟨b, off + k * 6 + 0, none⟩) hb).trans (hc k hlt 0 _ rfl)
      have g1 := (hB.cell (p := ⟨b, off + k * 6 + 1, none⟩) hb).trans (hc k hlt 1 _ rfl)
      have g2 := (hB.cell (p := ⟨b, off + k * 6 + 2, none⟩) hb).trans (hc k hlt 2 _ rfl)
      have g3 := (hB.cell (p := ⟨b, off + k * 6 + 3, none⟩) hb).trans (hc k hlt 3 _ rfl)
      have g4 := (hB.cell (p := ⟨b, off + k * 6 + 4, none⟩) hb).trans (hc k hlt 4 _ rfl)
      have g5 := (hB.cell (p := ⟨b, off + k * 6 + 5, none⟩) hb).trans (hc k hlt 5 _ rfl)
      simp only [Nat.add_zero] at g0
      clear hc HS
      have HQ := Lib.hid (hq.out k hlt)
      obtain ⟨x, hx⟩ : ∃ x, x = xs[k] := ⟨_, rfl⟩
      rw [← hx] at g0 g1 g2 g3 g4 g5 HQ
      clear hx hq
      cases hqx : q k
      · rw [hqx] at HQ
        have HF := Lib.hid hqx
        go_wp2_with ((with_reducible refine (HQ.out _ hB).mono ?_); rintro e w1 ⟨rfl, hb1⟩)
        go_roundw
        case rel => exact ⟨k + 1, by omega, by go_num, below_trans2 hB hb1, fun j hj => by
          by_cases hjk : j = k
          · rw [hjk]; exact HF.out
          · exact hany'.out j (by omega)⟩
        case measure => simp [intOf]; omega
      · rw [hqx] at HQ
        have HF := Lib.hid hqx
        go_wp2_with ((with_reducible refine (HQ.out _ hB).mono ?_); rintro e w1 ⟨rfl, hb1⟩)
        rw [hQ'.out]
        exact ⟨⟨_, rfl, by rw [List.any_eq_true.2 ⟨k, List.mem_range.2 hlt, HF.out⟩]; simp⟩, below_trans2 hB hb1⟩
    · clear HS hq
      go_wp2
      rw [hQ'.out]
      exact ⟨⟨-1, rfl, by
        rw [show (List.range xs.length).any q = false from List.any_eq_false.2 fun j hj => by rw [hany'.out j (by have := List.mem_range.1 hj; omega)]; decide]
        rfl⟩, hB⟩
set_option maxHeartbeats 2000000 in
theorem all_s (l : List Sb) (xs : List Sr) (A : Option Addr) (c : Nat) (w : World) (hl : l.length ≤ 10000) (hs : Subs w w.heap.size A c xs l) (hS : ∀ s ∈ l, Kd.Small s) :
    Calls Tryd.prog 95 #[.slice A l.length c, .func (.func 55) #[] #[]] w fun e w' => e = .returned (.bool (l.all Kd.pSub)) ∧ Below w.heap.size w w' := by
  have hlen := hs.len
  obtain ⟨W0, hW0⟩ : ∃ W0, W0 = w.alloc (.cells #[.func (.func 55) #[] #[]] 31) := ⟨_, rfl⟩
  have hB0 : Below w.heap.size w W0 := by rw [hW0]; exact (Below.refl _ _).alloc (Nat.le_refl _) _
  have hz : w.heap.size < W0.heap.size := by rw [hW0]; simp
  have hc0 : W0.cell? ⟨w.heap.size, 0, none⟩ = some (.func (.func 55) #[] #[]) := by rw [hW0]; go_simp
  have hs0 := (hs.below hB0).more hB0.size
  have HC : Hid (∀ i (h : i < xs.length) W, Below W0.heap.size W0 W → Calls Tryd.prog 122 #[xs[i].val, .pointer (some ⟨w.heap.size, 0, none⟩)] W fun e W' => e = .returned (.bool (!Kd.pSub (l.getD i ⟨true, [], ⟨0, [], [], []⟩⟩))) ∧ Below W.heap.size W W') := Lib.hid fun i hi W hW => by
    have hi2 : i < l.length := by omega
    have hg : W.cell? ⟨w.heap.size, 0, none⟩ = some (.func (.func 55) #[] #[]) := (hW.cell (p := ⟨w.heap.size, 0, none⟩) hz).trans hc0
    have hlt2 : w.heap.size < W.heap.size := Nat.lt_of_lt_of_le hz hW.size
    have e1 : l.getD i ⟨true, [], ⟨0, [], [], []⟩⟩ = l[i] := by rw [List.getD_eq_getElem?_getD, List.getElem?_eq_getElem hi2]; rfl
    rw [e1]
    have hsub := ((hs0.sub i hi hi2).below hW).more hW.size
    have HP : Hid (∀ o, Calls Tryd.prog 55 #[xs[i].val] (W.alloc o) fun e w' => e = .returned (.bool (Kd.pSub l[i])) ∧ Below (W.alloc o).heap.size (W.alloc o) w') := Lib.hid fun o =>
      pSub_any l[i] _ _ ((hsub.below ((Below.refl _ _).alloc (Nat.le_refl _) _)).more (by simp)) (hS _ (List.getElem_mem hi2))
    obtain ⟨x, hx⟩ : ∃ x, xs[i] = x := ⟨_, rfl⟩
    obtain ⟨q, hq⟩ : ∃ q, Kd.pSub l[i] = q := ⟨_, rfl⟩
    rw [hx, hq] at HP ⊢
    clear hsub hx hq e1 hs hs0 hS hlen hc0 hW hB0 hW0
    go_enter Tryd.func122, Tryd.ntmps122
    go_wp2_with ((with_reducible refine (HP.out _).mono ?_); rintro e w1 ⟨rfl, hb1⟩)
    go_ret
    exact ⟨rfl, below_trans ((Below.refl _ _).alloc (Nat.le_refl _) _) hb1⟩
  have HI := Lib.hid (ix_s xs A c w.heap.size (fun i => !Kd.pSub (l.getD i ⟨true, [], ⟨0, [], [], []⟩⟩)) W0 (by omega) hs0.seg HC)
  rw [hlen] at HI
  have HCF : Hid (Calls Tryd.prog 121 #[.slice A l.length c, .func (.func 122) #[] #[.pointer (some ⟨w.heap.size, 0, none⟩)]] W0 fun e w' => e = .returned (.bool (!l.all Kd.pSub)) ∧ Below W0.heap.size W0 w') := Lib.hid (by
    have HE : Hid ((List.range l.length).any (fun i => !Kd.pSub (l.getD i ⟨true, [], ⟨0, [], [], []⟩⟩)) = !l.all Kd.pSub) := Lib.hid (by
      rw [Bool.eq_iff_iff, List.any_eq_true, Bool.not_eq_true', List.all_eq_false]
      constructor
      · rintro ⟨i, hi, h⟩
        have hi := List.mem_range.1 hi
        rw [List.getD_eq_getElem?_getD, List.getElem?_eq_getElem hi] at h
        exact ⟨l[i], List.getElem_mem hi, by simpa using h⟩
      · rintro ⟨x, hx, h⟩
        obtain ⟨i, hi, rfl⟩ := List.getElem_of_mem hx
        exact ⟨i, List.mem_range.2 hi, by rw [List.getD_eq_getElem?_getD, List.getElem?_eq_getElem hi]; simpa using h⟩)
    clear HC hs hs0 hc0 hS hW0 hB0
    go_enter Tryd.func121, Tryd.ntmps121
    go_wp2_with (refine HI.out.mono ?_; rintro e w1 ⟨⟨i, rfl, hi⟩, hb1⟩; have hi := Lib.hid hi)
    go_ret
    exact ⟨ret_bool (by rw [← HE.out]; simp only [List.getD_eq_getElem?_getD]), hb1⟩)
  have HW0 := Lib.hid hW0
  have HB0 := Lib.hid hB0
  clear HI HC hs hs0 hc0 hS hW0 hB0
  go_enter Tryd.func95, Tryd.ntmps95
  go_wp2_with fail
  rw [← HW0.out]
  refine HCF.out.mono ?_
  rintro e w1 ⟨rfl, hb1⟩
  go_wp2
  go_ret
  exact ⟨ret_bool (by simp), below_trans HB0.out hb1⟩
end Go.Proofs.YtkdhjejchdcipaaDoor
/-
  Layer 6, code: a group's bytes: putList at declared types, PutVal, PutRec.
-/
namespace Go.Proofs.YtkdhjejchdcipaaDoor
open Go.RowKit
set_option linter.unusedVariables false
set_option linter.unusedSimpArgs false
set_option maxRecDepth 100000

theorem Tb.putSub_lt (s : Sb) : ∀ x ∈ Tb.putSub s, x < 256 := by
  unfold Tb.putSub
  have h1 := Tb.putList_lt Tb.putIdx (fun h : Hp => Leb.putU_lt h.n.toNat) s.sups
  intro x hx
  rcases List.mem_append.1 hx with hx | hx
  · split at hx
    · rcases List.mem_cons.1 hx with rfl | hx
      · omega
      · exact h1 x hx
    · split at hx
      · cases hx
      · rcases List.mem_cons.1 hx with rfl | hx
        · omega
        · exact h1 x hx
  · exact Tb.putComp_lt _ x hx
theorem Tb.putSub_len {s : Sb} (hS : Kd.Small s) (hp : Kd.pSub s = true) : (Tb.putSub s).length ≤ 370000 := by
  unfold Kd.pSub at hp
  simp only [Bool.and_eq_true, List.all_eq_true] at hp
  have h1 := Tb.putList_len Tb.putIdx 12 s.sups hS.a fun x hx => Nat.le_trans (Tb.putIdx_len (hp.1 x hx)) (by omega)
  have h2 := Tb.putComp_len ⟨hS.p, hS.r, hS.f⟩ hp.2
  unfold Tb.putSub
  rw [List.length_append]
  split
  · rw [List.length_cons]; omega
  · split
    · simp only [List.length_nil]; omega
    · rw [List.length_cons]; omega
set_option maxHeartbeats 4000000 in
theorem putList_s (l : List Sb) (xs : List Sr) (A : Option Addr) (c : Nat) (w : World) (hT : Tab6 w) (hl : l.length ≤ 10000) (hp : ∀ x ∈ l, Kd.pSub x = true) (hsm : ∀ x ∈ l, Kd.Small x) (hs : Subs w w.heap.size A c xs l) :
    Calls Tryd.prog 97 #[.slice A l.length c, .func (.func 96) #[] #[]] w (Made (Tb.putList Tb.putSub l) w) := by
  obtain ⟨Q, hQ⟩ : ∃ Q : Ending → World → Prop, Q = Made (Tb.putList Tb.putSub l) w := ⟨_, rfl⟩
  rw [← hQ]
  have HQ := Lib.hid hQ
  have HLE : Hid (xs.length = l.length) := Lib.hid hs.len
  have HS := Lib.hid hs.seg
  have HC : Hid (∀ i (h : i < xs.length) (h2 : i < l.length), ∀ W, Below w.heap.size w W → Calls Tryd.prog 96 #[xs[i].val] W (Made (Tb.putSub l[i]) W)) := Lib.hid fun i h h2 W hW =>
    putSub_any l[i] _ W (hT.below hW) (((hs.sub i h h2).below hW).more hW.size) (hsm _ (List.getElem_mem h2)) (hp _ (List.getElem_mem h2))
  have HM1 : Hid (∀ x ∈ l, (Tb.putSub x).length ≤ 370000) := Lib.hid fun x hx => Tb.putSub_len (hsm x hx) (hp x hx)
  have HM : Hid (∀ k, k ≤ l.length → (Leb.putU l.length ++ (l.take k).flatMap Tb.putSub).length ≤ 3700000010) := Lib.hid fun k hk => by
    have h1 := Tb.flat_len Tb.putSub 370000 (l.take k) fun x hx => HM1.out x (List.mem_of_mem_take hx)
    have h2 := Leb.putU_len10 l.length (by omega)
    rw [List.length_take] at h1
    rw [List.length_append]
    have h3 : min k l.length * 370000 ≤ 10000 * 370000 := Nat.mul_le_mul_right _ (by omega)
    omega
  have HP : Hid (∀ W, Calls Tryd.prog 126 #[.int .u64 (l.length : Int)] W fun e w' => ∃ v, e = .returned v ∧ Own W.heap.size w' v (Leb.putU l.length) ∧ Below W.heap.size W w') := Lib.hid fun W => PutU_any l.length W (by omega)
  have hw : IntKind.u64.wrap (l.length : Int) = (l.length : Int) := IntWalk.u64_in _ (by omega)
  clear hT hp hs hsm hQ
  go_enter Tryd.func97, Tryd.ntmps97
  go_wp2_with ((with_reducible refine (HP.out _).mono ?_); rintro e w1 ⟨v1, rfl, ho, hb⟩; obtain ⟨A1, c1, rfl, -, ho2⟩ := ho.bs (Leb.putU_lt _); have HO := Lib.hid ho2; have HB := Lib.hid hb; clear ho hb ho2)
  clear hw HP
  go_loopw [5, 14] (fun out i wr => ∃ (k : Nat) (A2 : Option Addr) (c2 m : Nat), k ≤ l.length ∧ i = .int .i64 (k : Int) ∧ out = .slice A2 m c2 ∧ Hid (m = (Leb.putU l.length ++ (l.take k).flatMap Tb.putSub).length) ∧ Hid (Own w.heap.size wr (.slice A2 m c2) (Leb.putU l.length ++ (l.take k).flatMap Tb.putSub)) ∧ Below w.heap.size w wr) (fun _ i _ => l.length - (intOf i).toNat)
  case atStart => exact ⟨0, A1, c1, _, Nat.zero_le _, rfl, rfl, by simp [Hid], by simpa [Hid] using HO.out, HB.out⟩
  case round =>
    obtain ⟨k, A2, c2, m, hk, rfl, rfl, hm, HO, hB⟩ := hrel
    have HB := Lib.hid hB
    clear hB
    by_cases hlt : k < l.length
    · have hlx : k < xs.length := by rw [HLE.out]; exact hlt
      obtain ⟨b, off, rfl, hb, hc⟩ := HS.out.2.2 (by omega)
      have g0 := (HB.out.cell (p := ⟨b, off + k * 6 + 0, none⟩) hb).trans (hc k hlx 0 _ rfl)
      have g1 := (HB.out.cell (p := ⟨b, off + k * 6 + 1, none⟩) hb).trans (hc k hlx 1 _ rfl)
      have g2 := (HB.out.cell (p := ⟨b, off + k * 6 + 2, none⟩) hb).trans (hc k hlx 2 _ rfl)
      have g3 := (HB.out.cell (p := ⟨b, off + k * 6 + 3, none⟩) hb).trans (hc k hlx 3 _ rfl)
      have g4 := (HB.out.cell (p := ⟨b, off + k * 6 + 4, none⟩) hb).trans (hc k hlx 4 _ rfl)
      have g5 := (HB.out.cell (p := ⟨b, off + k * 6 + 5, none⟩) hb).trans (hc k hlx 5 _ rfl)
      simp only [Nat.add_zero] at g0
      clear hc HS
      have hmem := List.getElem_mem hlt
      have HC := Lib.hid (HC.out k hlx hlt)
      have HM1 := HM1.out _ hmem
      have HT1 := Lib.hid (Tb.take_flat Tb.putSub l k hlt (Leb.putU l.length))
      have HLX := Lib.hid (Tb.putSub_lt l[k])
      have HMk := HM.out k hk
      clear hmem
      obtain ⟨x, hx⟩ : ∃ x, x = xs[k] := ⟨_, rfl⟩
      rw [← hx] at g0 g1 g2 g3 g4 g5 HC
      clear hx hlx
      obtain ⟨lx, hlx2⟩ : ∃ lx, lx = Tb.putSub l[k] := ⟨_, rfl⟩
      rw [← hlx2] at HC HM1 HT1 HLX
      clear hlx2
      generalize Leb.putU l.length ++ (l.take k).flatMap Tb.putSub = pre at HO hm HMk HT1
      have HMK := Lib.hid HMk
      have HX := Lib.hid HM1
      clear HMk HM1
      go_wp2_with (first
        | ((with_reducible refine (HC.out _ (HB.out.alloc HB.out.size _)).mono ?_); rintro e w2 ⟨v2, rfl, ho, hb⟩; obtain ⟨A3, c3, rfl, hy, -⟩ := ho.bs HLX.out; have HO2 := Lib.hid ((HO.out.alloc _).below hb); have HB2 := Lib.hid ((HB.out.alloc HB.out.size _).trans (hb.mono (HB.out.alloc HB.out.size _).size)); have HY := Lib.hid hy; clear ho hb hy)
        | (at_builtin; refine cat_slice rfl _ _ rfl _ lx lx.length rfl rfl HO2.out HY.out HB2.out.size (pre.length + lx.length) (by have := HMK.out; have := HX.out; omega) rfl ?_; intro A5 c5 w5 ho2 hg2; have HO5 := Lib.hid ho2; have HB5 := Lib.hid (HO2.out.grown hg2 (Nat.le_refl _) HB2.out.size HB2.out); clear ho2 hg2))
      go_roundw
      case rel => exact ⟨k + 1, A5, c5, _, by omega, by go_num, rfl, by rw [Hid, ← HT1.out, List.length_append], by rw [Hid, ← HT1.out]; exact HO5.out, HB5.out⟩
      case measure => simp [intOf]; omega
    · have hkn : k = l.length := by omega
      clear HS
      go_wp2
      rw [HQ.out]
      refine ⟨_, rfl, ?_, HB.out⟩
      have h := HO.out
      rw [hkn, List.take_length] at h
      exact h
set_option maxHeartbeats 2000000 in
theorem PutVal_any (v : Vl) (w : World) (hT : Tab6 w) : Calls Tryd.prog 54 #[v.val] w (Made (if Kd.pVal v then Tb.putVal v else []) w) := by
  have HP : Hid (∀ W, Calls Tryd.prog 98 #[v.val] W fun e w' => e = .returned (.bool (Kd.pVal v)) ∧ Below W.heap.size W w') := Lib.hid fun W => pVal_any v W
  obtain ⟨W0, hW0⟩ : ∃ W0, W0 = w.alloc (.cells #[.int .i64 v.k, .bool v.nu, .int .i64 v.h.k, .int .i64 v.h.n] 46) := ⟨_, rfl⟩
  have hB0 : Below w.heap.size w W0 := by rw [hW0]; exact (Below.refl _ _).alloc (Nat.le_refl _) _
  have hz : w.heap.size < W0.heap.size := by rw [hW0]; simp
  have d0 : W0.cell? ⟨w.heap.size, 0, none⟩ = some (.int .i64 v.k) := by rw [hW0]; go_simp
  have d1 : W0.cell? ⟨w.heap.size, 1, none⟩ = some (.bool v.nu) := by rw [hW0]; go_simp
  have d2 : W0.cell? ⟨w.heap.size, 2, none⟩ = some (.int .i64 v.h.k) := by rw [hW0]; go_simp
  have d3 : W0.cell? ⟨w.heap.size, 3, none⟩ = some (.int .i64 v.h.n) := by rw [hW0]; go_simp
  have HB0 := Lib.hid hB0
  have HW0 := Lib.hid hW0
  cases hp : Kd.pVal v
  · rw [hp] at HP
    rw [if_neg (by decide)]
    clear hW0 hB0 hT hp
    go_enter Tryd.func54, Tryd.ntmps54
    go_wp2_with ((with_reducible refine (HP.out _).mono ?_); rw [← HW0.out]; rintro e w1 ⟨rfl, hb⟩; have HB1 := Lib.hid hb; clear hb)
    go_ret
    exact ⟨_, rfl, Own.nil _ _, below_trans HB0.out HB1.out⟩
  · rw [hp] at HP
    rw [if_pos rfl]
    have HV : Hid (∀ W, Below W0.heap.size W0 W → Calls Tryd.prog 99 #[v.val] W (Made (Tb.putVal v) W)) := Lib.hid fun W hW => putVal_any v hp W ((hT.below hB0).below hW)
    clear hW0 hB0 hT hp
    go_enter Tryd.func54, Tryd.ntmps54
    go_wp2_with (first
      | ((with_reducible refine (HP.out _).mono ?_); rw [← HW0.out]; rintro e w1 ⟨rfl, hb⟩; have HB1 := Lib.hid hb; have q0 := (hb.cell (p := ⟨w.heap.size, 0, none⟩) hz).trans d0; have q1 := (hb.cell (p := ⟨w.heap.size, 1, none⟩) hz).trans d1; have q2 := (hb.cell (p := ⟨w.heap.size, 2, none⟩) hz).trans d2; have q3 := (hb.cell (p := ⟨w.heap.size, 3, none⟩) hz).trans d3; clear hb)
      | ((with_reducible refine (HV.out _ HB1.out).mono ?_); rintro e w2 ⟨v2, rfl, ho, hb⟩; have HO := Lib.hid ho; have HB2 := Lib.hid hb; clear ho hb))
    go_ret
    exact ⟨_, rfl, HO.out.base (Nat.le_trans HB0.out.size HB1.out.size), below_trans (below_trans HB0.out HB1.out) HB2.out⟩
end Go.Proofs.YtkdhjejchdcipaaDoor
/-
  Layer 6, code: PutRec.
-/
namespace Go.Proofs.YtkdhjejchdcipaaDoor
open Go.RowKit
set_option linter.unusedVariables false
set_option linter.unusedSimpArgs false
set_option maxRecDepth 100000

theorem Tb.putRec_one {s : Sb} (h : Kd.pSub s = true) : Tb.putRec [s] = Tb.putSub s := by
  unfold Tb.putRec
  rw [if_neg (by simp [h])]
theorem Tb.putRec_more {l : List Sb} (h0 : l ≠ []) (h1 : l.length ≠ 1) (ha : l.all Kd.pSub = true) : Tb.putRec l = 78 :: Tb.putList Tb.putSub l := by
  unfold Tb.putRec
  rw [if_neg (by simp [h0, ha])]
  split
  · exact absurd rfl h1
  · rfl
set_option maxHeartbeats 4000000 in
theorem PutRec_any (l : List Sb) (xs : List Sr) (A : Option Addr) (c : Nat) (w : World) (hT : Tab6 w) (hl : l.length ≤ 10000) (hsm : ∀ x ∈ l, Kd.Small x) (hs : Subs w w.heap.size A c xs l) :
    Calls Tryd.prog 52 #[.slice A l.length c] w (Made (Tb.putRec l) w) := by
  obtain ⟨Q, hQ⟩ : ∃ Q : Ending → World → Prop, Q = Made (Tb.putRec l) w := ⟨_, rfl⟩
  rw [← hQ]
  have HA := Lib.hid (all_s l xs A c w hl hs hsm)
  by_cases h0 : l = []
  · subst h0
    have HI : Hid (Q = Made [] w) := Lib.hid (by rw [hQ]; unfold Tb.putRec; rw [if_pos (.inl rfl)])
    clear HA hT hl hsm hs hQ
    go_enter Tryd.func52, Tryd.ntmps52
    go_wp2
    rw [HI.out]
    exact ⟨_, rfl, Own.nil _ _, Below.refl _ _⟩
  have hlen0 : l.length ≠ 0 := fun e => h0 (List.eq_nil_of_length_eq_zero e)
  have n0 : ((l.length : Int) == 0) = false := by rw [beq_eq_false_iff_ne]; omega
  cases ha : l.all Kd.pSub
  · rw [ha] at HA
    have HI : Hid (Q = Made [] w) := Lib.hid (by rw [hQ]; unfold Tb.putRec; rw [if_pos (.inr ha)])
    clear hT hl hsm hs hQ ha h0 hlen0
    go_enter Tryd.func52, Tryd.ntmps52
    go_wp2_with ((with_reducible refine HA.out.mono ?_); rintro e w1 ⟨rfl, hb⟩; have HB1 := Lib.hid hb; clear hb)
    rw [HI.out]
    exact ⟨_, rfl, Own.nil _ _, HB1.out⟩
  rw [ha] at HA
  have hp : ∀ x ∈ l, Kd.pSub x = true := by rw [List.all_eq_true] at ha; exact ha
  by_cases h1 : l.length = 1
  · obtain ⟨s, rfl⟩ : ∃ s, l = [s] := by
      match l, h1 with
      | [s], _ => exact ⟨s, rfl⟩
    have hxl := hs.len
    obtain ⟨x, rfl⟩ : ∃ x, xs = [x] := by
      match xs, hxl with
      | [x], _ => exact ⟨x, rfl⟩
    have HI : Hid (Q = Made (Tb.putSub s) w) := Lib.hid (by rw [hQ, Tb.putRec_one (hp s (by simp))])
    have HC : Hid (∀ W, Below w.heap.size w W → Calls Tryd.prog 96 #[x.val] W (Made (Tb.putSub s) W)) := Lib.hid fun W hW =>
      putSub_any s _ W (hT.below hW) (((hs.sub 0 (by simp) (by simp)).below hW).more hW.size) (hsm s (by simp)) (hp s (by simp))
    obtain ⟨b, off, rfl, hb0, hc⟩ := hs.seg.2.2 (by simp)
    have d0 := hc 0 (by simp) 0 _ rfl
    have d1 := hc 0 (by simp) 1 _ rfl
    have d2 := hc 0 (by simp) 2 _ rfl
    have d3 := hc 0 (by simp) 3 _ rfl
    have d4 := hc 0 (by simp) 4 _ rfl
    have d5 := hc 0 (by simp) 5 _ rfl
    simp only [Nat.zero_mul, Nat.add_zero, List.getElem_cons_zero] at d0 d1 d2 d3 d4 d5
    rw [List.length_singleton] at HA n0 ⊢
    clear hc hT hl hsm hs hQ ha h0 hlen0 hp h1 hxl
    go_enter Tryd.func52, Tryd.ntmps52
    go_wp2_with (first
      | ((with_reducible refine HA.out.mono ?_); rintro e w1 ⟨rfl, hb⟩; have HB1 := Lib.hid hb; have q0 := (hb.cell (p := ⟨b, off, none⟩) hb0).trans d0; have q1 := (hb.cell (p := ⟨b, off + 1, none⟩) hb0).trans d1; have q2 := (hb.cell (p := ⟨b, off + 2, none⟩) hb0).trans d2; have q3 := (hb.cell (p := ⟨b, off + 3, none⟩) hb0).trans d3; have q4 := (hb.cell (p := ⟨b, off + 4, none⟩) hb0).trans d4; have q5 := (hb.cell (p := ⟨b, off + 5, none⟩) hb0).trans d5; clear hb)
      | ((with_reducible refine (HC.out _ HB1.out).mono ?_); rintro e w2 ⟨v2, rfl, ho, hb⟩; have HO := Lib.hid ho; have HB2 := Lib.hid hb; clear ho hb))
    rw [HI.out]
    exact ⟨_, rfl, HO.out.base HB1.out.size, below_trans HB1.out HB2.out⟩
  have n1 : ((l.length : Int) == 1) = false := by rw [beq_eq_false_iff_ne]; omega
  have HI : Hid (Q = Made (78 :: Tb.putList Tb.putSub l) w) := Lib.hid (by rw [hQ, Tb.putRec_more h0 h1 ha])
  have HC : Hid (∀ W, Below w.heap.size w W → Calls Tryd.prog 97 #[.slice A l.length c, .func (.func 96) #[] #[]] W (Made (Tb.putList Tb.putSub l) W)) := Lib.hid fun W hW =>
    putList_s l xs A c W (hT.below hW) hl hp hsm ((hs.below hW).more hW.size)
  have HX := Lib.hid (Tb.putList_lt Tb.putSub Tb.putSub_lt l)
  have HL := Lib.hid (Tb.putList_len Tb.putSub 370000 l hl fun x hx => Tb.putSub_len (hsm x hx) (hp x hx))
  generalize Tb.putList Tb.putSub l = lf at HI HC HX HL
  clear hT hl hsm hs hQ ha h0 hlen0 hp h1
  go_enter Tryd.func52, Tryd.ntmps52
  go_wp2_with (first
    | ((with_reducible refine HA.out.mono ?_); rintro e w1 ⟨rfl, hb⟩; have HB1 := Lib.hid hb; have HO0 := Lib.hid (Own.lit1 w1 (Nat.le_refl _) 78); clear hb)
    | ((with_reducible refine (HC.out _ (HB1.out.alloc HB1.out.size _)).mono ?_); rintro e w2 ⟨v2, rfl, ho, hb⟩; obtain ⟨A5, c5, rfl, hy, -⟩ := ho.bs HX.out; have HY := Lib.hid hy; have HO2 := Lib.hid (HO0.out.below hb); have HB2 : Hid (Below w1.heap.size w1 w2) := Lib.hid (((Below.refl _ _).alloc (Nat.le_refl _) _).trans (hb.mono (by simp))); clear ho hb hy)
    | (at_builtin; refine cat_slice rfl _ _ rfl _ lf lf.length rfl rfl HO2.out HY.out HB2.out.size (lf.length + 1) (by have := HL.out; omega) (Nat.add_comm 1 lf.length) ?_; intro A7 c7 w5 ho2 hg2; have HO5 := Lib.hid ho2; have HB5 := Lib.hid (HO2.out.grown hg2 (Nat.le_refl _) HB2.out.size HB2.out); clear ho2 hg2))
  rw [HI.out]
  exact ⟨_, rfl, HO5.out.base HB1.out.size, below_trans HB1.out HB5.out⟩
end Go.Proofs.YtkdhjejchdcipaaDoor
/-
  PLAIN: layer 6: a group is read back.
-/
namespace Go.Proofs.YtkdhjejchdcipaaDoor
open Go.RowKit
set_option linter.unusedVariables false

namespace Tb
theorem rec_back {l : List Sb} (h0 : l ≠ []) (hl : l.length ≤ 10000) (hS : ∀ s ∈ l, Kd.Small s) (ha : l.all Kd.pSub = true) {r : Rd} {t : List Nat} (h : Sees r (putRec l ++ t)) : rec_ r = (l, r.go (putRec l).length) := by
  have hp : ∀ x ∈ l, Kd.pSub x = true := by rw [List.all_eq_true] at ha; exact ha
  by_cases h1 : l.length = 1
  · obtain ⟨s, rfl⟩ : ∃ s, l = [s] := by
      match l, h1 with
      | [s], _ => exact ⟨s, rfl⟩
    rw [putRec_one (hp s (by simp))] at h ⊢
    obtain ⟨x, u, hx, hn⟩ := putSub_first s
    unfold rec_
    rw [may_of h hx, if_neg (by simp [hn]), sub_back (hS s (by simp)) (hp s (by simp)) h, if_pos (show (r.go (putSub s).length).e = 0 from h.e)]
  · rw [putRec_more h0 h1 ha] at h ⊢
    unfold rec_
    rw [may_of h rfl, if_pos (by decide), list_back sub putSub l hl (fun x _ => putSub_pos x) (fun x hx r t h => sub_back (hS x hx) (hp x hx) h) (Sees.next h), on_go, List.length_cons]
theorem sees_opened (s : List Nat) : Sees (opened s) s := ⟨rfl, rfl, Nat.zero_le _⟩
/-- A group that is plain, whatever stands behind it. -/
theorem rec_opened {l : List Sb} (h0 : putRec l ≠ []) (hl : l.length ≤ 10000) (hS : ∀ s ∈ l, Kd.Small s) (t : List Nat) : rec_ (opened (putRec l ++ t)) = (l, ⟨putRec l ++ t, (putRec l).length, 0, 0⟩) := by
  have h1 : l ≠ [] ∧ l.all Kd.pSub = true := by
    constructor
    · rintro rfl
      exact h0 rfl
    · cases ha : l.all Kd.pSub
      · exact absurd (show putRec l = [] by unfold putRec; rw [if_pos (.inr ha)]) h0
      · rfl
  rw [rec_back h1.1 hl hS h1.2 (sees_opened _)]
  unfold Rd.go opened
  rw [Nat.zero_add]
theorem val_opened {v : Vl} (hp : Kd.pVal v = true) (t : List Nat) : val (opened (putVal v ++ t)) = (v, ⟨putVal v ++ t, (putVal v).length, 0, 0⟩) := by
  rw [val_back hp (sees_opened _)]
  unfold Rd.go opened
  rw [Nat.zero_add]
end Tb
end Go.Proofs.YtkdhjejchdcipaaDoor
/-
  PLAIN: layer 6: bytes that are cut: a reader whose bytes end ahead of an item's end. No Go in sight.
-/
namespace Go.Proofs.YtkdhjejchdcipaaDoor
open Go.RowKit
set_option linter.unusedVariables false

namespace Leb
theorem rd_prefix (bits : Nat) (sg : Bool) : ∀ (u t : List Nat) (a place n v c : Nat), rd bits sg (u ++ t) a place n = (v, a + c, 0) → u.length < c → rd bits sg u a place n = (0, 0, 10)
  | [], _, _, _, _, _, _, _, _ => by simp [rd]
  | x :: u, t, a, place, n, v, c, h, hc => by
    rw [List.cons_append, rd] at h
    rw [rd]
    rw [List.length_cons] at hc
    split at h
    · next hf =>
      rw [if_pos hf]
      split at h
      · simp only [Prod.mk.injEq] at h
        omega
      · next h1 =>
        rw [if_neg h1]
        split at h
        · simp at h
        · next h2 =>
          rw [if_neg h2]
          exact rd_prefix bits sg u t (a + 1) (place + 7) _ v (c - 1) (by rw [h]; congr 2; omega) (by omega)
    · simp at h
end Leb
namespace Tb
/-- A reader that met the bytes' end. -/
def Bad (n : Nat) (r : Rd) : Prop := r.e = 10 ∧ 0 ≤ r.bad ∧ r.bad ≤ (n : Int)
/-- An item whose bytes are cut. -/
def Short {α : Type} (one : Rd → α × Rd) (s : List Nat) : Prop := ∀ r u t, t ≠ [] → u ++ t = s → Sees r u → Bad r.bs.length (one r).2
/-- Behind an error nothing is read. -/
def Still {α : Type} (one : Rd → α × Rd) : Prop := ∀ r, r.e ≠ 0 → (one r).2 = r
def Back {α : Type} (one : Rd → α × Rd) (x : α) (s : List Nat) : Prop := ∀ r t, Sees r (s ++ t) → one r = (x, r.go s.length)
theorem Bad.ne {n : Nat} {r : Rd} (h : Bad n r) : r.e ≠ 0 := by rw [h.1]; decide
theorem cut_cases {u t a b : List Nat} (ht : t ≠ []) (h : u ++ t = a ++ b) : (∃ a', a' ≠ [] ∧ u ++ a' = a) ∨ (∃ c', u = a ++ c' ∧ c' ++ t = b) := by
  rcases List.append_eq_append_iff.1 h with ⟨a', h1, h2⟩ | ⟨c', h1, h2⟩
  · by_cases ha : a' = []
    · subst ha
      exact .inr ⟨[], by simpa using h1.symm, by simpa using h2⟩
    · exact .inl ⟨a', ha, h1.symm⟩
  · exact .inr ⟨c', h1, h2.symm⟩
theorem seq_short {α β : Type} {one : Rd → α × Rd} {two : Rd → β × Rd} {x : α} {a b : List Nat} (h1 : Short one a) (hb : Back one x a) (h2 : Short two b) (hs : Still two) {r : Rd} {u t : List Nat} (ht : t ≠ []) (h : u ++ t = a ++ b) (hr : Sees r u) :
    Bad r.bs.length (two (one r).2).2 := by
  rcases cut_cases ht h with ⟨a', ha, e⟩ | ⟨c', rfl, e⟩
  · have := h1 r u a' ha e hr
    rw [hs _ this.ne]
    exact this
  · rw [hb r c' hr]
    exact h2 (r.go a.length) c' t ht e hr.go
theorem item_still {α : Type} (d : α) (f : List Nat → Nat → α × Nat × Nat) : Still (item d f) := fun r h => by unfold item; rw [if_neg h]
theorem item_short {α : Type} (d : α) (f : List Nat → Nat → α × Nat × Nat) {r : Rd} (hs : r.e = 0) (hp : r.p ≤ r.bs.length) (h : (f r.bs r.p).2.2 = 10) : Bad r.bs.length (item d f r).2 := by
  unfold item
  rw [if_pos hs, h, if_neg (by decide)]
  exact ⟨rfl, by dsimp only; omega, by dsimp only; omega⟩
theorem item_zero {α : Type} (d : α) (f : List Nat → Nat → α × Nat × Nat) {r : Rd} (h : (item d f r).2.e ≠ 0) : (item d f r).1 = d := by
  unfold item at h ⊢
  split
  · next h0 =>
    rw [if_pos h0] at h
    split
    · next h1 => rw [if_pos h1] at h; exact absurd h0 h
    · rfl
  · rfl
theorem u_short {n : Nat} (hn : n < 4294967296) : Short (u 32) (Leb.putU n) := fun r v t ht e hr => by
  refine item_short _ _ hr.e hr.p ?_
  show (told false r.bs r.p 32).2.2 = 10
  unfold told
  have hp := hr.p
  rw [if_neg (by omega)]
  show (Leb.rd 32 false (r.bs.drop (r.p : Int).toNat) (r.p : Int).toNat 0 0).2.2 = 10
  rw [Int.toNat_natCast, hr.d]
  have h1 := Leb.rd_putU 32 n [] r.p (by omega) (by omega) hn
  rw [List.append_nil, ← e] at h1
  rw [Leb.rd_prefix 32 false v t r.p 0 0 _ _ h1 (by have := List.length_pos_iff.2 ht; rw [List.length_append]; omega)]
theorem index_short {x : Hp} (hp : Kd.pIdx x = true) : Short index (putIdx x) := fun r v t ht e hr => by
  unfold Kd.pIdx at hp
  simp only [Bool.and_eq_true, decide_eq_true_eq] at hp
  exact u_short (n := x.n.toNat) (by omega) r v t ht e hr
theorem u_still (bits : Int) : Still (u bits) := item_still _ _
theorem index_still : Still index := fun r h => u_still 32 r h
theorem noGiven {r : Rd} (hr : Sees r []) : isGiven r.bs r.p = false := by
  have := hr.len
  unfold isGiven
  rw [decide_eq_false (by simp at this; omega), Bool.false_and]
theorem heap_short {h : Hp} (hp : Kd.pHeap h = true) : Short heap (putHeap h) := fun r v t ht e hr => by
  refine item_short _ _ hr.e hr.p ?_
  have hpl := hr.p
  rcases heap_cases hp with ⟨hx, hn⟩ | ⟨hx, hk, h0, h1⟩
  · rw [putHeap_short hx] at e
    obtain rfl : v = [] := by
      match v, t, e, ht with
      | [], _, _, _ => rfl
      | [_], [], _, ht => exact absurd rfl ht
      | _ :: _ :: _, _, e, _ => simp at e
    unfold heapAt
    rw [noGiven hr, if_neg (by decide)]
    have ht : told true r.bs r.p 33 = (0, 0, 10) := by
      unfold told
      rw [if_neg (by omega)]
      show Leb.rd 33 true (r.bs.drop (r.p : Int).toNat) (r.p : Int).toNat 0 0 = _
      rw [Int.toNat_natCast, hr.d]
      rfl
    rw [ht]
    rfl
  · rw [putHeap_long hx] at e
    have ht : told true r.bs r.p 33 = (0, 0, 10) := by
      unfold told
      rw [if_neg (by omega)]
      show Leb.rd 33 true (r.bs.drop (r.p : Int).toNat) (r.p : Int).toNat 0 0 = _
      rw [Int.toNat_natCast, hr.d]
      have h1 := Leb.rd_putS 33 h.n [] r.p (by omega) (by omega) (by omega) (by omega)
      rw [List.append_nil, ← e] at h1
      exact Leb.rd_prefix 33 true v t r.p 0 0 _ _ h1 (by have := List.length_pos_iff.2 ht; rw [List.length_append]; omega)
    have hng : isGiven r.bs r.p = false := by
      match v, hr, e with
      | [], hr, _ => exact noGiven hr
      | y :: v, hr, e =>
        obtain ⟨y', u', hy, hr'⟩ := putS_first h0
        rw [hy] at e
        obtain ⟨rfl, -⟩ : y = y' ∧ v ++ t = u' := by simpa using e
        have hg := Sees.get hr
        unfold isGiven
        rw [hg.2]
        simp only [Bool.and_eq_false_iff, decide_eq_false_iff_not]
        omega
    unfold heapAt
    rw [hng, if_neg (by decide), ht]
    rfl
theorem heap_still : Still heap := item_still _ _
theorem ref_short (nu : Bool) {h : Hp} (hp : Kd.pHeap h = true) : Short (ref nu) (putHeap h) := fun r v t ht e hr => by
  have h1 := heap_short hp r v t ht e hr
  unfold ref
  rw [if_neg h1.ne]
  exact h1
theorem may_still (x : Nat) {r : Rd} (h : r.e ≠ 0) : may x r = false := by unfold may; rw [decide_eq_false h, Bool.false_and]
theorem val_still : Still val := fun r h => by
  unfold val
  rw [may_still _ h, may_still _ h, may_still _ h, may_still _ h]
  exact item_still _ _ r h
theorem noneAt_short {α : Type} (d : α) {r : Rd} (hr : Sees r []) : (noneAt d r.bs r.p).2.2 = 10 := by
  have := hr.len
  unfold noneAt
  rw [if_pos (by simpa using this.symm)]
theorem val_nil {r : Rd} (hr : Sees r []) : Bad r.bs.length (val r).2 := by
  unfold val
  rw [hr.may_nil, hr.may_nil, hr.may_nil, hr.may_nil]
  refine item_short _ _ hr.e hr.p ?_
  have := hr.len
  unfold shortAt
  rw [noGiven hr, if_neg (by decide), if_neg (by simp at this; omega)]
  exact noneAt_short _ hr
/-- The bytes of an item whose first byte is told: none, or that one and others. -/
theorem cut_first {v t s : List Nat} {x : Nat} (e : v ++ t = x :: s) : v = [] ∨ ∃ v', v = x :: v' ∧ v' ++ t = s := by
  match v, e with
  | [], _ => exact .inl rfl
  | y :: v, e =>
    obtain ⟨rfl, h⟩ : y = x ∧ v ++ t = s := by simpa using e
    exact .inr ⟨v, rfl, h⟩
theorem cut_one {v t : List Nat} {x : Nat} (ht : t ≠ []) (e : v ++ t = [x]) : v = [] := by
  rcases cut_first e with h | ⟨v', -, h⟩
  · exact h
  · exact absurd (List.append_eq_nil_iff.1 h).2 ht
theorem Bad.on {r r' : Rd} (h : Bad (on r).bs.length r') : Bad r.bs.length r' := h
theorem val_short {v : Vl} (hp : Kd.pVal v = true) : Short val (putVal v) := fun r w t ht e hr => by
  unfold Kd.pVal at hp
  by_cases h1 : v.k = 1
  · have e1 : putVal v = [127] := by unfold putVal; rw [if_pos h1]
    rw [e1] at e
    obtain rfl := cut_one ht e
    exact val_nil hr
  rw [if_neg h1] at hp
  by_cases h2 : v.k = 2
  · have e1 : putVal v = [126] := by unfold putVal; rw [if_neg h1, if_pos h2]
    rw [e1] at e
    obtain rfl := cut_one ht e
    exact val_nil hr
  rw [if_neg h2] at hp
  split at hp
  · rename_i h3
    obtain ⟨k, nu, h⟩ := v
    dsimp only at h1 h2 h3 hp
    subst h3
    cases nu with
    | false =>
      have e1 : putVal ⟨3, false, h⟩ = 100 :: putHeap h := rfl
      rw [e1] at e
      rcases cut_first e with rfl | ⟨w', rfl, e'⟩
      · exact val_nil hr
      · have m := fun b => Sees.may hr b
        unfold val
        rw [m, if_neg (by decide), m, if_neg (by decide), m, if_neg (by decide), m, if_pos (by decide)]
        exact (ref_short false hp (on r) w' t ht e' hr.next).on
    | true =>
      by_cases hk : h.k = 13
      · have e1 : putVal ⟨3, true, h⟩ = 99 :: putHeap h := by unfold putVal; simp [hk]
        rw [e1] at e
        rcases cut_first e with rfl | ⟨w', rfl, e'⟩
        · exact val_nil hr
        · have m := fun b => Sees.may hr b
          unfold val
          rw [m, if_neg (by decide), m, if_neg (by decide), m, if_pos (by decide)]
          exact (ref_short true hp (on r) w' t ht e' hr.next).on
      · have e1 : putVal ⟨3, true, h⟩ = putHeap h := by unfold putVal; simp [hk]
        rcases heap_cases hp with ⟨hx, hn⟩ | ⟨hx, hk2, -⟩
        · rw [e1, putHeap_short hx] at e
          obtain rfl := cut_one ht e
          exact val_nil hr
        · exact absurd hk2 hk
  · cases hp
theorem putVal_first {v : Vl} (hp : Kd.pVal v = true) : ∃ x u, putVal v = x :: u ∧ x ≠ 119 ∧ x ≠ 120 := by
  unfold putVal
  split
  · exact ⟨127, [], rfl, by decide, by decide⟩
  · split
    · exact ⟨126, [], rfl, by decide, by decide⟩
    · split
      · exact ⟨100, _, rfl, by decide, by decide⟩
      · split
        · exact ⟨99, _, rfl, by decide, by decide⟩
        · rename_i h1 h2 h3 h4
          have hph : Kd.pHeap v.h = true := by
            unfold Kd.pVal at hp
            rw [if_neg h1, if_neg h2] at hp
            split at hp
            · exact hp
            · cases hp
          rcases heap_cases hph with ⟨hx, -⟩ | ⟨hx, hk2, -⟩
          · exact ⟨_, [], putHeap_short hx, by omega, by omega⟩
          · exact absurd hk2 h4
theorem store_still : Still store := fun r h => by
  unfold store
  rw [may_still _ h, may_still _ h]
  exact val_still r h
theorem store_nil {r : Rd} (hr : Sees r []) : Bad r.bs.length (store r).2 := by
  unfold store
  rw [hr.may_nil, hr.may_nil]
  exact val_nil hr
theorem store_short {f : Fd} (hp : Kd.pField f = true) : Short store (putStore f.pk f.v) := fun r w t ht e hr => by
  unfold Kd.pField at hp
  by_cases h8 : f.pk = 8
  · have e1 : putStore f.pk f.v = [120] := by unfold putStore; rw [if_pos h8]
    rw [e1] at e
    obtain rfl := cut_one ht e
    exact store_nil hr
  by_cases h16 : f.pk = 16
  · have e1 : putStore f.pk f.v = [119] := by unfold putStore; rw [if_neg h8, if_pos h16]
    rw [e1] at e
    obtain rfl := cut_one ht e
    exact store_nil hr
  by_cases h0 : f.pk = 0
  · rw [if_pos h0] at hp
    have e1 : putStore f.pk f.v = putVal f.v := by unfold putStore; rw [if_neg h8, if_neg h16]
    rw [e1] at e
    obtain ⟨x, u, hx, h119, h120⟩ := putVal_first hp
    have hv := val_short hp r w t ht e hr
    rw [hx] at e
    rcases cut_first e with rfl | ⟨w', rfl, e'⟩
    · exact store_nil hr
    · unfold store
      rw [Sees.may hr, if_neg (by simp [h120]), Sees.may hr, if_neg (by simp [h119])]
      exact hv
  · rw [if_neg h0, if_neg (by omega)] at hp
    cases hp
theorem mut_short (m : Bool) : Short (item false mutAt) [if m then 1 else 0] := fun r w t ht e hr => by
  obtain rfl := cut_one ht e
  refine item_short _ _ hr.e hr.p ?_
  have := hr.len
  unfold mutAt
  rw [if_neg (by simp at this; omega)]
  exact noneAt_short _ hr
theorem store_Back {f : Fd} (hp : Kd.pField f = true) : Back store (f.pk, f.v) (putStore f.pk f.v) := fun r t h => store_back hp h
theorem field_short {f : Fd} (hp : Kd.pField f = true) : Short field (putField f) := fun r w t ht e hr =>
  seq_short (two := item false mutAt) (store_short hp) (store_Back hp) (mut_short f.mu) (item_still _ _) ht e hr
theorem field_still : Still field := fun r h => by
  show (item false mutAt (store r).2).2 = r
  rw [store_still r h]
  exact item_still _ _ r h
theorem many_zero {α : Type} (one : Rd → α × Rd) : ∀ (n : Nat) (out : List α) (r : Rd), (r.e ≠ 0 → out = []) → (many one n out r).2.e ≠ 0 → (many one n out r).1 = []
  | 0, out, r, h, h1 => h h1
  | n + 1, out, r, h, h1 => by
    unfold many at h1 ⊢
    split
    · next h0 =>
      rw [if_pos h0] at h1
      exact many_zero one n _ _ (fun h2 => absurd h0 h2) h1
    · rfl
theorem list_zero {α : Type} (one : Rd → α × Rd) (r : Rd) (h : (list one r).2.e ≠ 0) : (list one r).1 = [] :=
  many_zero one _ _ _ (fun _ => rfl) h
theorem list_still {α : Type} (one : Rd → α × Rd) : Still (list one) := fun r h => by
  unfold list
  have h1 : count r = (0, r) := by unfold count item; rw [if_neg h]
  rw [h1]
  rfl
theorem many_short {α : Type} (one : Rd → α × Rd) (put : α → List Nat) : ∀ (l : List α) (out : List α) (r : Rd) (u t : List Nat), (∀ x ∈ l, Short one (put x)) → (∀ x ∈ l, Back one x (put x)) → t ≠ [] → u ++ t = l.flatMap put → Sees r u → Bad r.bs.length (many one l.length out r).2
  | [], out, r, u, t, _, _, ht, e, _ => absurd (List.append_eq_nil_iff.1 e).2 ht
  | x :: l, out, r, u, t, hs, hb, ht, e, hr => by
    rw [List.flatMap_cons] at e
    rw [List.length_cons]
    unfold many
    rcases cut_cases ht e with ⟨a', ha, e1⟩ | ⟨c', rfl, e1⟩
    · have := hs x (by simp) r u a' ha e1 hr
      rw [if_neg this.ne]
      exact this
    · rw [hb x (by simp) r c' hr]
      rw [if_pos (show (r.go (put x).length).e = 0 from hr.e)]
      exact many_short one put l _ (r.go (put x).length) c' t (fun y hy => hs y (by simp [hy])) (fun y hy => hb y (by simp [hy])) ht e1 hr.go
theorem list_short {α : Type} (one : Rd → α × Rd) (put : α → List Nat) (l : List α) (hl : l.length ≤ 10000) (hs : ∀ x ∈ l, Short one (put x)) (hb : ∀ x ∈ l, Back one x (put x)) : Short (list one) (putList put l) := fun r u t ht e hr => by
  unfold putList at e
  rcases cut_cases ht e with ⟨a', ha, e1⟩ | ⟨c', rfl, e1⟩
  · have hc : count r = (0, (count r).2) ∧ Bad r.bs.length (count r).2 := by
      have h10 : (countAt r.bs r.p).2.2 = 10 := by
        unfold countAt
        have h1 := u_short (n := l.length) (by omega) r u a' ha e1 hr
        have h2 : (told false r.bs r.p 32).2.2 = 10 := by
          unfold told
          have hp := hr.p
          rw [if_neg (by omega)]
          show (Leb.rd 32 false (r.bs.drop (r.p : Int).toNat) (r.p : Int).toNat 0 0).2.2 = 10
          rw [Int.toNat_natCast, hr.d]
          have h1 := Leb.rd_putU 32 l.length [] r.p (by omega) (by omega) (by omega)
          rw [List.append_nil, ← e1] at h1
          rw [Leb.rd_prefix 32 false u a' r.p 0 0 _ _ h1 (by have := List.length_pos_iff.2 ha; rw [List.length_append]; omega)]
        rw [h2]
        rfl
      have hB := item_short 0 countAt hr.e hr.p h10
      exact ⟨Prod.ext (item_zero _ _ hB.ne) rfl, hB⟩
    unfold list
    rw [hc.1]
    exact hc.2
  · have ht0 := told_U (n := l.length) (by omega) hr
    by_cases hc : r.bs.length - (r.p + (Leb.putU l.length).length) < l.length
    · have hB := item_short 0 countAt hr.e hr.p (by unfold countAt; rw [ht0]; dsimp only; rw [if_pos rfl, if_pos hc])
      have hc2 : count r = (0, (count r).2) := Prod.ext (item_zero _ _ hB.ne) rfl
      unfold list
      rw [hc2]
      exact hB
    · have hcr : count r = (l.length, r.go (Leb.putU l.length).length) := by
        refine hr.item _ _ _ _ ?_
        unfold countAt
        rw [ht0]
        dsimp only
        rw [if_pos rfl, if_neg hc]
      unfold list
      rw [hcr]
      exact many_short one put l [] (r.go (Leb.putU l.length).length) c' t hs hb ht e1 hr.go
theorem vals_short {l : List Vl} (hl : l.length ≤ 10000) (hp : ∀ x ∈ l, Kd.pVal x = true) : Short vals (putList putVal l) :=
  list_short val putVal l hl (fun x hx => val_short (hp x hx)) (fun x hx r t h => val_back (hp x hx) h)
theorem fields_short {l : List Fd} (hl : l.length ≤ 10000) (hp : ∀ x ∈ l, Kd.pField x = true) : Short (list field) (putList putField l) :=
  list_short field putField l hl (fun x hx => field_short (hp x hx)) (fun x hx r t h => field_back (hp x hx) h)
theorem sups_short {l : List Hp} (hl : l.length ≤ 10000) (hp : ∀ x ∈ l, Kd.pIdx x = true) : Short (list index) (putList putIdx l) :=
  list_short index putIdx l hl (fun x hx => index_short (hp x hx)) (fun x hx r t h => index_back (hp x hx) h)
theorem comp_nil {r : Rd} (hr : Sees r []) : Bad r.bs.length (comp r).2 := by
  unfold comp
  rw [hr.may_nil, hr.may_nil, hr.may_nil]
  exact item_short _ _ hr.e hr.p (noneAt_short _ hr)
theorem comp_still : Still comp := fun r h => by
  unfold comp
  rw [may_still _ h, may_still _ h, may_still _ h]
  exact item_still _ _ r h
theorem comp_short {c : Cp} (hS : SmallC c) (hp : Kd.pComp c = true) : Short comp (putComp c) := fun r w t ht e hr => by
  obtain ⟨k, ps, rs, fs⟩ := c
  obtain ⟨s1, s2, s3⟩ := hS
  dsimp only at s1 s2 s3
  unfold Kd.pComp at hp
  dsimp only at hp
  by_cases h1 : k = 1
  · subst h1
    rw [if_pos rfl] at hp
    simp only [Bool.and_eq_true, List.all_eq_true, decide_eq_true_eq] at hp
    obtain rfl : fs = [] := List.eq_nil_of_length_eq_zero hp.2.2
    have e1 : putComp ⟨1, ps, rs, []⟩ = 96 :: (putList putVal ps ++ putList putVal rs) := rfl
    rw [e1] at e
    rcases cut_first e with rfl | ⟨w', rfl, e'⟩
    · exact comp_nil hr
    · unfold comp
      rw [Sees.may hr, if_pos (by decide)]
      exact (seq_short (one := vals) (two := vals) (vals_short s1 hp.1) (fun r t h => vals_back s1 hp.1 h) (vals_short s2 hp.2.1) (list_still _) ht e' hr.next).on
  rw [if_neg h1] at hp
  by_cases h2 : k = 2
  · subst h2
    rw [if_pos rfl] at hp
    simp only [Bool.and_eq_true, List.all_eq_true] at hp
    have e1 : putComp ⟨2, ps, rs, fs⟩ = 95 :: putList putField fs := rfl
    rw [e1] at e
    rcases cut_first e with rfl | ⟨w', rfl, e'⟩
    · exact comp_nil hr
    · unfold comp
      rw [Sees.may hr, if_neg (by decide), Sees.may hr, if_pos (by decide)]
      exact (fields_short s3 hp.2 (on r) w' t ht e' hr.next).on
  rw [if_neg h2] at hp
  by_cases h3 : k = 3
  · subst h3
    rw [if_pos rfl] at hp
    simp only [Bool.and_eq_true, List.all_eq_true, decide_eq_true_eq] at hp
    obtain ⟨f, rfl⟩ : ∃ f, fs = [f] := by
      match fs, hp.2.1 with
      | [f], _ => exact ⟨f, rfl⟩
    have e1 : putComp ⟨3, ps, rs, [f]⟩ = 94 :: putField f := rfl
    rw [e1] at e
    rcases cut_first e with rfl | ⟨w', rfl, e'⟩
    · exact comp_nil hr
    · unfold comp
      rw [Sees.may hr, if_neg (by decide), Sees.may hr, if_neg (by decide), Sees.may hr, if_pos (by decide)]
      exact (field_short (hp.2.2 f (by simp)) (on r) w' t ht e' hr.next).on
  rw [if_neg h3] at hp
  cases hp
theorem sub_nil {r : Rd} (hr : Sees r []) : Bad r.bs.length (sub r).2 := by
  unfold sub
  rw [hr.may_nil, hr.may_nil]
  exact comp_nil hr
theorem sub_short {s : Sb} (hS : Kd.Small s) (hp : Kd.pSub s = true) : Short sub (putSub s) := fun r w t ht e hr => by
  have hSC : SmallC s.c := ⟨hS.p, hS.r, hS.f⟩
  have hsa := hS.a
  unfold Kd.pSub at hp
  simp only [Bool.and_eq_true, List.all_eq_true] at hp
  obtain ⟨fin, sups, c⟩ := s
  dsimp only at hSC hsa hp
  cases fin with
  | false =>
    have e1 : putSub ⟨false, sups, c⟩ = 80 :: (putList putIdx sups ++ putComp c) := rfl
    rw [e1] at e
    rcases cut_first e with rfl | ⟨w', rfl, e'⟩
    · exact sub_nil hr
    · unfold sub
      rw [Sees.may hr, if_pos (by decide)]
      exact (seq_short (one := list index) (two := comp) (sups_short hsa hp.1) (fun r t h => sups_back hsa hp.1 h) (comp_short hSC hp.2) comp_still ht e' hr.next).on
  | true =>
    by_cases h0 : sups = []
    · subst h0
      have e1 : putSub ⟨true, [], c⟩ = putComp c := rfl
      rw [e1] at e
      obtain ⟨x, u, hx, n1, n2, n3⟩ := putComp_first c
      have hv := comp_short hSC hp.2 r w t ht e hr
      rw [hx] at e
      rcases cut_first e with rfl | ⟨w', rfl, e'⟩
      · exact sub_nil hr
      · unfold sub
        rw [Sees.may hr, if_neg (by simp [n3]), Sees.may hr, if_neg (by simp [n2])]
        exact hv
    · have e1 : putSub ⟨true, sups, c⟩ = 79 :: (putList putIdx sups ++ putComp c) := by unfold putSub; dsimp only; rw [if_neg (by decide), if_neg h0]; rfl
      rw [e1] at e
      rcases cut_first e with rfl | ⟨w', rfl, e'⟩
      · exact sub_nil hr
      · unfold sub
        rw [Sees.may hr, if_neg (by decide), Sees.may hr, if_pos (by decide)]
        exact (seq_short (one := list index) (two := comp) (sups_short hsa hp.1) (fun r t h => sups_back hsa hp.1 h) (comp_short hSC hp.2) comp_still ht e' hr.next).on
theorem rec_single {r : Rd} (hm : may 78 r = false) (h : (sub r).2.e ≠ 0) : rec_ r = ([], (sub r).2) := by
  unfold rec_
  rw [hm, if_neg (by decide), if_neg h]
theorem rec_short {l : List Sb} (h0 : l ≠ []) (hl : l.length ≤ 10000) (hS : ∀ s ∈ l, Kd.Small s) (ha : l.all Kd.pSub = true) : ∀ r u t, t ≠ [] → u ++ t = putRec l → Sees r u → (rec_ r).1 = [] ∧ Bad r.bs.length (rec_ r).2 := fun r u t ht e hr => by
  have hp : ∀ x ∈ l, Kd.pSub x = true := by rw [List.all_eq_true] at ha; exact ha
  by_cases h1 : l.length = 1
  · obtain ⟨s, rfl⟩ : ∃ s, l = [s] := by
      match l, h1 with
      | [s], _ => exact ⟨s, rfl⟩
    rw [putRec_one (hp s (by simp))] at e
    have hv := sub_short (hS s (by simp)) (hp s (by simp)) r u t ht e hr
    obtain ⟨x, u', hx, hn⟩ := putSub_first s
    rw [hx] at e
    have hm : may 78 r = false := by
      rcases cut_first e with rfl | ⟨w', rfl, e'⟩
      · exact hr.may_nil _
      · rw [Sees.may hr]; simp [hn]
    rw [rec_single hm hv.ne]
    exact ⟨rfl, hv⟩
  · rw [putRec_more h0 h1 ha] at e
    rcases cut_first e with rfl | ⟨w', rfl, e'⟩
    · rw [rec_single (hr.may_nil _) (sub_nil hr).ne]
      exact ⟨rfl, sub_nil hr⟩
    · have hv := list_short sub putSub l hl (fun x hx => sub_short (hS x hx) (hp x hx)) (fun x hx r t h => sub_back (hS x hx) (hp x hx) h) (on r) w' t ht e' hr.next
      unfold rec_
      rw [Sees.may hr, if_pos (by decide)]
      exact ⟨list_zero _ _ hv.ne, hv.on⟩
/-- A group's bytes that are cut. -/
theorem rec_cut {l : List Sb} (hl : l.length ≤ 10000) (hS : ∀ s ∈ l, Kd.Small s) (n : Nat) (hn : n < (putRec l).length) : ∃ q : Rd, rec_ (opened ((putRec l).take n)) = ([], q) ∧ q.e = 10 ∧ 0 ≤ q.bad ∧ q.bad ≤ (n : Int) := by
  have h1 : l ≠ [] ∧ l.all Kd.pSub = true := by
    have hne : putRec l ≠ [] := by rintro e; rw [e] at hn; simp at hn
    constructor
    · rintro rfl
      exact hne rfl
    · cases ha : l.all Kd.pSub
      · exact absurd (show putRec l = [] by unfold putRec; rw [if_pos (.inr ha)]) hne
      · rfl
  have h := rec_short h1.1 hl hS h1.2 (opened ((putRec l).take n)) _ ((putRec l).drop n) (by simp; omega) (List.take_append_drop _ _) (sees_opened _)
  refine ⟨_, Prod.ext h.1 rfl, h.2.1, h.2.2.1, ?_⟩
  have h3 := h.2.2.2
  have h4 : (opened ((putRec l).take n)).bs.length = n := by show ((putRec l).take n).length = n; rw [List.length_take]; omega
  rw [h4] at h3
  exact h3
end Tb
end Go.Proofs.YtkdhjejchdcipaaDoor
/-
  Layer 4: what an argument that is a declared type, a value type, a list of heap types reads as.
-/
namespace Go.Proofs.YtkdhjejchdcipaaDoor
open Go.RowKit Go.ChangeShapes Go.WideShapes Go.Deep
set_option linter.unusedVariables false
set_option maxRecDepth 100000

section
variable {H : Type} {enc : TypeId × Value → H} {w : World} {base : Nat} {sp : Nat → Bool} {held : Bool} {n : Nat} {cs : List Value} {x : DataW H × List MemPlace}
def WfH (h : Hp) : Prop := (Lit.int .i64 h.k).wf = true ∧ (Lit.int .i64 h.n).wf = true
def WfV (v : Vl) : Prop := (Lit.int .i64 v.k).wf = true ∧ WfH v.h
def WfF (f : Fd) : Prop := (Lit.int .i64 f.pk).wf = true ∧ WfV f.v
theorem c3 : Tryd.prog.cellsOf 3 = 1 := by kernel_rfl
theorem c4 : Tryd.prog.cellsOf 4 = 1 := by kernel_rfl
theorem cHK : Tryd.prog.cellsOf 37 = 1 := by kernel_rfl
theorem cVK : Tryd.prog.cellsOf 44 = 1 := by kernel_rfl
theorem cCK : Tryd.prog.cellsOf 23 = 1 := by kernel_rfl
theorem cH : Tryd.prog.cellsOf 39 = 2 := by kernel_rfl
theorem cV : Tryd.prog.cellsOf 46 = 4 := by kernel_rfl
theorem cSt : Tryd.prog.cellsOf 48 = 5 := by kernel_rfl
theorem cF : Tryd.prog.cellsOf 50 = 6 := by kernel_rfl
theorem cC : Tryd.prog.cellsOf 27 = 4 := by kernel_rfl
theorem cS : Tryd.prog.cellsOf 29 = 6 := by kernel_rfl
theorem cLH : Tryd.prog.cellsOf 22 = 1 := by kernel_rfl
theorem cLV : Tryd.prog.cellsOf 24 = 1 := by kernel_rfl
theorem cLF : Tryd.prog.cellsOf 25 = 1 := by kernel_rfl
theorem hp_of (h : DataW.trod enc Tryd.prog w base sp held n 39 cs = some x) : ∃ hh : Hp, cs = Hp.cs hh ∧ WfH hh := by
  obtain ⟨xs, n', _, _, hlen, hxl, hf⟩ := DataW.trod_struct Tryd.underlying39 h
  rw [cH] at hlen
  have h0 : DataW.trod enc Tryd.prog w base sp held n' 37 ((cs.drop 0).take (Tryd.prog.cellsOf 37)) = xs[0]? := hf 0 _ rfl
  have h1 : DataW.trod enc Tryd.prog w base sp held n' 3 ((cs.drop 1).take (Tryd.prog.cellsOf 3)) = xs[1]? := hf 1 _ rfl
  have hx : xs.length = 2 := hxl
  rw [cHK, List.getElem?_eq_getElem (by omega)] at h0
  rw [c3, List.getElem?_eq_getElem (by omega)] at h1
  obtain ⟨k, e0, _, w0⟩ := DataW.trod_int Tryd.underlying37 h0
  obtain ⟨m, e1, _, w1⟩ := DataW.trod_int Tryd.underlying3 h1
  match cs, hlen with
  | [a, b], _ =>
    simp at e0 e1
    exact ⟨⟨k, m⟩, by simp [Hp.cs, e0, e1], w0, w1⟩
theorem vl_of (h : DataW.trod enc Tryd.prog w base sp held n 46 cs = some x) : ∃ v : Vl, cs = Vl.cs v ∧ WfV v := by
  obtain ⟨xs, n', _, _, hlen, hxl, hf⟩ := DataW.trod_struct Tryd.underlying46 h
  rw [cV] at hlen
  have h0 : DataW.trod enc Tryd.prog w base sp held n' 44 ((cs.drop 0).take (Tryd.prog.cellsOf 44)) = xs[0]? := hf 0 _ rfl
  have h1 : DataW.trod enc Tryd.prog w base sp held n' 4 ((cs.drop 1).take (Tryd.prog.cellsOf 4)) = xs[1]? := hf 1 _ rfl
  have h2 : DataW.trod enc Tryd.prog w base sp held n' 39 ((cs.drop 2).take (Tryd.prog.cellsOf 39)) = xs[2]? := hf 2 _ rfl
  have hx : xs.length = 3 := hxl
  rw [cVK, List.getElem?_eq_getElem (by omega)] at h0
  rw [c4, List.getElem?_eq_getElem (by omega)] at h1
  rw [cH, List.getElem?_eq_getElem (by omega)] at h2
  obtain ⟨k, e0, _, w0⟩ := DataW.trod_int Tryd.underlying44 h0
  obtain ⟨m, e1, _⟩ := DataW.trod_bool Tryd.underlying4 h1
  obtain ⟨hh, e2, w2⟩ := hp_of h2
  match cs, hlen with
  | [a, b, c, d], _ =>
    simp [Hp.cs] at e0 e1 e2
    exact ⟨⟨k, m, hh⟩, by simp [Vl.cs, e0, e1, e2], w0, w2⟩
theorem fd_of (h : DataW.trod enc Tryd.prog w base sp held n 50 cs = some x) : ∃ f : Fd, cs = Fd.cs f ∧ WfF f := by
  obtain ⟨xs, n', _, _, hlen, hxl, hf⟩ := DataW.trod_struct Tryd.underlying50 h
  rw [cF] at hlen
  have h0 : DataW.trod enc Tryd.prog w base sp held n' 48 ((cs.drop 0).take (Tryd.prog.cellsOf 48)) = xs[0]? := hf 0 _ rfl
  have h1 : DataW.trod enc Tryd.prog w base sp held n' 4 ((cs.drop 5).take (Tryd.prog.cellsOf 4)) = xs[1]? := hf 1 _ rfl
  have hx : xs.length = 2 := hxl
  rw [cSt, List.getElem?_eq_getElem (by omega)] at h0
  rw [c4, List.getElem?_eq_getElem (by omega)] at h1
  obtain ⟨m, e1, _⟩ := DataW.trod_bool Tryd.underlying4 h1
  obtain ⟨ys, n'', _, _, hlen2, hyl, hg⟩ := DataW.trod_struct Tryd.underlying48 h0
  have g0 : DataW.trod enc Tryd.prog w base sp held n'' 3 ((((cs.drop 0).take 5).drop 0).take (Tryd.prog.cellsOf 3)) = ys[0]? := hg 0 _ rfl
  have g1 : DataW.trod enc Tryd.prog w base sp held n'' 46 ((((cs.drop 0).take 5).drop 1).take (Tryd.prog.cellsOf 46)) = ys[1]? := hg 1 _ rfl
  have hy : ys.length = 2 := hyl
  rw [c3, List.getElem?_eq_getElem (by omega)] at g0
  rw [cV, List.getElem?_eq_getElem (by omega)] at g1
  obtain ⟨k, e0, _, w0⟩ := DataW.trod_int Tryd.underlying3 g0
  obtain ⟨v, e2, w2⟩ := vl_of g1
  match cs, hlen with
  | [a, b, c, d, e, f], _ =>
    simp [Vl.cs] at e0 e1 e2
    exact ⟨⟨k, v, m⟩, by simp [Fd.cs, e0, e1, e2], w0, w2⟩
theorem seg_of {α : Type} (d : α) {e ts sz : Nat} {csf : α → List Value} {wf : α → Prop} (ht : Tryd.prog.underlying ts = some (.slice e)) (hsz : Tryd.prog.cellsOf e = sz) (hlen : ∀ a, (csf a).length = sz) (hpos : 0 < sz)
    (el : ∀ (n : Nat) (cs : List Value) (x : DataW H × List MemPlace), DataW.trod enc Tryd.prog w base sp held n e cs = some x → ∃ a, cs = csf a ∧ wf a) {v : Value}
    (h : DataW.trod enc Tryd.prog w base sp held n ts [v] = some x) : ∃ (A : Option Addr) (c : Nat) (l : List α), v = .slice A l.length c ∧ Seg sz csf w w.heap.size A c l ∧ ∀ a ∈ l, wf a := by
  rcases open_slice ht h with ⟨hcs, _⟩ | ⟨a, len, cap, m, n', D, Pl, hcs, hb, hl, hm, hmm, _, hi⟩
  · simp at hcs
    exact ⟨none, 0, [], hcs, Seg.nil _ _ _ _ (by simp [maxLen]), by simp⟩
  · simp at hcs
    have hml : len ≤ m := by rw [hmm]; split <;> omega
    have hE : ∀ i, ∃ y : α, i < len → w.cells? base (a.add (i * sz)) sz = some (csf y) ∧ wf y := fun i => by
      by_cases hi' : i < len
      · obtain ⟨cs', h1, h2⟩ := hi i (by omega)
        obtain ⟨y, rfl, hw⟩ := el _ _ _ h2
        rw [hsz] at h1
        exact ⟨y, fun _ => ⟨h1, hw⟩⟩
      · exact ⟨d, fun h => absurd h hi'⟩
    obtain ⟨f, hF⟩ : ∃ f : Nat → α, ∀ i, i < len → w.cells? base (a.add (i * sz)) sz = some (csf (f i)) ∧ wf (f i) := ⟨fun i => Classical.choose (hE i), fun i => Classical.choose_spec (hE i)⟩
    clear hE
    refine ⟨some a, cap, (List.range len).map f, by simpa using hcs, ⟨by simpa using hl, hm, fun h0 => ?_⟩, fun y hy => ?_⟩
    · have h0' : 0 < len := by simpa using h0
      obtain ⟨hbb, _, hat⟩ := World.cells?_some (hF 0 h0').1
      have hc0 := hat 0 hpos
      have hne : ∃ u, (csf (f 0))[0]? = some u := ⟨_, List.getElem?_eq_getElem (by rw [hlen]; exact hpos)⟩
      obtain ⟨u, hu⟩ := hne
      rw [hu] at hc0
      obtain ⟨bk, off, spot⟩ := a
      have hspot : spot = none := by simpa [Addr.add] using World.cell?_spot hc0
      subst hspot
      refine ⟨bk, off, rfl, ?_, fun j hj i v hv => ?_⟩
      · exact World.block_lt_of_cell? w ⟨bk, off + 0 * sz + 0, none⟩ (by rw [Addr.add_lit, Addr.add_lit] at hc0; exact hc0)
      · have hj' : j < len := by simpa using hj
        simp only [List.getElem_map, List.getElem_range] at hv
        obtain ⟨_, _, hatj⟩ := World.cells?_some (hF j hj').1
        have hi' : i < sz := by rw [← hlen (f j)]; exact (List.getElem?_eq_some_iff.1 hv).1
        have := hatj i hi'
        rw [Addr.add_lit, Addr.add_lit] at this
        rw [this]; exact hv
    · obtain ⟨i, hi', rfl⟩ := List.mem_map.1 hy
      exact (hF i (by simpa using hi')).2
def WfS (s : Sb) : Prop := (∀ x ∈ s.sups, WfH x) ∧ (Lit.int .i64 s.c.k).wf = true ∧ (∀ x ∈ s.c.ps, WfV x) ∧ (∀ x ∈ s.c.rs, WfV x) ∧ ∀ x ∈ s.c.fs, WfF x
/-- An argument that is a declared type. -/
theorem open_sub {r : Reach} {b0 : Nat} {v : Value} {d : DataW H} {p : List MemPlace} (hv : Value.okWide Tryd.prog w r b0 29 v) (h : DataW.Trod enc Tryd.prog w base sp held 29 v d p) : ∃ s : Sb, IsSub w w.heap.size v s ∧ WfS s := by
  obtain ⟨cs, rfl, hsz⟩ := okWide_struct Tryd.underlying29 hv
  obtain ⟨fuel, hf0⟩ := h
  obtain ⟨xs, n', _, _, hlen, hxl, hf⟩ := DataW.trod_struct Tryd.underlying29 hf0
  rw [cS] at hlen
  have h0 : DataW.trod enc Tryd.prog w base sp held n' 4 (((Value.cells (.agg cs)).toList.drop 0).take (Tryd.prog.cellsOf 4)) = xs[0]? := hf 0 _ rfl
  have h1 : DataW.trod enc Tryd.prog w base sp held n' 22 (((Value.cells (.agg cs)).toList.drop 1).take (Tryd.prog.cellsOf 22)) = xs[1]? := hf 1 _ rfl
  have h2 : DataW.trod enc Tryd.prog w base sp held n' 27 (((Value.cells (.agg cs)).toList.drop 2).take (Tryd.prog.cellsOf 27)) = xs[2]? := hf 2 _ rfl
  have hx : xs.length = 3 := hxl
  rw [c4, List.getElem?_eq_getElem (by omega)] at h0
  rw [cLH, List.getElem?_eq_getElem (by omega)] at h1
  rw [cC, List.getElem?_eq_getElem (by omega)] at h2
  obtain ⟨fin, e0, _⟩ := DataW.trod_bool Tryd.underlying4 h0
  obtain ⟨ys, n'', _, _, hlen2, hyl, hg⟩ := DataW.trod_struct Tryd.underlying27 h2
  have g0 : DataW.trod enc Tryd.prog w base sp held n'' 23 (((((Value.cells (.agg cs)).toList.drop 2).take 4).drop 0).take (Tryd.prog.cellsOf 23)) = ys[0]? := hg 0 _ rfl
  have g1 : DataW.trod enc Tryd.prog w base sp held n'' 24 (((((Value.cells (.agg cs)).toList.drop 2).take 4).drop 1).take (Tryd.prog.cellsOf 24)) = ys[1]? := hg 1 _ rfl
  have g2 : DataW.trod enc Tryd.prog w base sp held n'' 24 (((((Value.cells (.agg cs)).toList.drop 2).take 4).drop 2).take (Tryd.prog.cellsOf 24)) = ys[2]? := hg 2 _ rfl
  have g3 : DataW.trod enc Tryd.prog w base sp held n'' 25 (((((Value.cells (.agg cs)).toList.drop 2).take 4).drop 3).take (Tryd.prog.cellsOf 25)) = ys[3]? := hg 3 _ rfl
  have hy : ys.length = 4 := hyl
  rw [cCK, List.getElem?_eq_getElem (by omega)] at g0
  rw [cLV, List.getElem?_eq_getElem (by omega)] at g1
  rw [cLV, List.getElem?_eq_getElem (by omega)] at g2
  rw [cLF, List.getElem?_eq_getElem (by omega)] at g3
  obtain ⟨k, e1, _, wk⟩ := DataW.trod_int Tryd.underlying23 g0
  obtain ⟨cl⟩ := cs
  have hcl : Value.cells (.agg ⟨cl⟩) = ⟨cl⟩ := rfl
  rw [hcl] at *
  match cl, hlen with
  | [a, b, c, d, e, f], _ =>
    simp [Value.cells] at e0 e1 h1 g1 g2 g3
    obtain ⟨A1, c1, l1, rfl, s1, w1⟩ := seg_of (⟨0, 0⟩ : Hp) (csf := Hp.cs) (wf := WfH) Tryd.underlying22 cH (fun _ => rfl) (by decide) (fun _ _ _ h => hp_of h) h1
    obtain ⟨A2, c2, l2, rfl, s2, w2⟩ := seg_of (⟨0, false, ⟨0, 0⟩⟩ : Vl) (csf := Vl.cs) (wf := WfV) Tryd.underlying24 cV (fun _ => rfl) (by decide) (fun _ _ _ h => vl_of h) g1
    obtain ⟨A3, c3, l3, rfl, s3, w3⟩ := seg_of (⟨0, false, ⟨0, 0⟩⟩ : Vl) (csf := Vl.cs) (wf := WfV) Tryd.underlying24 cV (fun _ => rfl) (by decide) (fun _ _ _ h => vl_of h) g2
    obtain ⟨A4, c4, l4, rfl, s4, w4⟩ := seg_of (⟨0, ⟨0, false, ⟨0, 0⟩⟩, false⟩ : Fd) (csf := Fd.cs) (wf := WfF) Tryd.underlying25 cF (fun _ => rfl) (by decide) (fun _ _ _ h => fd_of h) g3
    rw [e0, e1]
    exact ⟨⟨fin, l1, k, l2, l3, l4⟩, ⟨A1, c1, A2, c2, A3, c3, A4, c4, rfl, s1, s2, s3, s4⟩, w1, wk, w2, w3, w4⟩
/-- An argument that is a value type. -/
theorem open_vl {r : Reach} {b0 : Nat} {v : Value} {d : DataW H} {p : List MemPlace} (hv : Value.okWide Tryd.prog w r b0 46 v) (h : DataW.Trod enc Tryd.prog w base sp held 46 v d p) : ∃ y : Vl, v = y.val ∧ WfV y := by
  obtain ⟨cs, rfl, hsz⟩ := okWide_struct Tryd.underlying46 hv
  obtain ⟨fuel, hf0⟩ := h
  obtain ⟨y, e, hw⟩ := vl_of hf0
  refine ⟨y, ?_, hw⟩
  have e' : cs.toList = Vl.cs y := e
  obtain ⟨cl⟩ := cs
  simp only at e'
  rw [e']; rfl
/-- An argument that is a list of heap types. -/
theorem open_hps {r : Reach} {b0 : Nat} {v : Value} {d : DataW H} {p : List MemPlace} (hv : Value.okWide Tryd.prog w r b0 22 v) (h : DataW.Trod enc Tryd.prog w base sp held 22 v d p) : ∃ (A : Option Addr) (c : Nat) (l : List Hp), v = .slice A l.length c ∧ Seg 2 Hp.cs w w.heap.size A c l ∧ ∀ a ∈ l, WfH a := by
  obtain ⟨a, len, cap, rfl⟩ := okWide_slice Tryd.underlying22 hv
  obtain ⟨fuel, hf0⟩ := h
  exact seg_of (⟨0, 0⟩ : Hp) (csf := Hp.cs) (wf := WfH) Tryd.underlying22 cH (fun _ => rfl) (by decide) (fun _ _ _ h => hp_of h) hf0
end
end Go.Proofs.YtkdhjejchdcipaaDoor
/-
  Layer 6: what the rows TbinBack and TbinCut share: a list of declared types as an argument, its lists' lengths; lengths of what is put.
-/
namespace Go.Proofs.YtkdhjejchdcipaaDoor
open Go.RowKit Go.ChangeShapes Go.WideShapes Go.Deep
set_option linter.unusedVariables false
set_option linter.unusedSimpArgs false
set_option maxRecDepth 100000

/-- No list of a type is longer than 60. -/
structure Sixty (s : Sb) : Prop where
  a : s.sups.length ≤ 60
  p : s.c.ps.length ≤ 60
  r : s.c.rs.length ≤ 60
  f : s.c.fs.length ≤ 60
theorem Sixty.small {s : Sb} (h : Sixty s) : Kd.Small s := ⟨by have := h.a; omega, by have := h.p; omega, by have := h.r; omega, by have := h.f; omega⟩
theorem Subs.lens {w : World} {C : Nat} {A : Option Addr} {c : Nat} {xs : List Sr} {l : List Sb} (h : Subs w C A c xs l) (i : Nat) (h1 : i < xs.length) (h2 : i < l.length) :
    xs[i].x1.n = l[i].sups.length ∧ xs[i].x2.n = l[i].c.ps.length ∧ xs[i].x3.n = l[i].c.rs.length ∧ xs[i].x4.n = l[i].c.fs.length := by
  obtain ⟨A1, c1, A2, c2, A3, c3, A4, c4, e, -⟩ := h.sub i h1 h2
  injection e with e
  simp only [Array.mk.injEq, List.cons.injEq, Value.slice.injEq, and_true, true_and] at e
  exact ⟨e.2.1.2.1, e.2.2.2.1.2.1, e.2.2.2.2.1.2.1, e.2.2.2.2.2.2.1⟩
namespace Tb
theorem putRec_lt (l : List Sb) : ∀ x ∈ putRec l, x < 256 := by
  unfold putRec
  split
  · intro x hx; cases hx
  · split
    · exact putSub_lt _
    · intro x hx
      rcases List.mem_cons.1 hx with rfl | hx
      · omega
      · exact putList_lt putSub putSub_lt _ x hx
theorem putList_len60 {α : Type} (one : α → List Nat) (M : Nat) (l : List α) (hl : l.length ≤ 60) (h : ∀ x ∈ l, (one x).length ≤ M) : (putList one l).length ≤ 10 + 60 * M := by
  have h1 := flat_len one M l h
  have h2 := Leb.putU_len10 l.length (by omega)
  have h3 : l.length * M ≤ 60 * M := Nat.mul_le_mul_right _ hl
  unfold putList
  rw [List.length_append]
  omega
theorem putField_len12 {f : Fd} (hp : Kd.pField f = true) : (putField f).length ≤ 12 := putField_len hp
theorem putVal_len12 {v : Vl} (hp : Kd.pVal v = true) : (putVal v).length ≤ 12 := by
  have hn : -9223372036854775808 ≤ v.h.n ∧ v.h.n < 9223372036854775808 := by
    unfold Kd.pVal at hp
    split at hp
    · have := of_decide_eq_true hp; rw [this]; decide
    · split at hp
      · have := of_decide_eq_true hp; rw [this]; decide
      · split at hp
        · rcases heap_cases hp with ⟨-, hn⟩ | ⟨-, -, h0, h1⟩
          · rw [hn]; decide
          · omega
        · cases hp
  have := putVal_len v hn.1 hn.2
  omega
theorem putSub_len60 {s : Sb} (hS : Sixty s) (hp : Kd.pSub s = true) : (putSub s).length ≤ 2400 := by
  unfold Kd.pSub at hp
  simp only [Bool.and_eq_true, List.all_eq_true] at hp
  have h1 := putList_len60 putIdx 12 s.sups hS.a fun x hx => Nat.le_trans (putIdx_len (hp.1 x hx)) (by omega)
  have h2 : (putComp s.c).length ≤ 1500 := by
    have hc := hp.2
    unfold Kd.pComp at hc
    unfold putComp
    split at hc
    · next hk =>
      simp only [Bool.and_eq_true, List.all_eq_true] at hc
      rw [if_pos hk, List.length_cons, List.length_append]
      have h3 := putList_len60 putVal 12 s.c.ps hS.p fun x hx => putVal_len12 (hc.1 x hx)
      have h4 := putList_len60 putVal 12 s.c.rs hS.r fun x hx => putVal_len12 (hc.2.1 x hx)
      omega
    · next hk =>
      rw [if_neg hk]
      split at hc
      · next hk2 =>
        simp only [Bool.and_eq_true, List.all_eq_true] at hc
        rw [if_pos hk2, List.length_cons]
        have h3 := putList_len60 putField 12 s.c.fs hS.f fun x hx => putField_len12 (hc.2 x hx)
        omega
      · next hk2 =>
        rw [if_neg hk2]
        split at hc
        · simp only [Bool.and_eq_true, List.all_eq_true, decide_eq_true_eq] at hc
          obtain ⟨f, hf⟩ : ∃ f, s.c.fs = [f] := by
            match s.c.fs, hc.2.1 with
            | [f], _ => exact ⟨f, rfl⟩
          rw [hf, List.length_cons, List.headD_cons]
          have := putField_len12 (hc.2.2 f (by rw [hf]; simp))
          omega
        · cases hc
  unfold putSub
  rw [List.length_append]
  split
  · rw [List.length_cons]; omega
  · split
    · simp only [List.length_nil]; omega
    · rw [List.length_cons]; omega
theorem putRec_len60 {l : List Sb} (hl : l.length ≤ 30) (hS : ∀ s ∈ l, Sixty s) : (putRec l).length ≤ 100000 := by
  unfold putRec
  split
  · simp
  · next h =>
    have ha : ∀ s ∈ l, Kd.pSub s = true := by
      have : l.all Kd.pSub = true := by
        cases hq : l.all Kd.pSub
        · exact absurd (.inr hq) h
        · rfl
      exact List.all_eq_true.1 this
    split
    · next s => have := putSub_len60 (hS s (by simp)) (ha s (by simp)); omega
    · have h1 := flat_len putSub 2400 l fun x hx => putSub_len60 (hS x hx) (ha x hx)
      have h2 := Leb.putU_len10 l.length (by omega)
      have h3 : l.length * 2400 ≤ 30 * 2400 := Nat.mul_le_mul_right _ hl
      rw [List.length_cons]
      unfold putList
      rw [List.length_append]
      omega
end Tb
section
variable {H : Type} {enc : TypeId × Value → H} {w : World} {base : Nat} {sp : Nat → Bool} {held : Bool} {n : Nat} {cs : List Value} {x : DataW H × List MemPlace}
/-- What stands in a row's place of six cells. -/
theorem sb_of (h : DataW.trod enc Tryd.prog w base sp held n 29 cs = some x) : ∃ (y : Sr) (s : Sb), cs = Sr.cs y ∧ IsSub w w.heap.size (Sr.val y) s := by
  obtain ⟨xs, n', _, _, hlen, hxl, hf⟩ := DataW.trod_struct Tryd.underlying29 h
  rw [cS] at hlen
  have h0 : DataW.trod enc Tryd.prog w base sp held n' 4 ((cs.drop 0).take (Tryd.prog.cellsOf 4)) = xs[0]? := hf 0 _ rfl
  have h1 : DataW.trod enc Tryd.prog w base sp held n' 22 ((cs.drop 1).take (Tryd.prog.cellsOf 22)) = xs[1]? := hf 1 _ rfl
  have h2 : DataW.trod enc Tryd.prog w base sp held n' 27 ((cs.drop 2).take (Tryd.prog.cellsOf 27)) = xs[2]? := hf 2 _ rfl
  have hx : xs.length = 3 := hxl
  rw [c4, List.getElem?_eq_getElem (by omega)] at h0
  rw [cLH, List.getElem?_eq_getElem (by omega)] at h1
  rw [cC, List.getElem?_eq_getElem (by omega)] at h2
  obtain ⟨fin, e0, _⟩ := DataW.trod_bool Tryd.underlying4 h0
  obtain ⟨ys, n'', _, _, hlen2, hyl, hg⟩ := DataW.trod_struct Tryd.underlying27 h2
  have g0 : DataW.trod enc Tryd.prog w base sp held n'' 23 ((((cs.drop 2).take 4).drop 0).take (Tryd.prog.cellsOf 23)) = ys[0]? := hg 0 _ rfl
  have g1 : DataW.trod enc Tryd.prog w base sp held n'' 24 ((((cs.drop 2).take 4).drop 1).take (Tryd.prog.cellsOf 24)) = ys[1]? := hg 1 _ rfl
  have g2 : DataW.trod enc Tryd.prog w base sp held n'' 24 ((((cs.drop 2).take 4).drop 2).take (Tryd.prog.cellsOf 24)) = ys[2]? := hg 2 _ rfl
  have g3 : DataW.trod enc Tryd.prog w base sp held n'' 25 ((((cs.drop 2).take 4).drop 3).take (Tryd.prog.cellsOf 25)) = ys[3]? := hg 3 _ rfl
  have hy : ys.length = 4 := hyl
  rw [cCK, List.getElem?_eq_getElem (by omega)] at g0
  rw [cLV, List.getElem?_eq_getElem (by omega)] at g1
  rw [cLV, List.getElem?_eq_getElem (by omega)] at g2
  rw [cLF, List.getElem?_eq_getElem (by omega)] at g3
  obtain ⟨k, e1, _, wk⟩ := DataW.trod_int Tryd.underlying23 g0
  match cs, hlen with
  | [a, b, c, d, e, f], _ =>
    simp at e0 e1 h1 g1 g2 g3
    obtain ⟨A1, c1, l1, rfl, s1, w1⟩ := seg_of (⟨0, 0⟩ : Hp) (csf := Hp.cs) (wf := WfH) Tryd.underlying22 cH (fun _ => rfl) (by decide) (fun _ _ _ h => hp_of h) h1
    obtain ⟨A2, c2, l2, rfl, s2, w2⟩ := seg_of (⟨0, false, ⟨0, 0⟩⟩ : Vl) (csf := Vl.cs) (wf := WfV) Tryd.underlying24 cV (fun _ => rfl) (by decide) (fun _ _ _ h => vl_of h) g1
    obtain ⟨A3, c3, l3, rfl, s3, w3⟩ := seg_of (⟨0, false, ⟨0, 0⟩⟩ : Vl) (csf := Vl.cs) (wf := WfV) Tryd.underlying24 cV (fun _ => rfl) (by decide) (fun _ _ _ h => vl_of h) g2
    obtain ⟨A4, c4, l4, rfl, s4, w4⟩ := seg_of (⟨0, ⟨0, false, ⟨0, 0⟩⟩, false⟩ : Fd) (csf := Fd.cs) (wf := WfF) Tryd.underlying25 cF (fun _ => rfl) (by decide) (fun _ _ _ h => fd_of h) g3
    rw [e0, e1]
    exact ⟨⟨fin, ⟨A1, l1.length, c1⟩, k, ⟨A2, l2.length, c2⟩, ⟨A3, l3.length, c3⟩, ⟨A4, l4.length, c4⟩⟩, ⟨fin, l1, ⟨k, l2, l3, l4⟩⟩, rfl, A1, c1, A2, c2, A3, c3, A4, c4, rfl, s1, s2, s3, s4⟩
/-- An argument that is a list of declared types. -/
theorem open_subs {r : Reach} {b0 : Nat} {v : Value} {d : DataW H} {p : List MemPlace} (hv : Value.okWide Tryd.prog w r b0 76 v) (h : DataW.Trod enc Tryd.prog w base sp held 76 v d p) :
    ∃ (A : Option Addr) (c : Nat) (xs : List Sr) (l : List Sb), v = .slice A l.length c ∧ Subs w w.heap.size A c xs l ∧ True := by
  obtain ⟨a, len, cap, rfl⟩ := okWide_slice Tryd.underlying76 hv
  obtain ⟨fuel, hf0⟩ := h
  obtain ⟨A, c, xs, e, hseg, hwf⟩ := seg_of (⟨false, ⟨none, 0, 0⟩, 0, ⟨none, 0, 0⟩, ⟨none, 0, 0⟩, ⟨none, 0, 0⟩⟩ : Sr) (csf := Sr.cs) (wf := fun y => ∃ s, IsSub w w.heap.size (Sr.val y) s) Tryd.underlying76 cS (fun _ => rfl) (by decide) (fun _ _ _ h => by
    obtain ⟨y, s, h1, h2⟩ := sb_of h
    exact ⟨y, h1, s, h2⟩) hf0
  have hF : ∃ f : Sr → Sb, ∀ y ∈ xs, IsSub w w.heap.size (Sr.val y) (f y) := by
    classical
    exact ⟨fun y => if h : ∃ s, IsSub w w.heap.size (Sr.val y) s then Classical.choose h else ⟨false, [], ⟨0, [], [], []⟩⟩, fun y hy => by
      dsimp only
      rw [dif_pos (hwf y hy)]
      exact Classical.choose_spec (hwf y hy)⟩
  obtain ⟨f, hf⟩ := hF
  refine ⟨A, c, xs, xs.map f, by rw [List.length_map]; exact e, ⟨by rw [List.length_map], hseg, fun i h1 h2 => ?_⟩, trivial⟩
  rw [List.getElem_map]
  exact hf _ (List.getElem_mem h1)
end
end Go.Proofs.YtkdhjejchdcipaaDoor

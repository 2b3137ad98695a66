/-
  Layer 4, code: the writing of a declared type.
-/
import Derived.Test.YtlflmobaegfnaaaDoorKdI
namespace Go.Proofs.YtlflmobaegfnaaaDoor
open Go.RowKit
set_option linter.unusedVariables false
set_option maxRecDepth 100000

theorem Kd.pHeap_of {h : Hp} (hp : Kd.pIdx h = true) : Kd.pHeap h = true := by
  unfold Kd.pHeap
  split
  · rename_i hg
    unfold Kd.pIdx at hp
    unfold Kd.given at hg
    simp only [Bool.and_eq_true, decide_eq_true_eq] at hp hg
    omega
  · exact hp
theorem Kd.pSub_parts {s : Sb} (h : Kd.pSub s = true) : (∀ x ∈ s.sups, Kd.pHeap x = true) ∧ Kd.OkC s.c := by
  unfold Kd.pSub at h
  simp only [Bool.and_eq_true, List.all_eq_true] at h
  exact ⟨fun x hx => Kd.pHeap_of (h.1 x hx), Kd.okC_of h.2⟩
theorem Kd.sups_len (l : List Hp) (hp : ∀ x ∈ l, Kd.pHeap x = true) : ∀ y ∈ l.map Kd.hT, y.length ≤ 9100 := fun y hy => by
  obtain ⟨v, hv, rfl⟩ := List.mem_map.1 hy
  have := Kd.hT_len v (Kd.okH_of (hp v hv))
  omega

set_option maxHeartbeats 1000000 in
theorem tT_any (s : Sb) (v : Value) (w : World) (hT : Tabs w) (h : IsSub w w.heap.size v s) (hS : Kd.Small s) (ho : Kd.pSub s = true) :
    Calls Tryd.prog 39 #[v] w fun e w' => e = .returned (Str (Kd.tT s)) ∧ Below w.heap.size w w' := by
  obtain ⟨hps, hoc⟩ := Kd.pSub_parts ho
  obtain ⟨A1, c1, A2, c2, A3, c3, A4, c4, rfl, s1, s2, s3, s4⟩ := h
  have hB0 : Below w.heap.size w (w.alloc (.cells #[.bool s.fin, .slice A1 s.sups.length c1, .int .i64 s.c.k, .slice A2 s.c.ps.length c2, .slice A3 s.c.rs.length c3, .slice A4 s.c.fs.length c4] 29)) := (Below.refl _ _).alloc (Nat.le_refl _) _
  have CS : Hid (∀ W, Below w.heap.size w W → Calls Tryd.prog 63 #[.slice A1 s.sups.length c1, .func (.func 64) #[] #[]] W fun e w' => (∃ v, e = .returned v ∧ OwnG 9 1 Sx W.heap.size w' v (s.sups.map Kd.hT)) ∧ Below W.heap.size W w') :=
    Lib.hid fun W hW => tx_h s.sups A1 c1 W (hT.below hW) hS.a hps ((s1.below hW).more hW.size)
  have CC : Hid (∀ W, Below w.heap.size w W → Calls Tryd.prog 66 #[.agg #[.int .i64 s.c.k, .slice A2 s.c.ps.length c2, .slice A3 s.c.rs.length c3, .slice A4 s.c.fs.length c4]] W fun e w' => e = .returned (Str (Kd.cT s.c)) ∧ Below W.heap.size W w') :=
    Lib.hid fun W hW => cT_any s.c _ W (hT.below hW) ⟨A2, c2, A3, c3, A4, c4, rfl, (s2.below hW).more hW.size, (s3.below hW).more hW.size, (s4.below hW).more hW.size⟩ hS.c hoc
  have hlc := Kd.cT_len s.c hS.c hoc
  have hls := Kd.sups_len s.sups hps
  have hla : (s.sups.map Kd.hT).length = s.sups.length := by rw [List.length_map]
  have hlb := hS.a
  obtain ⟨r, hr⟩ : ∃ r, Kd.tT s = r := ⟨_, rfl⟩
  rw [hr]
  have hr' := Lib.hid hr
  clear hr hS ho hT s1 s2 s3 s4 hps hoc
  obtain ⟨fin, sups, k, ps, rs, fs⟩ := s
  dsimp only at hB0 CS CC hlc hls hla hlb ⊢
  obtain ⟨tc, htc⟩ : ∃ tc, Kd.cT ⟨k, ps, rs, fs⟩ = tc := ⟨_, rfl⟩
  obtain ⟨lp, hlp⟩ : ∃ lp, sups.map Kd.hT = lp := ⟨_, rfl⟩
  rw [htc] at CC hlc
  rw [hlp] at CS hls hla
  have htc' := Lib.hid htc
  have hlp' := Lib.hid hlp
  have hlc' := Lib.hid hlc
  have hls' := Lib.hid hls
  have hla' := Lib.hid hla
  have hlb' := Lib.hid hlb
  clear htc hlp hlc hls hla hlb
  cases fin
  · have hown0 := OwnG.lit1 (B := w.heap.size + 1) elemS (w.alloc (.cells #[.bool false, .slice A1 sups.length c1, .int .i64 k, .slice A2 ps.length c2, .slice A3 rs.length c3, .slice A4 fs.length c4] 29)) (by simp) [115, 117, 98] #[Str [115, 117, 98]] rfl
    rw [World.size_alloc] at hown0
    have HO0 := Lib.hid hown0
    have HB0 := Lib.hid hB0
    clear hown0 hB0
    go_enter Tryd.func39, Tryd.ntmps39
    go_wp2_with fail
    have hW1 := HB0.out.alloc HB0.out.size (.cells #[Str [115, 117, 98]] 9)
    have HOh := HO0
    have HBh : Hid (Below (w.heap.size + 1) (w.alloc (.cells #[.bool false, .slice A1 sups.length c1, .int .i64 k, .slice A2 ps.length c2, .slice A3 rs.length c3, .slice A4 fs.length c4] 29)) ((w.alloc (.cells #[.bool false, .slice A1 sups.length c1, .int .i64 k, .slice A2 ps.length c2, .slice A3 rs.length c3, .slice A4 fs.length c4] 29)).alloc (.cells #[Str [115, 117, 98]] 9))) := Lib.hid ((Below.refl _ _).alloc (by simp) _)
    have HBs : Hid (w.heap.size + 1 ≤ ((w.alloc (.cells #[.bool false, .slice A1 sups.length c1, .int .i64 k, .slice A2 ps.length c2, .slice A3 rs.length c3, .slice A4 fs.length c4] 29)).alloc (.cells #[Str [115, 117, 98]] 9)).heap.size) := Lib.hid (by simp)
    refine (CS.out _ hW1).mono ?_
    rintro e w1 ⟨⟨v1, rfl, hown1⟩, hb1⟩
    obtain ⟨A5, c5, rfl, hs5⟩ := hown1.seg elemS
    have HS5 := Lib.hid hs5
    have HO1 := Lib.hid (HOh.out.below hb1)
    have HB1 := Lib.hid (HBh.out.trans (hb1.mono HBs.out))
    have hs1 : Hid (w.heap.size + 1 ≤ w1.heap.size) := Lib.hid (Nat.le_trans HBs.out hb1.size)
    clear hown1 hs5 hb1
    dsimp only
    go_wp2_with (at_builtin; refine cat_g elemS rfl _ _ rfl _ lp.length rfl rfl HO1.out rfl HS5.out hs1.out (1 + lp.length) (by have := hla'.out; have := hlb'.out; omega) rfl ?_; intro A' cc' w2 hown2 hg2; have HW3 := Lib.hid (HO1.out.grown hg2 (Nat.le_refl _) hs1.out HB1.out); obtain ⟨hc2, hf2⟩ := bcell (by have := HW3.out; rw [← World.size_alloc] at this; exact this); have HO2 := Lib.hid hown2; clear hown2 hg2)
    have HF2 := Lib.hid (HB0.out.trans (HW3.out.mono (Nat.le_succ _)))
    refine (CC.out _ HF2.out).mono ?_
    rintro e w3 ⟨rfl, hb3⟩
    have HO3 := Lib.hid (HO2.out.below hb3)
    have HF3 := Lib.hid (below_trans2 HF2.out hb3)
    have hs3 : Hid (w.heap.size + 1 ≤ w3.heap.size) := Lib.hid (Nat.le_trans (by have := HW3.out.size; simpa using this) hb3.size)
    clear hb3 hc2 hf2
    dsimp only
    go_wp2_with (at_builtin; refine push_g elemS rfl _ _ rfl w3 _ rfl tc _ _ rfl rfl HO3.out hs3.out (by have := hla'.out; have := hlb'.out; simp; omega) (1 + lp.length + 1) (by simp; omega) ?_ rfl; intro A7 c7 w4 hown4 hg4; have HF4 := Lib.hid (HO3.out.grown hg4 (Nat.le_succ _) (Nat.le_of_succ_le hs3.out) HF3.out); have HO4 := Lib.hid hown4; clear hown4 hg4)
    obtain ⟨A8, c8, e8, hs8⟩ := HO4.out.seg elemS
    injection e8 with e9 e10 e11
    subst e9 e11
    have el : r = Kd.br [115, 117, 98] (([] : List (List UInt8)) ++ lp ++ [tc]) := by rw [← hr'.out]; simp [Kd.tT, hlp'.out, htc'.out]
    have hbl : (Kd.br [115, 117, 98] (([] : List (List UInt8)) ++ lp ++ [tc])).length ≤ 10000000 := by
      have h := Kd.br_len [115, 117, 98] 9100 (([] : List (List UInt8)) ++ lp ++ [tc]) (fun y hy => by
        rcases List.mem_append.1 hy with hy | hy
        · rcases List.mem_append.1 hy with hy | hy
          · simp at hy; try (subst hy; decide)
          · exact hls'.out y hy
        · simp at hy; subst hy; exact hlc'.out)
      have h1 := hla'.out
      have h2 := hlb'.out
      have h3 : (([] : List (List UInt8)) ++ lp ++ [tc]).length ≤ 102 := by simp; omega
      have h4 := Nat.mul_le_mul_right 9101 h3
      simp only [List.length_cons, List.length_nil] at h
      omega
    have HC := inBr_any [115, 117, 98] (([] : List (List UInt8)) ++ lp ++ [tc]) A7 c7 (1 + lp.length + 1) w4 (by simp; omega) (by simpa using hs8) hbl (by have := hla'.out; have := hlb'.out; simp; omega)
    rw [← el] at HC
    refine HC.mono ?_
    rintro e w5 ⟨rfl, hb5⟩
    dsimp only
    have hB := below_trans2 HF4.out hb5
    go_wp2
    go_ret
    exact ⟨rfl, hB⟩
  · have hown0 := OwnG.lit1 (B := w.heap.size + 1) elemS (w.alloc (.cells #[.bool true, .slice A1 sups.length c1, .int .i64 k, .slice A2 ps.length c2, .slice A3 rs.length c3, .slice A4 fs.length c4] 29)) (by simp) [115, 117, 98] #[Str [115, 117, 98]] rfl
    rw [World.size_alloc] at hown0
    have HO0 := Lib.hid hown0
    have HB0 := Lib.hid hB0
    have HB9 : Hid (Below (w.heap.size + 1) (w.alloc (.cells #[.bool true, .slice A1 sups.length c1, .int .i64 k, .slice A2 ps.length c2, .slice A3 rs.length c3, .slice A4 fs.length c4] 29)) ((w.alloc (.cells #[.bool true, .slice A1 sups.length c1, .int .i64 k, .slice A2 ps.length c2, .slice A3 rs.length c3, .slice A4 fs.length c4] 29)).alloc (.cells #[Str [115, 117, 98]] 9))) := Lib.hid ((Below.refl _ _).alloc (by simp) _)
    clear hown0 hB0
    go_enter Tryd.func39, Tryd.ntmps39
    go_wp2_with (at_builtin; refine push_g elemS rfl _ _ rfl _ _ (by simp) [102, 105, 110, 97, 108] _ _ rfl rfl HO0.out (by simp) (by simp) 2 rfl ?_ rfl; intro A0 c0 wh hownh hgh; have HBh := Lib.hid (HO0.out.grown hgh (Nat.le_refl _) (by simp) HB9.out); obtain ⟨hc0, hf0⟩ := bcell (by have := HBh.out; rw [← World.size_alloc] at this; exact this); have HOh := Lib.hid hownh; clear hownh hgh)
    have HBs : Hid (w.heap.size + 1 ≤ wh.heap.size) := Lib.hid (by have := HBh.out.size; simpa using this)
    refine (CS.out _ (HB0.out.trans (HBh.out.mono (Nat.le_succ _)))).mono ?_
    clear hc0 hf0
    rintro e w1 ⟨⟨v1, rfl, hown1⟩, hb1⟩
    obtain ⟨A5, c5, rfl, hs5⟩ := hown1.seg elemS
    have HS5 := Lib.hid hs5
    have HO1 := Lib.hid (HOh.out.below hb1)
    have HB1 := Lib.hid (HBh.out.trans (hb1.mono HBs.out))
    have hs1 : Hid (w.heap.size + 1 ≤ w1.heap.size) := Lib.hid (Nat.le_trans HBs.out hb1.size)
    clear hown1 hs5 hb1
    dsimp only
    go_wp2_with (at_builtin; refine cat_g elemS rfl _ _ rfl _ lp.length rfl rfl HO1.out rfl HS5.out hs1.out (2 + lp.length) (by have := hla'.out; have := hlb'.out; omega) rfl ?_; intro A' cc' w2 hown2 hg2; have HW3 := Lib.hid (HO1.out.grown hg2 (Nat.le_refl _) hs1.out HB1.out); obtain ⟨hc2, hf2⟩ := bcell (by have := HW3.out; rw [← World.size_alloc] at this; exact this); have HO2 := Lib.hid hown2; clear hown2 hg2)
    have HF2 := Lib.hid (HB0.out.trans (HW3.out.mono (Nat.le_succ _)))
    refine (CC.out _ HF2.out).mono ?_
    rintro e w3 ⟨rfl, hb3⟩
    have HO3 := Lib.hid (HO2.out.below hb3)
    have HF3 := Lib.hid (below_trans2 HF2.out hb3)
    have hs3 : Hid (w.heap.size + 1 ≤ w3.heap.size) := Lib.hid (Nat.le_trans (by have := HW3.out.size; simpa using this) hb3.size)
    clear hb3 hc2 hf2
    dsimp only
    go_wp2_with (at_builtin; refine push_g elemS rfl _ _ rfl w3 _ rfl tc _ _ rfl rfl HO3.out hs3.out (by have := hla'.out; have := hlb'.out; simp; omega) (2 + lp.length + 1) (by simp; omega) ?_ rfl; intro A7 c7 w4 hown4 hg4; have HF4 := Lib.hid (HO3.out.grown hg4 (Nat.le_succ _) (Nat.le_of_succ_le hs3.out) HF3.out); have HO4 := Lib.hid hown4; clear hown4 hg4)
    obtain ⟨A8, c8, e8, hs8⟩ := HO4.out.seg elemS
    injection e8 with e9 e10 e11
    subst e9 e11
    have el : r = Kd.br [115, 117, 98] ([[102, 105, 110, 97, 108]] ++ lp ++ [tc]) := by rw [← hr'.out]; simp [Kd.tT, hlp'.out, htc'.out]
    have hbl : (Kd.br [115, 117, 98] ([[102, 105, 110, 97, 108]] ++ lp ++ [tc])).length ≤ 10000000 := by
      have h := Kd.br_len [115, 117, 98] 9100 ([[102, 105, 110, 97, 108]] ++ lp ++ [tc]) (fun y hy => by
        rcases List.mem_append.1 hy with hy | hy
        · rcases List.mem_append.1 hy with hy | hy
          · simp at hy; try (subst hy; decide)
          · exact hls'.out y hy
        · simp at hy; subst hy; exact hlc'.out)
      have h1 := hla'.out
      have h2 := hlb'.out
      have h3 : ([[102, 105, 110, 97, 108]] ++ lp ++ [tc]).length ≤ 102 := by simp; omega
      have h4 := Nat.mul_le_mul_right 9101 h3
      simp only [List.length_cons, List.length_nil] at h
      omega
    have HC := inBr_any [115, 117, 98] ([[102, 105, 110, 97, 108]] ++ lp ++ [tc]) A7 c7 (2 + lp.length + 1) w4 (by simp; omega) (by simpa using hs8) hbl (by have := hla'.out; have := hlb'.out; simp; omega)
    rw [← el] at HC
    refine HC.mono ?_
    rintro e w5 ⟨rfl, hb5⟩
    dsimp only
    have hB := below_trans2 HF4.out hb5
    go_wp2
    go_ret
    exact ⟨rfl, hB⟩
end Go.Proofs.YtlflmobaegfnaaaDoor

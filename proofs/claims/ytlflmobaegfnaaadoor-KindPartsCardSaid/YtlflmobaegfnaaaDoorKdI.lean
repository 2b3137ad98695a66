/-
  Layer 4, code: the writing of composite and declared types, put together.
-/
import Derived.Test.YtlflmobaegfnaaaDoorKdH
namespace Go.Proofs.YtlflmobaegfnaaaDoor
open Go.RowKit
set_option linter.unusedVariables false
set_option maxRecDepth 100000

namespace Kd
theorem sp_len (m : Nat) : ∀ l : List (List UInt8), (∀ x ∈ l, x.length ≤ m) → (sp l).length ≤ l.length * (m + 1)
  | [], _ => by simp [sp]
  | x :: l, h => by
    have h1 := sp_len m l fun y hy => h y (List.mem_cons_of_mem _ hy)
    have h2 := h x List.mem_cons_self
    have e : sp (x :: l) = 32 :: x ++ sp l := by simp [sp]
    rw [e, List.length_append, List.length_cons, List.length_cons, Nat.add_mul]
    omega
theorem br_len (x : List UInt8) (m : Nat) (l : List (List UInt8)) (h : ∀ y ∈ l, y.length ≤ m) : (br x l).length ≤ x.length + l.length * (m + 1) + 2 := by
  have := sp_len m l h
  unfold br
  simp
  omega
theorem vals_len (l : List Vl) (hl : l.length ≤ 100) (hp : ∀ x ∈ l, pVal x = true) (x : List UInt8) (hx : x.length ≤ 6) : (br x (l.map vT)).length ≤ 4200 := by
  have := br_len x 40 (l.map vT) (fun y hy => by obtain ⟨v, hv, rfl⟩ := List.mem_map.1 hy; exact vT_len v (hp v hv))
  rw [List.length_map] at this
  have h2 := Nat.mul_le_mul_right 41 hl
  omega
theorem some_len (l : List Vl) (hl : l.length ≤ 100) (hp : ∀ x ∈ l, pVal x = true) (x : List UInt8) (hx : x.length ≤ 6) : (some_ x (l.map vT)).length ≤ 1 ∧ ∀ y ∈ some_ x (l.map vT), y.length ≤ 4200 := by
  unfold some_
  split
  · simp
  · exact ⟨by simp, fun y hy => by simp at hy; subst hy; exact vals_len l hl hp x hx⟩
theorem fields_len (l : List Fd) (hl : l.length ≤ 100) (hp : ∀ x ∈ l, pField x = true) (x : List UInt8) (hx : x.length ≤ 6) : (br x (l.map fT)).length ≤ 9000 := by
  have := br_len x 60 (l.map fT) (fun y hy => by obtain ⟨v, hv, rfl⟩ := List.mem_map.1 hy; exact fT_len v (hp v hv))
  rw [List.length_map] at this
  have h2 := Nat.mul_le_mul_right 61 hl
  omega
/-- What the writing asks of a composite type. -/
structure OkC (c : Cp) : Prop where
  k : c.k = 1 ∨ c.k = 2 ∨ c.k = 3
  p : ∀ x ∈ c.ps, pVal x = true
  r : ∀ x ∈ c.rs, pVal x = true
  f : ∀ x ∈ c.fs, pField x = true
theorem okC_of {c : Cp} (h : pComp c = true) : OkC c := by
  unfold pComp at h
  have nil_of : takes c = false → c.ps = [] ∧ c.rs = [] := fun ht => by
    unfold takes at ht
    simp only [decide_eq_false_iff_not] at ht
    exact ⟨List.eq_nil_of_length_eq_zero (by omega), List.eq_nil_of_length_eq_zero (by omega)⟩
  split at h
  · rename_i hk
    simp only [Bool.and_eq_true, List.all_eq_true, decide_eq_true_eq] at h
    exact ⟨.inl hk, h.1, h.2.1, fun x hx => (by rw [List.eq_nil_of_length_eq_zero h.2.2] at hx; exact absurd hx List.not_mem_nil)⟩
  · split at h
    · rename_i hk
      simp only [Bool.and_eq_true, List.all_eq_true, Bool.not_eq_true'] at h
      obtain ⟨e1, e2⟩ := nil_of h.1
      exact ⟨.inr (.inl hk), fun x hx => (by rw [e1] at hx; exact absurd hx List.not_mem_nil), fun x hx => (by rw [e2] at hx; exact absurd hx List.not_mem_nil), h.2⟩
    · split at h
      · rename_i hk
        simp only [Bool.and_eq_true, List.all_eq_true, Bool.not_eq_true'] at h
        obtain ⟨e1, e2⟩ := nil_of h.1
        exact ⟨.inr (.inr hk), fun x hx => (by rw [e1] at hx; exact absurd hx List.not_mem_nil), fun x hx => (by rw [e2] at hx; exact absurd hx List.not_mem_nil), h.2.2⟩
      · cases h
theorem cT_len (c : Cp) (hS : SmallC c) (h : OkC c) : (cT c).length ≤ 9100 := by
  unfold cT
  split
  · have h1 := some_len c.ps hS.p h.p [112, 97, 114, 97, 109] (by decide)
    have h2 := some_len c.rs hS.r h.r [114, 101, 115, 117, 108, 116] (by decide)
    have := br_len [102, 117, 110, 99] 4200 (some_ [112, 97, 114, 97, 109] (c.ps.map vT) ++ some_ [114, 101, 115, 117, 108, 116] (c.rs.map vT)) (fun y hy => by
      rcases List.mem_append.1 hy with hy | hy
      · exact h1.2 y hy
      · exact h2.2 y hy)
    rw [List.length_append] at this
    have h3 := Nat.mul_le_mul_right 4201 (Nat.add_le_add h1.1 h2.1)
    simp at this
    omega
  · split
    · have := fields_len c.fs hS.f h.f [115, 116, 114, 117, 99, 116] (by decide); omega
    · have := fields_len c.fs hS.f h.f [97, 114, 114, 97, 121] (by decide); omega
end Kd

theorem vals_any (x : List UInt8) (l : List Vl) (A : Option Addr) (c : Nat) (w : World) (hT : Tabs w) (hx : x.length ≤ 6) (hl : l.length ≤ 100) (hp : ∀ y ∈ l, Kd.pVal y = true) (hs : Seg 4 Vl.cs w w.heap.size A c l) :
    Calls Tryd.prog 81 #[Str x, .slice A l.length c] w fun e w' => (∃ v, e = .returned v ∧ OwnG 9 1 Sx w.heap.size w' v (Kd.some_ x (l.map Kd.vT))) ∧ Below w.heap.size w w' := by
  obtain ⟨Q, hQ⟩ : ∃ Q : Ending → World → Prop, Q = (fun e w' => (∃ v, e = .returned v ∧ OwnG 9 1 Sx w.heap.size w' v (Kd.some_ x (l.map Kd.vT))) ∧ Below w.heap.size w w') := ⟨_, rfl⟩
  rw [← hQ]
  have hQ' := Lib.hid hQ
  have HT := Lib.hid hT
  have HP := Lib.hid hp
  have HS := Lib.hid hs
  have HX := Lib.hid hx
  clear hQ hT hp hs hx
  rcases Nat.eq_zero_or_pos l.length with h0 | h0
  · have hn : l = [] := List.eq_nil_of_length_eq_zero h0
    subst hn
    go_enter Tryd.func81, Tryd.ntmps81
    go_wp2
    rw [hQ'.out]
    exact ⟨⟨_, rfl, OwnG.nil _ _⟩, Below.refl _ _⟩
  · have hne : ((l.length : Int) == 0) = false := by rw [beq_eq_false_iff_ne]; omega
    have hln : Hid (l.map Kd.vT ≠ []) := Lib.hid (by intro e; rw [List.map_eq_nil_iff] at e; subst e; simp at h0)
    go_enter Tryd.func81, Tryd.ntmps81
    go_wp2_with fail
    refine (tx_v l A c w HT.out hl HP.out HS.out).mono ?_
    rintro e w1 ⟨⟨v, rfl, hown⟩, hb1⟩
    obtain ⟨A1, c1, rfl, hs1⟩ := hown.seg elemS
    have HC : Hid (Calls Tryd.prog 82 #[Str x, .slice A1 (l.map Kd.vT).length c1] w1 fun e w' => e = .returned (Str (Kd.br x (l.map Kd.vT))) ∧ Below w1.heap.size w1 w') :=
      Lib.hid (headed_any x (l.map Kd.vT) A1 c1 w1 hs1 (by have := Kd.vals_len l hl HP.out x HX.out; omega) (by rw [List.length_map]; omega))
    clear hown hs1
    obtain ⟨t, ht⟩ : ∃ t, Kd.br x (l.map Kd.vT) = t := ⟨_, rfl⟩
    rw [ht] at HC
    have ht' := Lib.hid ht
    clear ht
    rw [List.length_map] at HC ⊢
    dsimp only
    go_wp2_with fail
    refine HC.out.mono ?_
    rintro e w2 ⟨rfl, hb2⟩
    dsimp only
    have hB := below_trans2 hb1 hb2
    go_wp2
    rw [hQ'.out]
    refine ⟨⟨_, rfl, ?_⟩, hB.alloc hB.size _⟩
    have e1 : Kd.some_ x (l.map Kd.vT) = [t] := by unfold Kd.some_; rw [if_neg hln.out, ht'.out]
    rw [e1]
    exact OwnG.lit1 elemS w2 hB.size t _ rfl

set_option maxHeartbeats 1000000 in
theorem cT_any (c : Cp) (v : Value) (w : World) (hT : Tabs w) (h : IsComp w w.heap.size v c) (hS : SmallC c) (ho : Kd.OkC c) :
    Calls Tryd.prog 66 #[v] w fun e w' => e = .returned (Str (Kd.cT c)) ∧ Below w.heap.size w w' := by
  obtain ⟨A2, c2, A3, c3, A4, c4, rfl, s2, s3, s4⟩ := h
  have hB0 : Below w.heap.size w (w.alloc (.cells #[.int .i64 c.k, .slice A2 c.ps.length c2, .slice A3 c.rs.length c3, .slice A4 c.fs.length c4] 27)) := (Below.refl _ _).alloc (Nat.le_refl _) _
  rcases ho.k with hk | hk | hk
  · -- functions
    have L1 := Lib.hid (Kd.some_len c.ps hS.p ho.p [112, 97, 114, 97, 109] (by decide))
    have L2 := Lib.hid (Kd.some_len c.rs hS.r ho.r [114, 101, 115, 117, 108, 116] (by decide))
    have CP : Hid (∀ W, Below w.heap.size w W → Calls Tryd.prog 81 #[Str [112, 97, 114, 97, 109], .slice A2 c.ps.length c2] W fun e w' => (∃ v, e = .returned v ∧ OwnG 9 1 Sx W.heap.size w' v (Kd.some_ [112, 97, 114, 97, 109] (c.ps.map Kd.vT))) ∧ Below W.heap.size W w') :=
      Lib.hid fun W hW => vals_any _ c.ps A2 c2 W (hT.below hW) (by decide) hS.p ho.p ((s2.below hW).more hW.size)
    have CR : Hid (∀ W, Below w.heap.size w W → Calls Tryd.prog 81 #[Str [114, 101, 115, 117, 108, 116], .slice A3 c.rs.length c3] W fun e w' => (∃ v, e = .returned v ∧ OwnG 9 1 Sx W.heap.size w' v (Kd.some_ [114, 101, 115, 117, 108, 116] (c.rs.map Kd.vT))) ∧ Below W.heap.size W w') :=
      Lib.hid fun W hW => vals_any _ c.rs A3 c3 W (hT.below hW) (by decide) hS.r ho.r ((s3.below hW).more hW.size)
    obtain ⟨r, hr⟩ : ∃ r, Kd.cT c = r := ⟨_, rfl⟩
    rw [hr]
    have hr' := Lib.hid hr
    have hlen := Lib.hid (Kd.cT_len c hS ho)
    clear hr hS ho hT s2 s3 s4
    obtain ⟨k, ps, rs, fs⟩ := c
    dsimp only at hk hB0 CP CR L1 L2 ⊢
    subst hk
    obtain ⟨lp, hlp⟩ : ∃ lp, Kd.some_ [112, 97, 114, 97, 109] (ps.map Kd.vT) = lp := ⟨_, rfl⟩
    obtain ⟨lr, hlr⟩ : ∃ lr, Kd.some_ [114, 101, 115, 117, 108, 116] (rs.map Kd.vT) = lr := ⟨_, rfl⟩
    rw [hlp] at CP L1
    rw [hlr] at CR L2
    have hlp' := Lib.hid hlp
    have hlr' := Lib.hid hlr
    clear hlp hlr
    have hW1 : Below (w.alloc (.cells #[.int .i64 1, .slice A2 ps.length c2, .slice A3 rs.length c3, .slice A4 fs.length c4] 27)).heap.size (w.alloc (.cells #[.int .i64 1, .slice A2 ps.length c2, .slice A3 rs.length c3, .slice A4 fs.length c4] 27)) ((w.alloc (.cells #[.int .i64 1, .slice A2 ps.length c2, .slice A3 rs.length c3, .slice A4 fs.length c4] 27)).alloc (.cells #[Str [102, 117, 110, 99]] 9)) := (Below.refl _ _).alloc (Nat.le_refl _) _
    have hown0 := OwnG.lit1 (B := (w.alloc (.cells #[.int .i64 1, .slice A2 ps.length c2, .slice A3 rs.length c3, .slice A4 fs.length c4] 27)).heap.size) elemS (w.alloc (.cells #[.int .i64 1, .slice A2 ps.length c2, .slice A3 rs.length c3, .slice A4 fs.length c4] 27)) (Nat.le_refl _) [102, 117, 110, 99] #[Str [102, 117, 110, 99]] rfl
    have HO0 := Lib.hid hown0
    have HW1 := Lib.hid hW1
    have HB0 := Lib.hid hB0
    clear hown0 hW1 hB0
    go_enter Tryd.func66, Tryd.ntmps66
    go_wp2_with fail
    refine (CP.out _ (HB0.out.alloc HB0.out.size _)).mono ?_
    rintro e w1 ⟨⟨v1, rfl, hown1⟩, hb1⟩
    obtain ⟨A5, c5, rfl, hs5⟩ := hown1.seg elemS
    have HS5 := Lib.hid hs5
    have HO1 := Lib.hid (HO0.out.below hb1)
    have HW2 := Lib.hid (HW1.out.trans (hb1.mono HW1.out.size))
    have hsz := Lib.hid hb1
    clear hown1 hs5 hb1
    dsimp only
    rw [World.size_alloc] at HO1
    have hs1 : Hid (w.heap.size + 1 ≤ w1.heap.size) := Lib.hid (by have := HW2.out.size; simpa using this)
    go_wp2_with (at_builtin; refine cat_g elemS rfl _ _ rfl _ lp.length rfl rfl HO1.out rfl HS5.out hs1.out (1 + lp.length) (by have := L1.out.1; omega) rfl ?_; intro A' cc' w2 hown2 hg2; have HW3 := Lib.hid (HO1.out.grown hg2 (Nat.le_refl _) hs1.out (by have := HW2.out; rw [World.size_alloc] at this; exact this)); obtain ⟨hc2, hf2⟩ := bcell (by have := HW3.out; rw [← World.size_alloc] at this; exact this); have HO2 := Lib.hid hown2; clear hown2 hg2)
    have HF2 := Lib.hid (HB0.out.trans (HW3.out.mono (Nat.le_succ _)))
    refine (CR.out _ HF2.out).mono ?_
    rintro e w3 ⟨⟨v2, rfl, hown3⟩, hb3⟩
    obtain ⟨A6, c6, rfl, hs6⟩ := hown3.seg elemS
    have HS6 := Lib.hid hs6
    have HO3 := Lib.hid (HO2.out.below hb3)
    have HF3 := Lib.hid (below_trans2 HF2.out hb3)
    have hs3 : Hid (w.heap.size + 1 ≤ w3.heap.size) := Lib.hid (Nat.le_trans (by have := HW3.out.size; simpa using this) hb3.size)
    clear hown3 hs6 hb3 hc2 hf2
    dsimp only
    go_wp2_with (at_builtin; refine cat_g elemS rfl _ _ rfl _ lr.length rfl rfl HO3.out rfl HS6.out hs3.out (1 + lp.length + lr.length) (by have := L1.out.1; have := L2.out.1; omega) (by simp; omega) ?_; intro A7 c7 w4 hown4 hg4; have HF4 := Lib.hid (HO3.out.grown hg4 (Nat.le_succ _) (Nat.le_of_succ_le hs3.out) HF3.out); have HO4 := Lib.hid hown4; clear hown4 hg4)
    obtain ⟨A8, c8, e8, hs8⟩ := HO4.out.seg elemS
    injection e8 with e9 e10 e11
    subst e9 e11
    have el : r = Kd.br [102, 117, 110, 99] (lp ++ lr) := by rw [← hr'.out]; simp [Kd.cT, hlp'.out, hlr'.out]
    refine (inBr_any [102, 117, 110, 99] (lp ++ lr) A7 c7 _ w4 (by simp; omega) (by simpa using hs8) (by rw [← el, ← hr'.out]; have := hlen.out; omega) (by have := L1.out.1; have := L2.out.1; simp; omega)).mono ?_
    rw [← el]
    rintro e w5 ⟨rfl, hb5⟩
    dsimp only
    have hB := below_trans2 HF4.out hb5
    go_wp2
    go_ret
    exact ⟨rfl, hB⟩
  · have L := Lib.hid (Kd.fields_len c.fs hS.f ho.f [115, 116, 114, 117, 99, 116] (by decide))
    have hfl := hS.f
    have CF : Hid (∀ W, Below w.heap.size w W → Calls Tryd.prog 83 #[.slice A4 c.fs.length c4, .func (.func 84) #[] #[]] W fun e w' => (∃ v, e = .returned v ∧ OwnG 9 1 Sx W.heap.size w' v (c.fs.map Kd.fT)) ∧ Below W.heap.size W w') :=
      Lib.hid fun W hW => tx_f c.fs A4 c4 W (hT.below hW) hS.f ho.f ((s4.below hW).more hW.size)
    clear hS ho hT s2 s3 s4
    obtain ⟨k, ps, rs, fs⟩ := c
    dsimp only at hk hB0 CF L hfl ⊢
    subst hk
    have hr' : Hid (Kd.cT ⟨2, ps, rs, fs⟩ = Kd.br [115, 116, 114, 117, 99, 116] (fs.map Kd.fT)) := Lib.hid (by simp [Kd.cT])
    have HB0 := Lib.hid hB0
    have HL : Hid ((fs.map Kd.fT).length ≤ 1000) := Lib.hid (by rw [List.length_map]; omega)
    clear hB0 hfl
    go_enter Tryd.func66, Tryd.ntmps66
    go_wp2_with fail
    refine (CF.out _ HB0.out).mono ?_
    rintro e w1 ⟨⟨v, rfl, hown⟩, hb1⟩
    obtain ⟨A5, c5, rfl, hs5⟩ := hown.seg elemS
    have HS5 := Lib.hid hs5
    have HB1 := Lib.hid (below_trans HB0.out hb1)
    clear hown hs5 hb1
    dsimp only
    go_wp2_with fail
    have HC := headed_any [115, 116, 114, 117, 99, 116] (fs.map Kd.fT) A5 c5 w1 HS5.out (Nat.le_trans L.out (by decide)) HL.out
    rw [← hr'.out, List.length_map] at HC
    refine HC.mono ?_
    rintro e w2 ⟨rfl, hb2⟩
    dsimp only
    have hB := below_trans2 HB1.out hb2
    go_wp2
    go_ret
    exact ⟨rfl, hB⟩
  · have L := Lib.hid (Kd.fields_len c.fs hS.f ho.f [97, 114, 114, 97, 121] (by decide))
    have hfl := hS.f
    have CF : Hid (∀ W, Below w.heap.size w W → Calls Tryd.prog 83 #[.slice A4 c.fs.length c4, .func (.func 84) #[] #[]] W fun e w' => (∃ v, e = .returned v ∧ OwnG 9 1 Sx W.heap.size w' v (c.fs.map Kd.fT)) ∧ Below W.heap.size W w') :=
      Lib.hid fun W hW => tx_f c.fs A4 c4 W (hT.below hW) hS.f ho.f ((s4.below hW).more hW.size)
    clear hS ho hT s2 s3 s4
    obtain ⟨k, ps, rs, fs⟩ := c
    dsimp only at hk hB0 CF L hfl ⊢
    subst hk
    have hr' : Hid (Kd.cT ⟨3, ps, rs, fs⟩ = Kd.br [97, 114, 114, 97, 121] (fs.map Kd.fT)) := Lib.hid (by simp [Kd.cT])
    have HB0 := Lib.hid hB0
    have HL : Hid ((fs.map Kd.fT).length ≤ 1000) := Lib.hid (by rw [List.length_map]; omega)
    clear hB0 hfl
    go_enter Tryd.func66, Tryd.ntmps66
    go_wp2_with fail
    refine (CF.out _ HB0.out).mono ?_
    rintro e w1 ⟨⟨v, rfl, hown⟩, hb1⟩
    obtain ⟨A5, c5, rfl, hs5⟩ := hown.seg elemS
    have HS5 := Lib.hid hs5
    have HB1 := Lib.hid (below_trans HB0.out hb1)
    clear hown hs5 hb1
    dsimp only
    go_wp2_with fail
    have HC := headed_any [97, 114, 114, 97, 121] (fs.map Kd.fT) A5 c5 w1 HS5.out (Nat.le_trans L.out (by decide)) HL.out
    rw [← hr'.out, List.length_map] at HC
    refine HC.mono ?_
    rintro e w2 ⟨rfl, hb2⟩
    dsimp only
    have hB := below_trans2 HB1.out hb2
    go_wp2
    go_ret
    exact ⟨rfl, hB⟩
end Go.Proofs.YtlflmobaegfnaaaDoor

/-
  Layer 6: what the statements ask first ('known').
-/
import Derived.Test.YtphmknhlibampaaDoorTbQ
namespace Go.Proofs.YtphmknhlibampaaDoor
open Go.RowKit
set_option linter.unusedVariables false
set_option linter.unusedSimpArgs false
set_option maxRecDepth 100000

section
variable {w y z : World} {b b2 n n2 c c2 : Nat} {A A2 : Option Addr} {r r2 r' r'' : Rd}
/-- Another reader reads. -/
theorem RdAt.other (h : RdAt y b A n c r) (h2 : RdAt y b2 A2 n2 c2 r2) (hne : b ≠ b2) (hk : Keep (Db b2) y z) : RdAt z b A n c r := by
  refine ⟨(hk.block b h.lt (fun _ e => hne e)).trans h.1, h.2.1.kept hk.size h2.noByte hk, h.2.2⟩
theorem Open_lit (w : World) (l : List Nat) (zs : Array Value) (hz : zs = (l.map U8).toArray) (hl : ∀ x ∈ l, x < 256) (hn : l.length < 1000000) :
    Calls Tryd.prog 9 #[.slice (some ⟨w.heap.size, 0, none⟩) l.length l.length] (w.alloc (.cells zs 5)) fun e w' => ∃ b A' c', e = .returned (.pointer (some ⟨b, 0, none⟩)) ∧ w.heap.size ≤ b ∧ RdAt w' b A' l.length c' (Tb.opened l) ∧ Below w.heap.size w w' := by
  subst hz
  have hb : Below w.heap.size w (w.alloc (.cells (l.map U8).toArray 5)) := (Below.refl _ _).alloc (Nat.le_refl _) _
  refine (Open_any ((bytes_new w l hl hn).more (by simp)) hn).mono ?_
  rintro e w' ⟨b, A', c', h1, h2, h3, h4⟩
  simp only [World.size_alloc] at h2
  exact ⟨b, A', c', h1, by omega, h3, hb.trans (h4.mono (by simp))⟩
/-- How it stands within known: a reader, a variable, the table. -/
structure KSt (w y : World) (b : Nat) (A : Option Addr) (n c : Nat) (r : Rd) (bv : Nat) : Prop where
  rd : RdAt y b A n c r
  row : y.heap[bv]? = some (.cells #[.int .i64 3, .bool false, .int .i64 13, .int .i64 5] 46 (0, 0))
  tab : Tab6 y
  below : Below w.heap.size w y
theorem KSt.lt {bv : Nat} (h : KSt w y b A n c r bv) : bv < y.heap.size := (Array.getElem?_eq_some_iff.1 h.row).1
theorem KSt.step {bv : Nat} (h : KSt w y b A n c r bv) {B : Nat} (hB : y.heap.size ≤ B) (hb : Below B y z) : KSt w z b A n c r bv :=
  have hb' := hb.mono hB
  ⟨h.rd.below (Nat.le_refl _) hb', (hb'.block bv (Array.getElem?_eq_some_iff.1 h.row).1).trans h.row, h.tab.below hb', h.below.trans (hb'.mono h.below.size)⟩
theorem KSt.call {bv : Nat} (h : KSt w y b A n c r bv) (h2 : RdAt y b2 A2 n2 c2 r2) (hne : b ≠ b2) (hv : bv ≠ b2) (hw : w.heap.size ≤ b2) (hk : Keep (Db b2) y z) : KSt w z b A n c r bv :=
  ⟨h.rd.other h2 hne hk, (hk.block bv (Array.getElem?_eq_some_iff.1 h.row).1 (fun _ e => hv e)).trans h.row, h.tab.out h2 hk, h.below.trans (hk.below h.below.size (fun k o hk' e => by have : k = b2 := e; omega))⟩
theorem val_is (h : RdAt w b A n c r) (hT : Tab6 w) (v : Vl) (r1 : Rd) (hv : Tb.val r = (v, r1)) : Calls Tryd.prog 24 #[.pointer (some ⟨b, 0, none⟩)] w (RdOut b A n c v.val r1 w) := by
  have := Val_rd h hT
  rw [hv] at this
  exact this
theorem rec_is (h : RdAt w b A n c r) (hn : n < 1000000) (hT : Tab6 w) (q : List Sb × Rd) (hv : Tb.rec_ r = q) : Calls Tryd.prog 30 #[.pointer (some ⟨b, 0, none⟩)] w (RecOut b A n c q w) := by
  have := Rec_any h hn hT
  rw [hv] at this
  exact this
set_option maxHeartbeats 8000000 in
theorem known6_any (w : World) (hT : Tab6 w) : Calls Tryd.prog 8 #[] w fun e w' => e = .returned (.bool true) ∧ Below w.heap.size w w' := by
  obtain ⟨Q, hQ⟩ : ∃ Q : Ending → World → Prop, Q = (fun e w' => e = .returned (.bool true) ∧ Below w.heap.size w w') := ⟨_, rfl⟩
  rw [← hQ]
  have HQ := Lib.hid hQ
  have HT := Lib.hid hT
  have v1 : Hid (Tb.val (Tb.opened [100, 133, 0]) = (⟨3, false, ⟨13, 5⟩⟩, ⟨[100, 133, 0], 3, 0, 0⟩)) := Lib.hid (by decide +kernel)
  have v2 : Hid (Tb.val (Tb.opened [100, 127]) = (Tb.noVal, ⟨[100, 127], 1, 60, 1⟩)) := Lib.hid (by decide +kernel)
  have v3 : Hid (Tb.val (Tb.opened [125]) = (Tb.noVal, ⟨[125], 0, 61, 0⟩)) := Lib.hid (by decide +kernel)
  have v4 : Hid (Tb.rec_ (Tb.opened [96, 1, 127, 0]) = ([⟨true, [], ⟨1, [⟨1, false, ⟨0, 0⟩⟩], [], []⟩⟩], ⟨[96, 1, 127, 0], 4, 0, 0⟩)) := Lib.hid (by decide +kernel)
  clear hT hQ
  go_enter Tryd.func8, Tryd.ntmps8
  go_wp2_with fail
  refine (Open_lit w [100, 133, 0] _ rfl (by decide) (by decide)).mono ?_
  rintro e w1 ⟨b1, A1, c1, rfl, hz1, h1, hb1⟩
  have HT1 := Lib.hid (HT.out.below hb1)
  go_wp2_with fail
  refine (val_is h1 HT1.out _ _ v1.out).mono ?_
  rintro e w2 ⟨rfl, h2, k2⟩
  have S0 : KSt w (w2.alloc (.cells #[.int .i64 3, .bool false, .int .i64 13, .int .i64 5] 46)) b1 A1 3 c1 ⟨[100, 133, 0], 3, 0, 0⟩ w2.heap.size := by
    have hb : Below w2.heap.size w2 (w2.alloc (.cells #[.int .i64 3, .bool false, .int .i64 13, .int .i64 5] 46)) := (Below.refl _ _).alloc (Nat.le_refl _) _
    have hw2 : Below w.heap.size w w2 := hb1.trans (k2.below hb1.size (fun k o hk' e => by have : k = b1 := e; omega))
    exact ⟨h2.below (Nat.le_refl _) hb, World.alloc_heap_new _ _, (HT1.out.out h1 k2).below hb, hw2.trans (hb.mono hw2.size)⟩
  have S := Lib.hid S0
  have hz2 : b1 < w2.heap.size := h2.lt
  clear h1 h2 k2 hb1 S0
  -- r.Err()
  have E1 := Lib.hid (Err_any S.out.rd)
  go_wp2_with fail
  refine E1.out.mono ?_
  rintro e w3 ⟨rfl, m, hwm⟩
  have S := Lib.hid (S.out.step (z := w3) (Nat.le_refl _) (by rw [hwm]; exact below_drewN (Below.refl _ _) m))
  have hlm := S.out.rd.lt
  have hvm := S.out.lt
  clear hwm
  have HWs := Lib.hid S.out.below.size
  go_wp2_with fail
  refine (Open_lit _ [100, 127] _ rfl (by decide) (by decide)).mono ?_
  rintro e w4 ⟨b2, A2, c2, rfl, hz3, h1, hb1⟩
  have S := Lib.hid (S.out.step (Nat.le_refl _) hb1)
  go_wp2_with fail
  refine (val_is h1 S.out.tab _ _ v2.out).mono ?_
  rintro e w5 ⟨rfl, h2, k2⟩
  have S := Lib.hid (S.out.call h1 (by omega) (by omega) (by have := HWs.out; omega) k2)
  have E2 := Lib.hid (Err_any h2)
  have hz5 : b2 < w5.heap.size := h2.lt
  clear h1 h2 k2 hb1
  go_wp2_with fail
  refine E2.out.mono ?_
  rintro e w6 ⟨rfl, m2, hwm2⟩
  have S := Lib.hid (S.out.step (z := w6) (Nat.le_refl _) (by rw [hwm2]; exact below_drewN (Below.refl _ _) m2))
  have hlm2 := S.out.rd.lt
  have hvm2 := S.out.lt
  clear hwm2
  have HWs := Lib.hid S.out.below.size
  go_wp2_with fail
  refine (Open_lit _ [125] _ rfl (by decide) (by decide)).mono ?_
  rintro e w7 ⟨b3, A3, c3, rfl, hz6, h1, hb1⟩
  have S := Lib.hid (S.out.step (Nat.le_refl _) hb1)
  go_wp2_with fail
  refine (val_is h1 S.out.tab _ _ v3.out).mono ?_
  rintro e w8 ⟨rfl, h2, k2⟩
  have S := Lib.hid (S.out.call h1 (by omega) (by omega) (by have := HWs.out; omega) k2)
  have E3 := Lib.hid (Err_any h2)
  have hz8 : b3 < w8.heap.size := h2.lt
  clear h1 h2 k2 hb1
  go_wp2_with fail
  refine E3.out.mono ?_
  rintro e w9 ⟨rfl, m3, hwm3⟩
  have S := Lib.hid (S.out.step (z := w9) (Nat.le_refl _) (by rw [hwm3]; exact below_drewN (Below.refl _ _) m3))
  have hlm3 := S.out.rd.lt
  have hvm3 := S.out.lt
  clear hwm3
  have HWs := Lib.hid S.out.below.size
  go_wp2_with fail
  refine (Open_lit _ [96, 1, 127, 0] _ rfl (by decide) (by decide)).mono ?_
  rintro e w10 ⟨b4, A4, c4, rfl, hz9, h1, hb1⟩
  have S := Lib.hid (S.out.step (Nat.le_refl _) hb1)
  go_wp2_with fail
  refine (rec_is h1 (by decide) S.out.tab _ v4.out).mono ?_
  rintro e w11 ⟨x, xs, rfl, ho, ha, h2, k2⟩
  have S := Lib.hid (S.out.call h1 (by omega) (by omega) (by have := HWs.out; omega) k2)
  clear h1 hb1 h2 k2
  obtain ⟨x0, rfl, hx0⟩ : ∃ x0, xs = [x0] ∧ OwnS w10.heap.size w11 x0 ⟨true, [], ⟨1, [⟨1, false, ⟨0, 0⟩⟩], [], []⟩⟩ := by
    match xs, ha with
    | [x0], h => exact ⟨x0, rfl, h.1⟩
  obtain ⟨A5, c5, e5, hs⟩ := ho.seg elemSub
  obtain ⟨xa, xn, xc⟩ := x
  dsimp only at e5 ho ⊢
  injection e5 with e5 e6 e7
  subst e5 e6 e7
  obtain ⟨gb, off, rfl, hgb, hcell⟩ := hs.2.2 Nat.zero_lt_one
  have p0 : w11.cell? ⟨gb, off, none⟩ = some (.bool true) := by
    have := hcell 0 Nat.zero_lt_one 0 (.bool x0.fin) rfl
    rw [hx0.fin] at this
    exact this
  have hl : x0.x2.n = 1 := by
    obtain ⟨A6, c6, e6⟩ := hx0.comp.ps.form
    injection e6 with _ e6 _
  have p3 : w11.cell? ⟨gb, off + 2 + 1, none⟩ = some (.slice x0.x2.a 1 x0.x2.c) := by
    have := hcell 0 Nat.zero_lt_one 3 (.slice x0.x2.a x0.x2.n x0.x2.c) rfl
    rw [hl] at this
    exact this
  have p3' : w11.cell? ⟨gb, off + 3, none⟩ = some (.slice x0.x2.a 1 x0.x2.c) := p3
  have HLf := Lib.hid (Left_any S.out.rd)
  have HP0 : Hid (∀ k, (w11.drewN k).cell? ⟨gb, off, none⟩ = some (.bool true) ∧ (w11.drewN k).cell? ⟨gb, off + 2 + 1, none⟩ = some (.slice x0.x2.a 1 x0.x2.c) ∧ (w11.drewN k).cell? ⟨gb, off + 3, none⟩ = some (.slice x0.x2.a 1 x0.x2.c)) := Lib.hid fun k => ⟨p0, p3, p3'⟩
  clear ha ho hx0 hs hcell hl p0 p3 p3' hgb
  go_wp2_with (first
    | (go_at_call 36; refine HLf.out.mono ?_; rintro e w12 ⟨rfl, m4, hw4⟩; obtain ⟨p0, p3, p3'⟩ := HP0.out m4; rw [← hw4] at p0 p3 p3'; have S := Lib.hid (S.out.step (z := w12) (Nat.le_refl _) (by rw [hw4]; exact below_drewN (Below.refl _ _) m4)); clear hw4)
    | (refine wpList_load_row rfl 46 (.tmp 2) rfl w2.heap.size rfl _ _ _ _ S.out.row Tryd.underlying46 rfl (by kernel_rfl) ?_))
  rw [HQ.out]
  exact ⟨rfl, S.out.below⟩
end
end Go.Proofs.YtphmknhlibampaaDoor

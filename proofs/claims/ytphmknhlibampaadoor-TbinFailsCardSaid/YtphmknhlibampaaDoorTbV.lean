/-
  Layer 6, code: item at []byte, Take.
-/
import Derived.Test.YtphmknhlibampaaDoorTbU
namespace Go.Proofs.YtphmknhlibampaaDoor
open Go.RowKit
set_option linter.unusedVariables false
set_option linter.unusedSimpArgs false
set_option maxRecDepth 100000

/-- What Take tells. -/
def TakeOut (b : Nat) (A : Option Addr) (n c : Nat) (l : List Nat) (r' : Rd) (w : World) (e : Ending) (w' : World) : Prop := ∃ x : Sl, e = .returned (.slice x.a x.n x.c) ∧ Own w.heap.size w' (.slice x.a x.n x.c) l ∧ RdAt w' b A n c r' ∧ Keep (Db b) w w'
set_option maxHeartbeats 4000000 in
theorem item_bytes {w : World} {b n c : Nat} {A : Option Addr} {r : Rd} (h : RdAt w b A n c r) (fid : Nat) (lb : Array Value) (he : ∀ args w, (callFunc fid args).run Tryd.prog w = .ok (.enter fid args) w) (q : List Nat × Nat × Nat) (hnx : q.2.2 = 0 → q.2.1 ≤ n)
    (hf : ∀ W, Below w.heap.size w W → Calls Tryd.prog fid (#[.slice A n c, .int .i64 (r.p : Int)] ++ lb) W (TakeItem W q)) :
    Calls Tryd.prog 56 #[.pointer (some ⟨b, 0, none⟩), .func (.func fid) #[] lb] w (TakeOut b A n c (if r.e = 0 ∧ q.2.2 = 0 then q.1 else []) (Tb.step q.2.1 q.2.2 r) w) := by
  obtain ⟨v, nx, er⟩ := q
  dsimp only at hnx ⊢
  obtain ⟨Q, hQ⟩ : ∃ Q : Ending → World → Prop, Q = (TakeOut b A n c (if r.e = 0 ∧ er = 0 then v else []) (Tb.step nx er r) w) := ⟨_, rfl⟩
  rw [← hQ]
  by_cases h0 : r.e = 0
  · have HG := Lib.hid (goes_any h true (by simp [h0]))
    have HF : Hid (∀ W, Below w.heap.size w W → Calls Tryd.prog fid (#[.slice A n c, .int .i64 (r.p : Int)] ++ lb) W (TakeItem W (v, nx, er))) := Lib.hid hf
    have d0 := h.cells.1
    have d2 := h.cells.2.2.1
    have hb0 := h.lt
    have HR : Hid (∀ W, Below w.heap.size w W → RdAt W b A n c r ∧ Keep (Db b) w W) := Lib.hid fun W hW => ⟨h.below (Nat.le_refl _) hW, Keep.of_below hW⟩
    have FIN : Hid (∀ (W : World) (x : Sl), Below w.heap.size w W → Own w.heap.size W (.slice x.a x.n x.c) v → er = 0 → Q (.returned (.slice x.a x.n x.c)) (W.setCell ⟨b, 2, none⟩ (.int .i64 (nx : Int)))) := Lib.hid fun W x hW ho he0 => by
      have h2 := (HR.out W hW).1.goto nx (hnx he0) _ rfl
      rw [hQ]
      refine ⟨x, rfl, ?_, ?_, (HR.out W hW).2.trans h2.2⟩
      · rw [if_pos ⟨h0, he0⟩]; exact ownsRow_setCell_below ho (a := ⟨b, 2, none⟩) hb0 _
      · unfold Tb.step
        rw [if_pos h0, if_pos he0]
        exact h2.1
    have FIN2 : Hid (∀ (x w' : World), Below w.heap.size w x → RdAt w' b A n c (Tb.fail er r.p r) → Keep (Db b) x w' → er ≠ 0 → Q (.returned (.slice none 0 0)) w') := Lib.hid fun x w' hx h1 h2 he0 => by
      rw [hQ]
      refine ⟨Sl.no, rfl, ?_, ?_, (HR.out x hx).2.trans h2⟩
      · rw [if_neg (fun e => he0 e.2)]; exact Own.nil _ _
      · unfold Tb.step
        unfold Tb.fail at h1
        rw [if_pos ⟨h0, by omega⟩] at h1
        rw [if_pos h0, if_neg he0]
        exact h1
    have HFail : Hid (∀ x, Below w.heap.size w x → Calls Tryd.prog 32 #[.pointer (some ⟨b, 0, none⟩), .int .i64 (er : Int), .int .i64 (r.p : Int)] x fun e w' => e = .returned (.tuple #[]) ∧ RdAt w' b A n c (Tb.fail er r.p r) ∧ Keep (Db b) x w') := Lib.hid fun x hx => Fail_any (h.below (Nat.le_refl _) hx) er r.p
    have HC : Hid (∀ x, Below w.heap.size w x → x.cell? ⟨b, 2, none⟩ = some (.int .i64 (r.p : Int)) ∧ x.frozen? ⟨b, 2, none⟩ = false) := Lib.hid fun x hx => ⟨(h.below (Nat.le_refl _) hx).cells.2.2.1, (h.below (Nat.le_refl _) hx).free 2⟩
    obtain ⟨p, hp⟩ : ∃ p, r.p = p := ⟨_, rfl⟩
    rw [hp] at d2 HF HFail HC FIN2
    clear h h0 hf hnx hp hQ
    have BW : Below w.heap.size w w := Below.refl _ _
    go_enter Tryd.func56, Tryd.ntmps56
    go_wp2_with (go_at_call 69; refine HG.out.mono ?_; rintro e w' ⟨rfl, rfl⟩)
    go_region_held3 (fun w' => w'.cell? ⟨b, 0, none⟩ = some (.slice A n c) ∧ w'.cell? ⟨b, 2, none⟩ = some (.int .i64 (p : Int)) ∧ Below w.heap.size w w')
      (first
        | exact HS8.out
        | exact S_step hb0 ⟨d0, d2, BW⟩ (Below.refl _ _).drew)
      (((try go_split_ands); (with_reducible refine (HF.out _ (by assumption)).mono ?_); rintro e w8 ⟨x8, rfl, ho, hbb⟩; have HO8 := Lib.hid ho; have HS8 : Hid (w8.cell? ⟨b, 0, none⟩ = some (.slice A n c) ∧ w8.cell? ⟨b, 2, none⟩ = some (.int .i64 (p : Int)) ∧ Below w.heap.size w w8) := Lib.hid (by first | exact S_step hb0 (by assumption) (hbb.mono (Below.size (And.right (And.right (by assumption))))) | exact S_step hb0 ⟨by assumption, by assumption, by assumption⟩ (hbb.mono (Below.size (by assumption)))); clear ho hbb))
    trace_state
    have hc := HC.out _ HS8.out.2.2
    obtain ⟨hc2, hf2⟩ := hc
    by_cases he0 : er = 0
    · have F := Lib.hid (FIN.out _ x8 HS8.out.2.2 (HO8.out.base (Below.refl w.heap.size w).drew.size) he0)
      subst he0
      go_wp2
      exact F.out
    · have hne : ((er : Int) != 0) = true := by simp; omega
      have HE := Lib.hid he0
      clear he0
      go_wp2_with (go_at_call 32; (with_reducible refine (HFail.out _ HS8.out.2.2).mono ?_); rintro e w9 ⟨rfl, hr, hk⟩; have F := Lib.hid (FIN2.out _ w9 HS8.out.2.2 hr hk HE.out); clear hr hk)
      exact F.out
  · have HG := Lib.hid (goes_any h false (by simp [h0]))
    have FIN : Hid (Q (.returned (.slice none 0 0)) w) := Lib.hid (by
      rw [hQ]
      refine ⟨Sl.no, rfl, ?_, ?_, Keep.refl _⟩
      · rw [if_neg (fun e => h0 e.1)]; exact Own.nil _ _
      · unfold Tb.step
        rw [if_neg h0]
        exact h)
    clear h h0 hf hnx hQ
    go_enter Tryd.func56, Tryd.ntmps56
    go_wp2_with (go_at_call 69; refine HG.out.mono ?_; rintro e w' ⟨rfl, rfl⟩)
    exact FIN.out
set_option maxHeartbeats 1000000 in
theorem Take_rd {w : World} {b n c : Nat} {A : Option Addr} {r : Rd} (h : RdAt w b A n c r) (hn : n < 1000000) (k : Int) : Calls Tryd.prog 20 #[.pointer (some ⟨b, 0, none⟩), .int .i64 k] w (TakeOut b A n c (Tb.take k r).1 (Tb.take k r).2 w) := by
  obtain ⟨W0, hW0⟩ : ∃ W0, W0 = w.alloc (.cells #[.int .i64 k] 3) := ⟨_, rfl⟩
  have hB0 : Below w.heap.size w W0 := by rw [hW0]; exact (Below.refl _ _).alloc (Nat.le_refl _) _
  have hz : W0.heap.size = w.heap.size + 1 := by rw [hW0]; simp
  have hc0 : W0.cell? ⟨w.heap.size, 0, none⟩ = some (.int .i64 k) := by rw [hW0]; go_simp
  have h0 := h.below (Nat.le_refl _) hB0
  have H := Lib.hid (item_bytes h0 57 #[.pointer (some ⟨w.heap.size, 0, none⟩)] (enters_of Tryd.func57 (by kernel_rfl) rfl) (Tb.takeAt k r.bs r.p) (fun e => by have := Tb.takeAt_le k r.bs r.p (by rw [h.len]; exact h.2.2) e; rw [h.len] at this; exact this)
    (fun W hW => take1_any (h0.bytes hW) (Nat.le_refl _) hn h.2.2 ((hW.cell (p := ⟨w.heap.size, 0, none⟩) (by dsimp only; omega)).trans hc0)))
  have e1 : (Tb.take k r).1 = (if r.e = 0 ∧ (Tb.takeAt k r.bs r.p).2.2 = 0 then (Tb.takeAt k r.bs r.p).1 else []) := by unfold Tb.take; rw [Tb.item_eq]
  have e2 : (Tb.take k r).2 = Tb.step (Tb.takeAt k r.bs r.p).2.1 (Tb.takeAt k r.bs r.p).2.2 r := by unfold Tb.take; rw [Tb.item_eq]
  rw [← e1, ← e2] at H
  have HW0 := Lib.hid hW0
  have HB := Lib.hid hB0
  clear h h0 hW0 hc0 hz hB0 e1 e2
  go_enter Tryd.func20, Tryd.ntmps20
  go_wp2_with fail
  rw [← HW0.out]
  go_wp2_with (refine H.out.mono ?_; rintro e w' ⟨x, rfl, h3, h1, h2⟩)
  go_ret
  exact ⟨x, rfl, h3.base HB.out.size, h1, (Keep.of_below HB.out).trans h2⟩
end Go.Proofs.YtphmknhlibampaaDoor

/-
  Layer 6, code: Left, At, Err, Fail, may.
-/
import Derived.Test.YtphmknhlibampaaDoorTbA
import Derived.IntWalk
namespace Go.Proofs.YtphmknhlibampaaDoor
open Go.RowKit
set_option linter.unusedVariables false
set_option linter.unusedSimpArgs false
set_option maxRecDepth 100000

/-- Block b alone. -/
abbrev Db (b : Nat) : Nat → Nat → Prop := fun k _ => k = b
section
variable {w w' : World} {b n c : Nat} {A : Option Addr} {r r' : Rd}
theorem RdAt.noByte (h : RdAt w b A n c r) (o : Nat) (v : Int) : w.cell? ⟨b, o, none⟩ ≠ some (.int .u8 v) := by
  intro e
  unfold World.cell? at e
  rw [h.1] at e
  rcases o with _ | _ | _ | _ | _ | o <;> simp at e
theorem Bytes.kept {C : Nat} {l : List Nat} (h : Bytes w C A n c l) (hC : C ≤ w'.heap.size) (hn : ∀ o v, w.cell? ⟨b, o, none⟩ ≠ some (.int .u8 v)) (hk : Keep (Db b) w w') : Bytes w' w'.heap.size A n c l := by
  obtain ⟨h1, h2, h3, h4, h5⟩ := h
  refine ⟨h1, h2, h3, h4, fun h0 => ?_⟩
  obtain ⟨b', off, e, hb', hc⟩ := h5 h0
  exact ⟨b', off, e, by omega, fun j hj => hk.cells b' _ _ (fun e => hn _ _ (by rw [← e]; exact hc j hj)) (hc j hj)⟩
theorem RdAt.put (h : RdAt w b A n c r) (hk : Keep (Db b) w w') (hr : w'.heap[b]? = some (.cells (rdCells A n c r') 61 (0, 0))) (hb : r'.bs = r.bs) (hp : r'.p ≤ n) : RdAt w' b A n c r' :=
  ⟨hr, by rw [hb]; exact h.2.1.kept hk.size h.noByte hk, hp⟩
theorem RdAt.goto (h : RdAt w b A n c r) (p : Nat) (hp : p ≤ n) (q : Int) (hq : q = (p : Int)) :
    RdAt (w.setCell ⟨b, 2, none⟩ (.int .i64 q)) b A n c { r with p := p } ∧ Keep (Db b) w (w.setCell ⟨b, 2, none⟩ (.int .i64 q)) := by
  subst hq
  have hk : Keep (Db b) w (w.setCell ⟨b, 2, none⟩ (.int .i64 (p : Int))) := Keep.setCell _ rfl
  exact ⟨h.put hk (by have := heap_setCell_same w b 2 _ _ (.int .i64 (p : Int)) h.1; simpa using this) rfl hp, hk⟩
theorem RdAt.fails (h : RdAt w b A n c r) (e bad : Int) :
    RdAt ((w.setCell ⟨b, 3, none⟩ (.int .i64 e)).setCell ⟨b, 4, none⟩ (.int .i64 bad)) b A n c { r with e := e, bad := bad } ∧ Keep (Db b) w ((w.setCell ⟨b, 3, none⟩ (.int .i64 e)).setCell ⟨b, 4, none⟩ (.int .i64 bad)) := by
  have hk : Keep (Db b) w ((w.setCell ⟨b, 3, none⟩ (.int .i64 e)).setCell ⟨b, 4, none⟩ (.int .i64 bad)) := (Keep.setCell (D := Db b) _ rfl).trans (Keep.setCell (D := Db b) _ rfl)
  refine ⟨h.put hk ?_ rfl h.2.2, hk⟩
  have h1 := heap_setCell_same w b 3 _ _ (.int .i64 e) h.1
  have h2 := heap_setCell_same _ b 4 _ _ (.int .i64 bad) h1
  simpa using h2
theorem RdAt.drewK (h : RdAt w b A n c r) (k : Nat) : RdAt (w.drewN k) b A n c r ∧ Keep (Db b) w (w.drewN k) := ⟨h, Keep.of_below (below_drewN (Below.refl _ _) k)⟩
end
theorem goes_q {w : World} {k b n c : Nat} {A : Option Addr} {r : Rd} (h : RdAt w b A n c r) (g : Bool) (hg : decide (r.e = 0) = g) :
    Calls Tryd.prog 69 #[.pointer (some ⟨b, 0, none⟩)] (w.drewN k) fun e w' => e = .returned (.bool g) ∧ ∃ m, w' = w.drewN m :=
  (goes_any (h.drewN k) g hg).mono fun _ _ ⟨he, hw⟩ => ⟨he, k, hw.symm⟩

set_option maxHeartbeats 1000000 in
theorem Left_any {w : World} {b n c : Nat} {A : Option Addr} {r : Rd} (h : RdAt w b A n c r) :
    Calls Tryd.prog 36 #[.pointer (some ⟨b, 0, none⟩)] w fun e w' => e = .returned (.int .i64 ((n - r.p : Nat) : Int)) ∧ ∃ m, w' = w.drewN m := by
  obtain ⟨c0, c1, c2, c3, c4⟩ := h.cells
  have H := Lib.hid (is_any h)
  have hp := h.2.2
  have hn : n ≤ 9223372036854775807 := by have h1 := h.2.1.2.1; have h2 := h.2.1.2.2.1; unfold maxLen at h2; omega
  obtain ⟨p, hq⟩ : ∃ p, r.p = p := ⟨_, rfl⟩
  rw [hq] at c2 hp ⊢
  have hs : IntKind.i64.wrap ((n : Int) - (p : Int)) = (n : Int) - (p : Int) := IntWalk.i64_in _ (by omega)
  have HS := Lib.hid hs
  clear c1 c3 c4 h hq hs
  go_enter Tryd.func36, Tryd.ntmps36
  go_wp2_with (refine H.out.mono ?_; rintro e w' ⟨rfl, rfl⟩)
  go_quiet (fail)
  go_wp2
  go_ret
  exact ⟨ret_int (by first | omega | (rw [HS.out]; omega)), _, rfl⟩
set_option maxHeartbeats 1000000 in
theorem At_any {w : World} {b n c : Nat} {A : Option Addr} {r : Rd} (h : RdAt w b A n c r) :
    Calls Tryd.prog 35 #[.pointer (some ⟨b, 0, none⟩)] w fun e w' => e = .returned (.int .i64 (r.p : Int)) ∧ w = w' := by
  obtain ⟨c0, c1, c2, c3, c4⟩ := h.cells
  have H := Lib.hid (is_any h)
  obtain ⟨p, hq⟩ : ∃ p, r.p = p := ⟨_, rfl⟩
  rw [hq] at c2 ⊢
  clear c0 c1 c3 c4 h hq
  go_enter Tryd.func35, Tryd.ntmps35
  go_wp2_with (refine H.out.mono ?_; rintro e w' ⟨rfl, rfl⟩)
  go_ret
  exact ⟨rfl, rfl⟩
set_option maxHeartbeats 1000000 in
theorem Err_any {w : World} {b n c : Nat} {A : Option Addr} {r : Rd} (h : RdAt w b A n c r) :
    Calls Tryd.prog 34 #[.pointer (some ⟨b, 0, none⟩)] w fun e w' => e = .returned (.tuple #[.int .i64 r.e, .int .i64 r.bad]) ∧ ∃ m, w' = w.drewN m := by
  obtain ⟨c0, c1, c2, c3, c4⟩ := h.cells
  have H := Lib.hid (is_any h)
  obtain ⟨e0, he⟩ : ∃ p, r.e = p := ⟨_, rfl⟩
  obtain ⟨b0, hb⟩ : ∃ p, r.bad = p := ⟨_, rfl⟩
  rw [he] at c3 ⊢
  rw [hb] at c4 ⊢
  clear c0 c1 c2 h he hb
  go_enter Tryd.func34, Tryd.ntmps34
  go_wp2_with (refine H.out.mono ?_; rintro e w' ⟨rfl, rfl⟩)
  go_quiet (fail)
  go_wp2
  go_ret2
  exact ⟨rfl, _, rfl⟩
set_option maxHeartbeats 1000000 in
theorem Fail_any {w : World} {b n c : Nat} {A : Option Addr} {r : Rd} (h : RdAt w b A n c r) (e at_ : Int) :
    Calls Tryd.prog 32 #[.pointer (some ⟨b, 0, none⟩), .int .i64 e, .int .i64 at_] w fun x w' => x = .returned (.tuple #[]) ∧ RdAt w' b A n c (Tb.fail e at_ r) ∧ Keep (Db b) w w' := by
  obtain ⟨c0, c1, c2, c3, c4⟩ := h.cells
  have f3 := h.free 3
  have f4 := h.free 4
  have HH := Lib.hid h
  by_cases h0 : r.e = 0
  · have H := Lib.hid (goes_any h true (by simp [h0]))
    rw [h0] at c3
    by_cases he : e = 0
    · have HE : Hid (Tb.fail e at_ r = r) := Lib.hid (by unfold Tb.fail; rw [if_neg (by simp [he])])
      subst he
      clear c0 c1 c2 c4 h h0
      go_enter Tryd.func32, Tryd.ntmps32
      go_wp2_with (refine H.out.mono ?_; rintro e w' ⟨rfl, rfl⟩)
      refine bodyPost_end (v := .tuple #[]) (by simp [results, Tryd.results32, go_sem]) rfl ?_
      rw [HE.out]
      exact ⟨rfl, HH.out, Keep.refl _⟩
    · have HE : Hid (Tb.fail e at_ r = { r with e := e, bad := at_ }) := Lib.hid (by unfold Tb.fail; rw [if_pos ⟨h0, he⟩])
      have hne : (e != 0) = true := by simp [he]
      clear c0 c1 c2 h h0 he
      go_enter Tryd.func32, Tryd.ntmps32
      go_wp2_with (refine H.out.mono ?_; rintro e w' ⟨rfl, rfl⟩)
      refine bodyPost_end (v := .tuple #[]) (by simp [results, Tryd.results32, go_sem]) rfl ?_
      rw [HE.out]
      exact ⟨rfl, HH.out.fails e at_⟩
  · have H := Lib.hid (goes_any h false (by simp [h0]))
    have HE : Hid (Tb.fail e at_ r = r) := Lib.hid (by unfold Tb.fail; rw [if_neg (by simp [h0])])
    clear c0 c1 c2 c3 c4 f3 f4 h h0
    go_enter Tryd.func32, Tryd.ntmps32
    go_wp2_with (refine H.out.mono ?_; rintro e w' ⟨rfl, rfl⟩)
    refine bodyPost_end (v := .tuple #[]) (by simp [results, Tryd.results32, go_sem]) rfl ?_
    rw [HE.out]
    exact ⟨rfl, HH.out, Keep.refl _⟩
end Go.Proofs.YtphmknhlibampaaDoor

/-
  Layer 6, code: item, at scalar types.
-/
import Derived.Test.YtphmknhlibampaaDoorTbC
import Derived.Test.YtphmknhlibampaaDoorKdQ
namespace Go.Proofs.YtphmknhlibampaaDoor
open Go.RowKit
set_option linter.unusedVariables false
set_option linter.unusedSimpArgs false
set_option maxRecDepth 100000

/-- What reading an item does to a reader. -/
def Tb.step (nx er : Nat) (r : Rd) : Rd := if r.e = 0 then (if er = 0 then { r with p := nx } else { r with e := er, bad := r.p }) else r
theorem Tb.item_eq {α : Type} (d : α) (f : List Nat → Nat → α × Nat × Nat) (r : Rd) : Tb.item d f r = (if r.e = 0 ∧ (f r.bs r.p).2.2 = 0 then (f r.bs r.p).1 else d, Tb.step (f r.bs r.p).2.1 (f r.bs r.p).2.2 r) := by
  unfold Tb.item Tb.step
  by_cases h0 : r.e = 0 <;> by_cases h1 : (f r.bs r.p).2.2 = 0 <;> simp [h0, h1]
set_option maxHeartbeats 4000000 in
theorem item_byte {w : World} {b n c : Nat} {A : Option Addr} {r : Rd} (h : RdAt w b A n c r) (fid : Nat) (lb : Array Value) (he : ∀ args w, (callFunc fid args).run Tryd.prog w = .ok (.enter fid args) w) (v : Value) (nx er : Nat) (hnx : er = 0 → nx ≤ n)
    (hf : ∀ W, Below w.heap.size w W → Calls Tryd.prog fid (#[.slice A n c, .int .i64 (r.p : Int)] ++ lb) W fun e W' => e = .returned (.tuple #[v, .int .i64 (nx : Int), .int .i64 (er : Int)]) ∧ Below W.heap.size W W') :
    Calls Tryd.prog 41 #[.pointer (some ⟨b, 0, none⟩), .func (.func fid) #[] lb] w fun e w' => e = .returned (if r.e = 0 ∧ er = 0 then v else .int .u8 0) ∧ RdAt w' b A n c (Tb.step nx er r) ∧ Keep (Db b) w w' := by
  have HH := Lib.hid h
  obtain ⟨Q, hQ⟩ : ∃ Q : Ending → World → Prop, Q = (fun e w' => e = .returned (if r.e = 0 ∧ er = 0 then v else .int .u8 0) ∧ RdAt w' b A n c (Tb.step nx er r) ∧ Keep (Db b) w w') := ⟨_, rfl⟩
  rw [← hQ]
  by_cases h0 : r.e = 0
  · have HG := Lib.hid (goes_any h true (by simp [h0]))
    have HF : Hid (∀ W, Below w.heap.size w W → Calls Tryd.prog fid (#[.slice A n c, .int .i64 (r.p : Int)] ++ lb) W fun e W' => e = .returned (.tuple #[v, .int .i64 (nx : Int), .int .i64 (er : Int)]) ∧ Below W.heap.size W W') := Lib.hid hf
    have c0 := fun x : Aft w => x.cell h.lt h.cells.1
    have c2 := fun x : Aft w => x.cell h.lt h.cells.2.2.1
    have HR : Hid (∀ x : Aft w, RdAt x.W b A n c r ∧ Keep (Db b) w x.W) := Lib.hid fun x => ⟨h.below (Nat.le_refl _) x.h, Keep.of_below x.h⟩
    have hbw : Below w.heap.size w w := Below.refl _ _
    have inst := Aft.ne w
    by_cases he0 : er = 0
    · subst he0
      have FIN : Hid (∀ x : Aft w, Q (.returned v) (x.W.setCell ⟨b, 2, none⟩ (.int .i64 (nx : Int)))) := Lib.hid fun x => by
        have h2 := (HR.out x).1.goto nx (hnx rfl) _ rfl
        rw [hQ]
        refine ⟨by rw [if_pos ⟨h0, rfl⟩], ?_, (HR.out x).2.trans h2.2⟩
        unfold Tb.step
        rw [if_pos h0, if_pos rfl]
        exact h2.1
      obtain ⟨p, hp⟩ : ∃ p, r.p = p := ⟨_, rfl⟩
      rw [hp] at c2 HF
      clear h h0 hf hnx hp hQ
      go_enter Tryd.func41, Tryd.ntmps41
      go_wp2_with (go_at_call 69; refine HG.out.mono ?_; rintro e w' ⟨rfl, rfl⟩)
      refine region_aft w hbw (by kernel_rfl) (by kernel_rfl) ?_
      repeat (go_big_quiet_step ((with_reducible exact Aft.call HF.out _)))
      refine wpQuiet_nil ?_
      intro _ hw'
      obtain ⟨x, rfl⟩ := hw'
      have d2 := c2 x
      have f2 := (HR.out x).1.free 2
      clear c0 c2
      go_wp2
      exact FIN.out x
    · have FIN : Hid (∀ (x : Aft w) w', RdAt w' b A n c (Tb.fail er r.p r) → Keep (Db b) x.W w' → Q (.returned (.int .u8 0)) w') := Lib.hid fun x w' h1 h2 => by
        rw [hQ]
        refine ⟨by rw [if_neg (fun e => he0 e.2)], ?_, (HR.out x).2.trans h2⟩
        unfold Tb.step
        unfold Tb.fail at h1
        rw [if_pos ⟨h0, by omega⟩] at h1
        rw [if_pos h0, if_neg he0]
        exact h1
      have hne : ((er : Int) != 0) = true := by simp; omega
      have HFail : Hid (∀ x : Aft w, Calls Tryd.prog 32 #[.pointer (some ⟨b, 0, none⟩), .int .i64 (er : Int), .int .i64 (r.p : Int)] x.W fun e w' => e = .returned (.tuple #[]) ∧ RdAt w' b A n c (Tb.fail er r.p r) ∧ Keep (Db b) x.W w') := Lib.hid fun x => Fail_any (HR.out x).1 er r.p
      obtain ⟨p, hp⟩ : ∃ p, r.p = p := ⟨_, rfl⟩
      rw [hp] at c2 HF HFail FIN
      clear h h0 hf hnx hp he0 hQ
      go_enter Tryd.func41, Tryd.ntmps41
      go_wp2_with (go_at_call 69; refine HG.out.mono ?_; rintro e w' ⟨rfl, rfl⟩)
      refine region_aft w hbw (by kernel_rfl) (by kernel_rfl) ?_
      repeat (go_big_quiet_step ((with_reducible exact Aft.call HF.out _)))
      refine wpQuiet_nil ?_
      intro _ hw'
      obtain ⟨x, rfl⟩ := hw'
      have d2 := c2 x
      clear c0 c2
      go_wp2_with (go_at_call 32; (with_reducible refine (HFail.out x).mono ?_); rintro e w' ⟨rfl, hr, hk⟩; have R1 := Lib.hid hr; have K1 := Lib.hid hk; clear hr hk)
      exact FIN.out x _ R1.out K1.out
  · have HG := Lib.hid (goes_any h false (by simp [h0]))
    have FIN : Hid (Q (.returned (.int .u8 0)) w) := Lib.hid (by
      rw [hQ]
      refine ⟨by rw [if_neg (fun e => h0 e.1)], ?_, Keep.refl _⟩
      unfold Tb.step
      rw [if_neg h0]
      exact h)
    clear h h0 hf hnx hQ
    go_enter Tryd.func41, Tryd.ntmps41
    go_wp2_with (go_at_call 69; refine HG.out.mono ?_; rintro e w' ⟨rfl, rfl⟩)
    exact FIN.out
set_option maxHeartbeats 4000000 in
theorem item_uint64 {w : World} {b n c : Nat} {A : Option Addr} {r : Rd} (h : RdAt w b A n c r) (fid : Nat) (lb : Array Value) (he : ∀ args w, (callFunc fid args).run Tryd.prog w = .ok (.enter fid args) w) (v : Value) (nx er : Nat) (hnx : er = 0 → nx ≤ n)
    (hf : ∀ W, Below w.heap.size w W → Calls Tryd.prog fid (#[.slice A n c, .int .i64 (r.p : Int)] ++ lb) W fun e W' => e = .returned (.tuple #[v, .int .i64 (nx : Int), .int .i64 (er : Int)]) ∧ Below W.heap.size W W') :
    Calls Tryd.prog 43 #[.pointer (some ⟨b, 0, none⟩), .func (.func fid) #[] lb] w fun e w' => e = .returned (if r.e = 0 ∧ er = 0 then v else .int .u64 0) ∧ RdAt w' b A n c (Tb.step nx er r) ∧ Keep (Db b) w w' := by
  have HH := Lib.hid h
  obtain ⟨Q, hQ⟩ : ∃ Q : Ending → World → Prop, Q = (fun e w' => e = .returned (if r.e = 0 ∧ er = 0 then v else .int .u64 0) ∧ RdAt w' b A n c (Tb.step nx er r) ∧ Keep (Db b) w w') := ⟨_, rfl⟩
  rw [← hQ]
  by_cases h0 : r.e = 0
  · have HG := Lib.hid (goes_any h true (by simp [h0]))
    have HF : Hid (∀ W, Below w.heap.size w W → Calls Tryd.prog fid (#[.slice A n c, .int .i64 (r.p : Int)] ++ lb) W fun e W' => e = .returned (.tuple #[v, .int .i64 (nx : Int), .int .i64 (er : Int)]) ∧ Below W.heap.size W W') := Lib.hid hf
    have c0 := fun x : Aft w => x.cell h.lt h.cells.1
    have c2 := fun x : Aft w => x.cell h.lt h.cells.2.2.1
    have HR : Hid (∀ x : Aft w, RdAt x.W b A n c r ∧ Keep (Db b) w x.W) := Lib.hid fun x => ⟨h.below (Nat.le_refl _) x.h, Keep.of_below x.h⟩
    have hbw : Below w.heap.size w w := Below.refl _ _
    have inst := Aft.ne w
    by_cases he0 : er = 0
    · subst he0
      have FIN : Hid (∀ x : Aft w, Q (.returned v) (x.W.setCell ⟨b, 2, none⟩ (.int .i64 (nx : Int)))) := Lib.hid fun x => by
        have h2 := (HR.out x).1.goto nx (hnx rfl) _ rfl
        rw [hQ]
        refine ⟨by rw [if_pos ⟨h0, rfl⟩], ?_, (HR.out x).2.trans h2.2⟩
        unfold Tb.step
        rw [if_pos h0, if_pos rfl]
        exact h2.1
      obtain ⟨p, hp⟩ : ∃ p, r.p = p := ⟨_, rfl⟩
      rw [hp] at c2 HF
      clear h h0 hf hnx hp hQ
      go_enter Tryd.func43, Tryd.ntmps43
      go_wp2_with (go_at_call 69; refine HG.out.mono ?_; rintro e w' ⟨rfl, rfl⟩)
      refine region_aft w hbw (by kernel_rfl) (by kernel_rfl) ?_
      repeat (go_big_quiet_step ((with_reducible exact Aft.call HF.out _)))
      refine wpQuiet_nil ?_
      intro _ hw'
      obtain ⟨x, rfl⟩ := hw'
      have d2 := c2 x
      have f2 := (HR.out x).1.free 2
      clear c0 c2
      go_wp2
      exact FIN.out x
    · have FIN : Hid (∀ (x : Aft w) w', RdAt w' b A n c (Tb.fail er r.p r) → Keep (Db b) x.W w' → Q (.returned (.int .u64 0)) w') := Lib.hid fun x w' h1 h2 => by
        rw [hQ]
        refine ⟨by rw [if_neg (fun e => he0 e.2)], ?_, (HR.out x).2.trans h2⟩
        unfold Tb.step
        unfold Tb.fail at h1
        rw [if_pos ⟨h0, by omega⟩] at h1
        rw [if_pos h0, if_neg he0]
        exact h1
      have hne : ((er : Int) != 0) = true := by simp; omega
      have HFail : Hid (∀ x : Aft w, Calls Tryd.prog 32 #[.pointer (some ⟨b, 0, none⟩), .int .i64 (er : Int), .int .i64 (r.p : Int)] x.W fun e w' => e = .returned (.tuple #[]) ∧ RdAt w' b A n c (Tb.fail er r.p r) ∧ Keep (Db b) x.W w') := Lib.hid fun x => Fail_any (HR.out x).1 er r.p
      obtain ⟨p, hp⟩ : ∃ p, r.p = p := ⟨_, rfl⟩
      rw [hp] at c2 HF HFail FIN
      clear h h0 hf hnx hp he0 hQ
      go_enter Tryd.func43, Tryd.ntmps43
      go_wp2_with (go_at_call 69; refine HG.out.mono ?_; rintro e w' ⟨rfl, rfl⟩)
      refine region_aft w hbw (by kernel_rfl) (by kernel_rfl) ?_
      repeat (go_big_quiet_step ((with_reducible exact Aft.call HF.out _)))
      refine wpQuiet_nil ?_
      intro _ hw'
      obtain ⟨x, rfl⟩ := hw'
      have d2 := c2 x
      clear c0 c2
      go_wp2_with (go_at_call 32; (with_reducible refine (HFail.out x).mono ?_); rintro e w' ⟨rfl, hr, hk⟩; have R1 := Lib.hid hr; have K1 := Lib.hid hk; clear hr hk)
      exact FIN.out x _ R1.out K1.out
  · have HG := Lib.hid (goes_any h false (by simp [h0]))
    have FIN : Hid (Q (.returned (.int .u64 0)) w) := Lib.hid (by
      rw [hQ]
      refine ⟨by rw [if_neg (fun e => h0 e.1)], ?_, Keep.refl _⟩
      unfold Tb.step
      rw [if_neg h0]
      exact h)
    clear h h0 hf hnx hQ
    go_enter Tryd.func43, Tryd.ntmps43
    go_wp2_with (go_at_call 69; refine HG.out.mono ?_; rintro e w' ⟨rfl, rfl⟩)
    exact FIN.out
set_option maxHeartbeats 4000000 in
theorem item_int64 {w : World} {b n c : Nat} {A : Option Addr} {r : Rd} (h : RdAt w b A n c r) (fid : Nat) (lb : Array Value) (he : ∀ args w, (callFunc fid args).run Tryd.prog w = .ok (.enter fid args) w) (v : Value) (nx er : Nat) (hnx : er = 0 → nx ≤ n)
    (hf : ∀ W, Below w.heap.size w W → Calls Tryd.prog fid (#[.slice A n c, .int .i64 (r.p : Int)] ++ lb) W fun e W' => e = .returned (.tuple #[v, .int .i64 (nx : Int), .int .i64 (er : Int)]) ∧ Below W.heap.size W W') :
    Calls Tryd.prog 47 #[.pointer (some ⟨b, 0, none⟩), .func (.func fid) #[] lb] w fun e w' => e = .returned (if r.e = 0 ∧ er = 0 then v else .int .i64 0) ∧ RdAt w' b A n c (Tb.step nx er r) ∧ Keep (Db b) w w' := by
  have HH := Lib.hid h
  obtain ⟨Q, hQ⟩ : ∃ Q : Ending → World → Prop, Q = (fun e w' => e = .returned (if r.e = 0 ∧ er = 0 then v else .int .i64 0) ∧ RdAt w' b A n c (Tb.step nx er r) ∧ Keep (Db b) w w') := ⟨_, rfl⟩
  rw [← hQ]
  by_cases h0 : r.e = 0
  · have HG := Lib.hid (goes_any h true (by simp [h0]))
    have HF : Hid (∀ W, Below w.heap.size w W → Calls Tryd.prog fid (#[.slice A n c, .int .i64 (r.p : Int)] ++ lb) W fun e W' => e = .returned (.tuple #[v, .int .i64 (nx : Int), .int .i64 (er : Int)]) ∧ Below W.heap.size W W') := Lib.hid hf
    have c0 := fun x : Aft w => x.cell h.lt h.cells.1
    have c2 := fun x : Aft w => x.cell h.lt h.cells.2.2.1
    have HR : Hid (∀ x : Aft w, RdAt x.W b A n c r ∧ Keep (Db b) w x.W) := Lib.hid fun x => ⟨h.below (Nat.le_refl _) x.h, Keep.of_below x.h⟩
    have hbw : Below w.heap.size w w := Below.refl _ _
    have inst := Aft.ne w
    by_cases he0 : er = 0
    · subst he0
      have FIN : Hid (∀ x : Aft w, Q (.returned v) (x.W.setCell ⟨b, 2, none⟩ (.int .i64 (nx : Int)))) := Lib.hid fun x => by
        have h2 := (HR.out x).1.goto nx (hnx rfl) _ rfl
        rw [hQ]
        refine ⟨by rw [if_pos ⟨h0, rfl⟩], ?_, (HR.out x).2.trans h2.2⟩
        unfold Tb.step
        rw [if_pos h0, if_pos rfl]
        exact h2.1
      obtain ⟨p, hp⟩ : ∃ p, r.p = p := ⟨_, rfl⟩
      rw [hp] at c2 HF
      clear h h0 hf hnx hp hQ
      go_enter Tryd.func47, Tryd.ntmps47
      go_wp2_with (go_at_call 69; refine HG.out.mono ?_; rintro e w' ⟨rfl, rfl⟩)
      refine region_aft w hbw (by kernel_rfl) (by kernel_rfl) ?_
      repeat (go_big_quiet_step ((with_reducible exact Aft.call HF.out _)))
      refine wpQuiet_nil ?_
      intro _ hw'
      obtain ⟨x, rfl⟩ := hw'
      have d2 := c2 x
      have f2 := (HR.out x).1.free 2
      clear c0 c2
      go_wp2
      exact FIN.out x
    · have FIN : Hid (∀ (x : Aft w) w', RdAt w' b A n c (Tb.fail er r.p r) → Keep (Db b) x.W w' → Q (.returned (.int .i64 0)) w') := Lib.hid fun x w' h1 h2 => by
        rw [hQ]
        refine ⟨by rw [if_neg (fun e => he0 e.2)], ?_, (HR.out x).2.trans h2⟩
        unfold Tb.step
        unfold Tb.fail at h1
        rw [if_pos ⟨h0, by omega⟩] at h1
        rw [if_pos h0, if_neg he0]
        exact h1
      have hne : ((er : Int) != 0) = true := by simp; omega
      have HFail : Hid (∀ x : Aft w, Calls Tryd.prog 32 #[.pointer (some ⟨b, 0, none⟩), .int .i64 (er : Int), .int .i64 (r.p : Int)] x.W fun e w' => e = .returned (.tuple #[]) ∧ RdAt w' b A n c (Tb.fail er r.p r) ∧ Keep (Db b) x.W w') := Lib.hid fun x => Fail_any (HR.out x).1 er r.p
      obtain ⟨p, hp⟩ : ∃ p, r.p = p := ⟨_, rfl⟩
      rw [hp] at c2 HF HFail FIN
      clear h h0 hf hnx hp he0 hQ
      go_enter Tryd.func47, Tryd.ntmps47
      go_wp2_with (go_at_call 69; refine HG.out.mono ?_; rintro e w' ⟨rfl, rfl⟩)
      refine region_aft w hbw (by kernel_rfl) (by kernel_rfl) ?_
      repeat (go_big_quiet_step ((with_reducible exact Aft.call HF.out _)))
      refine wpQuiet_nil ?_
      intro _ hw'
      obtain ⟨x, rfl⟩ := hw'
      have d2 := c2 x
      clear c0 c2
      go_wp2_with (go_at_call 32; (with_reducible refine (HFail.out x).mono ?_); rintro e w' ⟨rfl, hr, hk⟩; have R1 := Lib.hid hr; have K1 := Lib.hid hk; clear hr hk)
      exact FIN.out x _ R1.out K1.out
  · have HG := Lib.hid (goes_any h false (by simp [h0]))
    have FIN : Hid (Q (.returned (.int .i64 0)) w) := Lib.hid (by
      rw [hQ]
      refine ⟨by rw [if_neg (fun e => h0 e.1)], ?_, Keep.refl _⟩
      unfold Tb.step
      rw [if_neg h0]
      exact h)
    clear h h0 hf hnx hQ
    go_enter Tryd.func47, Tryd.ntmps47
    go_wp2_with (go_at_call 69; refine HG.out.mono ?_; rintro e w' ⟨rfl, rfl⟩)
    exact FIN.out
set_option maxHeartbeats 4000000 in
theorem item_string {w : World} {b n c : Nat} {A : Option Addr} {r : Rd} (h : RdAt w b A n c r) (fid : Nat) (lb : Array Value) (he : ∀ args w, (callFunc fid args).run Tryd.prog w = .ok (.enter fid args) w) (v : Value) (nx er : Nat) (hnx : er = 0 → nx ≤ n)
    (hf : ∀ W, Below w.heap.size w W → Calls Tryd.prog fid (#[.slice A n c, .int .i64 (r.p : Int)] ++ lb) W fun e W' => e = .returned (.tuple #[v, .int .i64 (nx : Int), .int .i64 (er : Int)]) ∧ Below W.heap.size W W') :
    Calls Tryd.prog 51 #[.pointer (some ⟨b, 0, none⟩), .func (.func fid) #[] lb] w fun e w' => e = .returned (if r.e = 0 ∧ er = 0 then v else .string ⟨#[]⟩) ∧ RdAt w' b A n c (Tb.step nx er r) ∧ Keep (Db b) w w' := by
  have HH := Lib.hid h
  obtain ⟨Q, hQ⟩ : ∃ Q : Ending → World → Prop, Q = (fun e w' => e = .returned (if r.e = 0 ∧ er = 0 then v else .string ⟨#[]⟩) ∧ RdAt w' b A n c (Tb.step nx er r) ∧ Keep (Db b) w w') := ⟨_, rfl⟩
  rw [← hQ]
  by_cases h0 : r.e = 0
  · have HG := Lib.hid (goes_any h true (by simp [h0]))
    have HF : Hid (∀ W, Below w.heap.size w W → Calls Tryd.prog fid (#[.slice A n c, .int .i64 (r.p : Int)] ++ lb) W fun e W' => e = .returned (.tuple #[v, .int .i64 (nx : Int), .int .i64 (er : Int)]) ∧ Below W.heap.size W W') := Lib.hid hf
    have c0 := fun x : Aft w => x.cell h.lt h.cells.1
    have c2 := fun x : Aft w => x.cell h.lt h.cells.2.2.1
    have HR : Hid (∀ x : Aft w, RdAt x.W b A n c r ∧ Keep (Db b) w x.W) := Lib.hid fun x => ⟨h.below (Nat.le_refl _) x.h, Keep.of_below x.h⟩
    have hbw : Below w.heap.size w w := Below.refl _ _
    have inst := Aft.ne w
    by_cases he0 : er = 0
    · subst he0
      have FIN : Hid (∀ x : Aft w, Q (.returned v) (x.W.setCell ⟨b, 2, none⟩ (.int .i64 (nx : Int)))) := Lib.hid fun x => by
        have h2 := (HR.out x).1.goto nx (hnx rfl) _ rfl
        rw [hQ]
        refine ⟨by rw [if_pos ⟨h0, rfl⟩], ?_, (HR.out x).2.trans h2.2⟩
        unfold Tb.step
        rw [if_pos h0, if_pos rfl]
        exact h2.1
      obtain ⟨p, hp⟩ : ∃ p, r.p = p := ⟨_, rfl⟩
      rw [hp] at c2 HF
      clear h h0 hf hnx hp hQ
      go_enter Tryd.func51, Tryd.ntmps51
      go_wp2_with (go_at_call 69; refine HG.out.mono ?_; rintro e w' ⟨rfl, rfl⟩)
      refine region_aft w hbw (by kernel_rfl) (by kernel_rfl) ?_
      repeat (go_big_quiet_step ((with_reducible exact Aft.call HF.out _)))
      refine wpQuiet_nil ?_
      intro _ hw'
      obtain ⟨x, rfl⟩ := hw'
      have d2 := c2 x
      have f2 := (HR.out x).1.free 2
      clear c0 c2
      go_wp2
      exact FIN.out x
    · have FIN : Hid (∀ (x : Aft w) w', RdAt w' b A n c (Tb.fail er r.p r) → Keep (Db b) x.W w' → Q (.returned (.string ⟨#[]⟩)) w') := Lib.hid fun x w' h1 h2 => by
        rw [hQ]
        refine ⟨by rw [if_neg (fun e => he0 e.2)], ?_, (HR.out x).2.trans h2⟩
        unfold Tb.step
        unfold Tb.fail at h1
        rw [if_pos ⟨h0, by omega⟩] at h1
        rw [if_pos h0, if_neg he0]
        exact h1
      have hne : ((er : Int) != 0) = true := by simp; omega
      have HFail : Hid (∀ x : Aft w, Calls Tryd.prog 32 #[.pointer (some ⟨b, 0, none⟩), .int .i64 (er : Int), .int .i64 (r.p : Int)] x.W fun e w' => e = .returned (.tuple #[]) ∧ RdAt w' b A n c (Tb.fail er r.p r) ∧ Keep (Db b) x.W w') := Lib.hid fun x => Fail_any (HR.out x).1 er r.p
      obtain ⟨p, hp⟩ : ∃ p, r.p = p := ⟨_, rfl⟩
      rw [hp] at c2 HF HFail FIN
      clear h h0 hf hnx hp he0 hQ
      go_enter Tryd.func51, Tryd.ntmps51
      go_wp2_with (go_at_call 69; refine HG.out.mono ?_; rintro e w' ⟨rfl, rfl⟩)
      refine region_aft w hbw (by kernel_rfl) (by kernel_rfl) ?_
      repeat (go_big_quiet_step ((with_reducible exact Aft.call HF.out _)))
      refine wpQuiet_nil ?_
      intro _ hw'
      obtain ⟨x, rfl⟩ := hw'
      have d2 := c2 x
      clear c0 c2
      go_wp2_with (go_at_call 32; (with_reducible refine (HFail.out x).mono ?_); rintro e w' ⟨rfl, hr, hk⟩; have R1 := Lib.hid hr; have K1 := Lib.hid hk; clear hr hk)
      exact FIN.out x _ R1.out K1.out
  · have HG := Lib.hid (goes_any h false (by simp [h0]))
    have FIN : Hid (Q (.returned (.string ⟨#[]⟩)) w) := Lib.hid (by
      rw [hQ]
      refine ⟨by rw [if_neg (fun e => h0 e.1)], ?_, Keep.refl _⟩
      unfold Tb.step
      rw [if_neg h0]
      exact h)
    clear h h0 hf hnx hQ
    go_enter Tryd.func51, Tryd.ntmps51
    go_wp2_with (go_at_call 69; refine HG.out.mono ?_; rintro e w' ⟨rfl, rfl⟩)
    exact FIN.out
set_option maxHeartbeats 4000000 in
theorem item_int {w : World} {b n c : Nat} {A : Option Addr} {r : Rd} (h : RdAt w b A n c r) (fid : Nat) (lb : Array Value) (he : ∀ args w, (callFunc fid args).run Tryd.prog w = .ok (.enter fid args) w) (v : Value) (nx er : Nat) (hnx : er = 0 → nx ≤ n)
    (hf : ∀ W, Below w.heap.size w W → Calls Tryd.prog fid (#[.slice A n c, .int .i64 (r.p : Int)] ++ lb) W fun e W' => e = .returned (.tuple #[v, .int .i64 (nx : Int), .int .i64 (er : Int)]) ∧ Below W.heap.size W W') :
    Calls Tryd.prog 54 #[.pointer (some ⟨b, 0, none⟩), .func (.func fid) #[] lb] w fun e w' => e = .returned (if r.e = 0 ∧ er = 0 then v else .int .i64 0) ∧ RdAt w' b A n c (Tb.step nx er r) ∧ Keep (Db b) w w' := by
  have HH := Lib.hid h
  obtain ⟨Q, hQ⟩ : ∃ Q : Ending → World → Prop, Q = (fun e w' => e = .returned (if r.e = 0 ∧ er = 0 then v else .int .i64 0) ∧ RdAt w' b A n c (Tb.step nx er r) ∧ Keep (Db b) w w') := ⟨_, rfl⟩
  rw [← hQ]
  by_cases h0 : r.e = 0
  · have HG := Lib.hid (goes_any h true (by simp [h0]))
    have HF : Hid (∀ W, Below w.heap.size w W → Calls Tryd.prog fid (#[.slice A n c, .int .i64 (r.p : Int)] ++ lb) W fun e W' => e = .returned (.tuple #[v, .int .i64 (nx : Int), .int .i64 (er : Int)]) ∧ Below W.heap.size W W') := Lib.hid hf
    have c0 := fun x : Aft w => x.cell h.lt h.cells.1
    have c2 := fun x : Aft w => x.cell h.lt h.cells.2.2.1
    have HR : Hid (∀ x : Aft w, RdAt x.W b A n c r ∧ Keep (Db b) w x.W) := Lib.hid fun x => ⟨h.below (Nat.le_refl _) x.h, Keep.of_below x.h⟩
    have hbw : Below w.heap.size w w := Below.refl _ _
    have inst := Aft.ne w
    by_cases he0 : er = 0
    · subst he0
      have FIN : Hid (∀ x : Aft w, Q (.returned v) (x.W.setCell ⟨b, 2, none⟩ (.int .i64 (nx : Int)))) := Lib.hid fun x => by
        have h2 := (HR.out x).1.goto nx (hnx rfl) _ rfl
        rw [hQ]
        refine ⟨by rw [if_pos ⟨h0, rfl⟩], ?_, (HR.out x).2.trans h2.2⟩
        unfold Tb.step
        rw [if_pos h0, if_pos rfl]
        exact h2.1
      obtain ⟨p, hp⟩ : ∃ p, r.p = p := ⟨_, rfl⟩
      rw [hp] at c2 HF
      clear h h0 hf hnx hp hQ
      go_enter Tryd.func54, Tryd.ntmps54
      go_wp2_with (go_at_call 69; refine HG.out.mono ?_; rintro e w' ⟨rfl, rfl⟩)
      refine region_aft w hbw (by kernel_rfl) (by kernel_rfl) ?_
      repeat (go_big_quiet_step ((with_reducible exact Aft.call HF.out _)))
      refine wpQuiet_nil ?_
      intro _ hw'
      obtain ⟨x, rfl⟩ := hw'
      have d2 := c2 x
      have f2 := (HR.out x).1.free 2
      clear c0 c2
      go_wp2
      exact FIN.out x
    · have FIN : Hid (∀ (x : Aft w) w', RdAt w' b A n c (Tb.fail er r.p r) → Keep (Db b) x.W w' → Q (.returned (.int .i64 0)) w') := Lib.hid fun x w' h1 h2 => by
        rw [hQ]
        refine ⟨by rw [if_neg (fun e => he0 e.2)], ?_, (HR.out x).2.trans h2⟩
        unfold Tb.step
        unfold Tb.fail at h1
        rw [if_pos ⟨h0, by omega⟩] at h1
        rw [if_pos h0, if_neg he0]
        exact h1
      have hne : ((er : Int) != 0) = true := by simp; omega
      have HFail : Hid (∀ x : Aft w, Calls Tryd.prog 32 #[.pointer (some ⟨b, 0, none⟩), .int .i64 (er : Int), .int .i64 (r.p : Int)] x.W fun e w' => e = .returned (.tuple #[]) ∧ RdAt w' b A n c (Tb.fail er r.p r) ∧ Keep (Db b) x.W w') := Lib.hid fun x => Fail_any (HR.out x).1 er r.p
      obtain ⟨p, hp⟩ : ∃ p, r.p = p := ⟨_, rfl⟩
      rw [hp] at c2 HF HFail FIN
      clear h h0 hf hnx hp he0 hQ
      go_enter Tryd.func54, Tryd.ntmps54
      go_wp2_with (go_at_call 69; refine HG.out.mono ?_; rintro e w' ⟨rfl, rfl⟩)
      refine region_aft w hbw (by kernel_rfl) (by kernel_rfl) ?_
      repeat (go_big_quiet_step ((with_reducible exact Aft.call HF.out _)))
      refine wpQuiet_nil ?_
      intro _ hw'
      obtain ⟨x, rfl⟩ := hw'
      have d2 := c2 x
      clear c0 c2
      go_wp2_with (go_at_call 32; (with_reducible refine (HFail.out x).mono ?_); rintro e w' ⟨rfl, hr, hk⟩; have R1 := Lib.hid hr; have K1 := Lib.hid hk; clear hr hk)
      exact FIN.out x _ R1.out K1.out
  · have HG := Lib.hid (goes_any h false (by simp [h0]))
    have FIN : Hid (Q (.returned (.int .i64 0)) w) := Lib.hid (by
      rw [hQ]
      refine ⟨by rw [if_neg (fun e => h0 e.1)], ?_, Keep.refl _⟩
      unfold Tb.step
      rw [if_neg h0]
      exact h)
    clear h h0 hf hnx hQ
    go_enter Tryd.func54, Tryd.ntmps54
    go_wp2_with (go_at_call 69; refine HG.out.mono ?_; rintro e w' ⟨rfl, rfl⟩)
    exact FIN.out
set_option maxHeartbeats 4000000 in
theorem item_bool {w : World} {b n c : Nat} {A : Option Addr} {r : Rd} (h : RdAt w b A n c r) (fid : Nat) (lb : Array Value) (he : ∀ args w, (callFunc fid args).run Tryd.prog w = .ok (.enter fid args) w) (v : Value) (nx er : Nat) (hnx : er = 0 → nx ≤ n)
    (hf : ∀ W, Below w.heap.size w W → Calls Tryd.prog fid (#[.slice A n c, .int .i64 (r.p : Int)] ++ lb) W fun e W' => e = .returned (.tuple #[v, .int .i64 (nx : Int), .int .i64 (er : Int)]) ∧ Below W.heap.size W W') :
    Calls Tryd.prog 129 #[.pointer (some ⟨b, 0, none⟩), .func (.func fid) #[] lb] w fun e w' => e = .returned (if r.e = 0 ∧ er = 0 then v else .bool false) ∧ RdAt w' b A n c (Tb.step nx er r) ∧ Keep (Db b) w w' := by
  have HH := Lib.hid h
  obtain ⟨Q, hQ⟩ : ∃ Q : Ending → World → Prop, Q = (fun e w' => e = .returned (if r.e = 0 ∧ er = 0 then v else .bool false) ∧ RdAt w' b A n c (Tb.step nx er r) ∧ Keep (Db b) w w') := ⟨_, rfl⟩
  rw [← hQ]
  by_cases h0 : r.e = 0
  · have HG := Lib.hid (goes_any h true (by simp [h0]))
    have HF : Hid (∀ W, Below w.heap.size w W → Calls Tryd.prog fid (#[.slice A n c, .int .i64 (r.p : Int)] ++ lb) W fun e W' => e = .returned (.tuple #[v, .int .i64 (nx : Int), .int .i64 (er : Int)]) ∧ Below W.heap.size W W') := Lib.hid hf
    have c0 := fun x : Aft w => x.cell h.lt h.cells.1
    have c2 := fun x : Aft w => x.cell h.lt h.cells.2.2.1
    have HR : Hid (∀ x : Aft w, RdAt x.W b A n c r ∧ Keep (Db b) w x.W) := Lib.hid fun x => ⟨h.below (Nat.le_refl _) x.h, Keep.of_below x.h⟩
    have hbw : Below w.heap.size w w := Below.refl _ _
    have inst := Aft.ne w
    by_cases he0 : er = 0
    · subst he0
      have FIN : Hid (∀ x : Aft w, Q (.returned v) (x.W.setCell ⟨b, 2, none⟩ (.int .i64 (nx : Int)))) := Lib.hid fun x => by
        have h2 := (HR.out x).1.goto nx (hnx rfl) _ rfl
        rw [hQ]
        refine ⟨by rw [if_pos ⟨h0, rfl⟩], ?_, (HR.out x).2.trans h2.2⟩
        unfold Tb.step
        rw [if_pos h0, if_pos rfl]
        exact h2.1
      obtain ⟨p, hp⟩ : ∃ p, r.p = p := ⟨_, rfl⟩
      rw [hp] at c2 HF
      clear h h0 hf hnx hp hQ
      go_enter Tryd.func129, Tryd.ntmps129
      go_wp2_with (go_at_call 69; refine HG.out.mono ?_; rintro e w' ⟨rfl, rfl⟩)
      refine region_aft w hbw (by kernel_rfl) (by kernel_rfl) ?_
      repeat (go_big_quiet_step ((with_reducible exact Aft.call HF.out _)))
      refine wpQuiet_nil ?_
      intro _ hw'
      obtain ⟨x, rfl⟩ := hw'
      have d2 := c2 x
      have f2 := (HR.out x).1.free 2
      clear c0 c2
      go_wp2
      exact FIN.out x
    · have FIN : Hid (∀ (x : Aft w) w', RdAt w' b A n c (Tb.fail er r.p r) → Keep (Db b) x.W w' → Q (.returned (.bool false)) w') := Lib.hid fun x w' h1 h2 => by
        rw [hQ]
        refine ⟨by rw [if_neg (fun e => he0 e.2)], ?_, (HR.out x).2.trans h2⟩
        unfold Tb.step
        unfold Tb.fail at h1
        rw [if_pos ⟨h0, by omega⟩] at h1
        rw [if_pos h0, if_neg he0]
        exact h1
      have hne : ((er : Int) != 0) = true := by simp; omega
      have HFail : Hid (∀ x : Aft w, Calls Tryd.prog 32 #[.pointer (some ⟨b, 0, none⟩), .int .i64 (er : Int), .int .i64 (r.p : Int)] x.W fun e w' => e = .returned (.tuple #[]) ∧ RdAt w' b A n c (Tb.fail er r.p r) ∧ Keep (Db b) x.W w') := Lib.hid fun x => Fail_any (HR.out x).1 er r.p
      obtain ⟨p, hp⟩ : ∃ p, r.p = p := ⟨_, rfl⟩
      rw [hp] at c2 HF HFail FIN
      clear h h0 hf hnx hp he0 hQ
      go_enter Tryd.func129, Tryd.ntmps129
      go_wp2_with (go_at_call 69; refine HG.out.mono ?_; rintro e w' ⟨rfl, rfl⟩)
      refine region_aft w hbw (by kernel_rfl) (by kernel_rfl) ?_
      repeat (go_big_quiet_step ((with_reducible exact Aft.call HF.out _)))
      refine wpQuiet_nil ?_
      intro _ hw'
      obtain ⟨x, rfl⟩ := hw'
      have d2 := c2 x
      clear c0 c2
      go_wp2_with (go_at_call 32; (with_reducible refine (HFail.out x).mono ?_); rintro e w' ⟨rfl, hr, hk⟩; have R1 := Lib.hid hr; have K1 := Lib.hid hk; clear hr hk)
      exact FIN.out x _ R1.out K1.out
  · have HG := Lib.hid (goes_any h false (by simp [h0]))
    have FIN : Hid (Q (.returned (.bool false)) w) := Lib.hid (by
      rw [hQ]
      refine ⟨by rw [if_neg (fun e => h0 e.1)], ?_, Keep.refl _⟩
      unfold Tb.step
      rw [if_neg h0]
      exact h)
    clear h h0 hf hnx hQ
    go_enter Tryd.func129, Tryd.ntmps129
    go_wp2_with (go_at_call 69; refine HG.out.mono ?_; rintro e w' ⟨rfl, rfl⟩)
    exact FIN.out
end Go.Proofs.YtphmknhlibampaaDoor

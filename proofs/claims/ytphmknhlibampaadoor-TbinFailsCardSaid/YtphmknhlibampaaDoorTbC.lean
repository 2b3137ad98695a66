/-
  Layer 6, code: bytes.Clone, Open, may.
-/
import Derived.Test.YtphmknhlibampaaDoorTbB
import Derived.WalkSpells
namespace Go.Proofs.YtphmknhlibampaaDoor
open Go.RowKit
set_option linter.unusedVariables false
set_option linter.unusedSimpArgs false
set_option maxRecDepth 100000

theorem Bytes.len0 {w : World} {C n c : Nat} {l : List Nat} (h : Bytes w C none n c l) : n = 0 ∧ l = [] := by
  have h1 := h.1
  have h5 := h.2.2.2.2
  rcases Nat.eq_zero_or_pos n with h0 | h0
  · exact ⟨h0, List.eq_nil_of_length_eq_zero (by omega)⟩
  · obtain ⟨b, off, e, _⟩ := h5 h0
    cases e
theorem Bytes.spot {w : World} {C n c : Nat} {a : Addr} {l : List Nat} (h : Bytes w C (some a) n c l) (h0 : 0 < n) : a.spot = none := by
  obtain ⟨b, off, e, _⟩ := h.2.2.2.2 h0
  injection e with e
  rw [e]
set_option maxHeartbeats 1000000 in
theorem Clone_any {w : World} {A : Option Addr} {n c : Nat} {l : List Nat} (h : Bytes w w.heap.size A n c l) (hn : n < 1000000) :
    Calls Tryd.prog 40 #[.slice A n c] w fun e w' => ∃ A' c', e = .returned (.slice A' n c') ∧ Own w.heap.size w' (.slice A' n c') l ∧ Below w.heap.size w w' := by
  rcases A with _ | a
  · obtain ⟨rfl, rfl⟩ := h.len0
    have he : ∀ w, (binOp .eql 22 (.slice none 0 c) (.slice none 0 0)).run Tryd.prog w = .ok (.bool true) w := fun w => Lib.run_eql_slice_nil w 22 5 none 0 c 0 0 Tryd.underlying22
    go_enter Tryd.func40, Tryd.ntmps40
    go_wp2
    go_ret
    exact ⟨none, 0, rfl, Own.nil _ _, Below.refl _ _⟩
  · have he : ∀ w, (binOp .eql 22 (.slice (some a) n c) (.slice none 0 0)).run Tryd.prog w = .ok (.bool false) w := fun w => Lib.run_eql_slice_nil w 22 5 (some a) n c 0 0 Tryd.underlying22
    have hb := (Below.refl w.heap.size w).alloc (Nat.le_refl _) (.cells #[] 5)
    go_enter Tryd.func40, Tryd.ntmps40
    go_wp2_with (at_builtin; refine cat_slice rfl (.tmp 5) (.tmp 6) rfl _ l n rfl rfl (Own.empty w (Nat.le_refl _)) (h.below hb) hb.size n (by omega) (by simp) ?_; intro A5 c5 w2 ho2 hg2; have hb2 := (Own.empty w (Nat.le_refl _)).grown hg2 (Nat.le_refl _) hb.size hb)
    go_ret
    exact ⟨A5, c5, rfl, by simpa using ho2, hb2⟩
set_option maxHeartbeats 1000000 in
theorem Open_any {w : World} {A : Option Addr} {n c : Nat} {l : List Nat} (h : Bytes w w.heap.size A n c l) (hn : n < 1000000) :
    Calls Tryd.prog 9 #[.slice A n c] w fun e w' => ∃ b A' c', e = .returned (.pointer (some ⟨b, 0, none⟩)) ∧ w.heap.size ≤ b ∧ RdAt w' b A' n c' (Tb.opened l) ∧ Below w.heap.size w w' := by
  have hlt := h.2.2.2.1
  have H := Lib.hid (Clone_any h hn)
  have HL := Lib.hid h.1
  clear h
  go_enter Tryd.func9, Tryd.ntmps9
  go_wp2_with (refine H.out.mono ?_; rintro e w1 ⟨A1, c1, rfl, ho1, hb1⟩; have HO := Lib.hid ho1; have HB := Lib.hid hb1; clear ho1 hb1)
  go_ret
  refine ⟨w1.heap.size, A1, c1, rfl, HB.out.size, ⟨?_, ?_, Nat.zero_le _⟩, HB.out.alloc HB.out.size _⟩
  · exact World.alloc_heap_new _ _
  · have hb := HO.out.toBytes hlt
    exact (hb.below ((Below.refl _ w1).alloc (Nat.le_refl _) _)).more (by simp)
set_option maxHeartbeats 4000000 in
theorem may_any {w : World} {b n c : Nat} {A : Option Addr} {r : Rd} (h : RdAt w b A n c r) (x : Nat) (m : Bool) (hm : Tb.may x r = m) :
    Calls Tryd.prog 61 #[.pointer (some ⟨b, 0, none⟩), .int .u8 (x : Int)] w fun e w' => e = .returned (.bool m) ∧ RdAt w' b A n c (if m then Tb.on r else r) ∧ Keep (Db b) w w' := by
  have HH := Lib.hid h
  have c0 := fun k => ((h.drewN k).cells).1
  have hle := h.2.2
  have hnn : n ≤ 9223372036854775807 := by have h1 := h.2.1.2.1; have h2 := h.2.1.2.2.1; unfold maxLen at h2; omega
  by_cases h0 : r.e = 0
  · have HG : Hid (∀ k, Calls Tryd.prog 69 #[.pointer (some ⟨b, 0, none⟩)] (w.drewN k) fun e w' => e = .returned (.bool true) ∧ ∃ m, w' = w.drewN m) := Lib.hid fun k => goes_q h true (by simp [h0])
    have HLf : Hid (∀ k, Calls Tryd.prog 36 #[.pointer (some ⟨b, 0, none⟩)] (w.drewN k) fun e w' => e = .returned (.int .i64 ((n - r.p : Nat) : Int)) ∧ ∃ m, w' = w.drewN m) := Lib.hid fun k => Calls.quiet_of (Left_any (h.drewN k))
    by_cases hp : r.p = n
    · have hm' : m = false := by rw [← hm]; unfold Tb.may; rw [h.len, hp]; simp
      subst hm'
      have hz : n - r.p = 0 := by omega
      rw [hz] at HLf
      clear hm h h0 hp hz c0
      go_enter Tryd.func61, Tryd.ntmps61
      go_wp2_with fail
      go_quiet ((first | (go_at_call 69; exact HG.out _) | (go_at_call 36; exact HLf.out _)))
      go_wp2
      go_ret
      exact ⟨rfl, HH.out.drewK _⟩
    · have hlt : r.p < n := by omega
      obtain ⟨bb, off, rfl, hbb, hc⟩ := h.2.1.2.2.2.2 (by omega)
      have hl := h.len
      have hby := hc r.p (by omega)
      have hx : r.bs[r.p]'(by omega) < 256 := h.2.1.2.2.2.1 _ (List.getElem_mem _)
      obtain ⟨y, hy⟩ : ∃ y, r.bs[r.p]'(by omega) = y := ⟨_, rfl⟩
      rw [hy] at hby hx
      have hmy : m = decide (y = x) := by
        rw [← hm]
        unfold Tb.may
        rw [hl, List.getD_eq_getElem?_getD, List.getElem?_eq_getElem (by omega), hy]
        simp [h0, hlt]
      have hz : (((n - r.p : Nat) : Int) == 0) = false := by rw [beq_eq_false_iff_ne]; omega
      have c2 := fun k => ((h.drewN k).cells).2.2.1
      have f2 := fun k => (h.drewN k).free 2
      obtain ⟨p, hpp⟩ : ∃ p, r.p = p := ⟨_, rfl⟩
      rw [hpp] at hby c2 hlt HLf hz
      have hi1 : (0 : Int) ≤ (p : Int) := by omega
      have hi2 : (p : Int) < (n : Int) := by omega
      have hs : IntKind.i64.wrap ((p : Int) + 1) = ((p + 1 : Nat) : Int) := by rw [IntWalk.i64_in _ (by omega)]; omega
      have HS := Lib.hid hs
      have hcell : ∀ k, (w.drewN k).cell? ⟨bb, off + p, none⟩ = some (.int .u8 (y : Int)) := fun k => hby
      clear hm h h0 hp hc hy hbb hl hby hle
      have HP := Lib.hid hpp
      have KEY : Hid (∀ (k : Nat) (q : Int), q = ((p + 1 : Nat) : Int) → RdAt ((w.drewN k).setCell ⟨b, 2, none⟩ (.int .i64 q)) b (some ⟨bb, off, none⟩) n c (Tb.on r) ∧ Keep (Db b) w ((w.drewN k).setCell ⟨b, 2, none⟩ (.int .i64 q))) := Lib.hid fun k q hq => by
        have h1 := HH.out.drewK k
        have h2 := h1.1.goto (p + 1) (by omega) q hq
        unfold Tb.on
        rw [hpp]
        exact ⟨h2.1, h1.2.trans h2.2⟩
      clear hpp
      cases m with
      | false =>
        have hne : ((y : Int) != (x : Int)) = true := by have := of_decide_eq_false hmy.symm; simp; omega
        clear hmy hs f2
        go_enter Tryd.func61, Tryd.ntmps61
        go_wp2_with fail
        go_quiet ((first | (go_at_call 69; exact HG.out _) | (go_at_call 36; exact HLf.out _)))
        go_wp2
        go_ret
        exact ⟨rfl, HH.out.drewK _⟩
      | true =>
        have hne : ((y : Int) != (x : Int)) = false := by have := of_decide_eq_true hmy.symm; simp; omega
        clear hmy
        go_enter Tryd.func61, Tryd.ntmps61
        go_wp2_with fail
        go_quiet ((first | (go_at_call 69; exact HG.out _) | (go_at_call 36; exact HLf.out _)))
        go_wp2
        go_ret
        exact ⟨rfl, KEY.out _ _ (by first | rfl | omega)⟩
  · have hm' : m = false := by rw [← hm]; unfold Tb.may; simp [h0]
    subst hm'
    have HG : Hid (∀ k, Calls Tryd.prog 69 #[.pointer (some ⟨b, 0, none⟩)] (w.drewN k) fun e w' => e = .returned (.bool false) ∧ ∃ m, w' = w.drewN m) := Lib.hid fun k => goes_q h false (by simp [h0])
    clear hm h h0 c0
    go_enter Tryd.func61, Tryd.ntmps61
    go_wp2_with fail
    go_quiet ((go_at_call 69; exact HG.out _))
    go_wp2
    go_ret
    exact ⟨rfl, HH.out.drewK _⟩
end Go.Proofs.YtphmknhlibampaaDoor

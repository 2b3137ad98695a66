/-
  geodelaw06.TbinFails: the walk.
-/
import Derived.Test.YtphmknhlibampaaDoorTbR
import Derived.Test.YtphmknhlibampaaDoorTbV
namespace Go.Proofs.YtphmknhlibampaaDoor
open Go.RowKit
set_option linter.unusedVariables false
set_option linter.unusedSimpArgs false
set_option maxRecDepth 100000

/-- A reader of the walk's own. -/
structure FSt (w y : World) (b : Nat) (A : Option Addr) (n c : Nat) (r : Rd) : Prop where
  rd : RdAt y b A n c r
  tab : Tab6 y
  below : Below w.heap.size w y
  hb : w.heap.size ≤ b
section
variable {w y z : World} {b n c p : Nat} {A : Option Addr} {r r' : Rd} {l : List Nat} {e bad : Int}
theorem FSt.step (h : FSt w y b A n c r) (hr : RdAt z b A n c r') (hk : Keep (Db b) y z) : FSt w z b A n c r' :=
  ⟨hr, h.tab.out h.rd hk, h.below.trans (hk.below h.below.size (fun k o hk' e => by have : k = b := e; have := h.hb; omega)), h.hb⟩
theorem FSt.drewN (h : FSt w y b A n c r) (k : Nat) : FSt w (y.drewN k) b A n c r := ⟨h.rd.drewN k, h.tab, below_drewN h.below k, h.hb⟩
theorem FErr (h : FSt w y b A n c ⟨l, p, e, bad⟩) : Calls Tryd.prog 34 #[.pointer (some ⟨b, 0, none⟩)] y fun x z => x = .returned (.tuple #[.int .i64 e, .int .i64 bad]) ∧ FSt w z b A n c ⟨l, p, e, bad⟩ :=
  (Err_any h.rd).mono fun _ _ ⟨h1, k, h2⟩ => ⟨h1, by rw [h2]; exact h.drewN k⟩
theorem FAt (h : FSt w y b A n c ⟨l, p, e, bad⟩) : Calls Tryd.prog 35 #[.pointer (some ⟨b, 0, none⟩)] y fun x z => x = .returned (.int .i64 (p : Int)) ∧ FSt w z b A n c ⟨l, p, e, bad⟩ :=
  (At_any h.rd).mono fun _ _ ⟨h1, h2⟩ => ⟨h1, by rw [← h2]; exact h⟩
theorem FLeft (h : FSt w y b A n c ⟨l, p, e, bad⟩) {d : Nat} (hd : n - p = d) : Calls Tryd.prog 36 #[.pointer (some ⟨b, 0, none⟩)] y fun x z => x = .returned (.int .i64 (d : Int)) ∧ FSt w z b A n c ⟨l, p, e, bad⟩ :=
  (Left_any h.rd).mono fun _ _ ⟨h1, k, h2⟩ => ⟨by rw [h1]; dsimp only; rw [hd], by rw [h2]; exact h.drewN k⟩
theorem FFail (h : FSt w y b A n c r) {e at_ : Int} (hf : Tb.fail e at_ r = r') : Calls Tryd.prog 32 #[.pointer (some ⟨b, 0, none⟩), .int .i64 e, .int .i64 at_] y fun x z => x = .returned (.tuple #[]) ∧ FSt w z b A n c r' :=
  (Fail_any h.rd e at_).mono fun _ _ ⟨h1, h2, h3⟩ => ⟨h1, by rw [← hf]; exact h.step h2 h3⟩
theorem FTake (h : FSt w y b A n c r) (hn : n < 1000000) {k : Int} (hf : (Tb.take k r).2 = r') : Calls Tryd.prog 20 #[.pointer (some ⟨b, 0, none⟩), .int .i64 k] y fun x z => ∃ s : Sl, x = .returned (.slice s.a s.n s.c) ∧ FSt w z b A n c r' :=
  (Take_rd h.rd hn k).mono fun _ _ ⟨s, h1, h2, h3, h4⟩ => ⟨s, h1, by rw [← hf]; exact h.step h3 h4⟩
theorem Tb.item_bad {α : Type} (d : α) (f : List Nat → Nat → α × Nat × Nat) (he : r.e ≠ 0) : Tb.item d f r = (d, r) := by unfold Tb.item; rw [if_neg he]
theorem Tb.val_bad (he : r.e ≠ 0) : Tb.val r = (Tb.noVal, r) := by
  have hm : ∀ x, Tb.may x r = false := fun x => by unfold Tb.may; rw [decide_eq_false he, Bool.false_and]
  unfold Tb.val
  rw [hm, hm, hm, hm, Tb.item_bad _ _ he]
  rfl
theorem FByte (h : FSt w y b A n c r) (he : r.e ≠ 0) : Calls Tryd.prog 10 #[.pointer (some ⟨b, 0, none⟩)] y fun x z => x = .returned (.int .u8 0) ∧ FSt w z b A n c r :=
  (Byte_any h.rd).mono fun _ _ h1 => by
    unfold Tb.byte at h1
    rw [Tb.item_bad _ _ he] at h1
    exact ⟨h1.1, h.step h1.2.1 h1.2.2⟩
theorem FU (h : FSt w y b A n c r) (he : r.e ≠ 0) (bits : Int) : Calls Tryd.prog 12 #[.pointer (some ⟨b, 0, none⟩), .int .i64 bits] y fun x z => x = .returned (.int .u64 0) ∧ FSt w z b A n c r :=
  (U_rd h.rd bits).mono fun _ _ h1 => by
    unfold Tb.u at h1
    rw [Tb.item_bad _ _ he] at h1
    exact ⟨h1.1, h.step h1.2.1 h1.2.2⟩
theorem FName (h : FSt w y b A n c r) (he : r.e ≠ 0) : Calls Tryd.prog 16 #[.pointer (some ⟨b, 0, none⟩)] y fun x z => x = .returned (.string ⟨#[]⟩) ∧ FSt w z b A n c r :=
  (Name_any h.rd).mono fun _ _ h1 => by
    unfold Tb.name at h1
    rw [Tb.item_bad _ _ he] at h1
    exact ⟨h1.1, h.step h1.2.1 h1.2.2⟩
theorem FVal (h : FSt w y b A n c r) (he : r.e ≠ 0) : Calls Tryd.prog 24 #[.pointer (some ⟨b, 0, none⟩)] y fun x z => x = .returned (.agg #[.int .i64 0, .bool false, .int .i64 0, .int .i64 0]) ∧ FSt w z b A n c r :=
  (Val_rd h.rd h.tab).mono fun _ _ h1 => by
    rw [Tb.val_bad he] at h1
    exact ⟨h1.1, h.step h1.2.1 h1.2.2⟩
theorem Tb.take_two (k : Int) (l : List Nat) : (Tb.take k (Tb.opened l)).2 = ⟨l, 0, 10, 0⟩ ∨ ∃ q : Nat, q ≤ l.length ∧ (Tb.take k (Tb.opened l)).2 = ⟨l, q, 0, 0⟩ := by
  unfold Tb.take Tb.item Tb.opened
  dsimp only
  rw [if_pos rfl]
  have h := Tb.takeAt_le k l 0 (Nat.zero_le _)
  unfold Tb.takeAt at h ⊢
  split <;> rename_i h1
  · left; rw [if_neg (by decide)]; rfl
  · right
    rw [if_neg h1] at h
    rw [if_pos rfl]
    exact ⟨_, h rfl, rfl⟩
end
set_option maxHeartbeats 8000000 in
theorem TbinFails_walk (w : World) (hT : Tab6 w) (A : Option Addr) (n c : Nat) (l : List Nat) (hby : Bytes w w.heap.size A n c l) (k : Int) (wk : (Lit.int .i64 k).wf = true) (a : Int) (wa : (Lit.int .i64 a).wf = true) (e1 : Int) (we1 : (Lit.int .i64 e1).wf = true) (e2 : Int) (we2 : (Lit.int .i64 e2).wf = true) :
    Calls Tryd.prog 7 #[.slice A n c, .int .i64 k, .int .i64 a, .int .i64 e1, .int .i64 e2] w fun e w' => e = .returned (.bool true) ∧ Below w.heap.size w w' := by
  obtain ⟨Q, hQ⟩ : ∃ Q : Ending → World → Prop, Q = (fun e w' => e = .returned (.bool true) ∧ Below w.heap.size w w') := ⟨_, rfl⟩
  rw [← hQ]
  have HQ := Lib.hid hQ
  have HT := Lib.hid hT
  have HK := Lib.hid (known6_any w hT)
  have HBy : Hid (∀ y, Below w.heap.size w y → Bytes y y.heap.size A n c l) := Lib.hid fun y hy => (hby.below hy).more hy.size
  have hl := hby.1
  clear wk wa we1 we2 hQ hT
  by_cases hbig : 600 < n
  · have hg : (600 : Int) < (n : Int) := by omega
    clear hbig hby hl
    go_enter Tryd.func7, Tryd.ntmps7
    go_wp2_with fail
    refine HK.out.mono ?_
    rintro e y ⟨rfl, hb⟩
    have HB := Lib.hid hb
    clear hb
    go_wp2_with fail
    rw [HQ.out]
    exact ⟨rfl, HB.out⟩
  have hg : (n : Int) ≤ 600 := by omega
  have HN : Hid (n < 1000000) := Lib.hid (by omega)
  rcases Tb.take_two k l with ht | ⟨q, hq, ht⟩
  · have FT := Lib.hid ht
    have F1 : Hid (Tb.fail e1 a ⟨l, 0, 10, 0⟩ = ⟨l, 0, 10, 0⟩) := Lib.hid (by unfold Tb.fail; rw [if_neg (fun h => absurd (show (10 : Int) = 0 from h.1) (by decide))])
    have F2 : Hid (Tb.fail e2 (wrap64 (a + 1)) ⟨l, 0, 10, 0⟩ = ⟨l, 0, 10, 0⟩) := Lib.hid (by unfold Tb.fail; rw [if_neg (fun h => absurd (show (10 : Int) = 0 from h.1) (by decide))])
    have FN : Hid ((⟨l, 0, 10, 0⟩ : Rd).e ≠ 0) := Lib.hid (show (10 : Int) ≠ 0 by decide)
    have FD : Hid (n - 0 = n) := Lib.hid rfl
    have hw : IntKind.i64.wrap (n : Int) = (n : Int) := IntWalk.i64_in _ (by omega)
    have hw2 : wrap64 (n : Int) = (n : Int) := IntWalk.wrap64_in _ (by omega)
    clear ht hl hby hbig
    go_enter Tryd.func7, Tryd.ntmps7
    go_wp2_with fail
    refine HK.out.mono ?_
    rintro e y ⟨rfl, hb⟩
    have HB := Lib.hid hb
    clear hb
    go_wp2_with fail
    refine (Open_any (HBy.out _ HB.out) HN.out).mono ?_
    rintro e y2 ⟨b, A2, c2, rfl, hz, hr, hb2⟩
    have S : Hid (FSt w y2 b A2 n c2 (Tb.opened l)) := Lib.hid ⟨hr, (HT.out.below HB.out).below hb2, below_trans HB.out hb2, Nat.le_trans HB.out.size hz⟩
    clear hr hb2 hz
    go_wp2_with (first
      | (go_at_call 20; (with_reducible refine (FTake S.out HN.out FT.out).mono ?_); rintro e y ⟨s, rfl, hs⟩; have S := Lib.hid hs; clear hs)
      | (go_at_call 34; (with_reducible refine (FErr S.out).mono ?_); rintro e y ⟨rfl, hs⟩; have S := Lib.hid hs; clear hs)
      | (go_at_call 35; (with_reducible refine (FAt S.out).mono ?_); rintro e y ⟨rfl, hs⟩; have S := Lib.hid hs; clear hs)
      | (go_at_call 36; (with_reducible refine (FLeft S.out FD.out).mono ?_); rintro e y ⟨rfl, hs⟩; have S := Lib.hid hs; clear hs)
      | (go_at_call 32; (with_reducible refine (FFail S.out F1.out).mono ?_); rintro e y ⟨rfl, hs⟩; have S := Lib.hid hs; clear hs)
      | (go_at_call 32; (with_reducible refine (FFail S.out F2.out).mono ?_); rintro e y ⟨rfl, hs⟩; have S := Lib.hid hs; clear hs)
      | (go_at_call 10; (with_reducible refine (FByte S.out FN.out).mono ?_); rintro e y ⟨rfl, hs⟩; have S := Lib.hid hs; clear hs)
      | (go_at_call 12; (with_reducible refine (FU S.out FN.out _).mono ?_); rintro e y ⟨rfl, hs⟩; have S := Lib.hid hs; clear hs)
      | (go_at_call 16; (with_reducible refine (FName S.out FN.out).mono ?_); rintro e y ⟨rfl, hs⟩; have S := Lib.hid hs; clear hs)
      | (go_at_call 24; (with_reducible refine (FVal S.out FN.out).mono ?_); rintro e y ⟨rfl, hs⟩; have S := Lib.hid hs; clear hs))
    rw [HQ.out]
    exact ⟨rfl, S.out.below⟩
  · rw [hl] at hq
    obtain ⟨d, hd⟩ : ∃ d, n - q = d := ⟨_, rfl⟩
    have FT := Lib.hid ht
    have FD := Lib.hid hd
    have hw : IntKind.i64.wrap ((q : Int) + (d : Int)) = (n : Int) := by rw [IntWalk.i64_in _ (by omega)]; omega
    have hw2 : wrap64 ((q : Int) + (d : Int)) = (n : Int) := by rw [IntWalk.wrap64_in _ (by omega)]; omega
    clear ht hl hby hbig hq hd
    by_cases he1 : e1 = 0
    · subst he1
      have F1 : Hid (Tb.fail 0 a ⟨l, q, 0, 0⟩ = ⟨l, q, 0, 0⟩) := Lib.hid (by unfold Tb.fail; rw [if_neg (fun h => absurd rfl h.2)])
      by_cases he2 : e2 = 0
      · subst he2
        have F2 : Hid (Tb.fail 0 (wrap64 (a + 1)) ⟨l, q, 0, 0⟩ = ⟨l, q, 0, 0⟩) := Lib.hid (by unfold Tb.fail; rw [if_neg (fun h => absurd rfl h.2)])
        go_enter Tryd.func7, Tryd.ntmps7
        go_wp2_with fail
        refine HK.out.mono ?_
        rintro e y ⟨rfl, hb⟩
        have HB := Lib.hid hb
        clear hb
        go_wp2_with fail
        refine (Open_any (HBy.out _ HB.out) HN.out).mono ?_
        rintro e y2 ⟨b, A2, c2, rfl, hz, hr, hb2⟩
        have S : Hid (FSt w y2 b A2 n c2 (Tb.opened l)) := Lib.hid ⟨hr, (HT.out.below HB.out).below hb2, below_trans HB.out hb2, Nat.le_trans HB.out.size hz⟩
        clear hr hb2 hz
        go_wp2_with (first
          | (go_at_call 20; (with_reducible refine (FTake S.out HN.out FT.out).mono ?_); rintro e y ⟨s, rfl, hs⟩; have S := Lib.hid hs; clear hs)
          | (go_at_call 34; (with_reducible refine (FErr S.out).mono ?_); rintro e y ⟨rfl, hs⟩; have S := Lib.hid hs; clear hs)
          | (go_at_call 35; (with_reducible refine (FAt S.out).mono ?_); rintro e y ⟨rfl, hs⟩; have S := Lib.hid hs; clear hs)
          | (go_at_call 36; (with_reducible refine (FLeft S.out FD.out).mono ?_); rintro e y ⟨rfl, hs⟩; have S := Lib.hid hs; clear hs)
          | (go_at_call 32; (with_reducible refine (FFail S.out F1.out).mono ?_); rintro e y ⟨rfl, hs⟩; have S := Lib.hid hs; clear hs)
          | (go_at_call 32; (with_reducible refine (FFail S.out F2.out).mono ?_); rintro e y ⟨rfl, hs⟩; have S := Lib.hid hs; clear hs))
        rw [HQ.out]
        exact ⟨rfl, S.out.below⟩
      · have F2 : Hid (Tb.fail e2 (wrap64 (a + 1)) ⟨l, q, 0, 0⟩ = ⟨l, q, e2, wrap64 (a + 1)⟩) := Lib.hid (by unfold Tb.fail; rw [if_pos ⟨rfl, he2⟩])
        have FN : Hid ((⟨l, q, e2, wrap64 (a + 1)⟩ : Rd).e ≠ 0) := Lib.hid he2
        have hn1 : (e2 != 0) = true := by simp [he2]
        have hn2 : (e2 == 0) = false := beq_eq_false_iff_ne.2 he2
        clear he2
        go_enter Tryd.func7, Tryd.ntmps7
        go_wp2_with fail
        refine HK.out.mono ?_
        rintro e y ⟨rfl, hb⟩
        have HB := Lib.hid hb
        clear hb
        go_wp2_with fail
        refine (Open_any (HBy.out _ HB.out) HN.out).mono ?_
        rintro e y2 ⟨b, A2, c2, rfl, hz, hr, hb2⟩
        have S : Hid (FSt w y2 b A2 n c2 (Tb.opened l)) := Lib.hid ⟨hr, (HT.out.below HB.out).below hb2, below_trans HB.out hb2, Nat.le_trans HB.out.size hz⟩
        clear hr hb2 hz
        go_wp2_with (first
          | (go_at_call 20; (with_reducible refine (FTake S.out HN.out FT.out).mono ?_); rintro e y ⟨s, rfl, hs⟩; have S := Lib.hid hs; clear hs)
          | (go_at_call 34; (with_reducible refine (FErr S.out).mono ?_); rintro e y ⟨rfl, hs⟩; have S := Lib.hid hs; clear hs)
          | (go_at_call 35; (with_reducible refine (FAt S.out).mono ?_); rintro e y ⟨rfl, hs⟩; have S := Lib.hid hs; clear hs)
          | (go_at_call 36; (with_reducible refine (FLeft S.out FD.out).mono ?_); rintro e y ⟨rfl, hs⟩; have S := Lib.hid hs; clear hs)
          | (go_at_call 32; (with_reducible refine (FFail S.out F1.out).mono ?_); rintro e y ⟨rfl, hs⟩; have S := Lib.hid hs; clear hs)
          | (go_at_call 32; (with_reducible refine (FFail S.out F2.out).mono ?_); rintro e y ⟨rfl, hs⟩; have S := Lib.hid hs; clear hs)
          | (go_at_call 10; (with_reducible refine (FByte S.out FN.out).mono ?_); rintro e y ⟨rfl, hs⟩; have S := Lib.hid hs; clear hs)
          | (go_at_call 12; (with_reducible refine (FU S.out FN.out _).mono ?_); rintro e y ⟨rfl, hs⟩; have S := Lib.hid hs; clear hs)
          | (go_at_call 16; (with_reducible refine (FName S.out FN.out).mono ?_); rintro e y ⟨rfl, hs⟩; have S := Lib.hid hs; clear hs)
          | (go_at_call 24; (with_reducible refine (FVal S.out FN.out).mono ?_); rintro e y ⟨rfl, hs⟩; have S := Lib.hid hs; clear hs))
        rw [HQ.out]
        exact ⟨rfl, S.out.below⟩
    · have F1 : Hid (Tb.fail e1 a ⟨l, q, 0, 0⟩ = ⟨l, q, e1, a⟩) := Lib.hid (by unfold Tb.fail; rw [if_pos ⟨rfl, he1⟩])
      have F2 : Hid (Tb.fail e2 (wrap64 (a + 1)) ⟨l, q, e1, a⟩ = ⟨l, q, e1, a⟩) := Lib.hid (by unfold Tb.fail; rw [if_neg (fun h => he1 h.1)])
      have FN : Hid ((⟨l, q, e1, a⟩ : Rd).e ≠ 0) := Lib.hid he1
      have hn1 : (e1 != 0) = true := by simp [he1]
      have hn2 : (e1 == 0) = false := beq_eq_false_iff_ne.2 he1
      clear he1
      go_enter Tryd.func7, Tryd.ntmps7
      go_wp2_with fail
      refine HK.out.mono ?_
      rintro e y ⟨rfl, hb⟩
      have HB := Lib.hid hb
      clear hb
      go_wp2_with fail
      refine (Open_any (HBy.out _ HB.out) HN.out).mono ?_
      rintro e y2 ⟨b, A2, c2, rfl, hz, hr, hb2⟩
      have S : Hid (FSt w y2 b A2 n c2 (Tb.opened l)) := Lib.hid ⟨hr, (HT.out.below HB.out).below hb2, below_trans HB.out hb2, Nat.le_trans HB.out.size hz⟩
      clear hr hb2 hz
      go_wp2_with (first
        | (go_at_call 20; (with_reducible refine (FTake S.out HN.out FT.out).mono ?_); rintro e y ⟨s, rfl, hs⟩; have S := Lib.hid hs; clear hs)
        | (go_at_call 34; (with_reducible refine (FErr S.out).mono ?_); rintro e y ⟨rfl, hs⟩; have S := Lib.hid hs; clear hs)
        | (go_at_call 35; (with_reducible refine (FAt S.out).mono ?_); rintro e y ⟨rfl, hs⟩; have S := Lib.hid hs; clear hs)
        | (go_at_call 36; (with_reducible refine (FLeft S.out FD.out).mono ?_); rintro e y ⟨rfl, hs⟩; have S := Lib.hid hs; clear hs)
        | (go_at_call 32; (with_reducible refine (FFail S.out F1.out).mono ?_); rintro e y ⟨rfl, hs⟩; have S := Lib.hid hs; clear hs)
        | (go_at_call 32; (with_reducible refine (FFail S.out F2.out).mono ?_); rintro e y ⟨rfl, hs⟩; have S := Lib.hid hs; clear hs)
        | (go_at_call 10; (with_reducible refine (FByte S.out FN.out).mono ?_); rintro e y ⟨rfl, hs⟩; have S := Lib.hid hs; clear hs)
        | (go_at_call 12; (with_reducible refine (FU S.out FN.out _).mono ?_); rintro e y ⟨rfl, hs⟩; have S := Lib.hid hs; clear hs)
        | (go_at_call 16; (with_reducible refine (FName S.out FN.out).mono ?_); rintro e y ⟨rfl, hs⟩; have S := Lib.hid hs; clear hs)
        | (go_at_call 24; (with_reducible refine (FVal S.out FN.out).mono ?_); rintro e y ⟨rfl, hs⟩; have S := Lib.hid hs; clear hs))
      rw [HQ.out]
      exact ⟨rfl, S.out.below⟩
end Go.Proofs.YtphmknhlibampaaDoor

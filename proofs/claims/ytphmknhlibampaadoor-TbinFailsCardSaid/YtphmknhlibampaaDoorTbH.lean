/-
  Layer 6, code: a reader's items: Byte, U, S, Name, Count, Heap, ref, Val, index, store, field.
-/
import Derived.Test.YtphmknhlibampaaDoorTbG
namespace Go.Proofs.YtphmknhlibampaaDoor
open Go.RowKit
set_option linter.unusedVariables false
set_option linter.unusedSimpArgs false
set_option maxRecDepth 100000

theorem told_le (sg : Bool) (l : List Nat) (at0 bits : Int) (h : (told sg l at0 bits).2.2 = 0) : (told sg l at0 bits).2.1 ≤ l.length := by
  unfold told at h ⊢
  split
  · exact Nat.zero_le _
  · next h1 =>
    rw [if_neg h1] at h
    obtain ⟨⟨v, nx, er⟩, hq⟩ : ∃ q, Leb.rd bits.toNat sg (l.drop at0.toNat) at0.toNat 0 0 = q := ⟨_, rfl⟩
    rw [hq] at h ⊢
    simp only at h ⊢
    subst h
    have := Leb.rd_next _ _ _ _ _ _ _ _ hq
    rw [List.length_drop] at this
    omega
theorem Leb.rd_lt_bits (bits : Nat) (hb : bits ≤ 64) (l : List Nat) : ∀ (a place n : Nat), n < 2 ^ place → place ≤ bits → (Leb.rd bits false l a place n).1 < 2 ^ bits := by
  have hpos : 0 < 2 ^ bits := Nat.two_pow_pos bits
  induction l with
  | nil => intro a place n _ _; rw [Leb.rd]; exact hpos
  | cons x l ih =>
    intro a place n hn hp
    rw [Leb.rd]
    split
    · rename_i hf
      have hx : x % 128 < 2 ^ (bits - place) := by
        unfold Leb.fits at hf
        simp only [Bool.false_eq_true, if_false, decide_eq_true_eq] at hf
        have h2 := Nat.div_eq_zero_iff.1 hf
        have h3 : x % 128 < 2 ^ min (bits - place) 8 := by
          rcases h2 with h2 | h2
          · have := Nat.two_pow_pos (min (bits - place) 8); omega
          · exact h2
        exact Nat.lt_of_lt_of_le h3 (Nat.pow_le_pow_right (by omega) (Nat.min_le_left _ _))
      have hs : n + x % 128 * 2 ^ place < 2 ^ bits := by
        have h1 : (x % 128 + 1) * 2 ^ place ≤ 2 ^ (bits - place) * 2 ^ place := Nat.mul_le_mul_right _ hx
        rw [← Nat.pow_add, Nat.sub_add_cancel hp] at h1
        rw [Nat.add_mul, Nat.one_mul] at h1
        omega
      split
      · unfold Leb.ext
        simp only [Bool.false_and, Bool.false_eq_true, if_false]
        exact Nat.lt_of_le_of_lt (Nat.mod_le _ _) hs
      · split
        · exact hpos
        · exact ih _ _ _ (Leb.step_lt n x place hn) (by omega)
    · exact hpos
theorem told_lt_bits (l : List Nat) (p : Int) (bits : Int) : bits ≤ 64 → (told false l p bits).1 < 2 ^ bits.toNat := by
  intro h
  unfold told
  split
  · exact Nat.two_pow_pos _
  · exact Leb.rd_lt_bits _ (by omega) _ _ _ _ (by simp) (Nat.zero_le _)
theorem Tb.told_lt32 (l : List Nat) (p : Nat) : (told false l p 32).1 < 4294967296 := told_lt_bits l p 32 (by omega)
namespace Tb
theorem byteAt_le (l : List Nat) (p : Nat) (h : (byteAt l p).2.2 = 0) : (byteAt l p).2.1 ≤ l.length := by
  unfold byteAt at h ⊢
  split <;> rename_i h1
  · exact h1
  · rw [if_neg h1] at h; cases h
theorem countAt_le (l : List Nat) (p : Nat) (h : (countAt l p).2.2 = 0) : (countAt l p).2.1 ≤ l.length := by
  unfold countAt at h ⊢
  split <;> rename_i h1
  · split
    · exact Nat.zero_le _
    · exact told_le _ _ _ _ h1
  · exact Nat.zero_le _
theorem nameAt_le (l : List Nat) (p : Nat) (h : (nameAt l p).2.2 = 0) : (nameAt l p).2.1 ≤ l.length := by
  unfold nameAt readName at h ⊢
  split <;> rename_i h1
  · exact Nat.zero_le _
  · split <;> rename_i h2
    · exact Nat.zero_le _
    · split
      · have := told_le false l p 32 (by omega); dsimp only; omega
      · exact Nat.zero_le _
theorem isGiven_lt {l : List Nat} {p : Nat} (h : isGiven l p = true) : p < l.length := by
  unfold isGiven at h
  simp at h
  exact h.1
theorem heapAt_le (l : List Nat) (p : Nat) (h : (heapAt l p).2.2 = 0) : (heapAt l p).2.1 ≤ l.length := by
  unfold heapAt at h ⊢
  split <;> rename_i h1
  · exact isGiven_lt h1
  · split <;> rename_i h2
    · split
      · exact Nat.zero_le _
      · exact told_le _ _ _ _ h2
    · exact Nat.zero_le _
theorem noneAt_no {α : Type} (d : α) (l : List Nat) (p : Nat) : (noneAt d l p).2.2 ≠ 0 := by unfold noneAt; split <;> simp
theorem shortAt_le (l : List Nat) (p : Nat) (h : (shortAt l p).2.2 = 0) : (shortAt l p).2.1 ≤ l.length := by
  unfold shortAt at h ⊢
  split <;> rename_i h1
  · exact isGiven_lt h1
  · rw [if_neg h1] at h
    split at h
    · cases h
    · exact absurd h (noneAt_no _ _ _)
theorem mutAt_le (l : List Nat) (p : Nat) (h : (mutAt l p).2.2 = 0) : (mutAt l p).2.1 ≤ l.length := by
  unfold mutAt at h ⊢
  split <;> rename_i h1
  · exact h1.1
  · rw [if_neg h1] at h; exact absurd h (noneAt_no _ _ _)
end Tb
/-- What a reader's call tells, and where it stands then. -/
def RdOut (b : Nat) (A : Option Addr) (n c : Nat) (v : Value) (r' : Rd) (w : World) (e : Ending) (w' : World) : Prop := e = .returned v ∧ RdAt w' b A n c r' ∧ Keep (Db b) w w'
section
variable {w : World} {b n c : Nat} {A : Option Addr} {r : Rd}
theorem Item.out {v : Value} {nx er : Nat} {e : Ending} {W W' : World} (h : Item v nx er W e W') : e = .returned (.tuple #[v, .int .i64 (nx : Int), .int .i64 (er : Int)]) ∧ Below W.heap.size W W' := h
theorem RdAt.bytes (h : RdAt w b A n c r) {W : World} (hb : Below w.heap.size w W) : Bytes W W.heap.size A n c r.bs := (h.below (Nat.le_refl _) hb).2.1
theorem RdAt.pl (h : RdAt w b A n c r) : r.p ≤ n := h.2.2
/-- An item's value, as the reader tells it. -/
theorem item_out {α : Type} (enc : α → Value) (d : α) (f : List Nat → Nat → α × Nat × Nat) (z : Value) (hz : enc d = z) {e : Ending} {w' : World}
    (h : e = .returned (if r.e = 0 ∧ (f r.bs r.p).2.2 = 0 then enc (f r.bs r.p).1 else z) ∧ RdAt w' b A n c (Tb.step (f r.bs r.p).2.1 (f r.bs r.p).2.2 r) ∧ Keep (Db b) w w') :
    RdOut b A n c (enc (Tb.item d f r).1) (Tb.item d f r).2 w e w' := by
  rw [Tb.item_eq]
  obtain ⟨h1, h2, h3⟩ := h
  refine ⟨h1.trans ?_, h2, h3⟩
  rw [← hz]
  dsimp only
  split <;> rfl
set_option maxHeartbeats 1000000 in
theorem Byte_any (h : RdAt w b A n c r) : Calls Tryd.prog 10 #[.pointer (some ⟨b, 0, none⟩)] w (RdOut b A n c (.int .u8 ((Tb.byte r).1 : Int)) (Tb.byte r).2 w) := by
  have H := Lib.hid ((item_byte h 42 #[] (enters_of Tryd.func42 (by kernel_rfl) rfl) _ _ _ (fun e => by have := Tb.byteAt_le r.bs r.p e; rw [h.len] at this; exact this)
    (fun W hW => (byteAt_any (h.bytes hW) h.pl).mono fun _ _ => Item.out)).mono fun _ _ => item_out (fun x : Nat => .int .u8 (x : Int)) 0 Tb.byteAt _ rfl)
  clear h
  go_enter Tryd.func10, Tryd.ntmps10
  go_wp2_with (refine H.out.mono ?_; rintro e w' ⟨rfl, h1, h2⟩)
  go_ret
  exact ⟨rfl, h1, h2⟩
set_option maxHeartbeats 1000000 in
theorem U_rd (h : RdAt w b A n c r) (bits : Int) : Calls Tryd.prog 12 #[.pointer (some ⟨b, 0, none⟩), .int .i64 bits] w (RdOut b A n c (.int .u64 ((Tb.u bits r).1 : Int)) (Tb.u bits r).2 w) := by
  obtain ⟨W0, hW0⟩ : ∃ W0, W0 = w.alloc (.cells #[.int .i64 bits] 3) := ⟨_, rfl⟩
  have hB0 : Below w.heap.size w W0 := by rw [hW0]; exact (Below.refl _ _).alloc (Nat.le_refl _) _
  have hz : W0.heap.size = w.heap.size + 1 := by rw [hW0]; simp
  have hc0 : W0.cell? ⟨w.heap.size, 0, none⟩ = some (.int .i64 bits) := by rw [hW0]; go_simp
  have h0 := h.below (Nat.le_refl _) hB0
  have H := Lib.hid ((item_uint64 h0 44 #[.pointer (some ⟨w.heap.size, 0, none⟩)] (enters_of Tryd.func44 (by kernel_rfl) rfl) _ _ _ (fun e => by have := told_le false r.bs r.p bits e; rw [h.len] at this; exact this)
    (fun W hW => (u1_any (h0.bytes hW) r.p ((hW.cell (p := ⟨w.heap.size, 0, none⟩) (by dsimp only; omega)).trans hc0)).mono fun _ _ => Item.out)).mono fun _ _ => item_out (fun x : Nat => .int .u64 (x : Int)) 0 (Tb.uAt bits) _ rfl)
  have HW0 := Lib.hid hW0
  have HB := Lib.hid hB0
  clear h h0 hW0 hc0 hz hB0
  go_enter Tryd.func12, Tryd.ntmps12
  go_wp2_with fail
  rw [← HW0.out]
  go_wp2_with (refine H.out.mono ?_; rintro e w' ⟨rfl, h1, h2⟩)
  go_ret
  exact ⟨rfl, h1, (Keep.of_below HB.out).trans h2⟩
set_option maxHeartbeats 1000000 in
theorem S_rd (h : RdAt w b A n c r) (bits : Int) : Calls Tryd.prog 14 #[.pointer (some ⟨b, 0, none⟩), .int .i64 bits] w (RdOut b A n c (.int .i64 (Tb.s bits r).1) (Tb.s bits r).2 w) := by
  obtain ⟨W0, hW0⟩ : ∃ W0, W0 = w.alloc (.cells #[.int .i64 bits] 3) := ⟨_, rfl⟩
  have hB0 : Below w.heap.size w W0 := by rw [hW0]; exact (Below.refl _ _).alloc (Nat.le_refl _) _
  have hz : W0.heap.size = w.heap.size + 1 := by rw [hW0]; simp
  have hc0 : W0.cell? ⟨w.heap.size, 0, none⟩ = some (.int .i64 bits) := by rw [hW0]; go_simp
  have h0 := h.below (Nat.le_refl _) hB0
  have H := Lib.hid ((item_int64 h0 48 #[.pointer (some ⟨w.heap.size, 0, none⟩)] (enters_of Tryd.func48 (by kernel_rfl) rfl) _ _ _ (fun e => by have := told_le true r.bs r.p bits e; rw [h.len] at this; exact this)
    (fun W hW => (s1_any (h0.bytes hW) r.p ((hW.cell (p := ⟨w.heap.size, 0, none⟩) (by dsimp only; omega)).trans hc0)).mono fun _ _ => Item.out)).mono fun _ _ => item_out (fun x : Int => .int .i64 x) 0 (Tb.sAt bits) _ rfl)
  have HW0 := Lib.hid hW0
  have HB := Lib.hid hB0
  clear h h0 hW0 hc0 hz hB0
  go_enter Tryd.func14, Tryd.ntmps14
  go_wp2_with fail
  rw [← HW0.out]
  go_wp2_with (refine H.out.mono ?_; rintro e w' ⟨rfl, h1, h2⟩)
  go_ret
  exact ⟨rfl, h1, (Keep.of_below HB.out).trans h2⟩
set_option maxHeartbeats 1000000 in
theorem Name_any (h : RdAt w b A n c r) : Calls Tryd.prog 16 #[.pointer (some ⟨b, 0, none⟩)] w (RdOut b A n c (.string (str (Tb.name r).1)) (Tb.name r).2 w) := by
  have H := Lib.hid ((item_string h 52 #[] (enters_of Tryd.func52 (by kernel_rfl) rfl) _ _ _ (fun e => by have := Tb.nameAt_le r.bs r.p e; rw [h.len] at this; exact this)
    (fun W hW => (Read_any A n c r.bs _ r.p W (h.bytes hW)).mono fun _ _ => fun h => h)).mono fun _ _ => item_out (fun x : List Nat => .string (str x)) [] Tb.nameAt _ rfl)
  clear h
  go_enter Tryd.func16, Tryd.ntmps16
  go_wp2_with (refine H.out.mono ?_; rintro e w' ⟨rfl, h1, h2⟩)
  go_ret
  exact ⟨rfl, h1, h2⟩
set_option maxHeartbeats 1000000 in
theorem Count_rd (h : RdAt w b A n c r) : Calls Tryd.prog 18 #[.pointer (some ⟨b, 0, none⟩)] w (RdOut b A n c (.int .i64 ((Tb.count r).1 : Int)) (Tb.count r).2 w) := by
  have H := Lib.hid ((item_int h 55 #[] (enters_of Tryd.func55 (by kernel_rfl) rfl) _ _ _ (fun e => by have := Tb.countAt_le r.bs r.p e; rw [h.len] at this; exact this)
    (fun W hW => (countAt_any (h.bytes hW) r.p).mono fun _ _ => Item.out)).mono fun _ _ => item_out (fun x : Nat => .int .i64 (x : Int)) 0 Tb.countAt _ rfl)
  clear h
  go_enter Tryd.func18, Tryd.ntmps18
  go_wp2_with (refine H.out.mono ?_; rintro e w' ⟨rfl, h1, h2⟩)
  go_ret
  exact ⟨rfl, h1, h2⟩
end
end Go.Proofs.YtphmknhlibampaaDoor

/-
  Layer 6, code: a reader in memory, and what only looks at it: is, goes, Err, At, Left; Fail.
-/
import Derived.Test.YtphmknhlibampaaDoorTbT
import Derived.Test.YtphmknhlibampaaDoorKitX
import Derived.Test.YtphmknhlibampaaDoorKdW
namespace Go.Proofs.YtphmknhlibampaaDoor
open Go.RowKit
set_option linter.unusedVariables false
set_option linter.unusedSimpArgs false
set_option maxRecDepth 100000

/-- A reader's cells. -/
abbrev rdCells (A : Option Addr) (n c : Nat) (r : Rd) : Array Value := #[.slice A n c, .bool true, .int .i64 (r.p : Int), .int .i64 r.e, .int .i64 r.bad]
def RdAt (w : World) (b : Nat) (A : Option Addr) (n c : Nat) (r : Rd) : Prop :=
  w.heap[b]? = some (.cells (rdCells A n c r) 61 (0, 0)) ∧ Bytes w w.heap.size A n c r.bs ∧ r.p ≤ n
section
variable {w w' : World} {b n c : Nat} {A : Option Addr} {r r' : Rd}
theorem RdAt.lt (h : RdAt w b A n c r) : b < w.heap.size := (Array.getElem?_eq_some_iff.1 h.1).1
theorem RdAt.cells (h : RdAt w b A n c r) : w.cell? ⟨b, 0, none⟩ = some (.slice A n c) ∧ w.cell? ⟨b, 1, none⟩ = some (.bool true) ∧ w.cell? ⟨b, 2, none⟩ = some (.int .i64 (r.p : Int)) ∧
    w.cell? ⟨b, 3, none⟩ = some (.int .i64 r.e) ∧ w.cell? ⟨b, 4, none⟩ = some (.int .i64 r.bad) :=
  ⟨cell_of_row w b 0 _ _ (0, 0) h.1, cell_of_row w b 1 _ _ (0, 0) h.1, cell_of_row w b 2 _ _ (0, 0) h.1, cell_of_row w b 3 _ _ (0, 0) h.1, cell_of_row w b 4 _ _ (0, 0) h.1⟩
theorem RdAt.free (h : RdAt w b A n c r) (i : Nat) : w.frozen? ⟨b, i, none⟩ = false := by simp [World.frozen?, h.1]
theorem RdAt.len (h : RdAt w b A n c r) : r.bs.length = n := h.2.1.1
theorem RdAt.below {B : Nat} (h : RdAt w b A n c r) (hB : w.heap.size ≤ B) (hb : Below B w w') : RdAt w' b A n c r :=
  ⟨(hb.block b (Nat.lt_of_lt_of_le h.lt hB)).trans h.1, (h.2.1.below (hb.mono hB)).more hb.size, h.2.2⟩
theorem RdAt.drewN (h : RdAt w b A n c r) (k : Nat) : RdAt (w.drewN k) b A n c r := h
/-- Another block is written. -/
theorem RdAt.keep {D : Nat → Nat → Prop} (h : RdAt w b A n c r) (hk : Keep D w w') (hD : ∀ o, ¬ D b o) (hB : ∀ (k : Nat), (∃ o v, (w.cell? ⟨k, o, none⟩ = some (.int .u8 v))) → ∀ o, ¬ D k o) : RdAt w' b A n c r := by
  refine ⟨(hk.block b h.lt hD).trans h.1, ?_, h.2.2⟩
  obtain ⟨h1, h2, h3, h4, h5⟩ := h.2.1
  refine ⟨h1, h2, h3, h4, fun hn => ?_⟩
  obtain ⟨b', off, e, hb', hc⟩ := h5 hn
  refine ⟨b', off, e, Nat.lt_of_lt_of_le hb' hk.size, fun j hj => hk.cells b' _ _ (hB b' ⟨_, _, hc j hj⟩ _) (hc j hj)⟩
end

theorem is_any {w : World} {b n c : Nat} {A : Option Addr} {r : Rd} (h : RdAt w b A n c r) :
    Calls Tryd.prog 71 #[.pointer (some ⟨b, 0, none⟩)] w fun e w' => e = .returned (.bool true) ∧ w = w' := by
  obtain ⟨c0, c1, c2, c3, c4⟩ := h.cells
  clear c0 c2 c3 c4 h
  go_enter Tryd.func71, Tryd.ntmps71
  go_wp2
  go_ret
  exact ⟨rfl, rfl⟩
theorem goes_any {w : World} {b n c : Nat} {A : Option Addr} {r : Rd} (h : RdAt w b A n c r) (g : Bool) (hg : decide (r.e = 0) = g) :
    Calls Tryd.prog 69 #[.pointer (some ⟨b, 0, none⟩)] w fun e w' => e = .returned (.bool g) ∧ w = w' := by
  obtain ⟨c0, c1, c2, c3, c4⟩ := h.cells
  have H := Lib.hid (is_any h)
  obtain ⟨e0, he⟩ : ∃ e0, r.e = e0 := ⟨_, rfl⟩
  rw [he] at c3 hg
  have HG := Lib.hid hg
  clear c0 c1 c2 c4 h he hg
  go_enter Tryd.func69, Tryd.ntmps69
  go_wp2_with (refine H.out.mono ?_; rintro e w' ⟨rfl, rfl⟩)
  go_ret
  exact ⟨ret_bool (by rw [← HG.out]; rfl), rfl⟩
end Go.Proofs.YtphmknhlibampaaDoor

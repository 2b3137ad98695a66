/-
  Texts of this claim, one behind the other: part 0.
-/
import Derived.Test.YtkdhjejchdcipaaDoorRows
import Derived.WalkKit
import Derived.ProofKit
import Derived.Below
import Derived.Lib.Hide
import Derived.Outline
import Derived.Deep.QuietTactic
import Derived.Deep.Draws
import Derived.BigQuiet
import Derived.Laws.AppendOwn
import Derived.Laws.OwnMore
import Derived.Laws.AppendOwnNone
import Derived.LoopTactic
import Derived.OwnWalk
import Derived.DataShut
import Derived.Laws.IdiomStrings
import Derived.Lib.Join
import Derived.Lib.ItoaNum
import Derived.Laws.BitsAllLaws
import Derived.Laws.BitsLemmas
import Derived.Laws.RangeAny
import Derived.Lib.Strings
/-
  Words for slices of bytes: 'Own': a slice that the call made and may write; 'Bytes': a slice that is read. Laws for append onto an owned one.
-/
namespace Go.Proofs.YtkdhjejchdcipaaDoor
open Go.RowKit
set_option linter.unusedVariables false
set_option maxRecDepth 100000

theorem ret_bool {a b : Bool} (h : a = b) : Ending.returned (.bool a) = .returned (.bool b) := by rw [h]
theorem ret_int {k : IntKind} {a b : Int} (h : a = b) : Ending.returned (.int k a) = .returned (.int k b) := by rw [h]

theorem u8_wf {n : Int} (h : (Lit.int .u8 n).wf = true) : 0 ≤ n ∧ n < 256 := by
  have := (Lit.wf_int_iff _ _).1 h
  rw [show IntKind.u8.min = 0 from rfl, show IntKind.u8.max = 255 from rfl] at this
  omega
theorem u64_wf {n : Int} (h : (Lit.int .u64 n).wf = true) : 0 ≤ n ∧ n < 18446744073709551616 := by
  have := (Lit.wf_int_iff _ _).1 h
  rw [show IntKind.u64.min = 0 from rfl, show IntKind.u64.max = 18446744073709551615 from rfl] at this
  omega
theorem i64_wf {n : Int} (h : (Lit.int .i64 n).wf = true) : -9223372036854775808 ≤ n ∧ n < 9223372036854775808 := by
  have := (Lit.wf_int_iff _ _).1 h
  rw [show IntKind.i64.min = -9223372036854775808 from rfl, show IntKind.i64.max = 9223372036854775807 from rfl] at this
  omega
theorem below_drewN {B : Nat} {w a : World} (h : Below B a w) (n : Nat) : Below B a (w.drewN n) := ⟨h.os, h.tape, h.output, h.size, h.block⟩
theorem byte_info : (Tryd.prog.info? 5).map (fun i => (i.zero, i.size, i.bytes)) = some (some (.int .u8 0), 1, 1) := by kernel_rfl
def U8 (x : Nat) : Value := .int .u8 (x : Int)
theorem U8_one (u : Value) (l : List Nat) (h : u ∈ l.map U8) : u.oneCell' = true := by
  obtain ⟨x, _, rfl⟩ := List.mem_map.1 h; rfl

/-- A slice of bytes that the call made, from block B on. -/
def Own (B : Nat) (w : World) (v : Value) (l : List Nat) : Prop := w.ownsRow B 5 1 v l.length (l.map U8)

/-- A slice of bytes that is read, below block C. -/
def Bytes (w : World) (C : Nat) (A : Option Addr) (n c : Nat) (l : List Nat) : Prop :=
  l.length = n ∧ n ≤ c ∧ c ≤ maxLen ∧ (∀ x ∈ l, x < 256) ∧ (0 < n → ∃ b off, A = some ⟨b, off, none⟩ ∧ b < C ∧ ∀ j (h : j < l.length), w.cell? ⟨b, off + j, none⟩ = some (.int .u8 (l[j] : Int)))

section
variable {w w' : World} {B C n c : Nat} {A : Option Addr} {v : Value} {l : List Nat}

theorem Own.nil (w : World) (B : Nat) : Own B w (.slice none 0 0) [] := World.ownsRow_nil w B _ _
theorem Own.below (h : Own B w v l) (hb : Below w.heap.size w w') : Own B w' v l :=
  World.ownsRow.kept (row := none) h ⟨hb.os, hb.tape, hb.output, hb.size, fun k hk _ => hb.block k hk⟩ (by cases v.ownBlock <;> simp)
theorem Own.drewN (h : Own B w v l) (k : Nat) : Own B (w.drewN k) v l := h
theorem Own.alloc (h : Own B w v l) (o : Obj) : Own B (w.alloc o) v l := World.ownsRow.alloc h o
theorem Own.base {B' : Nat} (h : Own B w v l) (hB : B' ≤ B) : Own B' w v l := by
  obtain ⟨h1, h2⟩ := h
  refine ⟨h1, ?_⟩
  rcases h2 with h2 | ⟨g, cap, cur, hv, hg, r⟩
  · exact .inl h2
  · exact .inr ⟨g, cap, cur, hv, by omega, r⟩
theorem Own.bytes (h : Own B w v l) (hl : ∀ x ∈ l, x < 256) : ∃ A c, v = .slice A l.length c ∧ Bytes w w.heap.size A l.length c l := by
  obtain ⟨h1, h2⟩ := h
  rcases h2 with ⟨rfl, h0⟩ | ⟨g, cap, cur, rfl, hg, hh, hn, hc, hs, ht⟩
  · exact ⟨none, 0, by rw [h0], rfl, by omega, by simp [maxLen], hl, fun h => absurd h (by omega)⟩
  · refine ⟨_, cap, rfl, rfl, hn, hc, hl, fun _ => ⟨g, 0, rfl, (Array.getElem?_eq_some_iff.1 hh).1, fun j hj => ?_⟩⟩
    rw [Nat.zero_add, cell_of_row w g j cur _ (0, 0) hh]
    have e : (l.map U8)[j]? = some (U8 l[j]) := by simp [hj]
    rw [← ht, List.getElem?_take] at e
    split at e
    · simpa [U8] using e
    · cases e

theorem Bytes.below (h : Bytes w C A n c l) (hb : Below C w w') : Bytes w' C A n c l := by
  obtain ⟨h1, h2, h3, h4, h5⟩ := h
  refine ⟨h1, h2, h3, h4, fun hn => ?_⟩
  obtain ⟨b, off, e, hb', hc⟩ := h5 hn
  exact ⟨b, off, e, hb', fun j hj => (hb.cell (p := ⟨b, off + j, none⟩) hb').trans (hc j hj)⟩
theorem Bytes.more {C' : Nat} (h : Bytes w C A n c l) (hC : C ≤ C') : Bytes w C' A n c l := by
  obtain ⟨h1, h2, h3, h4, h5⟩ := h
  refine ⟨h1, h2, h3, h4, fun hn => ?_⟩
  obtain ⟨b, off, e, hb', hc⟩ := h5 hn
  exact ⟨b, off, e, by omega, hc⟩
theorem Bytes.drewN (h : Bytes w C A n c l) (k : Nat) : Bytes (w.drewN k) C A n c l := h
theorem Bytes.at_ (h : Bytes w C A n c l) (hn : 0 < n) : ∃ b off, A = some ⟨b, off, none⟩ ∧ b < C ∧ ∀ j (h : j < l.length), w.cell? ⟨b, off + j, none⟩ = some (.int .u8 (l[j] : Int)) := h.2.2.2.2 hn
theorem Bytes.none_ (w : World) (C : Nat) : Bytes w C none 0 0 [] := ⟨rfl, Nat.le_refl _, by simp [maxLen], by simp, fun h => absurd h (by omega)⟩

theorem info_byte : ∃ i, Tryd.prog.info? 5 = some i ∧ i.zero = some (.int .u8 0) ∧ i.size = 1 ∧ i.bytes = 1 := by
  obtain ⟨i0, hi0, hz0, hz1, hz2⟩ := info_parts byte_info
  exact ⟨i0, hi0, hz0, hz1, hz2⟩

/-- 'append(v, y)' of one byte: the walk's world holds the byte in a new block. -/
theorem push_arm {ops : Array Oper} {rest : List Oper} {o : Oper} {a : Act} {Q : Exit → Act → World → Prop} (hgd : o.guard = none) (s x : Operand)
    (ho : o.op = .call { callee := .builtin .append, args := #[s, x], argTypes := #[54, 54] }) (wr : World) (y : Nat) (yv : Int)
    (hs : a.eval s = v) (hx : a.eval x = .slice (some ⟨wr.heap.size, 0, none⟩) 1 1) (hown : Own B wr v l) (hB : B ≤ wr.heap.size) (hl : l.length < 1000000)
    (h : ∀ v' w', Own B w' v' (l ++ [y]) → wr.grownBy w' v.ownBlock → wpList Tryd.prog ops Q rest (a.put o.dst v') w') (hy : yv = (y : Int)) :
    wpList Tryd.prog ops Q (o :: rest) a (wr.alloc (.cells #[.int .u8 yv] 5)) := by
  obtain ⟨i0, hi0, hz0, hz1, hz2⟩ := info_byte
  subst hy
  refine wpList_append_own _ hgd s x 54 ho B 5 i0 (.int .u8 0) 1 1 Tryd.underlying54 hi0 hz0 hz1 hz2 rfl (by decide) v l.length (l.map U8) hs (World.ownsRow.alloc hown _) ⟨wr.heap.size, 0, none⟩ 1 1 [U8 y] hx rfl ?_ ?_ (by simp only [maxLen]; omega) (by omega) (by simp; omega) ?_
  · intro j u hu
    cases j with
    | succ j => simp at hu
    | zero =>
      simp at hu
      subst hu
      show (wr.alloc _).cell? ((⟨wr.heap.size, 0, none⟩ : Addr).add 0) = _
      rw [show ((⟨wr.heap.size, 0, none⟩ : Addr).add 0) = ⟨wr.heap.size, 0, none⟩ from rfl, World.cell?_alloc_at _ _ _ _ rfl]; rfl
  · intro u hu; simp at hu; subst hu; rfl
  · intro v' w' hown' hg _
    refine h v' w' (by simpa [Own, U8] using hown') ⟨hg.os, hg.tape, hg.output, Nat.le_trans (by simp) hg.size, fun k hk hne => ?_⟩
    rw [hg.block k (by simp; omega) hne]
    exact Below.heap_alloc wr _ k hk

/-- What an append does to the frame. -/
theorem Own.grown {W wr w' : World} (hown : Own B wr v l) (hg : wr.grownBy w' v.ownBlock) (hC : C ≤ B) (hC' : C ≤ wr.heap.size) (hb : Below C W wr) : Below C W w' :=
  hb.grown hg hC' (fun k hk => by have := (World.ownsRow.lt hown k hk).1; omega)

/-- The string of some bytes. -/
def str (l : List Nat) : ByteArray := ⟨(l.map UInt8.ofNat).toArray⟩
theorem run_str (w : World) (h : Bytes w C A n c l) : (convert 54 9 (.slice A n c)).run Tryd.prog w = .ok (.string (str l)) w := by
  obtain ⟨h1, h2, h3, h4, h5⟩ := h
  subst h1
  rcases Nat.eq_zero_or_pos l.length with h0 | h0
  · have hl : l = [] := List.eq_nil_of_length_eq_zero h0
    subst hl
    rw [run_convert_bytes_string w _ _ 5 A _ c Tryd.underlying54 Tryd.underlying5 Tryd.underlying9]
    cases A with
    | none => simp [Conv.bytesToString, str]; rfl
    | some a =>
      have := run_bytesToString (P := Tryd.prog) w a 0 c [] (by simp [loadCells, loadCellsFrom, Sem.run_pure])
      exact this
  · obtain ⟨b, off, rfl, hb, hc⟩ := h5 h0
    have := run_convert_bytes_back (P := Tryd.prog) w 54 9 5 ⟨b, off, none⟩ c (l.map UInt8.ofNat) Tryd.underlying54 Tryd.underlying5 Tryd.underlying9 (fun j hj => by
      have hj' : j < l.length := by simpa using hj
      rw [Addr.add_lit, hc j hj']
      have hx := h4 l[j] (List.getElem_mem hj')
      simp [Nat.mod_eq_of_lt hx])
    rw [List.length_map] at this
    exact this
theorem Own.str (h : Own B w v l) (hl : ∀ x ∈ l, x < 256) : (convert 54 9 v).run Tryd.prog w = .ok (.string (str l)) w := by
  obtain ⟨A, c, rfl, hb⟩ := h.bytes hl
  exact run_str w hb

/-- A row of bytes that was just laid. -/
theorem bytes_new (w : World) (l : List Nat) (hl : ∀ x ∈ l, x < 256) (hm : l.length < 1000000) : Bytes (w.alloc (.cells (l.map U8).toArray 5)) (w.heap.size + 1) (some ⟨w.heap.size, 0, none⟩) l.length l.length l := by
  refine ⟨rfl, Nat.le_refl _, by simp only [maxLen]; omega, hl, fun _ => ⟨_, 0, rfl, by omega, fun j hj => ?_⟩⟩
  rw [Nat.zero_add, World.cell?_alloc_at _ _ _ _ rfl]
  simp [hj, U8]

theorem Own.form (h : Own B w v l) : ∃ A c, v = .slice A l.length c := by
  obtain ⟨h1, h2⟩ := h
  rcases h2 with ⟨rfl, h0⟩ | ⟨g, cap, cur, rfl, _⟩
  · exact ⟨none, 0, by rw [h0]⟩
  · exact ⟨_, cap, rfl⟩
theorem Own.empty (w : World) (hB : B ≤ w.heap.size) : Own B (w.alloc (.cells #[] 5)) (.slice (some ⟨w.heap.size, 0, none⟩) 0 0) [] := World.ownsRow_made w #[] 0 hB (by simp [maxLen]) rfl
theorem Own.toBytes {A : Option Addr} (h : Own B w (.slice A n c) l) (hl : ∀ x ∈ l, x < 256) : Bytes w w.heap.size A n c l := by
  obtain ⟨A', c', e, hb⟩ := h.bytes hl
  injection e with e1 e2 e3
  subst e1 e2 e3
  exact hb
theorem Own.sliceLen {A : Option Addr} (h : Own B w (.slice A n c) l) : n = l.length := by
  obtain ⟨A', c', e⟩ := h.form
  injection e

/-- 'append(v, y)' of one byte, the slice written out. -/
theorem push_slice {ops : Array Oper} {rest : List Oper} {o : Oper} {a : Act} {Q : Exit → Act → World → Prop} (hgd : o.guard = none) (s x : Operand)
    (ho : o.op = .call { callee := .builtin .append, args := #[s, x], argTypes := #[54, 54] }) (wr : World) (z : Nat) (hz : z = wr.heap.size) (y : Nat) (yv : Int)
    (hs : a.eval s = v) (hx : a.eval x = .slice (some ⟨z, 0, none⟩) 1 1) (hown : Own B wr v l) (hB : B ≤ wr.heap.size) (hl : l.length < 1000000) (k : Nat) (hk : l.length + 1 = k)
    (h : ∀ A' c' w', Own B w' (.slice A' k c') (l ++ [y]) → wr.grownBy w' v.ownBlock → wpList Tryd.prog ops Q rest (a.put o.dst (.slice A' k c')) w') (hy : yv = (y : Int)) :
    wpList Tryd.prog ops Q (o :: rest) a (wr.alloc (.cells #[.int .u8 yv] 5)) := by
  subst hz
  refine push_arm hgd s x ho wr y yv hs hx hown hB hl ?_ hy
  intro v' w' h1 h2
  obtain ⟨A', c', rfl⟩ := h1.form
  rw [List.length_append, List.length_singleton, hk] at *
  exact h A' c' w' h1 h2

/-- 'append(v, b...)'. -/
theorem cat_slice {ops : Array Oper} {rest : List Oper} {o : Oper} {a : Act} {Q : Exit → Act → World → Prop} (hgd : o.guard = none) (s x : Operand)
    (ho : o.op = .call { callee := .builtin .append, args := #[s, x], argTypes := #[54, 54] }) (wr : World) (l2 : List Nat) (m : Nat)
    (hs : a.eval s = v) (hx : a.eval x = .slice A m c) (hown : Own B wr v l) (hb : Bytes wr C A m c l2) (hB : B ≤ wr.heap.size) (k : Nat) (hl : k < 1000000000000) (hk : l.length + m = k)
    (h : ∀ A' c' w', Own B w' (.slice A' k c') (l ++ l2) → wr.grownBy w' v.ownBlock → wpList Tryd.prog ops Q rest (a.put o.dst (.slice A' k c')) w') :
    wpList Tryd.prog ops Q (o :: rest) a wr := by
  obtain ⟨i0, hi0, hz0, hz1, hz2⟩ := info_byte
  obtain ⟨hm, hmc, hcm, hlt, hcell⟩ := hb
  subst hm
  subst hk
  rcases A with _ | ad
  · have hl2 : l2 = [] := by
      rcases Nat.eq_zero_or_pos l2.length with h0 | h0
      · exact List.eq_nil_of_length_eq_zero h0
      · obtain ⟨b, off, e, _⟩ := hcell h0; cases e
    subst hl2
    refine wpList_plain hgd fun K hK => ?_
    have hrun : (Builtin.append_ #[54, 54] o.type #[v, .slice none 0 c]).run Tryd.prog wr = .ok v wr := by
      rcases hown.2 with ⟨rfl, h0⟩ | ⟨g, cap, cur, rfl, _, _, hnc, _⟩
      · simp [Builtin.append_, run_underlying Tryd.underlying54, sizeOf, typeInfo, hi0, Builtin.lenOf, Builtin.firstCells]
      · simp [Builtin.append_, run_underlying Tryd.underlying54, sizeOf, typeInfo, hi0, Builtin.lenOf, Builtin.firstCells, hnc, storeCells]
    obtain ⟨A', c', e⟩ := hown.form
    have h2 := h A' c' wr (by simpa [← e] using hown) ⟨rfl, rfl, rfl, Nat.le_refl _, fun _ _ _ => rfl⟩
    simp only [List.length_nil, Nat.add_zero, ← e] at h2
    unfold Oper.wp execOp
    simp only [ho, resolve, invoke, builtin, Sem.run_bind, Sem.run_pure, Result.andThen_ok, List.map_toArray, List.map_cons, List.map_nil, hs, hx, List.length_nil, hrun]
    exact hK _ _ h2
  · refine wpList_append_own _ hgd s x 54 ho B 5 i0 (.int .u8 0) 1 1 Tryd.underlying54 hi0 hz0 hz1 hz2 rfl (by decide) v l.length (l.map U8) hs hown ad l2.length c (l2.map U8) hx (by simp) ?_ (fun u hu => U8_one u l2 hu) (by simp only [maxLen]; omega) (by omega) hB ?_
    · intro j u hu
      have hj : j < l2.length := by
        have := (List.getElem?_eq_some_iff.1 hu).1
        simpa using this
      obtain ⟨b, off, e, hbC, hc⟩ := hcell (by omega)
      injection e with e
      subst e
      rw [Addr.add_lit, hc j hj]
      simp [List.getElem?_eq_getElem hj, U8] at hu ⊢
      exact hu
    · intro v' w' hown' hg _
      have h1 : Own B w' v' (l ++ l2) := by simpa [Own] using hown'
      obtain ⟨A', c', rfl⟩ := h1.form
      rw [List.length_append] at *
      exact h A' c' w' h1 hg

/-- What the shells know of a slice of bytes that came in. -/
theorem bytes_of_row (W : World) (a : Option Addr) (len cap : Nat) (zs : List Int) (h : (a = none ∧ len = 0 ∧ cap = 0 ∧ zs = []) ∨
    ∃ x, a = some x ∧ len ≤ cap ∧ cap ≤ maxLen ∧ zs.length = cap ∧ (∀ i, i < zs.length → W.cell? (x.add i) = some (.int .u8 (zs.getD i 0))) ∧ ∀ n ∈ zs, (Lit.int .u8 n).wf = true) :
    Bytes W W.heap.size a len cap ((zs.take len).map Int.toNat) := by
  rcases h with ⟨rfl, rfl, rfl, rfl⟩ | ⟨x, rfl, hl, hm, hz, hc, hwf⟩
  · exact Bytes.none_ W _
  · refine ⟨by simp; omega, hl, hm, ?_, fun h0 => ?_⟩
    · intro y hy
      obtain ⟨z, hz', rfl⟩ := List.mem_map.1 hy
      have := u8_wf (hwf z (List.mem_of_mem_take hz'))
      omega
    · obtain ⟨b, off, spot⟩ := x
      have h00 := hc 0 (by omega)
      have hspot : spot = none := by simpa [Addr.add] using World.cell?_spot h00
      subst hspot
      refine ⟨b, off, rfl, World.block_lt_of_cell? W ⟨b, off + 0, none⟩ (by rw [← Addr.add_lit]; exact h00), fun j hj => ?_⟩
      have hj' : j < len := by simp at hj; omega
      have hcj := hc j (by omega)
      rw [Addr.add_lit] at hcj
      rw [hcj]
      have hzj : j < zs.length := by omega
      have := u8_wf (hwf zs[j] (List.getElem_mem hzj))
      simp [List.getElem?_eq_getElem hzj]
      omega

theorem Own.open_ {A : Option Addr} (h : Own B w (.slice A n c) l) (hn : 0 < n) : ∃ g, A = some ⟨g, 0, none⟩ ∧ B ≤ g ∧ g < w.heap.size ∧
    (∀ j (hj : j < l.length), w.cell? ⟨g, j, none⟩ = some (.int .u8 (l[j] : Int))) ∧ (∀ j, w.frozen? ⟨g, j, none⟩ = false) ∧
    ∀ (j y : Nat), Own B (w.setCell ⟨g, j, none⟩ (.int .u8 (y : Int))) (.slice A n c) (l.set j y) := by
  have e := h.sliceLen
  subst e
  have h' := h
  obtain ⟨h1, h2⟩ := h
  rcases h2 with ⟨he, h0⟩ | ⟨g, cap, cur, he, hg, hh, r⟩
  · omega
  · injection he with e1 _ e3
    subst e1 e3
    refine ⟨g, rfl, hg, (Array.getElem?_eq_some_iff.1 hh).1, fun j hj => ?_, fun j => World.ownsRow.frozenAt h' j, fun j y => ?_⟩
    · rw [World.ownsRow.cellAt h' j (by omega)]
      simp [hj, U8]
    · have := (World.ownsRow.stored h' j (U8 y)).1
      show World.ownsRow _ _ _ _ _ _ _
      rw [List.length_set, List.map_set]
      exact this
theorem Bytes.take {A : Option Addr} {k : Nat} (h : Bytes w C A n c l) (hk : k ≤ n) : Bytes w C A k c (l.take k) := by
  obtain ⟨h1, h2, h3, h4, h5⟩ := h
  refine ⟨by rw [List.length_take]; omega, by omega, h3, fun x hx => h4 x (List.mem_of_mem_take hx), fun h0 => ?_⟩
  obtain ⟨b, off, e, hb, hc⟩ := h5 (by omega)
  refine ⟨b, off, e, hb, fun j hj => ?_⟩
  have hj' : j < l.length := by rw [List.length_take] at hj; omega
  rw [hc j hj', List.getElem_take]

theorem Own.lit1 (w : World) (hB : B ≤ w.heap.size) (y : Nat) : Own B (w.alloc (.cells #[.int .u8 (y : Int)] 5)) (.slice (some ⟨w.heap.size, 0, none⟩) 1 1) [y] :=
  World.ownsRow_lit w #[U8 y] 1 hB (by simp [maxLen]) rfl
end
end Go.Proofs.YtkdhjejchdcipaaDoor
/-
  Layer 4, plain: the types of the language as plain data, what is plain, and their writing.
-/
namespace Go.Proofs.YtkdhjejchdcipaaDoor
open Go.RowKit
set_option linter.unusedVariables false
set_option maxRecDepth 100000

structure Hp where
  k : Int
  n : Int
deriving DecidableEq
structure Vl where
  k : Int
  nu : Bool
  h : Hp
deriving DecidableEq
structure Fd where
  pk : Int
  v : Vl
  mu : Bool
deriving DecidableEq
structure Cp where
  k : Int
  ps : List Vl
  rs : List Vl
  fs : List Fd
deriving DecidableEq
structure Sb where
  fin : Bool
  sups : List Hp
  c : Cp
deriving DecidableEq

namespace Kd
def given (k : Int) : Bool := decide (1 ≤ k) && decide (k ≤ 12)
def pIdx (h : Hp) : Bool := decide (h.k = 13) && (decide (0 ≤ h.n) && decide (h.n ≤ 4294967295))
def pHeap (h : Hp) : Bool := if given h.k then decide (h.n = 0) else pIdx h
def pVal (v : Vl) : Bool := if v.k = 1 then decide (v = ⟨1, false, ⟨0, 0⟩⟩) else if v.k = 2 then decide (v = ⟨2, false, ⟨0, 0⟩⟩) else if v.k = 3 then pHeap v.h else false
def pField (f : Fd) : Bool := if f.pk = 0 then pVal f.v else if f.pk = 8 ∨ f.pk = 16 then decide (f.v = ⟨1, false, ⟨0, 0⟩⟩) else false
def takes (c : Cp) : Bool := decide (0 < c.ps.length + c.rs.length)
def pComp (c : Cp) : Bool := if c.k = 1 then c.ps.all pVal && (c.rs.all pVal && decide (c.fs.length = 0)) else if c.k = 2 then !takes c && c.fs.all pField
  else if c.k = 3 then !takes c && (decide (c.fs.length = 1) && c.fs.all pField) else false
def pSub (s : Sb) : Bool := s.sups.all pIdx && pComp s.c
def first (v : Vl) : Bool := decide (v.k = 1) || (decide (v.k = 2) || (decide (v.k = 3) && v.nu))
/-- No list of a type is longer than this. -/
structure Small (s : Sb) : Prop where
  a : s.sups.length ≤ 10000
  p : s.c.ps.length ≤ 10000
  r : s.c.rs.length ≤ 10000
  f : s.c.fs.length ≤ 10000

/-- The writing. -/
def nm (k : Int) : List UInt8 :=
  if k = 1 then [97, 110, 121] else if k = 2 then [101, 113] else if k = 3 then [105, 51, 49] else if k = 4 then [115, 116, 114, 117, 99, 116] else if k = 5 then [97, 114, 114, 97, 121]
  else if k = 6 then [110, 111, 110, 101] else if k = 7 then [102, 117, 110, 99] else if k = 8 then [110, 111, 102, 117, 110, 99] else if k = 9 then [101, 120, 116, 101, 114, 110]
  else if k = 10 then [110, 111, 101, 120, 116, 101, 114, 110] else if k = 11 then [101, 120, 110] else [110, 111, 101, 120, 110]
def hT (h : Hp) : List UInt8 := if h.k = 13 then Lib.itoa h.n else nm h.k
def vT (v : Vl) : List UInt8 := if v.k = 1 then [105, 51, 50] else if v.k = 2 then [105, 54, 52]
  else if v.nu then [40, 114, 101, 102, 32, 110, 117, 108, 108, 32] ++ hT v.h ++ [41] else [40, 114, 101, 102, 32] ++ hT v.h ++ [41]
def sT (pk : Int) (v : Vl) : List UInt8 := if pk = 8 then [105, 56] else if pk = 16 then [105, 49, 54] else vT v
def fT (f : Fd) : List UInt8 := if f.mu then [40, 109, 117, 116, 32] ++ sT f.pk f.v ++ [41] else sT f.pk f.v
/-- Parts, each behind a blank. -/
def sp (l : List (List UInt8)) : List UInt8 := l.flatMap (32 :: ·)
def br (x : List UInt8) (l : List (List UInt8)) : List UInt8 := 40 :: (x ++ sp l) ++ [41]
def some_ (x : List UInt8) (l : List (List UInt8)) : List (List UInt8) := if l = [] then [] else [br x l]
def cT (c : Cp) : List UInt8 := if c.k = 1 then br [102, 117, 110, 99] (some_ [112, 97, 114, 97, 109] (c.ps.map vT) ++ some_ [114, 101, 115, 117, 108, 116] (c.rs.map vT))
  else if c.k = 2 then br [115, 116, 114, 117, 99, 116] (c.fs.map fT) else br [97, 114, 114, 97, 121] (c.fs.map fT)
def tT (s : Sb) : List UInt8 := br [115, 117, 98] ((if s.fin then [[102, 105, 110, 97, 108]] else []) ++ s.sups.map hT ++ [cT s.c])

theorem join_sp (x : List UInt8) (l : List (List UInt8)) : Lib.join (x :: l) [32] = x ++ sp l := by
  induction l generalizing x with
  | nil => simp [Lib.join, sp]
  | cons y r ih =>
    have h := ih y
    unfold Lib.join at h ⊢
    rw [show [32].intercalate (x :: y :: r) = x ++ ([32] ++ [32].intercalate (y :: r)) by simp [List.intercalate, List.intersperse], h]
    simp [sp]
end Kd
end Go.Proofs.YtkdhjejchdcipaaDoor
/-
  PLAIN: numbers as bytes, as lists of natural numbers. No Go in sight.
-/
namespace Go.Proofs.YtkdhjejchdcipaaDoor.Leb
set_option linter.unusedVariables false

/-- The shortest bytes of an unsigned number. -/
def putU (n : Nat) : List Nat := if n < 128 then [n] else (n % 128 + 128) :: putU (n / 128)
termination_by n
decreasing_by omega

/-- The shortest bytes of a signed number. -/
def putS (n : Int) : List Nat := if -64 ≤ n ∧ n < 64 then [(n % 128).toNat] else ((n % 128).toNat + 128) :: putS (n / 128)
termination_by n.natAbs
decreasing_by omega

def fits (sg : Bool) (x left : Nat) : Bool :=
  if sg then decide (x / 2 ^ min (left - 1) 8 = 0) || decide (x / 2 ^ min (left - 1) 8 = 127 / 2 ^ min (left - 1) 8)
  else decide (x / 2 ^ min left 8 = 0)

/-- What is read is extended by its highest place. -/
def ext (sg : Bool) (n r : Nat) : Nat := if sg && decide (n / 2 ^ min (r - 1) 64 % 2 = 1) then n + (18446744073709551616 - 2 ^ min r 64) else n

/-- The number, the place behind it, the error. -/
def rd (bits : Nat) (sg : Bool) : List Nat → Nat → Nat → Nat → Nat × Nat × Nat
  | [], _, _, _ => (0, 0, 10)
  | x :: l, at_, place, n =>
    if fits sg (x % 128) (bits - place) then
      if x < 128 then (ext sg ((n + x % 128 * 2 ^ place) % 18446744073709551616) (place + 7), at_ + 1, 0)
      else if bits ≤ place + 7 then (0, 0, 11) else rd bits sg l (at_ + 1) (place + 7) ((n + x % 128 * 2 ^ place) % 18446744073709551616)
    else (0, 0, 11)

/-- A word as the signed number that it is in two's complement. -/
def sOf (n : Nat) : Int := if n < 9223372036854775808 then n else (n : Int) - 18446744073709551616

theorem putU_lo {n : Nat} (h : n < 128) : putU n = [n] := by rw [putU, if_pos h]
theorem putU_hi {n : Nat} (h : ¬ n < 128) : putU n = (n % 128 + 128) :: putU (n / 128) := by rw [putU, if_neg h]
theorem putS_lo {n : Int} (h : -64 ≤ n ∧ n < 64) : putS n = [(n % 128).toNat] := by rw [putS, if_pos h]
theorem putS_hi {n : Int} (h : ¬(-64 ≤ n ∧ n < 64)) : putS n = ((n % 128).toNat + 128) :: putS (n / 128) := by rw [putS, if_neg h]
theorem putU_lt (n : Nat) : ∀ x ∈ putU n, x < 256 := by
  fun_induction putU n with
  | case1 n h => intro x hx; simp at hx; omega
  | case2 n h ih => intro x hx; simp at hx; rcases hx with rfl | hx; · omega
                    · exact ih x hx
theorem putS_lt (n : Int) : ∀ x ∈ putS n, x < 256 := by
  fun_induction putS n with
  | case1 n h => intro x hx; simp at hx; omega
  | case2 n h ih => intro x hx; simp at hx; rcases hx with rfl | hx; · omega
                    · exact ih x hx
theorem putU_len (n : Nat) (k : Nat) (h : n < 128 ^ k) : 1 ≤ k → (putU n).length ≤ k := by
  fun_induction putU n generalizing k with
  | case1 n h => intro hk; simpa using hk
  | case2 n h ih =>
    intro hk
    cases k with
    | zero => omega
    | succ k =>
      have h2 : n / 128 < 128 ^ k := by rw [Nat.pow_succ] at *; omega
      have hk1 : 1 ≤ k := by
        rcases Nat.eq_zero_or_pos k with rfl | hk'
        · simp at h2; omega
        · exact hk'
      have := ih k h2 hk1
      simp; omega
theorem putU_pos (n : Nat) : 1 ≤ (putU n).length := by rw [putU]; split <;> simp
theorem putS_pos (n : Int) : 1 ≤ (putS n).length := by rw [putS]; split <;> simp
theorem putU_len10 (n : Nat) (h : n < 18446744073709551616) : (putU n).length ≤ 10 := putU_len n 10 (by omega) (by omega)
theorem putS_len (n : Int) (k : Nat) (h : -(64 * 128 ^ k) ≤ n ∧ n < 64 * 128 ^ k) : (putS n).length ≤ k + 1 := by
  fun_induction putS n generalizing k with
  | case1 n h => simp
  | case2 n h ih =>
    cases k with
    | zero => simp at h; omega
    | succ k =>
      have e : (64 * 128 ^ (k + 1) : Int) = 128 * (64 * 128 ^ k) := by rw [Int.pow_succ]; omega
      rw [e] at h
      have := ih k (by omega)
      simp; omega
theorem putS_len10 (n : Int) (h : -9223372036854775808 ≤ n ∧ n < 9223372036854775808) : (putS n).length ≤ 10 := putS_len n 9 (by simp; omega)

end Go.Proofs.YtkdhjejchdcipaaDoor.Leb
/-
  PLAIN: names: code points as bytes, as lists of natural numbers. No Go in sight.
-/
namespace Go.Proofs.YtkdhjejchdcipaaDoor.Nm
set_option linter.unusedVariables false

def cont (x : Nat) : Bool := decide (128 ≤ x) && decide (x ≤ 191)
/-- The k bytes behind the first one go on with it. -/
def conts (l : List Nat) : Nat → Bool
  | 0 => true
  | k + 1 => conts l k && cont (l.getD (k + 1) 0)
/-- The number that the first byte's bits and those of k more are. -/
def val (c0 : Nat) (l : List Nat) : Nat → Nat
  | 0 => c0
  | k + 1 => val c0 l k * 64 + l.getD (k + 1) 0 - 128
def okc (least c : Nat) : Bool := decide (least ≤ c) && decide (c ≤ 1114111) && !(decide (55296 ≤ c) && decide (c ≤ 57343))
def gen (n least c0 : Nat) (l : List Nat) : Nat := if decide (n ≤ l.length) && conts l (n - 1) && okc least (val c0 l (n - 1)) then n else 0
/-- How many bytes the code point ahead has; 0: there is none. -/
def one (l : List Nat) : Nat :=
  if l.length = 0 then 0
  else if l.getD 0 0 < 128 then 1
  else if l.getD 0 0 < 192 then 0
  else if l.getD 0 0 < 224 then gen 2 128 (l.getD 0 0 - 192) l
  else if l.getD 0 0 < 240 then gen 3 2048 (l.getD 0 0 - 224) l
  else if l.getD 0 0 < 248 then gen 4 65536 (l.getD 0 0 - 240) l
  else 0

theorem conts_1 (l : List Nat) : conts l (2 - 1) = cont (l.getD 1 0) := rfl
theorem conts_2 (l : List Nat) : conts l (3 - 1) = (cont (l.getD 1 0) && cont (l.getD 2 0)) := rfl
theorem conts_3 (l : List Nat) : conts l (4 - 1) = (cont (l.getD 1 0) && cont (l.getD 2 0) && cont (l.getD 3 0)) := rfl
theorem val_0 (c0 : Nat) (l : List Nat) : val c0 l 0 = c0 := rfl
theorem val_succ (c0 : Nat) (l : List Nat) (k : Nat) : val c0 l (k + 1) = val c0 l k * 64 + l.getD (k + 1) 0 - 128 := rfl
theorem val_1 (c0 : Nat) (l : List Nat) : val c0 l (2 - 1) = c0 * 64 + l.getD 1 0 - 128 := val_succ c0 l 0
theorem val_2 (c0 : Nat) (l : List Nat) : val c0 l (3 - 1) = (c0 * 64 + l.getD 1 0 - 128) * 64 + l.getD 2 0 - 128 := val_succ c0 l 1
theorem val_3 (c0 : Nat) (l : List Nat) : val c0 l (4 - 1) = ((c0 * 64 + l.getD 1 0 - 128) * 64 + l.getD 2 0 - 128) * 64 + l.getD 3 0 - 128 := val_succ c0 l 2
theorem gen_le (n least c0 : Nat) (l : List Nat) : gen n least c0 l ≤ l.length := by
  unfold gen
  split
  · next h => simp at h; omega
  · omega
theorem one_le (l : List Nat) : one l ≤ l.length := by
  unfold one
  repeat' split
  all_goals first | exact gen_le _ _ _ _ | omega
/-- How many code points; -1: the bytes are not well-formed. -/
def cnt (l : List Nat) : Int :=
  if h : l.length = 0 then 0
  else if h2 : one l = 0 then -1
  else if cnt (l.drop (one l)) < 0 then -1 else cnt (l.drop (one l)) + 1
termination_by l.length
decreasing_by all_goals (rw [List.length_drop]; omega)

theorem cnt_nil : cnt [] = 0 := by rw [cnt]; simp
theorem cnt_bad {l : List Nat} (h : l.length ≠ 0) (h2 : one l = 0) : cnt l = -1 := by rw [cnt, dif_neg h, dif_pos h2]
theorem one_pos {l : List Nat} (h2 : one l ≠ 0) : l.length ≠ 0 := by have := one_le l; omega
theorem cnt_step {l : List Nat} (h2 : one l ≠ 0) : cnt l = if cnt (l.drop (one l)) < 0 then -1 else cnt (l.drop (one l)) + 1 := by
  rw [cnt, dif_neg (one_pos h2), dif_neg h2]
theorem cnt_ge (l : List Nat) : -1 ≤ cnt l := by
  fun_induction cnt l with
  | case1 => omega
  | case2 => omega
  | case3 => omega
  | case4 => omega
theorem cnt_le (l : List Nat) : cnt l ≤ l.length := by
  fun_induction cnt l with
  | case1 => omega
  | case2 => omega
  | case3 => omega
  | case4 l h h2 h3 ih => have := one_le l; rw [List.length_drop] at ih; omega
def well (l : List Nat) : Bool := decide (0 ≤ cnt l)
theorem well_nil : well [] = true := by simp [well, cnt_nil]

theorem one_none {l : List Nat} (h : l.length = 0) : one l = 0 := by unfold one; rw [if_pos h]
theorem one_lo {l : List Nat} (h : l.length ≠ 0) (h1 : l.getD 0 0 < 128) : one l = 1 := by unfold one; rw [if_neg h, if_pos h1]
theorem one_mid {l : List Nat} (h : l.length ≠ 0) (h1 : 128 ≤ l.getD 0 0) (h2 : l.getD 0 0 < 192 ∨ 248 ≤ l.getD 0 0) : one l = 0 := by
  unfold one
  rw [if_neg h, if_neg (by omega)]
  repeat' split
  all_goals omega
theorem one_2 {l : List Nat} (h : l.length ≠ 0) (h1 : 192 ≤ l.getD 0 0) (h2 : l.getD 0 0 < 224) : one l = gen 2 128 (l.getD 0 0 - 192) l := by
  unfold one
  rw [if_neg h, if_neg (by omega), if_neg (by omega), if_pos h2]
theorem one_3 {l : List Nat} (h : l.length ≠ 0) (h1 : 224 ≤ l.getD 0 0) (h2 : l.getD 0 0 < 240) : one l = gen 3 2048 (l.getD 0 0 - 224) l := by
  unfold one
  rw [if_neg h, if_neg (by omega), if_neg (by omega), if_neg (by omega), if_pos h2]
theorem one_4 {l : List Nat} (h : l.length ≠ 0) (h1 : 240 ≤ l.getD 0 0) (h2 : l.getD 0 0 < 248) : one l = gen 4 65536 (l.getD 0 0 - 240) l := by
  unfold one
  rw [if_neg h, if_neg (by omega), if_neg (by omega), if_neg (by omega), if_neg (by omega), if_pos h2]
theorem gen_short {n least c0 : Nat} {l : List Nat} (h : l.length < n) : gen n least c0 l = 0 := by
  unfold gen
  rw [decide_eq_false (by omega)]
  simp
theorem gen_cut {n least c0 : Nat} {l : List Nat} (k : Nat) (h : k + 1 < n) (hc : cont (l.getD (k + 1) 0) = false) : gen n least c0 l = 0 := by
  have : conts l (n - 1) = false := by
    cases hh : conts l (n - 1) with
    | false => rfl
    | true =>
      exfalso
      have hg : ∀ m, conts l m = true → k + 1 ≤ m → cont (l.getD (k + 1) 0) = true := fun m hm h2 => by
        induction m with
        | zero => omega
        | succ m ih =>
          simp only [conts, Bool.and_eq_true] at hm
          rcases Nat.lt_or_ge k m with h3 | h3
          · exact ih hm.1 (by omega)
          · rw [show k = m by omega]; exact hm.2
      rw [hg _ hh (by omega)] at hc
      cases hc
  unfold gen
  rw [this]
  simp
theorem gen_end {n least c0 : Nat} {l : List Nat} (h : n ≤ l.length) (hc : conts l (n - 1) = true) : gen n least c0 l = if okc least (val c0 l (n - 1)) then n else 0 := by
  unfold gen
  rw [decide_eq_true h, hc]
  simp

/-- 'one' looks at nothing behind the code point. -/
theorem getD_append (l m : List Nat) (j : Nat) (h : j < l.length) : (l ++ m).getD j 0 = l.getD j 0 := by
  simp [List.getD_eq_getElem?_getD, List.getElem?_append_left h]
theorem conts_append (l m : List Nat) (k : Nat) (h : k < l.length) : conts (l ++ m) k = conts l k := by
  induction k with
  | zero => rfl
  | succ k ih => rw [conts, conts, ih (by omega), getD_append l m _ h]
theorem val_append (c0 : Nat) (l m : List Nat) (k : Nat) (h : k < l.length) : val c0 (l ++ m) k = val c0 l k := by
  induction k with
  | zero => rfl
  | succ k ih =>
    have e1 := ih (by omega)
    have e2 := getD_append l m _ h
    show val c0 (l ++ m) k * 64 + (l ++ m).getD (k + 1) 0 - 128 = val c0 l k * 64 + l.getD (k + 1) 0 - 128
    rw [e1, e2]
theorem gen_append (n least c0 : Nat) (l m : List Nat) (hn : 1 ≤ n) (h : n ≤ l.length) : gen n least c0 (l ++ m) = gen n least c0 l := by
  unfold gen
  rw [conts_append l m (n - 1) (by omega), val_append c0 l m (n - 1) (by omega)]
  have h1 : decide (n ≤ (l ++ m).length) = decide (n ≤ l.length) := by rw [List.length_append]; simp; omega
  rw [h1]
/-- Where the code point ahead of l ++ m lies within l, it is that of l. -/
theorem gen_eq {n least c0 : Nat} {l : List Nat} : gen n least c0 l = n ∨ gen n least c0 l = 0 := by unfold gen; split <;> simp
theorem one_append_le (l m : List Nat) (h : one (l ++ m) ≤ l.length) (hl : l.length ≠ 0) (h0 : one (l ++ m) ≠ 0) : one l = one (l ++ m) := by
  have e0 := getD_append l m 0 (by omega)
  have hl2 : (l ++ m).length ≠ 0 := by rw [List.length_append]; omega
  unfold one at h h0 ⊢
  rw [e0] at h h0 ⊢
  rw [if_neg hl2] at h h0 ⊢
  rw [if_neg hl]
  generalize l.getD 0 0 = b at *
  repeat' split
  all_goals (try rfl)
  all_goals (repeat (first | rw [if_neg (by assumption)] at h h0 | rw [if_pos (by assumption)] at h h0))
  · rcases gen_eq (n := 2) (least := 128) (c0 := b - 192) (l := l ++ m) with e | e
    · exact (gen_append _ _ _ _ _ (by omega) (by omega)).symm
    · omega
  · rcases gen_eq (n := 3) (least := 2048) (c0 := b - 224) (l := l ++ m) with e | e
    · exact (gen_append _ _ _ _ _ (by omega) (by omega)).symm
    · omega
  · rcases gen_eq (n := 4) (least := 65536) (c0 := b - 240) (l := l ++ m) with e | e
    · exact (gen_append _ _ _ _ _ (by omega) (by omega)).symm
    · omega
theorem gen_more (n least c0 : Nat) (l m : List Nat) (hn : 1 ≤ n) (h : gen n least c0 l ≠ 0) : gen n least c0 (l ++ m) = gen n least c0 l := by
  refine gen_append n least c0 l m hn ?_
  have := gen_le n least c0 l
  rcases gen_eq (n := n) (least := least) (c0 := c0) (l := l) with e | e <;> omega
theorem one_append (l m : List Nat) (h0 : one l ≠ 0) : one (l ++ m) = one l := by
  have hl := one_pos h0
  have e0 := getD_append l m 0 (by omega)
  have hl2 : (l ++ m).length ≠ 0 := by rw [List.length_append]; omega
  unfold one at h0 ⊢
  rw [e0]
  rw [if_neg hl2]
  rw [if_neg hl] at h0 ⊢
  generalize l.getD 0 0 = b at *
  repeat' split
  all_goals (try rfl)
  all_goals (repeat (first | rw [if_neg (by assumption)] at h0 | rw [if_pos (by assumption)] at h0))
  all_goals exact gen_more _ _ _ _ _ (by omega) h0
/-- A byte that goes on begins nothing; within a code point all bytes go on. -/
theorem one_cont (l : List Nat) (h : cont (l.getD 0 0) = true) : one l = 0 := by
  simp only [cont, Bool.and_eq_true, decide_eq_true_eq] at h
  unfold one
  repeat' split
  all_goals omega
theorem conts_get {l : List Nat} {k : Nat} (h : conts l k = true) (j : Nat) (h1 : 1 ≤ j) (h2 : j ≤ k) : cont (l.getD j 0) = true := by
  induction k with
  | zero => omega
  | succ k ih =>
    simp only [conts, Bool.and_eq_true] at h
    rcases Nat.lt_or_ge j (k + 1) with h3 | h3
    · exact ih h.1 (by omega)
    · rw [show j = k + 1 by omega]; exact h.2
theorem gen_conts {n least c0 : Nat} {l : List Nat} (j : Nat) (h1 : 1 ≤ j) (h2 : j < gen n least c0 l) : cont (l.getD j 0) = true := by
  unfold gen at h2
  split at h2
  · next h => simp only [Bool.and_eq_true] at h; exact conts_get h.1.2 j h1 (by omega)
  · omega
theorem one_within (l : List Nat) (j : Nat) (h1 : 1 ≤ j) (h2 : j < one l) : cont (l.getD j 0) = true := by
  unfold one at h2
  repeat' split at h2
  all_goals first | omega | exact gen_conts j h1 h2

theorem well_step {l : List Nat} (h : one l ≠ 0) : well l = well (l.drop (one l)) := by
  unfold well
  rw [cnt_step h]
  split <;> simp <;> omega
theorem well_bad {l : List Nat} (h : l.length ≠ 0) (h2 : one l = 0) : well l = false := by simp [well, cnt_bad h h2]
theorem well_one {l : List Nat} (h : l.length ≠ 0) (h2 : well l = true) : one l ≠ 0 := by
  intro e; rw [well_bad h e] at h2; cases h2
theorem drop_append_le (l m : List Nat) (k : Nat) (h : k ≤ l.length) : (l ++ m).drop k = l.drop k ++ m := List.drop_append_of_le_length h
/-- Well-formed ones are counted together. -/
theorem cnt_append (l m : List Nat) (h : well l = true) : cnt (l ++ m) = if cnt m < 0 then -1 else cnt l + cnt m := by
  generalize hn : l.length = n
  induction n using Nat.strongRecOn generalizing l with
  | _ n ih =>
    rcases Nat.eq_zero_or_pos l.length with h0 | h0
    · have : l = [] := List.eq_nil_of_length_eq_zero h0
      subst this
      have := cnt_ge m
      rw [List.nil_append, cnt_nil]
      split <;> omega
    · have h1 := well_one (by omega) h
      have h2 := one_append l m h1
      have h3 := one_le l
      have hw : well (l.drop (one l)) = true := by rw [← well_step h1]; exact h
      have := ih (l.drop (one l)).length (by rw [List.length_drop]; omega) (l.drop (one l)) hw rfl
      rw [cnt_step (show one (l ++ m) ≠ 0 by omega), h2, drop_append_le l m _ h3, this, cnt_step h1]
      have hw' : 0 ≤ cnt (l.drop (one l)) := by simpa [well] using hw
      rw [if_neg (show ¬ cnt (l.drop (one l)) < 0 by omega)]
      have := cnt_ge m
      split <;> split <;> omega
theorem well_append (l m : List Nat) (h : well l = true) : well (l ++ m) = well m := by
  unfold well
  rw [cnt_append l m h]
  have hl : 0 ≤ cnt l := by simpa [well] using h
  split <;> simp <;> omega
theorem well_append_right (l m : List Nat) (h : well m = true) : well (l ++ m) = well l := by
  generalize hn : l.length = n
  induction n using Nat.strongRecOn generalizing l with
  | _ n ih =>
    rcases Nat.eq_zero_or_pos l.length with h0 | h0
    · have : l = [] := List.eq_nil_of_length_eq_zero h0
      subst this
      rw [List.nil_append, h, well_nil]
    · by_cases h1 : one l = 0
      · rw [well_bad (by omega) h1]
        by_cases h2 : one (l ++ m) = 0
        · exact well_bad (by rw [List.length_append]; omega) h2
        · rcases Nat.lt_or_ge l.length (one (l ++ m)) with h3 | h3
          · exfalso
            have hc := one_within (l ++ m) l.length h0 h3
            have hle := one_le (l ++ m)
            rw [List.length_append] at hle
            have hm : m.length ≠ 0 := by omega
            have e : (l ++ m).getD l.length 0 = m.getD 0 0 := by rw [List.getD_eq_getElem?_getD, List.getD_eq_getElem?_getD, List.getElem?_append_right (Nat.le_refl _), Nat.sub_self]
            rw [e] at hc
            rw [well_bad hm (one_cont m hc)] at h
            cases h
          · exact absurd (one_append_le l m h3 (by omega) h2) (by omega)
      · have h2 := one_append l m h1
        have h3 := one_le l
        rw [well_step (show one (l ++ m) ≠ 0 by omega), h2, drop_append_le l m _ h3, ih _ (by rw [List.length_drop]; omega) _ rfl, ← well_step h1]
/-- Where no code point is cut both parts are well-formed. -/
theorem well_cut (l : List Nat) (k : Nat) (h : well l = true) (hk : k < l.length) (hc : cont (l.getD k 0) = false) : well (l.take k) = true := by
  generalize hn : l.length = n
  induction n using Nat.strongRecOn generalizing l k with
  | _ n ih =>
    rcases Nat.eq_zero_or_pos k with rfl | h0
    · simp [well_nil]
    · have h1 := well_one (by omega) h
      rcases Nat.lt_or_ge k (one l) with h2 | h2
      · rw [one_within l k h0 h2] at hc; cases hc
      · have hw : well (l.drop (one l)) = true := by rw [← well_step h1]; exact h
        have e : (l.drop (one l)).getD (k - one l) 0 = l.getD k 0 := by simp [List.getD_eq_getElem?_getD, show one l + (k - one l) = k by omega]
        have := ih (l.drop (one l)).length (by rw [List.length_drop]; omega) (l.drop (one l)) (k - one l) hw (by rw [List.length_drop]; omega) (by rw [e]; exact hc) rfl
        have e2 : l.take k = l.take (one l) ++ (l.drop (one l)).take (k - one l) := by
          rw [← List.drop_take, ← List.take_append_drop (one l) (l.take k), List.take_take, show min (one l) k = one l by omega, List.drop_append_of_le_length (by rw [List.length_take]; omega)]
          simp
        have h4 : one (l.take k) = one l := by
          have h5 := List.take_append_drop k l
          have h6 := one_append_le (l.take k) (l.drop k) (by rw [h5, List.length_take]; omega) (by rw [List.length_take]; omega) (by rw [h5]; exact h1)
          rw [h6, h5]
        rw [well_step (show one (l.take k) ≠ 0 by omega), h4, List.drop_take]
        exact this
theorem well_cuts (l : List Nat) (k : Nat) (h : well l = true) (hk : k ≤ l.length) (b : Bool) (hb : b = (decide (k = l.length) || !cont (l.getD k 0))) : well (l.take k) = b ∧ well (l.drop k) = b := by
  subst hb
  rcases Nat.lt_or_ge k l.length with h1 | h1
  · rw [decide_eq_false (by omega), Bool.false_or]
    have e : (l.drop k).getD 0 0 = l.getD k 0 := by simp [List.getD_eq_getElem?_getD]
    by_cases hc : cont (l.getD k 0) = true
    · rw [hc]
      have h2 : well (l.drop k) = false := well_bad (by rw [List.length_drop]; omega) (one_cont _ (by rw [e]; exact hc))
      refine ⟨?_, h2⟩
      by_cases h3 : well (l.take k) = true
      · have := well_append (l.take k) (l.drop k) h3
        rw [List.take_append_drop, h, h2] at this
        cases this
      · simpa using h3
    · have hc' : cont (l.getD k 0) = false := by simpa using hc
      rw [hc']
      have h3 := well_cut l k h h1 hc'
      refine ⟨h3, ?_⟩
      have := well_append (l.take k) (l.drop k) h3
      rw [List.take_append_drop, h] at this
      exact this.symm
  · have : k = l.length := by omega
    subst this
    simp [h, well_nil]

/-- Letters ahead change nothing. -/
theorem cnt_ascii (k : Nat) (c : Nat) (hc : c < 128) : cnt (List.replicate k c) = k := by
  induction k with
  | zero => exact cnt_nil
  | succ k ih =>
    have h1 : one (List.replicate (k + 1) c) = 1 := by unfold one; simp [List.replicate_succ, hc]
    rw [cnt_step (by omega), h1]
    simp only [List.replicate_succ, List.drop_succ_cons, List.drop_zero, ih]
    rw [if_neg (by omega)]; omega
end Go.Proofs.YtkdhjejchdcipaaDoor.Nm
/-
  PLAIN: what is read of what was put. No Go in sight.
-/
namespace Go.Proofs.YtkdhjejchdcipaaDoor.Leb
set_option linter.unusedVariables false

theorem step_lt (n x place : Nat) (h : n < 2 ^ place) : (n + x % 128 * 2 ^ place) % 18446744073709551616 < 2 ^ (place + 7) := by
  refine Nat.lt_of_le_of_lt (Nat.mod_le _ _) ?_
  have h1 : x % 128 + 1 ≤ 128 := by omega
  have h2 := Nat.mul_le_mul_right (2 ^ place) h1
  rw [Nat.pow_add, Nat.add_mul] at *
  omega
theorem min_lt (n r : Nat) (h : n < 2 ^ r) (h2 : n < 18446744073709551616) : n < 2 ^ min r 64 := by
  rcases Nat.le_total r 64 with hr | hr
  · rw [Nat.min_eq_left hr]; exact h
  · rw [Nat.min_eq_right hr]; exact h2
theorem ext_lt (sg : Bool) (n r : Nat) (h : n < 2 ^ r) (h2 : n < 18446744073709551616) : ext sg n r < 18446744073709551616 := by
  have h3 := min_lt n r h h2
  have h4 : 2 ^ min r 64 ≤ 2 ^ 64 := Nat.pow_le_pow_right (by omega) (Nat.min_le_right _ _)
  unfold ext
  split <;> omega
theorem rd_lt (bits : Nat) (sg : Bool) (l : List Nat) (a place n : Nat) (h : n < 2 ^ place) : (rd bits sg l a place n).1 < 18446744073709551616 := by
  induction l generalizing a place n with
  | nil => simp [rd]
  | cons x l ih =>
    rw [rd]
    split
    · split
      · exact ext_lt _ _ _ (step_lt n x place h) (Nat.mod_lt _ (by omega))
      · split
        · simp
        · exact ih _ _ _ (step_lt n x place h)
    · simp

/-- A number with k bytes more ahead of its last one. -/
def long : Nat → Nat → List Nat
  | 0, n => [n]
  | k + 1, n => (n % 128 + 128) :: long k (n / 128)
theorem long_len (k n : Nat) : (long k n).length = k + 1 := by
  induction k generalizing n with
  | zero => rfl
  | succ k ih => simp [long, ih]
theorem long_lt (k n : Nat) (h : n < 128 ^ (k + 1)) : ∀ x ∈ long k n, x < 256 := by
  induction k generalizing n with
  | zero => intro x hx; simp [long] at hx; omega
  | succ k ih =>
    intro x hx
    simp [long] at hx
    rcases hx with rfl | hx
    · omega
    · exact ih _ (by rw [Nat.pow_succ] at h; omega) x hx
theorem putU_long (n : Nat) : ∃ k, putU n = long k n ∧ n < 128 ^ (k + 1) ∧ (k = 0 ∨ 128 ^ k ≤ n) := by
  fun_induction putU n with
  | case1 n h => exact ⟨0, rfl, by simpa using h, .inl rfl⟩
  | case2 n h ih =>
    obtain ⟨k, e, h1, h2⟩ := ih
    refine ⟨k + 1, by rw [long, e], by rw [Nat.pow_succ]; omega, .inr ?_⟩
    rcases h2 with rfl | h2
    · omega
    · rw [Nat.pow_succ]; omega
theorem long_snoc (k n : Nat) (h : n < 128 ^ (k + 1)) : ∃ pre, long k n = pre ++ [n / 128 ^ k] ∧ n / 128 ^ k < 128 ∧ long (k + 1) n = pre ++ [n / 128 ^ k + 128, 0] := by
  induction k generalizing n with
  | zero => simp at h; exact ⟨[], by simp [long], by simpa using h, by simp [long]; omega⟩
  | succ k ih =>
    obtain ⟨pre, e1, e2, e3⟩ := ih (n / 128) (by rw [Nat.pow_succ] at h; omega)
    have e : n / 128 / 128 ^ k = n / 128 ^ (k + 1) := by rw [Nat.div_div_eq_div_mul, Nat.pow_succ, Nat.mul_comm]
    rw [e] at e1 e2 e3
    exact ⟨(n % 128 + 128) :: pre, by rw [long, e1]; rfl, e2, by rw [long, e3]; rfl⟩

theorem fitsU_of (x left : Nat) (h : x < 2 ^ left) (h2 : x < 128) : fits false x left = true := by
  simp only [fits, Bool.false_eq_true, if_false, decide_eq_true_eq]
  refine Nat.div_eq_of_lt ?_
  rcases Nat.le_total left 8 with hl | hl
  · rw [Nat.min_eq_left hl]; exact h
  · rw [Nat.min_eq_right hl]; omega
theorem mul_lt_pow {n place bits acc : Nat} (hp : place < bits) (h : acc + n * 2 ^ place < 2 ^ bits) : n < 2 ^ (bits - place) := by
  rw [show bits = (bits - place) + place by omega, Nat.pow_add] at h
  have : n * 2 ^ place < 2 ^ (bits - place) * 2 ^ place := by
    omega
  exact Nat.lt_of_mul_lt_mul_right this
theorem pow64 {bits : Nat} (h : bits ≤ 64) : 2 ^ bits ≤ 18446744073709551616 := Nat.pow_le_pow_right (n := 2) (by omega) h
theorem step_eq (acc n place : Nat) : acc + n % 128 * 2 ^ place + n / 128 * 2 ^ (place + 7) = acc + n * 2 ^ place := by
  rw [Nat.pow_add, show n / 128 * (2 ^ place * 2 ^ 7) = (n / 128 * 128) * 2 ^ place by rw [Nat.mul_comm (2 ^ place), ← Nat.mul_assoc], Nat.add_assoc, ← Nat.add_mul, show n % 128 + n / 128 * 128 = n by omega]

theorem rd_long (bits : Nat) (hb : bits ≤ 64) (k n : Nat) (t : List Nat) (a place acc : Nat) (hp : 7 * k + place < bits) (hn : n < 128 ^ (k + 1)) (hacc : acc < 2 ^ place)
    (h : acc + n * 2 ^ place < 2 ^ bits) : rd bits false (long k n ++ t) a place acc = (acc + n * 2 ^ place, a + k + 1, 0) := by
  induction k generalizing n a place acc with
  | zero =>
    simp at hn
    have h1 := mul_lt_pow (by omega) h
    have h2 := pow64 hb
    rw [long, List.singleton_append, rd, show n % 128 = n by omega, if_pos (fitsU_of _ _ h1 hn), if_pos hn, Nat.mod_eq_of_lt (by omega)]
    rfl
  | succ k ih =>
    have h1 := mul_lt_pow (by omega) h
    have h2 := pow64 hb
    have h3 := step_eq acc n place
    have h4 : n % 128 * 2 ^ place ≤ n * 2 ^ place := Nat.mul_le_mul_right _ (Nat.mod_le _ _)
    have h5 := step_lt acc n place hacc
    have e : (acc + n % 128 * 2 ^ place) % 18446744073709551616 = acc + n % 128 * 2 ^ place := Nat.mod_eq_of_lt (by omega)
    rw [e] at h5
    have := ih (n / 128) (a + 1) (place + 7) (acc + n % 128 * 2 ^ place) (by omega) (by rw [Nat.pow_succ] at hn; omega) h5 (by rw [h3]; exact h)
    rw [long, List.cons_append, rd, show (n % 128 + 128) % 128 = n % 128 by omega, if_pos (fitsU_of _ _ (Nat.lt_of_le_of_lt (Nat.mod_le _ _) h1) (by omega)), if_neg (by omega), if_neg (by omega), e, this, h3]
    simp; omega
theorem rd_cut (bits : Nat) (hb : bits ≤ 64) (k n : Nat) (a place acc : Nat) (hp : 7 * k + place < bits) (hn : n < 128 ^ (k + 1)) (hacc : acc < 2 ^ place)
    (h : acc + n * 2 ^ place < 2 ^ bits) : rd bits false ((long k n).take k) a place acc = (0, 0, 10) := by
  induction k generalizing n a place acc with
  | zero => simp [rd]
  | succ k ih =>
    have h1 := mul_lt_pow (by omega) h
    have h2 := pow64 hb
    have h3 := step_eq acc n place
    have h4 : n % 128 * 2 ^ place ≤ n * 2 ^ place := Nat.mul_le_mul_right _ (Nat.mod_le _ _)
    have h5 := step_lt acc n place hacc
    have e : (acc + n % 128 * 2 ^ place) % 18446744073709551616 = acc + n % 128 * 2 ^ place := Nat.mod_eq_of_lt (by omega)
    rw [e] at h5
    have := ih (n / 128) (a + 1) (place + 7) (acc + n % 128 * 2 ^ place) (by omega) (by rw [Nat.pow_succ] at hn; omega) h5 (by rw [h3]; exact h)
    rw [long, List.take_succ_cons, rd, show (n % 128 + 128) % 128 = n % 128 by omega, if_pos (fitsU_of _ _ (Nat.lt_of_le_of_lt (Nat.mod_le _ _) h1) (by omega)), if_neg (by omega), if_neg (by omega), e, this]
/-- With too many bytes a number is refused. -/
theorem rd_many (bits : Nat) (hb : bits ≤ 64) (k n : Nat) (t : List Nat) (a place acc : Nat) (hp : place < bits) (hp2 : bits ≤ 7 * k + place) (hacc : acc < 2 ^ place)
    (h : acc + n * 2 ^ place < 2 ^ bits) : rd bits false (long k n ++ t) a place acc = (0, 0, 11) := by
  induction k generalizing n a place acc with
  | zero => omega
  | succ k ih =>
    have h1 := mul_lt_pow (by omega) h
    have h2 := pow64 hb
    have h3 := step_eq acc n place
    have h4 : n % 128 * 2 ^ place ≤ n * 2 ^ place := Nat.mul_le_mul_right _ (Nat.mod_le _ _)
    have h5 := step_lt acc n place hacc
    have e : (acc + n % 128 * 2 ^ place) % 18446744073709551616 = acc + n % 128 * 2 ^ place := Nat.mod_eq_of_lt (by omega)
    rw [e] at h5
    rw [long, List.cons_append, rd, show (n % 128 + 128) % 128 = n % 128 by omega, if_pos (fitsU_of _ _ (Nat.lt_of_le_of_lt (Nat.mod_le _ _) h1) (by omega)), if_neg (by omega), e]
    split
    · rfl
    · exact ih (n / 128) (a + 1) (place + 7) (acc + n % 128 * 2 ^ place) (by omega) (by omega) h5 (by rw [h3]; exact h)

theorem rd_putU (bits n : Nat) (t : List Nat) (a : Nat) (hb : bits ≤ 64) (hb1 : 1 ≤ bits) (h : n < 2 ^ bits) : rd bits false (putU n ++ t) a 0 0 = (n, a + (putU n).length, 0) := by
  obtain ⟨k, e, h1, h2⟩ := putU_long n
  have hk : 7 * k + 0 < bits := by
    rcases h2 with rfl | h2
    · omega
    · rw [show (128 : Nat) = 2 ^ 7 from rfl, ← Nat.pow_mul] at h2
      have := (Nat.pow_lt_pow_iff_right (a := 2) (by omega)).1 (Nat.lt_of_le_of_lt h2 h)
      omega
  rw [e, rd_long bits hb k n t a 0 0 hk h1 (by simp) (by simpa using h), long_len]
  simp; omega

theorem fitsS_of (x d : Nat) (m : Int) (hx : x = (m % 128).toNat) (h : (-64 ≤ m ∧ m < 64) ∨ 7 ≤ d) (h1 : -(2 ^ d : Nat) ≤ m) (h2 : m < (2 ^ d : Nat)) : fits true x (d + 1) = true := by
  simp only [fits, if_true, Nat.add_sub_cancel, Bool.or_eq_true, decide_eq_true_eq]
  by_cases hd : 7 ≤ d
  · left
    refine Nat.div_eq_of_lt (Nat.lt_of_lt_of_le (show x < 2 ^ 7 by omega) (Nat.pow_le_pow_right (by omega) (by omega)))
  · have hm := h.resolve_right hd
    have e : min d 8 = d := by omega
    rw [e]
    have : d = 0 ∨ d = 1 ∨ d = 2 ∨ d = 3 ∨ d = 4 ∨ d = 5 ∨ d = 6 := by omega
    rcases this with rfl | rfl | rfl | rfl | rfl | rfl | rfl <;> simp at h1 h2 ⊢ <;> omega

/-- The word of a signed number. -/
def wordOf (m : Int) : Nat := (m % 18446744073709551616).toNat
theorem sOf_word (m : Int) (h1 : -9223372036854775808 ≤ m) (h2 : m < 9223372036854775808) : sOf (wordOf m) = m := by unfold sOf wordOf; split <;> omega

theorem rd_putS_aux (bits : Nat) (hb : bits ≤ 64) (t : List Nat) (m : Int) : ∀ (a place acc d : Nat), bits = place + d + 1 → acc < 2 ^ place → -(2 ^ d : Nat) ≤ m → m < (2 ^ d : Nat) →
    rd bits true (putS m ++ t) a place acc = (wordOf ((acc : Int) + m * (2 ^ place : Nat)), a + (putS m).length, 0) := by
  fun_induction putS m with
  | case1 m h =>
    intro a place acc d hbd hacc h1 h2
    have hx : (m % 128).toNat % 128 = (m % 128).toNat := by omega
    have hf := fitsS_of (m % 128).toNat d m rfl (.inl h) h1 h2
    rw [List.singleton_append, rd, hx, show bits - place = d + 1 by omega, if_pos hf, if_pos (by omega)]
    generalize hX : (m % 128).toNat = x at *
    have hx128 : x < 128 := by omega
    congr 1
    have hp1 : 1 ≤ 2 ^ place := Nat.one_le_two_pow
    rcases Nat.lt_or_ge (place + 7) 64 with hlt | hge
    · -- no bit is lost
      have hw := step_lt acc x place hacc
      have hpp : 2 ^ place * 128 < 18446744073709551616 := by
        have := Nat.pow_lt_pow_right (a := 2) (by omega) hlt
        rw [Nat.pow_add] at this; omega
      have hxp : x * 2 ^ place ≤ 127 * 2 ^ place := Nat.mul_le_mul_right _ (by omega)
      have hsum : acc + x * 2 ^ place < 128 * 2 ^ place := by omega
      rw [Nat.mod_eq_of_lt (show acc + x * 2 ^ place < 18446744073709551616 by omega)]
      unfold ext
      rw [show place + 7 - 1 = place + 6 by omega, show min (place + 6) 64 = place + 6 by omega, show min (place + 7) 64 = place + 7 by omega]
      have hq : (acc + x * 2 ^ place) / 2 ^ (place + 6) = x / 64 := by
        rw [Nat.pow_add, ← Nat.div_div_eq_div_mul, Nat.add_mul_div_right _ _ (by omega), Nat.div_eq_of_lt hacc, Nat.zero_add]
      rw [hq, Nat.pow_add, show (2 : Nat) ^ 7 = 128 from rfl]
      generalize 2 ^ place = P at *
      unfold wordOf
      rcases Int.lt_or_le m 0 with hm | hm
      · have hxm : (x : Int) = m + 128 := by omega
        rw [if_pos (by simp; omega)]
        have e : ((x * P : Nat) : Int) = m * P + 128 * P := by rw [Int.natCast_mul, hxm, Int.add_mul]
        have hlo : -(64 * (P : Int)) ≤ m * P := by
          have := Int.mul_le_mul_of_nonneg_right h.1 (show (0 : Int) ≤ P by omega); omega
        have hhi : m * P ≤ -(P : Int) := by
          have := Int.mul_le_mul_of_nonneg_right (show m ≤ -1 by omega) (show (0 : Int) ≤ P by omega); omega
        generalize m * (P : Int) = q at *
        generalize x * P = X at *
        omega
      · have hxm : (x : Int) = m := by omega
        rw [if_neg (by simp; omega)]
        have e : ((x * P : Nat) : Int) = m * P := by rw [Int.natCast_mul, hxm]
        generalize m * (P : Int) = q at *
        generalize x * P = X at *
        omega
    · -- the places beyond 64 are lost
      have e1 : min (place + 7) 64 = 64 := by omega
      unfold ext
      rw [e1]
      have hm0 : ∀ c : Bool, (if c then (acc + x * 2 ^ place) % 18446744073709551616 + (18446744073709551616 - 2 ^ 64) else (acc + x * 2 ^ place) % 18446744073709551616) = (acc + x * 2 ^ place) % 18446744073709551616 := by intro c; cases c <;> simp
      rw [hm0]
      unfold wordOf
      obtain ⟨j, hj⟩ : ∃ j, place + 7 = 64 + j := ⟨place + 7 - 64, by omega⟩
      have h128 : 128 * 2 ^ place = 18446744073709551616 * 2 ^ j := by
        rw [show 128 * 2 ^ place = 2 ^ (place + 7) by rw [Nat.pow_add]; omega, hj, Nat.pow_add]
      have hxm : ∃ c : Int, (x : Int) = m + 128 * c := ⟨-(m / 128), by omega⟩
      obtain ⟨c, hc⟩ := hxm
      have e : ((x * 2 ^ place : Nat) : Int) = m * (2 ^ place : Nat) + 18446744073709551616 * ((2 ^ j : Nat) * c) := by
        rw [Int.natCast_mul, hc, Int.add_mul]
        congr 1
        rw [Int.mul_right_comm, show (128 : Int) * ((2 ^ place : Nat) : Int) = ((128 * 2 ^ place : Nat) : Int) by simp, h128, Int.natCast_mul, Int.mul_assoc]
        rfl
      generalize m * ((2 ^ place : Nat) : Int) = q at *
      generalize x * 2 ^ place = X at *
      generalize ((2 ^ j : Nat) : Int) * c = Y at *
      omega
  | case2 m h ih =>
    intro a place acc d hbd hacc h1 h2
    have hd : 7 ≤ d := by
      rcases Nat.lt_or_ge d 7 with hl | hg
      · have := Nat.pow_le_pow_right (n := 2) (by omega) (show d ≤ 6 by omega)
        omega
      · exact hg
    have hx : ((m % 128).toNat + 128) % 128 = (m % 128).toNat := by omega
    have hf := fitsS_of (m % 128).toNat d m rfl (.inr hd) h1 h2
    have hp57 : place + 8 ≤ bits := by omega
    have hxp : (m % 128).toNat * 2 ^ place ≤ 127 * 2 ^ place := Nat.mul_le_mul_right _ (by omega)
    have hpp : 2 ^ place * 128 < 18446744073709551616 := by
      have := Nat.pow_lt_pow_right (a := 2) (by omega) (show place + 7 < 64 by omega)
      rw [Nat.pow_add] at this; omega
    have hpw : 2 ^ d = 2 ^ (d - 7) * 128 := by rw [show (128 : Nat) = 2 ^ 7 from rfl, ← Nat.pow_add, show d - 7 + 7 = d by omega]
    have := ih (a + 1) (place + 7) (acc + (m % 128).toNat * 2 ^ place) (d - 7) (by omega) (by rw [Nat.pow_add]; omega) (by omega) (by omega)
    rw [List.cons_append, rd, hx, show bits - place = d + 1 by omega, if_pos hf, if_neg (by omega), if_neg (by omega), Nat.mod_eq_of_lt (by omega), this]
    have e : ((acc + (m % 128).toNat * 2 ^ place : Nat) : Int) + m / 128 * (2 ^ (place + 7) : Nat) = acc + m * (2 ^ place : Nat) := by
      rw [Nat.pow_add, Int.natCast_add, Int.natCast_mul, Int.natCast_mul, show ((2 ^ 7 : Nat) : Int) = 128 from rfl, Int.mul_comm ((2 ^ place : Nat) : Int), ← Int.mul_assoc, Int.add_assoc, ← Int.add_mul]
      congr 2; omega
    rw [e]
    simp; omega
theorem rd_putS (bits : Nat) (m : Int) (t : List Nat) (a : Nat) (hb : bits ≤ 64) (hb1 : 1 ≤ bits) (h1 : -(2 ^ (bits - 1) : Nat) ≤ m) (h2 : m < (2 ^ (bits - 1) : Nat)) :
    rd bits true (putS m ++ t) a 0 0 = (wordOf m, a + (putS m).length, 0) := by
  have := rd_putS_aux bits hb t m a 0 0 (bits - 1) (by omega) (by simp) h1 h2
  rw [this]
  simp
end Go.Proofs.YtkdhjejchdcipaaDoor.Leb
/-
  PLAIN: what is read has as few bytes as it may; more bits change nothing. No Go in sight.
-/
namespace Go.Proofs.YtkdhjejchdcipaaDoor.Leb
set_option linter.unusedVariables false

theorem div_mono {x d d' : Nat} (h : d ≤ d') : x / 2 ^ d' = x / 2 ^ d / 2 ^ (d' - d) := by
  rw [Nat.div_div_eq_div_mul, ← Nat.pow_add, show d + (d' - d) = d' by omega]
theorem fits_more (sg : Bool) (x left left' : Nat) (h : left ≤ left') (hf : fits sg x left = true) : fits sg x left' = true := by
  cases sg
  · simp only [fits, Bool.false_eq_true, if_false, decide_eq_true_eq] at *
    rw [div_mono (show min left 8 ≤ min left' 8 by omega), hf, Nat.zero_div]
  · simp only [fits, if_true, Bool.or_eq_true, decide_eq_true_eq] at *
    rcases hf with hf | hf
    · left; rw [div_mono (show min (left - 1) 8 ≤ min (left' - 1) 8 by omega), hf, Nat.zero_div]
    · right; rw [div_mono (show min (left - 1) 8 ≤ min (left' - 1) 8 by omega), hf, ← div_mono (by omega)]
theorem rd_more (bits more : Nat) (sg : Bool) (hm : bits ≤ more) (l : List Nat) : ∀ (a place n v nx : Nat), rd bits sg l a place n = (v, nx, 0) → rd more sg l a place n = (v, nx, 0) := by
  induction l with
  | nil => intro a place n v nx h; simp [rd] at h
  | cons x l ih =>
    intro a place n v nx h
    rw [rd] at h ⊢
    by_cases hf : fits sg (x % 128) (bits - place) = true
    · rw [if_pos hf] at h
      rw [if_pos (fits_more sg _ _ _ (by omega) hf)]
      by_cases h1 : x < 128
      · rw [if_pos h1] at h ⊢; exact h
      · rw [if_neg h1] at h ⊢
        by_cases h2 : bits ≤ place + 7
        · rw [if_pos h2] at h; simp at h
        · rw [if_neg h2] at h
          rw [if_neg (by omega)]
          exact ih _ _ _ _ _ h
    · rw [if_neg hf] at h; simp at h
theorem rd_err (bits : Nat) (sg : Bool) (l : List Nat) : ∀ (a place n : Nat), (rd bits sg l a place n).2.2 ≠ 0 → rd bits sg l a place n = (0, 0, (rd bits sg l a place n).2.2) := by
  induction l with
  | nil => intro a place n h; simp [rd]
  | cons x l ih =>
    intro a place n h
    rw [rd] at h ⊢
    split
    · next hf =>
      rw [if_pos hf] at h
      split
      · next h1 => rw [if_pos h1] at h; simp at h
      · next h1 =>
        rw [if_neg h1] at h
        split
        · rfl
        · next h2 => rw [if_neg h2] at h; exact ih _ _ _ h
    · rfl
theorem rd_ok (bits : Nat) (sg : Bool) (l : List Nat) : ∀ (a place n v nx : Nat), n < 2 ^ place → rd bits sg l a place n = (v, nx, 0) →
    ∃ n' c, nx = a + c ∧ 1 ≤ c ∧ n' < 2 ^ (place + 7 * c) ∧ n' < 18446744073709551616 ∧ v = ext sg n' (place + 7 * c) := by
  induction l with
  | nil => intro a place n v nx _ h; simp [rd] at h
  | cons x l ih =>
    intro a place n v nx hn h
    rw [rd] at h
    split at h
    · split at h
      · simp only [Prod.mk.injEq] at h
        exact ⟨_, 1, h.2.1.symm, by omega, step_lt n x place hn, Nat.mod_lt _ (by omega), h.1.symm⟩
      · split at h
        · simp at h
        · obtain ⟨n', c, h1, h2, h3, h4, h5⟩ := ih _ _ _ _ _ (step_lt n x place hn) h
          exact ⟨n', c + 1, by omega, by omega, by rw [show place + 7 * (c + 1) = place + 7 + 7 * c by omega]; exact h3, h4, by rw [show place + 7 * (c + 1) = place + 7 + 7 * c by omega]; exact h5⟩
    · simp at h
theorem rd_short_u (bits : Nat) (l : List Nat) (v nx : Nat) (h : rd bits false l 0 0 0 = (v, nx, 0)) : (putU v).length ≤ nx := by
  obtain ⟨n', c, h1, h2, h3, h4, h5⟩ := rd_ok bits false l 0 0 0 v nx (by simp) h
  have : v = n' := by rw [h5]; simp [ext]
  subst this
  rw [h1, Nat.zero_add]
  refine putU_len v c ?_ h2
  rw [show (128 : Nat) = 2 ^ 7 from rfl, ← Nat.pow_mul]
  simpa using h3
theorem sOf_ext (n r : Nat) (hr : 1 ≤ r) (h1 : n < 2 ^ r) (h2 : n < 18446744073709551616) : -(2 ^ (r - 1) : Nat) ≤ sOf (ext true n r) ∧ sOf (ext true n r) < (2 ^ (r - 1) : Nat) := by
  rcases Nat.lt_or_ge r 64 with hl | hl
  · have hp := Nat.pow_le_pow_right (n := 2) (by omega) (show r ≤ 63 by omega)
    have e2 : 2 ^ r = 2 * 2 ^ (r - 1) := by rw [← Nat.pow_succ']; congr 1; omega
    unfold ext
    rw [show min (r - 1) 64 = r - 1 by omega, show min r 64 = r by omega]
    have hp1 : 1 ≤ 2 ^ (r - 1) := Nat.one_le_two_pow
    rcases Nat.lt_or_ge n (2 ^ (r - 1)) with hn | hn
    · rw [Nat.div_eq_of_lt hn, if_neg (by simp)]
      unfold sOf
      rw [if_pos (by omega)]
      omega
    · have e1 : n / 2 ^ (r - 1) = 1 := by
        apply Nat.div_eq_of_lt_le <;> omega
      rw [e1, if_pos (by simp)]
      unfold sOf
      rw [if_neg (by omega)]
      omega
  · have hp := Nat.pow_le_pow_right (n := 2) (by omega) (show 63 ≤ r - 1 by omega)
    have h3 := ext_lt true n r h1 h2
    unfold sOf
    split <;> omega
theorem rd_short_s (bits : Nat) (l : List Nat) (v nx : Nat) (h : rd bits true l 0 0 0 = (v, nx, 0)) : (putS (sOf v)).length ≤ nx := by
  obtain ⟨n', c, h1, h2, h3, h4, h5⟩ := rd_ok bits true l 0 0 0 v nx (by simp) h
  rw [Nat.zero_add] at h3 h5
  have hb := sOf_ext n' (7 * c) (by omega) h3 h4
  rw [← h5] at hb
  obtain ⟨k, rfl⟩ : ∃ k, c = k + 1 := ⟨c - 1, by omega⟩
  have := putS_len (sOf v) k (by
    have e : ((2 ^ (7 * (k + 1) - 1) : Nat) : Int) = 64 * 128 ^ k := by
      have : 2 ^ (7 * (k + 1) - 1) = 64 * 128 ^ k := by rw [show 7 * (k + 1) - 1 = 6 + 7 * k by omega, Nat.pow_add, Nat.pow_mul]
      rw [this]; simp
    rw [e] at hb
    exact hb)
  omega
theorem sOf_range (v : Nat) (h : v < 18446744073709551616) : -9223372036854775808 ≤ sOf v ∧ sOf v < 9223372036854775808 := by unfold sOf; split <;> omega

/-- The bytes of a number that say that more come. -/
def lead : Nat → Nat → List Nat
  | 0, _ => []
  | k + 1, n => (n % 128 + 128) :: lead k (n / 128)
theorem lead_len (k n : Nat) : (lead k n).length = k := by
  induction k generalizing n with
  | zero => rfl
  | succ k ih => simp [lead, ih]
theorem lead_lt (k n : Nat) : ∀ x ∈ lead k n, x < 256 := by
  induction k generalizing n with
  | zero => intro x hx; simp [lead] at hx
  | succ k ih =>
    intro x hx
    simp [lead] at hx
    rcases hx with rfl | hx
    · omega
    · exact ih _ x hx
theorem div_pow (k n : Nat) : n / 128 / 128 ^ k = n / 128 ^ (k + 1) := by rw [Nat.div_div_eq_div_mul, Nat.pow_succ, Nat.mul_comm]
theorem long_lead (k n : Nat) : long k n = lead k n ++ [n / 128 ^ k] := by
  induction k generalizing n with
  | zero => simp [long, lead]
  | succ k ih => rw [long, lead, ih, div_pow]; rfl
theorem lead_snoc (k n : Nat) : lead (k + 1) n = lead k n ++ [n / 128 ^ k % 128 + 128] := by
  induction k generalizing n with
  | zero => simp [lead]
  | succ k ih => rw [lead, ih, lead, div_pow]; rfl
end Go.Proofs.YtkdhjejchdcipaaDoor.Leb
/-
  Names' bytes: what a range over a string tells, held against 'Nm.one'. No program.
-/
namespace Go.Proofs.YtkdhjejchdcipaaDoor
set_option linter.unusedVariables false

/-- A string's bytes. -/
def bs (s : ByteArray) : List Nat := s.data.toList.map UInt8.toNat
theorem bs_len (s : ByteArray) : (bs s).length = s.size := by
  rw [bs, List.length_map, Lib.size_eq]
theorem bs_get (s : ByteArray) (j : Nat) (h : j < s.size) : (bs s).getD j 0 = (s[j]'h).toNat := by
  obtain ⟨⟨l⟩⟩ := s
  have h' : j < l.length := h
  simp [bs, List.getD_eq_getElem?_getD, h']
  rfl
theorem bs_get! (s : ByteArray) (j : Nat) (h : j < s.size) : (s.get! j).toNat = (bs s).getD j 0 := by
  rw [bs_get s j h, ← Go.get_at s j h]; rfl
theorem bs_lt (s : ByteArray) : ∀ x ∈ bs s, x < 256 := by
  intro x hx
  obtain ⟨y, _, rfl⟩ := List.mem_map.1 hx
  exact y.toNat_lt
theorem bs_get_lt (s : ByteArray) (j : Nat) : (bs s).getD j 0 < 256 := by
  rw [List.getD_eq_getElem?_getD]
  cases h : (bs s)[j]? with
  | none => simp
  | some x => exact bs_lt s x (List.mem_of_getElem? h)
theorem bs_extract (s : ByteArray) (a b : Nat) : bs (s.extract a b) = ((bs s).drop a).take (b - a) := by
  rw [bs, bs, Lib.extract_data, List.map_take, List.map_drop]
theorem bs_drop (s : ByteArray) (a : Nat) : bs (s.extract a s.size) = (bs s).drop a := by
  rw [bs_extract, List.take_of_length_le (by rw [List.length_drop, bs_len]; omega)]
theorem drop_getD (l : List Nat) (a j : Nat) : (l.drop a).getD j 0 = l.getD (a + j) 0 := by simp [List.getD_eq_getElem?_getD]

theorem bs_str (l : List Nat) (h : ∀ x ∈ l, x < 256) : bs (str l) = l := by
  show ((l.map UInt8.ofNat).map UInt8.toNat) = l
  rw [List.map_map]
  conv => rhs; rw [← List.map_id l]
  refine List.map_congr_left fun x hx => ?_
  have := h x hx
  simp [Nat.mod_eq_of_lt this]
theorem str_bs (s : ByteArray) : str (bs s) = s := by
  obtain ⟨⟨l⟩⟩ := s
  simp [str, bs, List.map_map]
  rw [List.map_congr_left (g := id)]
  · simp
  · intro x _; simp
theorem str_size (l : List Nat) : (str l).size = l.length := by
  show (l.map UInt8.ofNat).toArray.size = _
  simp
theorem Leb.rd_next (bits : Nat) (sg : Bool) (l : List Nat) : ∀ (a place n v nx : Nat), Leb.rd bits sg l a place n = (v, nx, 0) → nx ≤ a + l.length := by
  induction l with
  | nil => intro a place n v nx h; simp [Leb.rd] at h
  | cons x l ih =>
    intro a place n v nx h
    rw [Leb.rd] at h
    split at h
    · split at h
      · simp only [Prod.mk.injEq] at h
        rw [List.length_cons]; omega
      · split at h
        · simp at h
        · have := ih _ _ _ _ _ h
          rw [List.length_cons]; omega
    · simp at h

/-- U+FFFD's own bytes stand ahead. -/
def fffd (l : List Nat) : Bool := decide (3 ≤ l.length) && decide (l.getD 0 0 = 239) && decide (l.getD 1 0 = 191) && decide (l.getD 2 0 = 189)
theorem u8_list (l : List UInt8) (n : Nat) : (l.map UInt8.toNat).getD n 0 = (l.getD n 0).toNat := by
  simp only [List.getD_eq_getElem?_getD, List.getElem?_map]
  cases l[n]? <;> rfl
theorem u8_eq (a b : UInt8) : (a == b) = decide (a.toNat = b.toNat) := by
  rw [Bool.eq_iff_iff, beq_iff_eq, decide_eq_true_iff, ← UInt8.toNat_inj]
theorem prefix_fffd (s : ByteArray) : Lib.hasPrefix s.data.toList [239, 191, 189] = fffd (bs s) := by
  unfold Lib.hasPrefix fffd bs
  generalize s.data.toList = l
  match l with
  | [] => rfl
  | [a] => simp [List.isPrefixOf]
  | [a, b] => simp [List.isPrefixOf]
  | a :: b :: c :: t =>
    rw [u8_list, u8_list, u8_list]
    simp only [List.isPrefixOf, u8_eq, List.getD_cons_zero, List.getD_cons_succ, List.length_map, List.length_cons]
    rw [Bool.eq_iff_iff]
    simp
    constructor <;> (intro h; omega)

set_option maxRecDepth 100000 in
theorem decode_one (s : ByteArray) (pos : Nat) (h : pos < s.size) :
    (Nm.one ((bs s).drop pos) ≠ 0 ∧ (Utf8.decode s pos).2 = Nm.one ((bs s).drop pos) ∧ ((Utf8.decode s pos).1 ≠ 65533 ∨ fffd ((bs s).drop pos) = true)) ∨
    (Nm.one ((bs s).drop pos) = 0 ∧ (Utf8.decode s pos).1 = 65533 ∧ fffd ((bs s).drop pos) = false) := by
  have hlen : ((bs s).drop pos).length = s.size - pos := by rw [List.length_drop, bs_len]
  have g : ∀ k, pos + k < s.size → (s.get! (pos + k)).toNat = ((bs s).drop pos).getD k 0 := fun k hk => by rw [drop_getD, bs_get! s _ hk]
  have hb : ∀ k, ((bs s).drop pos).getD k 0 < 256 := fun k => by rw [drop_getD]; exact bs_get_lt s _
  generalize (bs s).drop pos = l at *
  have e0 := g 0 (by omega)
  have b0 := hb 0
  have c : ∀ k, (decide (pos + k < s.size) && (s.get! (pos + k)).toNat / 64 == 2) = (decide (k < l.length) && Nm.cont (l.getD k 0)) := fun k => by
    by_cases hk : pos + k < s.size
    · rw [g k hk, decide_eq_true hk, decide_eq_true (show k < l.length by omega), Bool.true_and, Bool.true_and]
      have := hb k
      rw [Bool.eq_iff_iff]; simp [Nm.cont]; omega
    · rw [decide_eq_false hk, decide_eq_false (show ¬ k < l.length by omega), Bool.false_and, Bool.false_and]
  have c1 := c 1; have c2 := c 2; have c3 := c 3
  have g1 := g 1; have g2 := g 2; have g3 := g 3
  have b1 := hb 1; have b2 := hb 2; have b3 := hb 3
  clear g hb c
  have hl0 : l.length ≠ 0 := by omega
  simp only [Utf8.decode, e0, c1, c2, c3, Utf8.runeError, Utf8.valid]
  unfold Nm.one Nm.gen fffd
  rw [Nm.conts_1, Nm.conts_2, Nm.conts_3, Nm.val_1, Nm.val_2, Nm.val_3]
  rw [if_neg hl0]
  generalize (s.get! (pos + 1)).toNat = y1 at *
  generalize (s.get! (pos + 2)).toNat = y2 at *
  generalize (s.get! (pos + 3)).toNat = y3 at *
  have k1 : 1 < l.length → y1 = l.getD 1 0 := fun h => g1 (by omega)
  have k2 : 2 < l.length → y2 = l.getD 2 0 := fun h => g2 (by omega)
  have k3 : 3 < l.length → y3 = l.getD 3 0 := fun h => g3 (by omega)
  generalize l.getD 0 0 = a0 at *
  generalize l.getD 1 0 = a1 at *
  generalize l.getD 2 0 = a2 at *
  generalize l.getD 3 0 = a3 at *
  generalize l.length = n at *
  clear e0 c1 c2 c3 g1 g2 g3 hlen h
  by_cases h1 : a0 < 128
  · rw [if_pos h1, if_pos h1]
    exact .inl ⟨by omega, rfl, .inl (by simp only; omega)⟩
  rw [if_neg h1, if_neg h1]
  by_cases h2 : a0 < 192
  · rw [if_pos h2]
    have n1 : (a0 / 32 == 6) = false := by simp; omega
    have n2 : (a0 / 16 == 14) = false := by simp; omega
    have n3 : (a0 / 8 == 30) = false := by simp; omega
    rw [n1, n2, n3]
    exact .inr ⟨rfl, rfl, by simp; omega⟩
  rw [if_neg h2]
  by_cases h3 : a0 < 224
  · rw [if_pos h3]
    have n1 : (a0 / 32 == 6) = true := by simp; omega
    have n2 : (a0 / 16 == 14) = false := by simp; omega
    have n3 : (a0 / 8 == 30) = false := by simp; omega
    have nf : decide (a0 = 239) = false := by simp; omega
    rw [n1, n2, n3, nf]
    simp only [Bool.true_and, Bool.false_and, Bool.and_false, Bool.false_eq_true, if_false]
    by_cases hc : (decide (1 < n) && Nm.cont a1) = true
    · have hc2 := hc
      simp only [Nm.cont, Bool.and_eq_true, decide_eq_true_eq] at hc2
      rw [if_pos hc, k1 hc2.1]
      by_cases hv : 128 ≤ a0 % 32 * 64 + a1 % 64
      · rw [if_pos hv, if_pos (by simp only [Nm.cont, Nm.okc, Bool.and_eq_true, Bool.not_eq_true', Bool.and_eq_false_iff, decide_eq_true_eq, decide_eq_false_iff_not]; omega)]
        exact .inl ⟨by omega, rfl, .inl (by simp only; omega)⟩
      · rw [if_neg hv, if_neg (by simp only [Nm.cont, Nm.okc, Bool.and_eq_true, Bool.not_eq_true', Bool.and_eq_false_iff, decide_eq_true_eq, decide_eq_false_iff_not]; omega)]
        exact .inr ⟨rfl, rfl, by simp⟩
    · rw [if_neg hc]
      simp only [Nm.cont, Bool.and_eq_true, decide_eq_true_eq] at hc
      rw [if_neg (by simp only [Nm.cont, Nm.okc, Bool.and_eq_true, Bool.not_eq_true', Bool.and_eq_false_iff, decide_eq_true_eq, decide_eq_false_iff_not]; omega)]
      exact .inr ⟨rfl, rfl, by simp⟩
  rw [if_neg h3]
  by_cases h4 : a0 < 240
  · rw [if_pos h4]
    have n1 : (a0 / 32 == 6) = false := by simp; omega
    have n2 : (a0 / 16 == 14) = true := by simp; omega
    have n3 : (a0 / 8 == 30) = false := by simp; omega
    rw [n1, n2, n3]
    simp only [Bool.true_and, Bool.false_and, Bool.false_eq_true, if_false]
    by_cases hc : ((decide (1 < n) && Nm.cont a1) && (decide (2 < n) && Nm.cont a2)) = true
    · have hc2 := hc
      simp only [Nm.cont, Bool.and_eq_true, decide_eq_true_eq] at hc2
      rw [if_pos hc, k1 hc2.1.1, k2 hc2.2.1]
      have ev : ((a0 - 224) * 64 + a1 - 128) * 64 + a2 - 128 = a0 % 16 * 4096 + a1 % 64 * 64 + a2 % 64 := by omega
      rw [ev]
      have hf : (decide (3 ≤ n) && decide (a0 = 239) && decide (a1 = 191) && decide (a2 = 189)) = decide (a0 % 16 * 4096 + a1 % 64 * 64 + a2 % 64 = 65533) := by
        rw [Bool.eq_iff_iff]; simp only [Bool.and_eq_true, decide_eq_true_eq]; omega
      rw [hf]
      have hlt : a0 % 16 * 4096 + a1 % 64 * 64 + a2 % 64 < 65536 := by omega
      generalize a0 % 16 * 4096 + a1 % 64 * 64 + a2 % 64 = v at *
      clear ev hf
      have hn : 3 ≤ n := by omega
      by_cases hv : 2048 ≤ v ∧ (v < 55296 ∨ 57344 ≤ v)
      · rw [if_pos (by simp only [Nm.cont, Nm.okc, Bool.and_eq_true, Bool.not_eq_true', Bool.and_eq_false_iff, decide_eq_true_eq, decide_eq_false_iff_not]; omega), if_pos (by simp only [Bool.and_eq_true, Bool.or_eq_true, decide_eq_true_eq]; omega)]
        refine .inl ⟨by omega, rfl, ?_⟩
        rw [decide_eq_true_eq]
        show v ≠ 65533 ∨ v = 65533
        omega
      · rw [if_neg (by simp only [Nm.cont, Nm.okc, Bool.and_eq_true, Bool.not_eq_true', Bool.and_eq_false_iff, decide_eq_true_eq, decide_eq_false_iff_not]; omega), if_neg (by simp only [Bool.and_eq_true, Bool.or_eq_true, decide_eq_true_eq]; omega)]
        exact .inr ⟨rfl, rfl, by simp; omega⟩
    · rw [if_neg hc]
      simp only [Nm.cont, Bool.and_eq_true, decide_eq_true_eq] at hc
      rw [if_neg (by simp only [Nm.cont, Nm.okc, Bool.and_eq_true, Bool.not_eq_true', Bool.and_eq_false_iff, decide_eq_true_eq, decide_eq_false_iff_not]; omega)]
      exact .inr ⟨rfl, rfl, by simp; omega⟩
  rw [if_neg h4]
  have n1 : (a0 / 32 == 6) = false := by simp; omega
  have n2 : (a0 / 16 == 14) = false := by simp; omega
  have nf : decide (a0 = 239) = false := by simp; omega
  rw [n1, n2, nf]
  by_cases h5 : a0 < 248
  · rw [if_pos h5]
    have n3 : (a0 / 8 == 30) = true := by simp; omega
    rw [n3]
    simp only [Bool.true_and, Bool.false_and, Bool.and_false, Bool.false_eq_true, if_false]
    by_cases hc : ((decide (1 < n) && Nm.cont a1) && (decide (2 < n) && Nm.cont a2) && (decide (3 < n) && Nm.cont a3)) = true
    · have hc2 := hc
      simp only [Nm.cont, Bool.and_eq_true, decide_eq_true_eq] at hc2
      rw [if_pos hc, k1 hc2.1.1.1, k2 hc2.1.2.1, k3 hc2.2.1]
      have ev : (((a0 - 240) * 64 + a1 - 128) * 64 + a2 - 128) * 64 + a3 - 128 = a0 % 8 * 262144 + a1 % 64 * 4096 + a2 % 64 * 64 + a3 % 64 := by omega
      rw [ev]
      generalize a0 % 8 * 262144 + a1 % 64 * 4096 + a2 % 64 * 64 + a3 % 64 = v at *
      clear ev
      have hn : 4 ≤ n := by omega
      by_cases hv : 65536 ≤ v ∧ v ≤ 1114111
      · rw [if_pos (by simp only [Nm.cont, Nm.okc, Bool.and_eq_true, Bool.not_eq_true', Bool.and_eq_false_iff, decide_eq_true_eq, decide_eq_false_iff_not]; omega), if_pos (by simp only [Bool.and_eq_true, Bool.or_eq_true, decide_eq_true_eq]; omega)]
        exact .inl ⟨by omega, rfl, .inl (by show v ≠ 65533; omega)⟩
      · rw [if_neg (by simp only [Nm.cont, Nm.okc, Bool.and_eq_true, Bool.not_eq_true', Bool.and_eq_false_iff, decide_eq_true_eq, decide_eq_false_iff_not]; omega), if_neg (by simp only [Bool.and_eq_true, Bool.or_eq_true, decide_eq_true_eq]; omega)]
        exact .inr ⟨rfl, rfl, by simp⟩
    · rw [if_neg hc]
      simp only [Nm.cont, Bool.and_eq_true, decide_eq_true_eq] at hc
      rw [if_neg (by simp only [Nm.cont, Nm.okc, Bool.and_eq_true, Bool.not_eq_true', Bool.and_eq_false_iff, decide_eq_true_eq, decide_eq_false_iff_not]; omega)]
      exact .inr ⟨rfl, rfl, by simp⟩
  · rw [if_neg h5]
    have n3 : (a0 / 8 == 30) = false := by simp; omega
    rw [n3]
    exact .inr ⟨rfl, rfl, by simp⟩
end Go.Proofs.YtkdhjejchdcipaaDoor
/-
  Words for slices of ints that the call made.
-/
namespace Go.Proofs.YtkdhjejchdcipaaDoor
open Go.RowKit
set_option linter.unusedVariables false

theorem int_info : (Tryd.prog.info? 3).map (fun i => (i.zero, i.size, i.bytes)) = some (some (.int .i64 0), 1, 8) := by kernel_rfl
theorem info_int : ∃ i, Tryd.prog.info? 3 = some i ∧ i.zero = some (.int .i64 0) ∧ i.size = 1 ∧ i.bytes = 8 := by
  obtain ⟨i0, hi0, hz0, hz1, hz2⟩ := info_parts int_info
  exact ⟨i0, hi0, hz0, hz1, hz2⟩
def I64 (x : Nat) : Value := .int .i64 (x : Int)
def OwnI (B : Nat) (w : World) (v : Value) (l : List Nat) : Prop := w.ownsRow B 3 1 v l.length (l.map I64)
section
variable {w w' : World} {B C n c : Nat} {A : Option Addr} {v : Value} {l : List Nat}
theorem OwnI.nil (w : World) (B : Nat) : OwnI B w (.slice none 0 0) [] := World.ownsRow_nil w B _ _
theorem OwnI.below (h : OwnI B w v l) (hb : Below w.heap.size w w') : OwnI B w' v l :=
  World.ownsRow.kept (row := none) h ⟨hb.os, hb.tape, hb.output, hb.size, fun k hk _ => hb.block k hk⟩ (by cases v.ownBlock <;> simp)
theorem OwnI.form (h : OwnI B w v l) : ∃ A c, v = .slice A l.length c := by
  obtain ⟨h1, h2⟩ := h
  rcases h2 with ⟨rfl, h0⟩ | ⟨g, cap, cur, rfl, _⟩
  · exact ⟨none, 0, by rw [h0]⟩
  · exact ⟨_, cap, rfl⟩
theorem OwnI.open_ (h : OwnI B w (.slice A n c) l) (hn : 0 < n) : n = l.length ∧ ∃ g, A = some ⟨g, 0, none⟩ ∧ B ≤ g ∧ g < w.heap.size ∧
    ∀ j (hj : j < l.length), w.cell? ⟨g, j, none⟩ = some (.int .i64 (l[j] : Int)) := by
  obtain ⟨A', c', e⟩ := h.form
  injection e with e1 e2 e3
  subst e2
  have h' := h
  obtain ⟨h1, h2⟩ := h
  rcases h2 with ⟨he, h0⟩ | ⟨g, cap, cur, he, hg, hh, r⟩
  · omega
  · injection he with e1 _ e3
    subst e1 e3
    refine ⟨rfl, g, rfl, hg, (Array.getElem?_eq_some_iff.1 hh).1, fun j hj => ?_⟩
    rw [World.ownsRow.cellAt h' j (by omega)]
    simp [hj, I64]
theorem OwnI.grown {W wr w' : World} (hown : OwnI B wr v l) (hg : wr.grownBy w' v.ownBlock) (hC : C ≤ B) (hC' : C ≤ wr.heap.size) (hb : Below C W wr) : Below C W w' :=
  hb.grown hg hC' (fun k hk => by have := (World.ownsRow.lt hown k hk).1; omega)
theorem push_int {ops : Array Oper} {rest : List Oper} {o : Oper} {a : Act} {Q : Exit → Act → World → Prop} (hgd : o.guard = none) (s x : Operand)
    (ho : o.op = .call { callee := .builtin .append, args := #[s, x], argTypes := #[149, 149] }) (wr : World) (z : Nat) (hz : z = wr.heap.size) (y : Nat) (yv : Int)
    (hs : a.eval s = v) (hx : a.eval x = .slice (some ⟨z, 0, none⟩) 1 1) (hown : OwnI B wr v l) (hB : B ≤ wr.heap.size) (hl : l.length < 1000000) (k : Nat) (hk : l.length + 1 = k)
    (h : ∀ A' c' w', OwnI B w' (.slice A' k c') (l ++ [y]) → wr.grownBy w' v.ownBlock → wpList Tryd.prog ops Q rest (a.put o.dst (.slice A' k c')) w') (hy : yv = (y : Int)) :
    wpList Tryd.prog ops Q (o :: rest) a (wr.alloc (.cells #[.int .i64 yv] 3)) := by
  obtain ⟨i0, hi0, hz0, hz1, hz2⟩ := info_int
  subst hy hz hk
  refine wpList_append_own _ hgd s x 149 ho B 3 i0 (.int .i64 0) 1 8 Tryd.underlying149 hi0 hz0 hz1 hz2 rfl (by decide) v l.length (l.map I64) hs (World.ownsRow.alloc hown _) ⟨wr.heap.size, 0, none⟩ 1 1 [I64 y] hx rfl ?_ ?_ (by simp only [maxLen]; omega) (by omega) (by simp; omega) ?_
  · intro j u hu
    cases j with
    | succ j => simp at hu
    | zero =>
      simp at hu
      subst hu
      rw [show ((⟨wr.heap.size, 0, none⟩ : Addr).add 0) = ⟨wr.heap.size, 0, none⟩ from rfl, World.cell?_alloc_at _ _ _ _ rfl]; rfl
  · intro u hu; simp at hu; subst hu; rfl
  · intro v' w' hown' hg _
    have h1 : OwnI B w' v' (l ++ [y]) := by simpa [OwnI, I64] using hown'
    obtain ⟨A', c', rfl⟩ := h1.form
    rw [List.length_append, List.length_singleton] at *
    refine h A' c' w' h1 ⟨hg.os, hg.tape, hg.output, Nat.le_trans (by simp) hg.size, fun k hk hne => ?_⟩
    rw [hg.block k (by simp; omega) hne]
    exact Below.heap_alloc wr _ k hk
end
end Go.Proofs.YtkdhjejchdcipaaDoor
/-
  leb's small functions, walked: only, fits, extend.
-/
namespace Go.Proofs.YtkdhjejchdcipaaDoor
open Go.RowKit
set_option linter.unusedVariables false

theorem xor_u : bits .xor .u64 IntKind.u64.max 0 = 18446744073709551615 := by decide
theorem xor_s : bits .xor .i64 (-1) 0 = -1 := by decide

theorem only_u (n : Int) (w : World) (h0 : 0 ≤ n) (h1 : n < 18446744073709551615) :
    Calls Tryd.prog 176 #[.int .u64 n] w fun e w' => e = .returned (.bool (decide (n = 0))) ∧ w = w' := by
  by_cases h : n = 0
  · subst h
    go_enter Tryd.func176, Tryd.ntmps176
    go_wp2
    go_ret
    exact ⟨rfl, rfl⟩
  · go_enter Tryd.func176, Tryd.ntmps176
    go_wp2
    go_ret
    refine ⟨ret_bool ?_, rfl⟩
    rw [xor_u]; simp; omega
theorem only_s (n : Int) (w : World) :
    Calls Tryd.prog 185 #[.int .i64 n] w fun e w' => e = .returned (.bool (decide (n = 0 ∨ n = -1))) ∧ w = w' := by
  by_cases hn : n = 0
  · subst hn
    go_enter Tryd.func185, Tryd.ntmps185
    go_wp2
    go_ret
    exact ⟨rfl, rfl⟩
  · go_enter Tryd.func185, Tryd.ntmps185
    go_wp2
    go_ret
    refine ⟨ret_bool ?_, rfl⟩
    rw [xor_s, Bool.eq_iff_iff]; simp; intro e; exact absurd e hn
theorem cast_shr (x k : Nat) (c : Nat) : ((x : Int) / 2 ^ k == (c : Int)) = decide (x / 2 ^ k = c) := by
  rw [Bool.eq_iff_iff, beq_iff_eq, decide_eq_true_iff]
  rw [show ((x : Int) / 2 ^ k) = ((x / 2 ^ k : Nat) : Int) by simp]
  omega
theorem fits_u (x left : Nat) (w : World) (hx' : x < 128) (hl : 1 ≤ left) (hl' : left ≤ 64) :
    Calls Tryd.prog 144 #[.int .u8 x, .int .i64 left, .bool false] w fun e w' => e = .returned (.bool (Leb.fits false x left)) ∧ ∃ n, w' = w.drewN n := by
  go_enter Tryd.func144, Tryd.ntmps144
  go_wp2
  go_ret
  exact ⟨ret_bool (cast_shr x (min left 8) 0), 0, rfl⟩
theorem fits_s (x left : Nat) (w : World) (hx' : x < 128) (hl : 1 ≤ left) (hl' : left ≤ 64) :
    Calls Tryd.prog 144 #[.int .u8 x, .int .i64 left, .bool true] w fun e w' => e = .returned (.bool (Leb.fits true x left)) ∧ ∃ n, w' = w.drewN n := by
  have hb1 : (0 : Int) ≤ (left : Int) - 1 := by omega
  have hb2 : (1 : Int) ≤ (left : Int) := by omega
  have ha := cast_shr x (min (left - 1) 8) 0
  have hb := cast_shr x (min (left - 1) 8) (127 / 2 ^ min (left - 1) 8)
  by_cases h : x / 2 ^ min (left - 1) 8 = 0
  · have h1 : ((x : Int) / 2 ^ min (left - 1) 8 == 0) = true := by rw [show (0 : Int) = ((0 : Nat) : Int) from rfl, ha]; simpa using h
    have H := Lib.hid h
    clear h ha hb
    go_enter Tryd.func144, Tryd.ntmps144
    go_wp2
    go_quiet (fail)
    go_wp2
    go_ret
    exact ⟨ret_bool (by rw [Leb.fits, H.out]; rfl), _, rfl⟩
  · have h1 : ((x : Int) / 2 ^ min (left - 1) 8 == 0) = false := by rw [show (0 : Int) = ((0 : Nat) : Int) from rfl, ha]; simpa using h
    have H := Lib.hid h
    have Hb := Lib.hid hb
    clear h ha hb
    go_enter Tryd.func144, Tryd.ntmps144
    go_wp2
    go_quiet (fail)
    go_wp2
    go_ret
    refine ⟨ret_bool ?_, _, rfl⟩
    rw [Leb.fits, if_pos rfl, decide_eq_false H.out, Bool.false_or, ← Hb.out]; simp
theorem fits_any (sg : Bool) (x left : Nat) (w : World) (hx' : x < 128) (hl : 1 ≤ left) (hl' : left ≤ 64) :
    Calls Tryd.prog 144 #[.int .u8 x, .int .i64 left, .bool sg] w fun e w' => e = .returned (.bool (Leb.fits sg x left)) ∧ ∃ n, w' = w.drewN n := by
  cases sg
  · exact fits_u x left w hx' hl hl'
  · exact fits_s x left w hx' hl hl'

theorem bit_test (n r : Nat) (h : n < 18446744073709551616) : (bits .and .u64 ((n : Int) / 2 ^ r) 1 == 1) = decide (n / 2 ^ r % 2 = 1) := by
  rw [show ((n : Int) / 2 ^ r) = ((n / 2 ^ r : Nat) : Int) by simp, show (1 : Int) = ((1 : Nat) : Int) from rfl, u64_and_nat _ _ (Nat.lt_of_le_of_lt (Nat.div_le_self _ _) h) (by omega), Nat.and_one_is_mod]
  rw [Bool.eq_iff_iff, beq_iff_eq, decide_eq_true_iff]
  omega
theorem ext_or (n r : Nat) (h : n < 2 ^ r) (h2 : n < 18446744073709551616) : bits .or .u64 (n : Int) (18446744073709551615 * 2 ^ min r 64 % 18446744073709551616) = ((n + (18446744073709551616 - 2 ^ min r 64) : Nat) : Int) := by
  have hp : (2 : Nat) ^ min r 64 ≤ 2 ^ 64 := Nat.pow_le_pow_right (by omega) (Nat.min_le_right _ _)
  have hn : n < 2 ^ min r 64 := by
    rcases Nat.le_total r 64 with hr | hr
    · rw [Nat.min_eq_left hr]; exact h
    · rw [Nat.min_eq_right hr]; exact h2
  have e : (18446744073709551615 * 2 ^ min r 64 % 18446744073709551616 : Int) = ((18446744073709551616 - 2 ^ min r 64 : Nat) : Int) := by
    have : ((2 : Int) ^ min r 64) = ((2 ^ min r 64 : Nat) : Int) := by simp
    rw [this]
    have h1 : 1 ≤ 2 ^ min r 64 := Nat.one_le_two_pow
    omega
  rw [e, u64_or_nat n _ h2 (by have : 1 ≤ 2 ^ min r 64 := Nat.one_le_two_pow; omega)]
  have hm : (18446744073709551616 - 2 ^ min r 64 : Nat) = 2 ^ min r 64 * (2 ^ (64 - min r 64) - 1) := by
    rw [Nat.mul_sub, ← Nat.pow_add, show min r 64 + (64 - min r 64) = 64 by omega]; omega
  rw [hm, Nat.or_comm, ← Nat.two_pow_add_eq_or_of_lt hn, Nat.add_comm]
theorem extend_u (n r : Nat) (w : World) :
    Calls Tryd.prog 145 #[.int .u64 n, .int .i64 r, .bool false] w fun e w' => e = .returned (.int .u64 (Leb.ext false n r : Nat)) ∧ w = w' := by
  go_enter Tryd.func145, Tryd.ntmps145
  go_wp2
  go_ret
  exact ⟨rfl, rfl⟩
theorem extend_s (n r : Nat) (w : World) (h : n < 18446744073709551616) (h2 : n < 2 ^ r) (hr : 1 ≤ r) (hr' : r ≤ 70) :
    Calls Tryd.prog 145 #[.int .u64 n, .int .i64 r, .bool true] w fun e w' => e = .returned (.int .u64 (Leb.ext true n r : Nat)) ∧ w = w' := by
  have hb1 : (0 : Int) ≤ (r : Int) - 1 := by omega
  have hb2 : (1 : Int) ≤ (r : Int) := by omega
  have hb := bit_test n (min (r - 1) 64) h
  have ho := ext_or n r h2 h
  have Ho := Lib.hid ho
  have H2 := Lib.hid h2
  clear ho h2
  by_cases ht : n / 2 ^ min (r - 1) 64 % 2 = 1
  · rw [decide_eq_true ht] at hb
    have H := Lib.hid ht
    clear ht
    go_enter Tryd.func145, Tryd.ntmps145
    go_wp2
    go_ret
    exact ⟨ret_int (by rw [Leb.ext, decide_eq_true H.out, Bool.true_and, if_pos rfl]; exact Ho.out), rfl⟩
  · rw [decide_eq_false ht] at hb
    have H := Lib.hid ht
    clear ht
    go_enter Tryd.func145, Tryd.ntmps145
    go_wp2
    go_ret
    exact ⟨ret_int (by rw [Leb.ext, decide_eq_false H.out]; rfl), rfl⟩
theorem extend_any (sg : Bool) (n r : Nat) (w : World) (h : n < 18446744073709551616) (h2 : n < 2 ^ r) (hr : 1 ≤ r) (hr' : r ≤ 70) :
    Calls Tryd.prog 145 #[.int .u64 n, .int .i64 r, .bool sg] w fun e w' => e = .returned (.int .u64 (Leb.ext sg n r : Nat)) ∧ w = w' := by
  cases sg
  · exact extend_u n r w
  · exact extend_s n r w h h2 hr hr'
end Go.Proofs.YtkdhjejchdcipaaDoor
/-
  leb's put, walked.
-/
namespace Go.Proofs.YtkdhjejchdcipaaDoor
open Go.RowKit
set_option linter.unusedVariables false

theorem make10 (w : World) : (Instr.makeSlice 54 (.int .i64 0) (.int .i64 10)).run Tryd.prog w = .ok (.slice (some ⟨w.heap.size, 0, none⟩) 0 10) (w.alloc (.cells (Array.replicate 10 (.int .u8 0)) 5)) := by kernel_rfl

theorem and127 (y : Int) (h0 : 0 ≤ y) (h1 : y < 256) : bits .and .u8 y 127 = y % 128 := bits_mask .u8 8 (by decide) wraps_u8 7 (by decide) y h0 h1
theorem or128 (y : Nat) (h : y < 128) : bits .or .u8 (y : Int) 128 = ((y + 128 : Nat) : Int) := by
  have e := Nat.two_pow_add_eq_or_of_lt (i := 7) (b := y) (by omega) 1
  rw [show (128 : Int) = ((128 : Nat) : Int) from rfl, u8_or_nat y 128 (by omega) (by omega), Nat.or_comm]
  simp at e
  omega
theorem low_byte (m : Nat) (h : m < 128) : bits .and .u8 (m : Int) 127 = (m : Int) := by rw [and127 _ (by omega) (by omega)]; omega
theorem more_byte (y : Int) : bits .or .u8 (bits .and .u8 (y % 256) 127) 128 = (((y % 128).toNat + 128 : Nat) : Int) := by
  rw [and127 _ (by omega) (by omega), show y % 256 % 128 = (((y % 128).toNat : Nat) : Int) by omega]
  exact or128 _ (by omega)

set_option maxHeartbeats 400000 in
theorem put_u (n : Nat) (w : World) (hn : n < 18446744073709551616) :
    Calls Tryd.prog 158 #[.int .u64 n] w fun e w' => ∃ v, e = .returned v ∧ Own w.heap.size w' v (Leb.putU n) ∧ Below w.heap.size w w' := by
  have hmk := make10
  have hx : decide (bits .xor .u64 IntKind.u64.max 0 < 0) = false := by decide
  go_enter Tryd.func158, Tryd.ntmps158
  go_wp2_with fail
  go_loopw [0, 4] (fun t v wr => ∃ (m : Nat) (pre : List Nat), m < 18446744073709551616 ∧ t = .int .u64 m ∧ Own w.heap.size wr v pre ∧ pre.length ≤ 10 ∧ Below w.heap.size w wr ∧ Hid (Leb.putU n = pre ++ Leb.putU m) ∧ Hid (pre.length + (Leb.putU m).length ≤ 10))
    (fun t _ _ => (intOf t).toNat)
  case atStart => exact ⟨n, [], hn, rfl, World.ownsRow_made w _ 10 (Nat.le_refl _) (by decide) (by simp), by simp, (Below.refl _ _).alloc (Nat.le_refl _) _, by simp [Hid], by simpa [Hid] using Leb.putU_len10 n hn⟩
  case round =>
    obtain ⟨m, pre, hm, rfl, hown, hpre, hb, H1, H2⟩ := hrel
    by_cases hlt : m < 128
    · have h0 : (m : Int) / 128 = 0 := by omega
      go_wp2_with (first
        | (go_at_call 176; refine (only_u _ _ (by omega) (by omega)).mono ?_; rintro e w' ⟨rfl, rfl⟩)
        | (at_builtin; refine push_arm rfl (.tmp 25) (.tmp 29) rfl wr m _ rfl rfl hown hb.size (by omega) ?_ (low_byte m hlt); intro v' w' hown' hg'))
      go_ret
      refine ⟨v', rfl, ?_, Own.grown hown hg' (Nat.le_refl _) hb.size hb⟩
      have e := H1.out
      rw [Leb.putU_lo hlt] at e
      rw [e]; exact hown'
    · have h0 : ¬ (m : Int) / 128 = 0 := by omega
      go_wp2_with (first
        | (go_at_call 176; refine (only_u _ _ (by omega) (by omega)).mono ?_; rintro e w' ⟨rfl, rfl⟩)
        | (at_builtin; refine push_arm rfl (.tmp 16) (.tmp 21) rfl wr (((m : Int) % 128).toNat + 128) _ rfl rfl hown hb.size (by omega) ?_ (more_byte m); intro v' w' hown' hg'))
      have e := H1.out
      have e2 := H2.out
      rw [Leb.putU_hi hlt] at e e2
      simp at e2
      go_roundw
      case rel => exact ⟨m / 128, pre ++ [((m : Int) % 128).toNat + 128], by omega, by congr 1, hown', by have := Leb.putU_pos (m / 128); simp; omega, Own.grown hown hg' (Nat.le_refl _) hb.size hb, by rw [Hid, e, show ((m : Int) % 128).toNat = m % 128 by omega]; simp, by rw [Hid]; simp; omega⟩
      case measure => simp [intOf]; omega

theorem only_yes (n : Int) (w : World) (h : n = 0 ∨ n = -1) :
    Calls Tryd.prog 185 #[.int .i64 n] w fun e w' => e = .returned (.bool true) ∧ w = w' := (only_s n w).mono fun _ _ ⟨he, hw⟩ => ⟨by rw [he, decide_eq_true h], hw⟩
theorem only_no (n : Int) (w : World) (h : ¬(n = 0 ∨ n = -1)) :
    Calls Tryd.prog 185 #[.int .i64 n] w fun e w' => e = .returned (.bool false) ∧ w = w' := (only_s n w).mono fun _ _ ⟨he, hw⟩ => ⟨by rw [he, decide_eq_false h], hw⟩
theorem low_byte_s (m : Int) : bits .and .u8 (m % 256) 127 = (((m % 128).toNat : Nat) : Int) := by rw [and127 _ (by omega) (by omega)]; omega

set_option maxHeartbeats 400000 in
theorem put_s (n : Int) (w : World) (hn : -9223372036854775808 ≤ n) (hn' : n < 9223372036854775808) :
    Calls Tryd.prog 177 #[.int .i64 n] w fun e w' => ∃ v, e = .returned v ∧ Own w.heap.size w' v (Leb.putS n) ∧ Below w.heap.size w w' := by
  have hmk := make10
  have hx : decide (bits .xor .i64 (-1) 0 < 0) = true := by decide
  go_enter Tryd.func177, Tryd.ntmps177
  go_wp2_with fail
  go_loopw [0, 4] (fun t v wr => ∃ (m : Int) (pre : List Nat), -9223372036854775808 ≤ m ∧ m < 9223372036854775808 ∧ t = .int .i64 m ∧ Own w.heap.size wr v pre ∧ pre.length ≤ 10 ∧ Below w.heap.size w wr ∧ Hid (Leb.putS n = pre ++ Leb.putS m) ∧ Hid (pre.length + (Leb.putS m).length ≤ 10))
    (fun t _ _ => (intOf t).natAbs)
  case atStart => exact ⟨n, [], hn, hn', rfl, World.ownsRow_made w _ 10 (Nat.le_refl _) (by decide) (by simp), by simp, (Below.refl _ _).alloc (Nat.le_refl _) _, by simp [Hid], by simpa [Hid] using Leb.putS_len10 n ⟨hn, hn'⟩⟩
  case round =>
    obtain ⟨m, pre, hm, hm', rfl, hown, hpre, hb, H1, H2⟩ := hrel
    by_cases hlt : -64 ≤ m ∧ m < 64
    · have H3 := Lib.hid hlt
      obtain ⟨hl1, hl2⟩ := hlt
      go_wp2_with (first
        | (go_at_call 185; refine (only_yes _ _ (by omega)).mono ?_; rintro e w' ⟨rfl, rfl⟩)
        | (at_builtin; refine push_arm rfl (.tmp 25) (.tmp 29) rfl wr (m % 128).toNat _ rfl rfl hown hb.size (by omega) ?_ (low_byte_s m); intro v' w' hown' hg'))
      go_ret
      refine ⟨v', rfl, ?_, Own.grown hown hg' (Nat.le_refl _) hb.size hb⟩
      have e := H1.out
      rw [Leb.putS_lo H3.out] at e
      rw [e]; exact hown'
    · have H3 := Lib.hid hlt
      clear hlt
      go_wp2_with (first
        | (go_at_call 185; refine (only_no _ _ (by have := H3.out; omega)).mono ?_; rintro e w' ⟨rfl, rfl⟩)
        | (at_builtin; refine push_arm rfl (.tmp 16) (.tmp 21) rfl wr ((m % 128).toNat + 128) _ rfl rfl hown hb.size (by omega) ?_ (more_byte m); intro v' w' hown' hg'))
      have e := H1.out
      have e2 := H2.out
      have hlt := H3.out
      rw [Leb.putS_hi hlt] at e e2
      simp at e2
      go_roundw
      case rel => exact ⟨m / 128, pre ++ [(m % 128).toNat + 128], by omega, by omega, rfl, hown', by have := Leb.putS_pos (m / 128); simp; omega, Own.grown hown hg' (Nat.le_refl _) hb.size hb, by rw [Hid, e]; simp, by rw [Hid]; simp; omega⟩
      case measure => simp [intOf]; omega
end Go.Proofs.YtkdhjejchdcipaaDoor

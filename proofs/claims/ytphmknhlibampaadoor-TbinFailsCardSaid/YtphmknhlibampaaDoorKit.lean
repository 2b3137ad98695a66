/-
  Words for slices of bytes: 'Own': a slice that the call made and may write; 'Bytes': a slice that is read. Laws for append onto an owned one.
-/
import Derived.Test.YtphmknhlibampaaDoorRows
import Derived.WalkKit
import Derived.ProofKit
import Derived.Below
import Derived.Lib.Hide
import Derived.Outline
import Derived.Deep.QuietTactic
import Derived.Deep.Draws
import Derived.BigQuiet
import Derived.Laws.AppendOwn
import Derived.Laws.OwnMore
import Derived.Laws.AppendOwnNone
import Derived.LoopTactic
import Derived.OwnWalk
import Derived.DataShut
import Derived.Laws.IdiomStrings
namespace Go.Proofs.YtphmknhlibampaaDoor
open Go.RowKit
set_option linter.unusedVariables false
set_option maxRecDepth 100000

theorem ret_bool {a b : Bool} (h : a = b) : Ending.returned (.bool a) = .returned (.bool b) := by rw [h]
theorem ret_int {k : IntKind} {a b : Int} (h : a = b) : Ending.returned (.int k a) = .returned (.int k b) := by rw [h]

theorem u8_wf {n : Int} (h : (Lit.int .u8 n).wf = true) : 0 ≤ n ∧ n < 256 := by
  have := (Lit.wf_int_iff _ _).1 h
  rw [show IntKind.u8.min = 0 from rfl, show IntKind.u8.max = 255 from rfl] at this
  omega
theorem u64_wf {n : Int} (h : (Lit.int .u64 n).wf = true) : 0 ≤ n ∧ n < 18446744073709551616 := by
  have := (Lit.wf_int_iff _ _).1 h
  rw [show IntKind.u64.min = 0 from rfl, show IntKind.u64.max = 18446744073709551615 from rfl] at this
  omega
theorem i64_wf {n : Int} (h : (Lit.int .i64 n).wf = true) : -9223372036854775808 ≤ n ∧ n < 9223372036854775808 := by
  have := (Lit.wf_int_iff _ _).1 h
  rw [show IntKind.i64.min = -9223372036854775808 from rfl, show IntKind.i64.max = 9223372036854775807 from rfl] at this
  omega
theorem below_drewN {B : Nat} {w a : World} (h : Below B a w) (n : Nat) : Below B a (w.drewN n) := ⟨h.os, h.tape, h.output, h.size, h.block⟩
theorem byte_info : (Tryd.prog.info? 5).map (fun i => (i.zero, i.size, i.bytes)) = some (some (.int .u8 0), 1, 1) := by kernel_rfl
def U8 (x : Nat) : Value := .int .u8 (x : Int)
theorem U8_one (u : Value) (l : List Nat) (h : u ∈ l.map U8) : u.oneCell' = true := by
  obtain ⟨x, _, rfl⟩ := List.mem_map.1 h; rfl

/-- A slice of bytes that the call made, from block B on. -/
def Own (B : Nat) (w : World) (v : Value) (l : List Nat) : Prop := w.ownsRow B 5 1 v l.length (l.map U8)

/-- A slice of bytes that is read, below block C. -/
def Bytes (w : World) (C : Nat) (A : Option Addr) (n c : Nat) (l : List Nat) : Prop :=
  l.length = n ∧ n ≤ c ∧ c ≤ maxLen ∧ (∀ x ∈ l, x < 256) ∧ (0 < n → ∃ b off, A = some ⟨b, off, none⟩ ∧ b < C ∧ ∀ j (h : j < l.length), w.cell? ⟨b, off + j, none⟩ = some (.int .u8 (l[j] : Int)))

section
variable {w w' : World} {B C n c : Nat} {A : Option Addr} {v : Value} {l : List Nat}

theorem Own.nil (w : World) (B : Nat) : Own B w (.slice none 0 0) [] := World.ownsRow_nil w B _ _
theorem Own.below (h : Own B w v l) (hb : Below w.heap.size w w') : Own B w' v l :=
  World.ownsRow.kept (row := none) h ⟨hb.os, hb.tape, hb.output, hb.size, fun k hk _ => hb.block k hk⟩ (by cases v.ownBlock <;> simp)
theorem Own.drewN (h : Own B w v l) (k : Nat) : Own B (w.drewN k) v l := h
theorem Own.alloc (h : Own B w v l) (o : Obj) : Own B (w.alloc o) v l := World.ownsRow.alloc h o
theorem Own.base {B' : Nat} (h : Own B w v l) (hB : B' ≤ B) : Own B' w v l := by
  obtain ⟨h1, h2⟩ := h
  refine ⟨h1, ?_⟩
  rcases h2 with h2 | ⟨g, cap, cur, hv, hg, r⟩
  · exact .inl h2
  · exact .inr ⟨g, cap, cur, hv, by omega, r⟩
theorem Own.bytes (h : Own B w v l) (hl : ∀ x ∈ l, x < 256) : ∃ A c, v = .slice A l.length c ∧ Bytes w w.heap.size A l.length c l := by
  obtain ⟨h1, h2⟩ := h
  rcases h2 with ⟨rfl, h0⟩ | ⟨g, cap, cur, rfl, hg, hh, hn, hc, hs, ht⟩
  · exact ⟨none, 0, by rw [h0], rfl, by omega, by simp [maxLen], hl, fun h => absurd h (by omega)⟩
  · refine ⟨_, cap, rfl, rfl, hn, hc, hl, fun _ => ⟨g, 0, rfl, (Array.getElem?_eq_some_iff.1 hh).1, fun j hj => ?_⟩⟩
    rw [Nat.zero_add, cell_of_row w g j cur _ (0, 0) hh]
    have e : (l.map U8)[j]? = some (U8 l[j]) := by simp [hj]
    rw [← ht, List.getElem?_take] at e
    split at e
    · simpa [U8] using e
    · cases e

theorem Bytes.below (h : Bytes w C A n c l) (hb : Below C w w') : Bytes w' C A n c l := by
  obtain ⟨h1, h2, h3, h4, h5⟩ := h
  refine ⟨h1, h2, h3, h4, fun hn => ?_⟩
  obtain ⟨b, off, e, hb', hc⟩ := h5 hn
  exact ⟨b, off, e, hb', fun j hj => (hb.cell (p := ⟨b, off + j, none⟩) hb').trans (hc j hj)⟩
theorem Bytes.more {C' : Nat} (h : Bytes w C A n c l) (hC : C ≤ C') : Bytes w C' A n c l := by
  obtain ⟨h1, h2, h3, h4, h5⟩ := h
  refine ⟨h1, h2, h3, h4, fun hn => ?_⟩
  obtain ⟨b, off, e, hb', hc⟩ := h5 hn
  exact ⟨b, off, e, by omega, hc⟩
theorem Bytes.drewN (h : Bytes w C A n c l) (k : Nat) : Bytes (w.drewN k) C A n c l := h
theorem Bytes.at_ (h : Bytes w C A n c l) (hn : 0 < n) : ∃ b off, A = some ⟨b, off, none⟩ ∧ b < C ∧ ∀ j (h : j < l.length), w.cell? ⟨b, off + j, none⟩ = some (.int .u8 (l[j] : Int)) := h.2.2.2.2 hn
theorem Bytes.none_ (w : World) (C : Nat) : Bytes w C none 0 0 [] := ⟨rfl, Nat.le_refl _, by simp [maxLen], by simp, fun h => absurd h (by omega)⟩

theorem info_byte : ∃ i, Tryd.prog.info? 5 = some i ∧ i.zero = some (.int .u8 0) ∧ i.size = 1 ∧ i.bytes = 1 := by
  obtain ⟨i0, hi0, hz0, hz1, hz2⟩ := info_parts byte_info
  exact ⟨i0, hi0, hz0, hz1, hz2⟩

/-- 'append(v, y)' of one byte: the walk's world holds the byte in a new block. -/
theorem push_arm {ops : Array Oper} {rest : List Oper} {o : Oper} {a : Act} {Q : Exit → Act → World → Prop} (hgd : o.guard = none) (s x : Operand)
    (ho : o.op = .call { callee := .builtin .append, args := #[s, x], argTypes := #[22, 22] }) (wr : World) (y : Nat) (yv : Int)
    (hs : a.eval s = v) (hx : a.eval x = .slice (some ⟨wr.heap.size, 0, none⟩) 1 1) (hown : Own B wr v l) (hB : B ≤ wr.heap.size) (hl : l.length < 1000000)
    (h : ∀ v' w', Own B w' v' (l ++ [y]) → wr.grownBy w' v.ownBlock → wpList Tryd.prog ops Q rest (a.put o.dst v') w') (hy : yv = (y : Int)) :
    wpList Tryd.prog ops Q (o :: rest) a (wr.alloc (.cells #[.int .u8 yv] 5)) := by
  obtain ⟨i0, hi0, hz0, hz1, hz2⟩ := info_byte
  subst hy
  refine wpList_append_own _ hgd s x 22 ho B 5 i0 (.int .u8 0) 1 1 Tryd.underlying22 hi0 hz0 hz1 hz2 rfl (by decide) v l.length (l.map U8) hs (World.ownsRow.alloc hown _) ⟨wr.heap.size, 0, none⟩ 1 1 [U8 y] hx rfl ?_ ?_ (by simp only [maxLen]; omega) (by omega) (by simp; omega) ?_
  · intro j u hu
    cases j with
    | succ j => simp at hu
    | zero =>
      simp at hu
      subst hu
      show (wr.alloc _).cell? ((⟨wr.heap.size, 0, none⟩ : Addr).add 0) = _
      rw [show ((⟨wr.heap.size, 0, none⟩ : Addr).add 0) = ⟨wr.heap.size, 0, none⟩ from rfl, World.cell?_alloc_at _ _ _ _ rfl]; rfl
  · intro u hu; simp at hu; subst hu; rfl
  · intro v' w' hown' hg _
    refine h v' w' (by simpa [Own, U8] using hown') ⟨hg.os, hg.tape, hg.output, Nat.le_trans (by simp) hg.size, fun k hk hne => ?_⟩
    rw [hg.block k (by simp; omega) hne]
    exact Below.heap_alloc wr _ k hk

/-- What an append does to the frame. -/
theorem Own.grown {W wr w' : World} (hown : Own B wr v l) (hg : wr.grownBy w' v.ownBlock) (hC : C ≤ B) (hC' : C ≤ wr.heap.size) (hb : Below C W wr) : Below C W w' :=
  hb.grown hg hC' (fun k hk => by have := (World.ownsRow.lt hown k hk).1; omega)

/-- The string of some bytes. -/
def str (l : List Nat) : ByteArray := ⟨(l.map UInt8.ofNat).toArray⟩
theorem run_str (w : World) (h : Bytes w C A n c l) : (convert 22 9 (.slice A n c)).run Tryd.prog w = .ok (.string (str l)) w := by
  obtain ⟨h1, h2, h3, h4, h5⟩ := h
  subst h1
  rcases Nat.eq_zero_or_pos l.length with h0 | h0
  · have hl : l = [] := List.eq_nil_of_length_eq_zero h0
    subst hl
    rw [run_convert_bytes_string w _ _ 5 A _ c Tryd.underlying22 Tryd.underlying5 Tryd.underlying9]
    cases A with
    | none => simp [Conv.bytesToString, str]; rfl
    | some a =>
      have := run_bytesToString (P := Tryd.prog) w a 0 c [] (by simp [loadCells, loadCellsFrom, Sem.run_pure])
      exact this
  · obtain ⟨b, off, rfl, hb, hc⟩ := h5 h0
    have := run_convert_bytes_back (P := Tryd.prog) w 22 9 5 ⟨b, off, none⟩ c (l.map UInt8.ofNat) Tryd.underlying22 Tryd.underlying5 Tryd.underlying9 (fun j hj => by
      have hj' : j < l.length := by simpa using hj
      rw [Addr.add_lit, hc j hj']
      have hx := h4 l[j] (List.getElem_mem hj')
      simp [Nat.mod_eq_of_lt hx])
    rw [List.length_map] at this
    exact this
theorem Own.str (h : Own B w v l) (hl : ∀ x ∈ l, x < 256) : (convert 22 9 v).run Tryd.prog w = .ok (.string (str l)) w := by
  obtain ⟨A, c, rfl, hb⟩ := h.bytes hl
  exact run_str w hb

/-- A row of bytes that was just laid. -/
theorem bytes_new (w : World) (l : List Nat) (hl : ∀ x ∈ l, x < 256) (hm : l.length < 1000000) : Bytes (w.alloc (.cells (l.map U8).toArray 5)) (w.heap.size + 1) (some ⟨w.heap.size, 0, none⟩) l.length l.length l := by
  refine ⟨rfl, Nat.le_refl _, by simp only [maxLen]; omega, hl, fun _ => ⟨_, 0, rfl, by omega, fun j hj => ?_⟩⟩
  rw [Nat.zero_add, World.cell?_alloc_at _ _ _ _ rfl]
  simp [hj, U8]

theorem Own.form (h : Own B w v l) : ∃ A c, v = .slice A l.length c := by
  obtain ⟨h1, h2⟩ := h
  rcases h2 with ⟨rfl, h0⟩ | ⟨g, cap, cur, rfl, _⟩
  · exact ⟨none, 0, by rw [h0]⟩
  · exact ⟨_, cap, rfl⟩
theorem Own.empty (w : World) (hB : B ≤ w.heap.size) : Own B (w.alloc (.cells #[] 5)) (.slice (some ⟨w.heap.size, 0, none⟩) 0 0) [] := World.ownsRow_made w #[] 0 hB (by simp [maxLen]) rfl
theorem Own.toBytes {A : Option Addr} (h : Own B w (.slice A n c) l) (hl : ∀ x ∈ l, x < 256) : Bytes w w.heap.size A n c l := by
  obtain ⟨A', c', e, hb⟩ := h.bytes hl
  injection e with e1 e2 e3
  subst e1 e2 e3
  exact hb
theorem Own.sliceLen {A : Option Addr} (h : Own B w (.slice A n c) l) : n = l.length := by
  obtain ⟨A', c', e⟩ := h.form
  injection e

/-- 'append(v, y)' of one byte, the slice written out. -/
theorem push_slice {ops : Array Oper} {rest : List Oper} {o : Oper} {a : Act} {Q : Exit → Act → World → Prop} (hgd : o.guard = none) (s x : Operand)
    (ho : o.op = .call { callee := .builtin .append, args := #[s, x], argTypes := #[22, 22] }) (wr : World) (z : Nat) (hz : z = wr.heap.size) (y : Nat) (yv : Int)
    (hs : a.eval s = v) (hx : a.eval x = .slice (some ⟨z, 0, none⟩) 1 1) (hown : Own B wr v l) (hB : B ≤ wr.heap.size) (hl : l.length < 1000000) (k : Nat) (hk : l.length + 1 = k)
    (h : ∀ A' c' w', Own B w' (.slice A' k c') (l ++ [y]) → wr.grownBy w' v.ownBlock → wpList Tryd.prog ops Q rest (a.put o.dst (.slice A' k c')) w') (hy : yv = (y : Int)) :
    wpList Tryd.prog ops Q (o :: rest) a (wr.alloc (.cells #[.int .u8 yv] 5)) := by
  subst hz
  refine push_arm hgd s x ho wr y yv hs hx hown hB hl ?_ hy
  intro v' w' h1 h2
  obtain ⟨A', c', rfl⟩ := h1.form
  rw [List.length_append, List.length_singleton, hk] at *
  exact h A' c' w' h1 h2

/-- 'append(v, b...)'. -/
theorem cat_slice {ops : Array Oper} {rest : List Oper} {o : Oper} {a : Act} {Q : Exit → Act → World → Prop} (hgd : o.guard = none) (s x : Operand)
    (ho : o.op = .call { callee := .builtin .append, args := #[s, x], argTypes := #[22, 22] }) (wr : World) (l2 : List Nat) (m : Nat)
    (hs : a.eval s = v) (hx : a.eval x = .slice A m c) (hown : Own B wr v l) (hb : Bytes wr C A m c l2) (hB : B ≤ wr.heap.size) (k : Nat) (hl : k < 1000000) (hk : l.length + m = k)
    (h : ∀ A' c' w', Own B w' (.slice A' k c') (l ++ l2) → wr.grownBy w' v.ownBlock → wpList Tryd.prog ops Q rest (a.put o.dst (.slice A' k c')) w') :
    wpList Tryd.prog ops Q (o :: rest) a wr := by
  obtain ⟨i0, hi0, hz0, hz1, hz2⟩ := info_byte
  obtain ⟨hm, hmc, hcm, hlt, hcell⟩ := hb
  subst hm
  subst hk
  rcases A with _ | ad
  · have hl2 : l2 = [] := by
      rcases Nat.eq_zero_or_pos l2.length with h0 | h0
      · exact List.eq_nil_of_length_eq_zero h0
      · obtain ⟨b, off, e, _⟩ := hcell h0; cases e
    subst hl2
    refine wpList_plain hgd fun K hK => ?_
    have hrun : (Builtin.append_ #[22, 22] o.type #[v, .slice none 0 c]).run Tryd.prog wr = .ok v wr := by
      rcases hown.2 with ⟨rfl, h0⟩ | ⟨g, cap, cur, rfl, _, _, hnc, _⟩
      · simp [Builtin.append_, run_underlying Tryd.underlying22, sizeOf, typeInfo, hi0, Builtin.lenOf, Builtin.firstCells]
      · simp [Builtin.append_, run_underlying Tryd.underlying22, sizeOf, typeInfo, hi0, Builtin.lenOf, Builtin.firstCells, hnc, storeCells]
    obtain ⟨A', c', e⟩ := hown.form
    have h2 := h A' c' wr (by simpa [← e] using hown) ⟨rfl, rfl, rfl, Nat.le_refl _, fun _ _ _ => rfl⟩
    simp only [List.length_nil, Nat.add_zero, ← e] at h2
    unfold Oper.wp execOp
    simp only [ho, resolve, invoke, builtin, Sem.run_bind, Sem.run_pure, Result.andThen_ok, List.map_toArray, List.map_cons, List.map_nil, hs, hx, List.length_nil, hrun]
    exact hK _ _ h2
  · refine wpList_append_own _ hgd s x 22 ho B 5 i0 (.int .u8 0) 1 1 Tryd.underlying22 hi0 hz0 hz1 hz2 rfl (by decide) v l.length (l.map U8) hs hown ad l2.length c (l2.map U8) hx (by simp) ?_ (fun u hu => U8_one u l2 hu) (by simp only [maxLen]; omega) (by omega) hB ?_
    · intro j u hu
      have hj : j < l2.length := by
        have := (List.getElem?_eq_some_iff.1 hu).1
        simpa using this
      obtain ⟨b, off, e, hbC, hc⟩ := hcell (by omega)
      injection e with e
      subst e
      rw [Addr.add_lit, hc j hj]
      simp [List.getElem?_eq_getElem hj, U8] at hu ⊢
      exact hu
    · intro v' w' hown' hg _
      have h1 : Own B w' v' (l ++ l2) := by simpa [Own] using hown'
      obtain ⟨A', c', rfl⟩ := h1.form
      rw [List.length_append] at *
      exact h A' c' w' h1 hg

/-- What the shells know of a slice of bytes that came in. -/
theorem bytes_of_row (W : World) (a : Option Addr) (len cap : Nat) (zs : List Int) (h : (a = none ∧ len = 0 ∧ cap = 0 ∧ zs = []) ∨
    ∃ x, a = some x ∧ len ≤ cap ∧ cap ≤ maxLen ∧ zs.length = cap ∧ (∀ i, i < zs.length → W.cell? (x.add i) = some (.int .u8 (zs.getD i 0))) ∧ ∀ n ∈ zs, (Lit.int .u8 n).wf = true) :
    Bytes W W.heap.size a len cap ((zs.take len).map Int.toNat) := by
  rcases h with ⟨rfl, rfl, rfl, rfl⟩ | ⟨x, rfl, hl, hm, hz, hc, hwf⟩
  · exact Bytes.none_ W _
  · refine ⟨by simp; omega, hl, hm, ?_, fun h0 => ?_⟩
    · intro y hy
      obtain ⟨z, hz', rfl⟩ := List.mem_map.1 hy
      have := u8_wf (hwf z (List.mem_of_mem_take hz'))
      omega
    · obtain ⟨b, off, spot⟩ := x
      have h00 := hc 0 (by omega)
      have hspot : spot = none := by simpa [Addr.add] using World.cell?_spot h00
      subst hspot
      refine ⟨b, off, rfl, World.block_lt_of_cell? W ⟨b, off + 0, none⟩ (by rw [← Addr.add_lit]; exact h00), fun j hj => ?_⟩
      have hj' : j < len := by simp at hj; omega
      have hcj := hc j (by omega)
      rw [Addr.add_lit] at hcj
      rw [hcj]
      have hzj : j < zs.length := by omega
      have := u8_wf (hwf zs[j] (List.getElem_mem hzj))
      simp [List.getElem?_eq_getElem hzj]
      omega

theorem Own.open_ {A : Option Addr} (h : Own B w (.slice A n c) l) (hn : 0 < n) : ∃ g, A = some ⟨g, 0, none⟩ ∧ B ≤ g ∧ g < w.heap.size ∧
    (∀ j (hj : j < l.length), w.cell? ⟨g, j, none⟩ = some (.int .u8 (l[j] : Int))) ∧ (∀ j, w.frozen? ⟨g, j, none⟩ = false) ∧
    ∀ (j y : Nat), Own B (w.setCell ⟨g, j, none⟩ (.int .u8 (y : Int))) (.slice A n c) (l.set j y) := by
  have e := h.sliceLen
  subst e
  have h' := h
  obtain ⟨h1, h2⟩ := h
  rcases h2 with ⟨he, h0⟩ | ⟨g, cap, cur, he, hg, hh, r⟩
  · omega
  · injection he with e1 _ e3
    subst e1 e3
    refine ⟨g, rfl, hg, (Array.getElem?_eq_some_iff.1 hh).1, fun j hj => ?_, fun j => World.ownsRow.frozenAt h' j, fun j y => ?_⟩
    · rw [World.ownsRow.cellAt h' j (by omega)]
      simp [hj, U8]
    · have := (World.ownsRow.stored h' j (U8 y)).1
      show World.ownsRow _ _ _ _ _ _ _
      rw [List.length_set, List.map_set]
      exact this
theorem Bytes.take {A : Option Addr} {k : Nat} (h : Bytes w C A n c l) (hk : k ≤ n) : Bytes w C A k c (l.take k) := by
  obtain ⟨h1, h2, h3, h4, h5⟩ := h
  refine ⟨by rw [List.length_take]; omega, by omega, h3, fun x hx => h4 x (List.mem_of_mem_take hx), fun h0 => ?_⟩
  obtain ⟨b, off, e, hb, hc⟩ := h5 (by omega)
  refine ⟨b, off, e, hb, fun j hj => ?_⟩
  have hj' : j < l.length := by rw [List.length_take] at hj; omega
  rw [hc j hj', List.getElem_take]

theorem Own.lit1 (w : World) (hB : B ≤ w.heap.size) (y : Nat) : Own B (w.alloc (.cells #[.int .u8 (y : Int)] 5)) (.slice (some ⟨w.heap.size, 0, none⟩) 1 1) [y] :=
  World.ownsRow_lit w #[U8 y] 1 hB (by simp [maxLen]) rfl
end
end Go.Proofs.YtphmknhlibampaaDoor

/-
  Texts of this claim, one behind the other: part 2.
-/
import Derived.Shelf.Strings.Builder1
import Derived.Shelf.Strings.Builder2
import Derived.Shelf.Strings.OnBuilder
import Derived.Shelf.Strings.BuilderF
import Derived.Shelf.Strings.BuilderK
import Derived.Shelf.Strconv.Itoa0
import Derived.Shelf.Strconv.Itoa1
import Derived.Shelf.LaysM
import Derived.Shelf.Strconv.Itoa2
import Derived.Shelf.Strconv.Itoa3
import Derived.Shelf.Strings.Prefix
import Derived.Ground.SlbCloneProg
import Derived.Shelf.Bytes.SlClone
import Derived.Test.YtkdhjejchdcipaaDoorProg
import Derived.Test.YtkdhjejchdcipaaDoorMgTbinCut1
/-
  DERIVED: THE SHELF's CONTRACTS AT THIS DUMP, IN PLAIN WORDS (tools/lay-plain.mjs out of 'TrydShelf.lean', which tools/lay-shelf.mjs wrote): THE SAME DECLARATIONS UNDER THE SAME NAMES: 'import', 'namespace', 'open', 'def', 'theorem' AND NOTHING ELSE: no command of the shelf's: FOR A HAND-IN. Each laying: the table of numbers ('.._ren') and one theorem, a field a fact of the dump's own or the kernel's comparison; each contract: ONE APPLICATION.
-/
namespace Go.Proofs
open Go.Shelf
def Tryd.lays169_ren : Go.Shelf.Ren := ⟨fun | 169 => 168 | n => n, fun | 70 => 192 | 9 => 9 | 0 => 0 | 72 => 194 | 37 => 54 | 127 => 214 | 3 => 3 | 5 => 5 | n => n, fun | n => n⟩
theorem Tryd.lays169 : Go.Proofs.Lays.n169 Tryd.prog Tryd.lays169_ren := {
  mixed := by kernel_rfl
  f169 := Tryd.func168.trans (congrArg some (by kernel_rfl))
  t0 := Tryd.underlying0
  a0 := Tryd.isAgg0
  z0 := Tryd.sizeOf0
  v0 := Tryd.zeroValue0
  t3 := Tryd.underlying3
  a3 := Tryd.isAgg3
  z3 := Tryd.sizeOf3
  v3 := Tryd.zeroValue3
  t9 := Tryd.underlying9
  a9 := Tryd.isAgg9
  z9 := Tryd.sizeOf9
  v9 := Tryd.zeroValue9
  t37 := Tryd.underlying54
  a37 := Tryd.isAgg54
  z37 := Tryd.sizeOf54
  v37 := Tryd.zeroValue54
  t70 := Tryd.underlying192
  a70 := Tryd.isAgg192
  z70 := Tryd.sizeOf192
  v70 := Tryd.zeroValue192
  t72 := Tryd.underlying194
  a72 := Tryd.isAgg194
  z72 := Tryd.sizeOf194
  v72 := Tryd.zeroValue194
  t127 := Tryd.underlying214
  a127 := Tryd.isAgg214
  z127 := Tryd.sizeOf214
  v127 := Tryd.zeroValue214 }
theorem Tryd.Builder_Extra_169 : Builder.Extra Tryd.prog Tryd.lays169_ren := {
  sizeBuilder := by kernel_rfl
  liesBuilder := by kernel_rfl
  t5 := Tryd.underlying5
  a5 := Tryd.isAgg5
  z5 := Tryd.sizeOf5
  v5 := Tryd.zeroValue5
  infoByte := by kernel_rfl
  cellsByte := by kernel_rfl
  sizeByte := by kernel_rfl
  neB5 := by decide }
open Go.RowKit in
/-- (*strings.Builder).String: "String returns the accumulated string.": OF A BUILDER THAT HOLDS AT LEAST ONE BYTE. ✋ THE MODEL FREEZES THOSE BYTES IN THE BUFFER (unsafe.String): a later write INTO them ends the model's run without an answer; a later append BEHIND them goes on. The statement's order of evaluation is drawn: one draw. (LAID: no walk: one application.) -/
theorem Tryd.Builder_String (B b : Nat) (l : List UInt8) (w : World) (h : Lib.IsBuilder 194 5 B b (Lib.byteCells l) w) (h0 : l ≠ []) :
    Calls Tryd.prog 168 #[.pointer (some ⟨b, 0, none⟩)] w fun e w' => e = .returned (.string ⟨l.toArray⟩) ∧ Below B w w' := Any.Builder_String Tryd.lays169 Tryd.Builder_Extra_169 B b l w h h0
open Go.RowKit in
/-- (*strings.Builder).String OF A BUILDER THAT HOLDS NO BYTE: the empty string. (Its buffer is nil, or a row of which it has taken nothing yet; where that row has NO capacity the model lays one new block for unsafe.SliceData's 'some address'.) One draw. (LAID: no walk: one application.) -/
theorem Tryd.Builder_String_empty (B b : Nat) (w : World) (h : Lib.IsBuilder 194 5 B b [] w) (hBw : B ≤ w.heap.size) :
    Calls Tryd.prog 168 #[.pointer (some ⟨b, 0, none⟩)] w fun e w' => e = .returned (.string ⟨#[]⟩) ∧ Below B w w' := Any.Builder_String_empty Tryd.lays169 Tryd.Builder_Extra_169 B b w h hBw
open Go.RowKit in
/-- (*strings.Builder).String: "String returns the accumulated string.": WHATEVER THE BUILDER HOLDS. (LAID: no walk: one application.) -/
theorem Tryd.Builder_String_any (B b : Nat) (l : List UInt8) (w : World) (h : Lib.IsBuilder 194 5 B b (Lib.byteCells l) w) (hBw : B ≤ w.heap.size) :
    Calls Tryd.prog 168 #[.pointer (some ⟨b, 0, none⟩)] w fun e w' => e = .returned (.string ⟨l.toArray⟩) ∧ Below B w w' := Any.Builder_String_any Tryd.lays169 Tryd.Builder_Extra_169 B b l w h hBw
def Tryd.lays241_ren : Go.Shelf.Ren := ⟨fun | 241 => 182 | 277 => 191 | n => n, fun | 70 => 192 | 3 => 3 | 0 => 0 | 72 => 194 | 37 => 54 | 5 => 5 | n => n, fun | n => n⟩
theorem Tryd.lays241 : Go.Proofs.Lays.n241 Tryd.prog Tryd.lays241_ren := {
  mixed := by kernel_rfl
  f241 := Tryd.func182.trans (congrArg some (by kernel_rfl))
  f277 := Tryd.func191.trans (congrArg some (by kernel_rfl))
  t0 := Tryd.underlying0
  a0 := Tryd.isAgg0
  z0 := Tryd.sizeOf0
  v0 := Tryd.zeroValue0
  t3 := Tryd.underlying3
  a3 := Tryd.isAgg3
  z3 := Tryd.sizeOf3
  v3 := Tryd.zeroValue3
  t37 := Tryd.underlying54
  a37 := Tryd.isAgg54
  z37 := Tryd.sizeOf54
  v37 := Tryd.zeroValue54
  t70 := Tryd.underlying192
  a70 := Tryd.isAgg192
  z70 := Tryd.sizeOf192
  v70 := Tryd.zeroValue192
  t72 := Tryd.underlying194
  a72 := Tryd.isAgg194
  z72 := Tryd.sizeOf194
  v72 := Tryd.zeroValue194 }
theorem Tryd.Builder_Extra_241 : Builder.Extra Tryd.prog Tryd.lays241_ren := {
  sizeBuilder := by kernel_rfl
  liesBuilder := by kernel_rfl
  t5 := Tryd.underlying5
  a5 := Tryd.isAgg5
  z5 := Tryd.sizeOf5
  v5 := Tryd.zeroValue5
  infoByte := by kernel_rfl
  cellsByte := by kernel_rfl
  sizeByte := by kernel_rfl
  neB5 := by decide }
open Go.RowKit in
/-- (*strings.Builder).grow (no doc but "grow copies the buffer to a new, larger buffer so that there are at least n bytes of capacity beyond len(b.buf)."): AT A BUILDER WITHOUT A BUFFER: a new row of whatever bytes for its buffer, none of them its own yet. Three draws. (LAID: no walk: one application.) -/
theorem Tryd.Builder_grow_fresh (B b n : Nat) (w : World) (hB : B ≤ b) (hbk : w.heap[b]? = some (.cells #[.pointer (some ⟨b, 0, none⟩), .slice none 0 0] 194 (0, 0))) (hBw : B ≤ w.heap.size) (hn : n ≤ 281474976710656) :
    Calls Tryd.prog 182 #[.pointer (some ⟨b, 0, none⟩), .int .i64 n] w fun e w' => e = .returned (.tuple #[]) ∧ (Lib.BuilderAt 194 5 B b (.pointer (some ⟨b, 0, none⟩)) [] w' ∧ Below B w w') := Any.Builder_grow_fresh Tryd.lays241 Tryd.Builder_Extra_241 B b n w hB hbk hBw hn
def Tryd.lays165_ren : Go.Shelf.Ren := ⟨fun | 165 => 166 | 240 => 181 | 241 => 182 | 276 => 190 | 277 => 191 | n => n, fun | 70 => 192 | 3 => 3 | 0 => 0 | 4 => 4 | 9 => 9 | 20 => 20 | 72 => 194 | 37 => 54 | 164 => 223 | 5 => 5 | n => n, fun | n => n⟩
theorem Tryd.lays165 : Go.Proofs.Lays.n165 Tryd.prog Tryd.lays165_ren := {
  mixed := by kernel_rfl
  f165 := Tryd.func166.trans (congrArg some (by kernel_rfl))
  f240 := Tryd.func181.trans (congrArg some (by kernel_rfl))
  f241 := Tryd.func182.trans (congrArg some (by kernel_rfl))
  f276 := Tryd.func190.trans (congrArg some (by kernel_rfl))
  f277 := Tryd.func191.trans (congrArg some (by kernel_rfl))
  t0 := Tryd.underlying0
  a0 := Tryd.isAgg0
  z0 := Tryd.sizeOf0
  v0 := Tryd.zeroValue0
  t3 := Tryd.underlying3
  a3 := Tryd.isAgg3
  z3 := Tryd.sizeOf3
  v3 := Tryd.zeroValue3
  t4 := Tryd.underlying4
  a4 := Tryd.isAgg4
  z4 := Tryd.sizeOf4
  v4 := Tryd.zeroValue4
  t9 := Tryd.underlying9
  a9 := Tryd.isAgg9
  z9 := Tryd.sizeOf9
  v9 := Tryd.zeroValue9
  t20 := Tryd.underlying20
  a20 := Tryd.isAgg20
  z20 := Tryd.sizeOf20
  v20 := Tryd.zeroValue20
  t37 := Tryd.underlying54
  a37 := Tryd.isAgg54
  z37 := Tryd.sizeOf54
  v37 := Tryd.zeroValue54
  t70 := Tryd.underlying192
  a70 := Tryd.isAgg192
  z70 := Tryd.sizeOf192
  v70 := Tryd.zeroValue192
  t72 := Tryd.underlying194
  a72 := Tryd.isAgg194
  z72 := Tryd.sizeOf194
  v72 := Tryd.zeroValue194
  t164 := Tryd.underlying223
  a164 := Tryd.isAgg223
  z164 := Tryd.sizeOf223
  v164 := Tryd.zeroValue223 }
theorem Tryd.Builder_Extra_165 : Builder.Extra Tryd.prog Tryd.lays165_ren := {
  sizeBuilder := by kernel_rfl
  liesBuilder := by kernel_rfl
  t5 := Tryd.underlying5
  a5 := Tryd.isAgg5
  z5 := Tryd.sizeOf5
  v5 := Tryd.zeroValue5
  infoByte := by kernel_rfl
  cellsByte := by kernel_rfl
  sizeByte := by kernel_rfl
  neB5 := by decide }
open Go.RowKit in
/-- (*strings.Builder).Grow AT A BUILDER THAT HAS NOT BEEN WRITTEN ('var b strings.Builder; b.Grow(n)'): "Grow grows b's capacity, if necessary, to guarantee space for another n bytes.": it holds no byte behind it as before it. (LAID: no walk: one application.) -/
theorem Tryd.Builder_Grow_fresh (B b n : Nat) (w : World) (hB : B ≤ b) (hbk : w.heap[b]? = some (.cells #[.pointer none, .slice none 0 0] 194 (0, 0))) (hBw : B ≤ w.heap.size) (hn : n ≤ 281474976710656) :
    Calls Tryd.prog 166 #[.pointer (some ⟨b, 0, none⟩), .int .i64 n] w fun e w' => e = .returned (.tuple #[]) ∧ (Lib.BuilderAt 194 5 B b (.pointer (some ⟨b, 0, none⟩)) [] w' ∧ Below B w w') := Any.Builder_Grow_fresh Tryd.lays165 Tryd.Builder_Extra_165 B b n w hB hbk hBw hn
def Tryd.lays156_ren : Go.Shelf.Ren := ⟨fun | 156 => 137 | 165 => 166 | 166 => 167 | 169 => 168 | 240 => 181 | 241 => 182 | 276 => 190 | 277 => 191 | n => n, fun | 31 => 135 | 9 => 9 | 3 => 3 | 4 => 4 | 0 => 0 | 20 => 20 | 72 => 194 | 76 => 198 | 70 => 192 | 37 => 54 | 75 => 197 | 127 => 214 | 164 => 223 | 5 => 5 | 80 => 68 | n => n, fun | n => n⟩
theorem Tryd.lays156 : Go.Proofs.Lays.n156 Tryd.prog Tryd.lays156_ren := {
  mixed := by kernel_rfl
  f156 := Tryd.func137.trans (congrArg some (by kernel_rfl))
  f165 := Tryd.func166.trans (congrArg some (by kernel_rfl))
  f166 := Tryd.func167.trans (congrArg some (by kernel_rfl))
  f169 := Tryd.func168.trans (congrArg some (by kernel_rfl))
  f240 := Tryd.func181.trans (congrArg some (by kernel_rfl))
  f241 := Tryd.func182.trans (congrArg some (by kernel_rfl))
  f276 := Tryd.func190.trans (congrArg some (by kernel_rfl))
  f277 := Tryd.func191.trans (congrArg some (by kernel_rfl))
  t0 := Tryd.underlying0
  a0 := Tryd.isAgg0
  z0 := Tryd.sizeOf0
  v0 := Tryd.zeroValue0
  t3 := Tryd.underlying3
  a3 := Tryd.isAgg3
  z3 := Tryd.sizeOf3
  v3 := Tryd.zeroValue3
  t4 := Tryd.underlying4
  a4 := Tryd.isAgg4
  z4 := Tryd.sizeOf4
  v4 := Tryd.zeroValue4
  t9 := Tryd.underlying9
  a9 := Tryd.isAgg9
  z9 := Tryd.sizeOf9
  v9 := Tryd.zeroValue9
  t20 := Tryd.underlying20
  a20 := Tryd.isAgg20
  z20 := Tryd.sizeOf20
  v20 := Tryd.zeroValue20
  t31 := Tryd.underlying135
  a31 := Tryd.isAgg135
  z31 := Tryd.sizeOf135
  v31 := Tryd.zeroValue135
  t37 := Tryd.underlying54
  a37 := Tryd.isAgg54
  z37 := Tryd.sizeOf54
  v37 := Tryd.zeroValue54
  t70 := Tryd.underlying192
  a70 := Tryd.isAgg192
  z70 := Tryd.sizeOf192
  v70 := Tryd.zeroValue192
  t72 := Tryd.underlying194
  a72 := Tryd.isAgg194
  z72 := Tryd.sizeOf194
  v72 := Tryd.zeroValue194
  t75 := Tryd.underlying197
  a75 := Tryd.isAgg197
  z75 := Tryd.sizeOf197
  v75 := Tryd.zeroValue197
  t76 := Tryd.underlying198
  a76 := Tryd.isAgg198
  z76 := Tryd.sizeOf198
  v76 := Tryd.zeroValue198
  t127 := Tryd.underlying214
  a127 := Tryd.isAgg214
  z127 := Tryd.sizeOf214
  v127 := Tryd.zeroValue214
  t164 := Tryd.underlying223
  a164 := Tryd.isAgg223
  z164 := Tryd.sizeOf223
  v164 := Tryd.zeroValue223 }
theorem Tryd.Builder_Extra_156 : Builder.Extra Tryd.prog Tryd.lays156_ren := {
  sizeBuilder := by kernel_rfl
  liesBuilder := by kernel_rfl
  t5 := Tryd.underlying5
  a5 := Tryd.isAgg5
  z5 := Tryd.sizeOf5
  v5 := Tryd.zeroValue5
  infoByte := by kernel_rfl
  cellsByte := by kernel_rfl
  sizeByte := by kernel_rfl
  neB5 := by decide }
open Go.RowKit in
/-- No element: the empty string; the world is as it was. (Whatever the slice's address and capacity: a nil slice too.) (LAID: no walk: one application.) -/
theorem Tryd.strings_Join_none (a : Option Addr) (c : Nat) (sep : ByteArray) (w : World) :
    Calls Tryd.prog 137 #[.slice a 0 c, .string sep] w fun e w' => e = .returned (.string ⟨#[]⟩) ∧ w' = w := Any.strings_Join_none Tryd.lays156 Tryd.Builder_Extra_156 a c sep w
open Go.RowKit in
/-- strings.Join: "Join concatenates the elements of its first argument to create a single string. The separator string sep is placed between elements in the resulting string.": HOWEVER MANY ELEMENTS. Below the heap's end the world is as it was. (LAID: no walk: one application.) -/
theorem Tryd.strings_Join (bk o c : Nat) (xs : List ByteArray) (sep : ByteArray) (w : World) (hcells : ∀ (j : Nat) x, xs[j]? = some x → w.cell? ⟨bk, o + j, none⟩ = some (.string x)) (hbk : bk < w.heap.size) (hN : xs.length ≤ 140737488355328) (hcap : xs.length ≤ c) (hlen : (Lib.join (xs.map (·.data.toList)) sep.data.toList).length ≤ 140737488355328) :
    Calls Tryd.prog 137 #[.slice (some ⟨bk, o, none⟩) xs.length c, .string sep] w fun e w' => e = .returned (.string ⟨(Lib.join (xs.map (·.data.toList)) sep.data.toList).toArray⟩) ∧ Below w.heap.size w w' := Any.strings_Join Tryd.lays156 Tryd.Builder_Extra_156 bk o c xs sep w hcells hbk hN hcap hlen
open Go.RowKit in
/-- (*strings.Builder).String: "String returns the accumulated string.": OF A BUILDER THAT HOLDS AT LEAST ONE BYTE. ✋ THE MODEL FREEZES THOSE BYTES IN THE BUFFER (unsafe.String): a later write INTO them ends the model's run without an answer; a later append BEHIND them goes on. The statement's order of evaluation is drawn: one draw. THE FORM '_f': IT SAYS BESIDES THAT THE BUILDER IS A BUILDER STILL ('Lib.IsBuilderF', the same bytes): SO IT CAN BE WRITTEN ON: 'b.WriteString(b.String()[:k])'. (LAID: no walk: one application.) -/
theorem Tryd.Builder_String_f (B b : Nat) (l : List UInt8) (w : World) (h : Lib.IsBuilderF 194 5 B b (Lib.byteCells l) w) (h0 : l ≠ []) :
    Calls Tryd.prog 168 #[.pointer (some ⟨b, 0, none⟩)] w fun e w' => e = .returned (.string ⟨l.toArray⟩) ∧ (Lib.IsBuilderF 194 5 B b (Lib.byteCells l) w' ∧ Below B w w') := Any.Builder_String_f Tryd.lays169 Tryd.Builder_Extra_169 B b l w h h0
open Go.RowKit in
/-- (*strings.Builder).String OF A BUILDER THAT HOLDS NO BYTE: the empty string; THE FORM '_f': a builder still. (LAID: no walk: one application.) -/
theorem Tryd.Builder_String_empty_f (B b : Nat) (w : World) (h : Lib.IsBuilderF 194 5 B b [] w) (hBw : B ≤ w.heap.size) :
    Calls Tryd.prog 168 #[.pointer (some ⟨b, 0, none⟩)] w fun e w' => e = .returned (.string ⟨#[]⟩) ∧ (Lib.IsBuilderF 194 5 B b [] w' ∧ Below B w w') := Any.Builder_String_empty_f Tryd.lays169 Tryd.Builder_Extra_169 B b w h hBw
open Go.RowKit in
/-- (*strings.Builder).String: "String returns the accumulated string.": WHATEVER THE BUILDER HOLDS; THE FORM '_f': OF A BUILDER THAT MAY HAVE BEEN READ BEFORE; AND IT IS A BUILDER STILL, holding the same bytes: it can be written on. (LAID: no walk: one application.) -/
theorem Tryd.Builder_String_any_f (B b : Nat) (l : List UInt8) (w : World) (h : Lib.IsBuilderF 194 5 B b (Lib.byteCells l) w) (hBw : B ≤ w.heap.size) :
    Calls Tryd.prog 168 #[.pointer (some ⟨b, 0, none⟩)] w fun e w' => e = .returned (.string ⟨l.toArray⟩) ∧ (Lib.IsBuilderF 194 5 B b (Lib.byteCells l) w' ∧ Below B w w') := Any.Builder_String_any_f Tryd.lays169 Tryd.Builder_Extra_169 B b l w h hBw
open Go.RowKit in
/-- (*strings.Builder).String: "String returns the accumulated string.": OF A BUILDER THAT HOLDS AT LEAST ONE BYTE. ✋ THE MODEL FREEZES THOSE BYTES IN THE BUFFER (unsafe.String): a later write INTO them ends the model's run without an answer; a later append BEHIND them goes on. The statement's order of evaluation is drawn: one draw. THE FORM '_k': OVER 'Lib.IsBuilderF' (a builder that 'String()' may have read), AND WITH THE FRAME THAT REACHES ABOVE THE BUILDER: 'Lib.OthersKept': every block that is not b and is no row of uint8's stands as it stood: the iterator of a range among them. (LAID: no walk: one application.) -/
theorem Tryd.Builder_String_k (B b : Nat) (l : List UInt8) (w : World) (h : Lib.IsBuilderF 194 5 B b (Lib.byteCells l) w) (h0 : l ≠ []) :
    Calls Tryd.prog 168 #[.pointer (some ⟨b, 0, none⟩)] w fun e w' => e = .returned (.string ⟨l.toArray⟩) ∧ (Lib.IsBuilderF 194 5 B b (Lib.byteCells l) w' ∧ Below B w w' ∧ Lib.OthersKept 5 (some b) w w') := Any.Builder_String_k Tryd.lays169 Tryd.Builder_Extra_169 B b l w h h0
open Go.RowKit in
/-- (*strings.Builder).String OF A BUILDER THAT HOLDS NO BYTE: the empty string; THE FORM '_k': OVER 'Lib.IsBuilderF' (a builder that 'String()' may have read), AND WITH THE FRAME THAT REACHES ABOVE THE BUILDER: 'Lib.OthersKept': every block that is not b and is no row of uint8's stands as it stood: the iterator of a range among them. (LAID: no walk: one application.) -/
theorem Tryd.Builder_String_empty_k (B b : Nat) (w : World) (h : Lib.IsBuilderF 194 5 B b [] w) (hBw : B ≤ w.heap.size) :
    Calls Tryd.prog 168 #[.pointer (some ⟨b, 0, none⟩)] w fun e w' => e = .returned (.string ⟨#[]⟩) ∧ (Lib.IsBuilderF 194 5 B b [] w' ∧ Below B w w' ∧ Lib.OthersKept 5 (some b) w w') := Any.Builder_String_empty_k Tryd.lays169 Tryd.Builder_Extra_169 B b w h hBw
open Go.RowKit in
/-- (*strings.Builder).String: "String returns the accumulated string.": WHATEVER THE BUILDER HOLDS; THE FORM '_k': OVER 'Lib.IsBuilderF' (a builder that 'String()' may have read), AND WITH THE FRAME THAT REACHES ABOVE THE BUILDER: 'Lib.OthersKept': every block that is not b and is no row of uint8's stands as it stood: the iterator of a range among them. (LAID: no walk: one application.) -/
theorem Tryd.Builder_String_any_k (B b : Nat) (l : List UInt8) (w : World) (h : Lib.IsBuilderF 194 5 B b (Lib.byteCells l) w) (hBw : B ≤ w.heap.size) :
    Calls Tryd.prog 168 #[.pointer (some ⟨b, 0, none⟩)] w fun e w' => e = .returned (.string ⟨l.toArray⟩) ∧ (Lib.IsBuilderF 194 5 B b (Lib.byteCells l) w' ∧ Below B w w' ∧ Lib.OthersKept 5 (some b) w w') := Any.Builder_String_any_k Tryd.lays169 Tryd.Builder_Extra_169 B b l w h hBw
def Tryd.lays129_ren : Go.Shelf.Ren := ⟨fun | 129 => 194 | n => n, fun | 53 => 65 | 3 => 3 | 4 => 4 | 46 => 210 | 5 => 5 | 9 => 9 | n => n, fun | n => n⟩
theorem Tryd.lays129 : Go.Proofs.Lays.n129 Tryd.prog Tryd.lays129_ren := {
  mixed := by kernel_rfl
  f129 := Tryd.func194.trans (congrArg some (by kernel_rfl))
  t3 := Tryd.underlying3
  a3 := Tryd.isAgg3
  z3 := Tryd.sizeOf3
  v3 := Tryd.zeroValue3
  t4 := Tryd.underlying4
  a4 := Tryd.isAgg4
  z4 := Tryd.sizeOf4
  v4 := Tryd.zeroValue4
  t5 := Tryd.underlying5
  a5 := Tryd.isAgg5
  z5 := Tryd.sizeOf5
  v5 := Tryd.zeroValue5
  t9 := Tryd.underlying9
  a9 := Tryd.isAgg9
  z9 := Tryd.sizeOf9
  v9 := Tryd.zeroValue9
  t46 := Tryd.underlying210
  a46 := Tryd.isAgg210
  z46 := Tryd.sizeOf210
  v46 := Tryd.zeroValue210
  t53 := Tryd.underlying65
  a53 := Tryd.isAgg65
  z53 := Tryd.sizeOf65
  v53 := Tryd.zeroValue65 }
/-- bits.Len64: "Len64 returns the minimum number of bits required to represent x; the result is 0 for x == 0.": IT RETURNS 'Lib.bitLen x'; the world is as it was. ('h0', 'h1': x is a uint64.) (LAID: no walk: one application.) -/
theorem Tryd.bits_Len64 (x : Int) (w : World) (h0 : 0 ≤ x) (h1 : x ≤ 18446744073709551615) :
    Calls Tryd.prog 194 #[.int .u64 x] w fun e w' => e = .returned (.int .i64 (Lib.bitLen x.toNat)) ∧ w' = w := Any.bits_Len64 Tryd.lays129 x w h0 h1
def Tryd.lays317_ren : Go.Shelf.Ren := ⟨fun | 317 => 193 | n => n, fun | 3 => 3 | 46 => 210 | n => n, fun | n => n⟩
theorem Tryd.lays317 : Go.Proofs.Lays.n317 Tryd.prog Tryd.lays317_ren := {
  mixed := by kernel_rfl
  f317 := Tryd.func193.trans (congrArg some (by kernel_rfl))
  t3 := Tryd.underlying3
  a3 := Tryd.isAgg3
  z3 := Tryd.sizeOf3
  v3 := Tryd.zeroValue3
  t46 := Tryd.underlying210
  a46 := Tryd.isAgg210
  z46 := Tryd.sizeOf210
  v46 := Tryd.zeroValue210 }
open Go.Lib in
/-- internal/strconv.log10Pow2: "log10Pow2(x) returns ⌊log₁₀ 2**x⌋ = ⌊x * log₁₀ 2⌋.": '(x * 78913) >> 18', at an x up to 64 (a length in bits). The world is as it was. (LAID: no walk: one application.) -/
theorem Tryd.internal_strconv_log10Pow2 (x : Nat) (h : x ≤ 64) (w : World) :
    Calls Tryd.prog 193 #[.int .i64 x] w fun e w' => e = .returned (.int .i64 (Lib.l10 x)) ∧ w' = w := Any.internal_strconv_log10Pow2 Tryd.lays317 x h w
def Tryd.lays318_ren : Go.Shelf.Ren := ⟨fun | 318 => 195 | n => n, fun | 3 => 3 | 4 => 4 | n => n, fun | n => n⟩
theorem Tryd.lays318 : Go.Proofs.Lays.n318 Tryd.prog Tryd.lays318_ren := {
  mixed := by kernel_rfl
  f318 := Tryd.func195.trans (congrArg some (by kernel_rfl))
  t3 := Tryd.underlying3
  a3 := Tryd.isAgg3
  z3 := Tryd.sizeOf3
  v3 := Tryd.zeroValue3
  t4 := Tryd.underlying4
  a4 := Tryd.isAgg4
  z4 := Tryd.sizeOf4
  v4 := Tryd.zeroValue4 }
open Go.Lib in
/-- internal/strconv.bool2: "bool2 converts b to an integer: 1 for true, 0 for false." The world is as it was. (LAID: no walk: one application.) -/
theorem Tryd.internal_strconv_bool2_int (b : Bool) (w : World) :
    Calls Tryd.prog 195 #[.bool b] w fun e w' => e = .returned (.int .i64 (if b then 1 else 0)) ∧ w' = w := Any.internal_strconv_bool2_int Tryd.lays318 b w
def Tryd.lays283_ren : Go.Shelf.Ren := ⟨fun | 283 => 186 | n => n, fun | 3 => 3 | 9 => 9 | 4 => 4 | n => n, fun | n => n⟩
theorem Tryd.lays283 : Go.Proofs.Lays.n283 Tryd.prog Tryd.lays283_ren := {
  mixed := by kernel_rfl
  f283 := Tryd.func186.trans (congrArg some (by kernel_rfl))
  t3 := Tryd.underlying3
  a3 := Tryd.isAgg3
  z3 := Tryd.sizeOf3
  v3 := Tryd.zeroValue3
  t4 := Tryd.underlying4
  a4 := Tryd.isAgg4
  z4 := Tryd.sizeOf4
  v4 := Tryd.zeroValue4
  t9 := Tryd.underlying9
  a9 := Tryd.isAgg9
  z9 := Tryd.sizeOf9
  v9 := Tryd.zeroValue9 }
open Go.Lib in
/-- internal/strconv.small: "small returns the string for an i with 0 <= i < nSmalls.": i's decimal numeral. The world is as it was. (LAID: no walk: one application.) -/
theorem Tryd.internal_strconv_small (i : Nat) (h : i < 100) (w : World) :
    Calls Tryd.prog 186 #[.int .i64 i] w fun e w' => e = .returned (.string ⟨(Lib.decDigits i).toArray⟩) ∧ w' = w := Any.internal_strconv_small Tryd.lays283 i h w
def Tryd.laysM284_ren : Go.Shelf.Ren := ⟨fun | 284 => 187 | 129 => 194 | 317 => 193 | 318 => 195 | n => n, fun | 53 => 65 | 3 => 3 | 212 => 227 | 0 => 0 | 4 => 4 | 46 => 210 | 5 => 5 | 9 => 9 | n => n, fun | 17 => 2 | n => n⟩
theorem Tryd.laysM284 : Go.Proofs.LaysM.n284 Tryd.prog Tryd.laysM284_ren := {
  mixed := by kernel_rfl
  f129 := Tryd.func194.trans (congrArg some (by kernel_rfl))
  f284 := Tryd.func187.trans (congrArg some (by kernel_rfl))
  f317 := Tryd.func193.trans (congrArg some (by kernel_rfl))
  f318 := Tryd.func195.trans (congrArg some (by kernel_rfl))
  t0 := Tryd.underlying0
  a0 := Tryd.isAgg0
  z0 := Tryd.sizeOf0
  v0 := Tryd.zeroValue0
  t3 := Tryd.underlying3
  a3 := Tryd.isAgg3
  z3 := Tryd.sizeOf3
  v3 := Tryd.zeroValue3
  t4 := Tryd.underlying4
  a4 := Tryd.isAgg4
  z4 := Tryd.sizeOf4
  v4 := Tryd.zeroValue4
  t5 := Tryd.underlying5
  a5 := Tryd.isAgg5
  z5 := Tryd.sizeOf5
  v5 := Tryd.zeroValue5
  t9 := Tryd.underlying9
  a9 := Tryd.isAgg9
  z9 := Tryd.sizeOf9
  v9 := Tryd.zeroValue9
  t46 := Tryd.underlying210
  a46 := Tryd.isAgg210
  z46 := Tryd.sizeOf210
  v46 := Tryd.zeroValue210
  t53 := Tryd.underlying65
  a53 := Tryd.isAgg65
  z53 := Tryd.sizeOf65
  v53 := Tryd.zeroValue65
  t212 := Tryd.underlying227
  a212 := Tryd.isAgg227
  z212 := Tryd.sizeOf227
  v212 := Tryd.zeroValue227
  g17 := by kernel_rfl
  i0 := by kernel_rfl
  i3 := by kernel_rfl
  i4 := by kernel_rfl
  i5 := by kernel_rfl
  i9 := by kernel_rfl
  i46 := by kernel_rfl
  i53 := by kernel_rfl
  i212 := by kernel_rfl
  m17 := by kernel_rfl }
open Go.Lib in
/-- internal/strconv.numDigits, at a d that is not 0: THE NUMBER OF d's DECIMAL DIGITS. The world is as it was. (LAID: no walk: one application.) -/
theorem Tryd.internal_strconv_numDigits (u : Nat) (h1 : 1 ≤ u) (h2 : u < 18446744073709551616) (w : World) (htab : Lib.TabIs Tryd.prog w "internal/strconv.uint64pow10" .u64 Lib.pow10Tab) :
    Calls Tryd.prog 187 #[.int .u64 u] w fun e w' => e = .returned (.int .i64 (Lib.nDigits u)) ∧ w' = w := Any.internal_strconv_numDigits Tryd.laysM284 u h1 h2 w htab
def Tryd.lays285_ren : Go.Shelf.Ren := ⟨fun | 285 => 188 | n => n, fun | 37 => 54 | 53 => 65 | 3 => 3 | 4 => 4 | 51 => 228 | 9 => 9 | 5 => 5 | 0 => 0 | n => n, fun | n => n⟩
theorem Tryd.lays285 : Go.Proofs.Lays.n285 Tryd.prog Tryd.lays285_ren := {
  mixed := by kernel_rfl
  f285 := Tryd.func188.trans (congrArg some (by kernel_rfl))
  t0 := Tryd.underlying0
  a0 := Tryd.isAgg0
  z0 := Tryd.sizeOf0
  v0 := Tryd.zeroValue0
  t3 := Tryd.underlying3
  a3 := Tryd.isAgg3
  z3 := Tryd.sizeOf3
  v3 := Tryd.zeroValue3
  t4 := Tryd.underlying4
  a4 := Tryd.isAgg4
  z4 := Tryd.sizeOf4
  v4 := Tryd.zeroValue4
  t5 := Tryd.underlying5
  a5 := Tryd.isAgg5
  z5 := Tryd.sizeOf5
  v5 := Tryd.zeroValue5
  t9 := Tryd.underlying9
  a9 := Tryd.isAgg9
  z9 := Tryd.sizeOf9
  v9 := Tryd.zeroValue9
  t37 := Tryd.underlying54
  a37 := Tryd.isAgg54
  z37 := Tryd.sizeOf54
  v37 := Tryd.zeroValue54
  t51 := Tryd.underlying228
  a51 := Tryd.isAgg228
  z51 := Tryd.sizeOf228
  v51 := Tryd.zeroValue228
  t53 := Tryd.underlying65
  a53 := Tryd.isAgg65
  z53 := Tryd.sizeOf65
  v53 := Tryd.zeroValue65 }
open Go.RowKit Go.Sort Go.Lib in
/-- internal/strconv.formatBase10: "formatBase10 formats the decimal representation of u into a. The caller is responsible for ensuring that a is big enough to hold u. If a is too big, leading zeros will be filled in as needed.": THE ROW HOLDS u's DIGITS ('FmtInv .. 0 ..': every place t holds 'dg u (len - 1 - t)'); all else is as it was but for the count of draws. (LAID: no walk: one application.) -/
theorem Tryd.internal_strconv_formatBase10 (blk off cap : Nat) (u : Nat) (d : Array UInt8) (w : World) (hH : Holds (fun (b : UInt8) => Value.int .u8 (b.toNat : Int)) w blk off d) (hu : u < 10 ^ d.size) (hu64 : u < 18446744073709551616) (hsz : d.size < 4611686018427387904) :
    Calls Tryd.prog 188 #[.slice (some ⟨blk, off, none⟩) d.size cap, .int .u64 u] w fun e w' =>
      e = .returned (.tuple #[]) ∧ ∃ (n v' : Nat) (dk : Array UInt8), w' = (putRow (fun (b : UInt8) => Value.int .u8 (b.toNat : Int)) w blk off dk).drewN n ∧ FmtInv d.size u 0 v' dk := Any.internal_strconv_formatBase10 Tryd.lays285 blk off cap u d w hH hu hu64 hsz
def Tryd.laysM246_ren : Go.Shelf.Ren := ⟨fun | 246 => 180 | 283 => 186 | 284 => 187 | 285 => 188 | 286 => 189 | 129 => 194 | 317 => 193 | 318 => 195 | 319 => 196 | 320 => 197 | 337 => 198 | 338 => 199 | n => n, fun | 2 => 2 | 3 => 3 | 9 => 9 | 4 => 4 | 171 => 218 | 0 => 0 | 53 => 65 | 37 => 54 | 5 => 5 | 173 => 221 | 212 => 227 | 51 => 228 | 20 => 20 | 213 => 229 | 46 => 210 | 232 => 233 | 233 => 234 | n => n, fun | 17 => 2 | 18 => 4 | 19 => 5 | n => n⟩
theorem Tryd.laysM246 : Go.Proofs.LaysM.n246 Tryd.prog Tryd.laysM246_ren := {
  mixed := by kernel_rfl
  f129 := Tryd.func194.trans (congrArg some (by kernel_rfl))
  f246 := Tryd.func180.trans (congrArg some (by kernel_rfl))
  f283 := Tryd.func186.trans (congrArg some (by kernel_rfl))
  f284 := Tryd.func187.trans (congrArg some (by kernel_rfl))
  f285 := Tryd.func188.trans (congrArg some (by kernel_rfl))
  f286 := Tryd.func189.trans (congrArg some (by kernel_rfl))
  f317 := Tryd.func193.trans (congrArg some (by kernel_rfl))
  f318 := Tryd.func195.trans (congrArg some (by kernel_rfl))
  f319 := Tryd.func196.trans (congrArg some (by kernel_rfl))
  f320 := Tryd.func197.trans (congrArg some (by kernel_rfl))
  f337 := Tryd.func198.trans (congrArg some (by kernel_rfl))
  f338 := Tryd.func199.trans (congrArg some (by kernel_rfl))
  t0 := Tryd.underlying0
  a0 := Tryd.isAgg0
  z0 := Tryd.sizeOf0
  v0 := Tryd.zeroValue0
  t2 := Tryd.underlying2
  a2 := Tryd.isAgg2
  z2 := Tryd.sizeOf2
  v2 := Tryd.zeroValue2
  t3 := Tryd.underlying3
  a3 := Tryd.isAgg3
  z3 := Tryd.sizeOf3
  v3 := Tryd.zeroValue3
  t4 := Tryd.underlying4
  a4 := Tryd.isAgg4
  z4 := Tryd.sizeOf4
  v4 := Tryd.zeroValue4
  t5 := Tryd.underlying5
  a5 := Tryd.isAgg5
  z5 := Tryd.sizeOf5
  v5 := Tryd.zeroValue5
  t9 := Tryd.underlying9
  a9 := Tryd.isAgg9
  z9 := Tryd.sizeOf9
  v9 := Tryd.zeroValue9
  t20 := Tryd.underlying20
  a20 := Tryd.isAgg20
  z20 := Tryd.sizeOf20
  v20 := Tryd.zeroValue20
  t37 := Tryd.underlying54
  a37 := Tryd.isAgg54
  z37 := Tryd.sizeOf54
  v37 := Tryd.zeroValue54
  t46 := Tryd.underlying210
  a46 := Tryd.isAgg210
  z46 := Tryd.sizeOf210
  v46 := Tryd.zeroValue210
  t51 := Tryd.underlying228
  a51 := Tryd.isAgg228
  z51 := Tryd.sizeOf228
  v51 := Tryd.zeroValue228
  t53 := Tryd.underlying65
  a53 := Tryd.isAgg65
  z53 := Tryd.sizeOf65
  v53 := Tryd.zeroValue65
  t171 := Tryd.underlying218
  a171 := Tryd.isAgg218
  z171 := Tryd.sizeOf218
  v171 := Tryd.zeroValue218
  t173 := Tryd.underlying221
  a173 := Tryd.isAgg221
  z173 := Tryd.sizeOf221
  v173 := Tryd.zeroValue221
  t212 := Tryd.underlying227
  a212 := Tryd.isAgg227
  z212 := Tryd.sizeOf227
  v212 := Tryd.zeroValue227
  t213 := Tryd.underlying229
  a213 := Tryd.isAgg229
  z213 := Tryd.sizeOf229
  t232 := Tryd.underlying233
  a232 := Tryd.isAgg233
  z232 := Tryd.sizeOf233
  v232 := Tryd.zeroValue233
  t233 := Tryd.underlying234
  a233 := Tryd.isAgg234
  z233 := Tryd.sizeOf234
  v233 := Tryd.zeroValue234
  g17 := by kernel_rfl
  g18 := by kernel_rfl
  g19 := by kernel_rfl
  i0 := by kernel_rfl
  i2 := by kernel_rfl
  i3 := by kernel_rfl
  i4 := by kernel_rfl
  i5 := by kernel_rfl
  i9 := by kernel_rfl
  i20 := by kernel_rfl
  i37 := by kernel_rfl
  i46 := by kernel_rfl
  i51 := by kernel_rfl
  i53 := by kernel_rfl
  i171 := by kernel_rfl
  i173 := by kernel_rfl
  i212 := by kernel_rfl
  i232 := by kernel_rfl
  i233 := by kernel_rfl
  m17 := by kernel_rfl
  m18 := by kernel_rfl
  m19 := by kernel_rfl }
open Go.RowKit Go.Sort Go.Lib in
/-- internal/strconv.FormatInt: "FormatInt returns the string representation of i in the given base": AT BASE 10: i's decimal numeral, for every int64. The world behind the call: the world before it, new blocks behind the heap, draws. (LAID: no walk: one application.) -/
theorem Tryd.internal_strconv_FormatInt_10 (n : Int) (h0 : -9223372036854775808 ≤ n) (h1 : n ≤ 9223372036854775807) (w : World) (htab : Lib.TabIs Tryd.prog w "internal/strconv.uint64pow10" .u64 Lib.pow10Tab) :
    Calls Tryd.prog 180 #[.int .i64 n, .int .i64 10] w fun e w' => e = .returned (.string ⟨(Lib.itoa n).toArray⟩) ∧ ∃ k os, w' = grow (w.drewN k) os := Any.internal_strconv_FormatInt_10 Tryd.laysM246 n h0 h1 w htab
def Tryd.lays246_ren : Go.Shelf.Ren := ⟨fun | 246 => 180 | 283 => 186 | 284 => 187 | 285 => 188 | 286 => 189 | 129 => 194 | 317 => 193 | 318 => 195 | 319 => 196 | 320 => 197 | 337 => 198 | 338 => 199 | n => n, fun | 2 => 2 | 3 => 3 | 9 => 9 | 4 => 4 | 171 => 218 | 0 => 0 | 53 => 65 | 37 => 54 | 5 => 5 | 173 => 221 | 212 => 227 | 51 => 228 | 20 => 20 | 213 => 229 | 46 => 210 | 232 => 233 | 233 => 234 | n => n, fun | 17 => 2 | 18 => 4 | 19 => 5 | n => n⟩
theorem Tryd.lays246 : Go.Proofs.Lays.n246 Tryd.prog Tryd.lays246_ren := {
  mixed := by kernel_rfl
  f129 := Tryd.func194.trans (congrArg some (by kernel_rfl))
  f246 := Tryd.func180.trans (congrArg some (by kernel_rfl))
  f283 := Tryd.func186.trans (congrArg some (by kernel_rfl))
  f284 := Tryd.func187.trans (congrArg some (by kernel_rfl))
  f285 := Tryd.func188.trans (congrArg some (by kernel_rfl))
  f286 := Tryd.func189.trans (congrArg some (by kernel_rfl))
  f317 := Tryd.func193.trans (congrArg some (by kernel_rfl))
  f318 := Tryd.func195.trans (congrArg some (by kernel_rfl))
  f319 := Tryd.func196.trans (congrArg some (by kernel_rfl))
  f320 := Tryd.func197.trans (congrArg some (by kernel_rfl))
  f337 := Tryd.func198.trans (congrArg some (by kernel_rfl))
  f338 := Tryd.func199.trans (congrArg some (by kernel_rfl))
  t0 := Tryd.underlying0
  a0 := Tryd.isAgg0
  z0 := Tryd.sizeOf0
  v0 := Tryd.zeroValue0
  t2 := Tryd.underlying2
  a2 := Tryd.isAgg2
  z2 := Tryd.sizeOf2
  v2 := Tryd.zeroValue2
  t3 := Tryd.underlying3
  a3 := Tryd.isAgg3
  z3 := Tryd.sizeOf3
  v3 := Tryd.zeroValue3
  t4 := Tryd.underlying4
  a4 := Tryd.isAgg4
  z4 := Tryd.sizeOf4
  v4 := Tryd.zeroValue4
  t5 := Tryd.underlying5
  a5 := Tryd.isAgg5
  z5 := Tryd.sizeOf5
  v5 := Tryd.zeroValue5
  t9 := Tryd.underlying9
  a9 := Tryd.isAgg9
  z9 := Tryd.sizeOf9
  v9 := Tryd.zeroValue9
  t20 := Tryd.underlying20
  a20 := Tryd.isAgg20
  z20 := Tryd.sizeOf20
  v20 := Tryd.zeroValue20
  t37 := Tryd.underlying54
  a37 := Tryd.isAgg54
  z37 := Tryd.sizeOf54
  v37 := Tryd.zeroValue54
  t46 := Tryd.underlying210
  a46 := Tryd.isAgg210
  z46 := Tryd.sizeOf210
  v46 := Tryd.zeroValue210
  t51 := Tryd.underlying228
  a51 := Tryd.isAgg228
  z51 := Tryd.sizeOf228
  v51 := Tryd.zeroValue228
  t53 := Tryd.underlying65
  a53 := Tryd.isAgg65
  z53 := Tryd.sizeOf65
  v53 := Tryd.zeroValue65
  t171 := Tryd.underlying218
  a171 := Tryd.isAgg218
  z171 := Tryd.sizeOf218
  v171 := Tryd.zeroValue218
  t173 := Tryd.underlying221
  a173 := Tryd.isAgg221
  z173 := Tryd.sizeOf221
  v173 := Tryd.zeroValue221
  t212 := Tryd.underlying227
  a212 := Tryd.isAgg227
  z212 := Tryd.sizeOf227
  v212 := Tryd.zeroValue227
  t213 := Tryd.underlying229
  a213 := Tryd.isAgg229
  z213 := Tryd.sizeOf229
  t232 := Tryd.underlying233
  a232 := Tryd.isAgg233
  z232 := Tryd.sizeOf233
  v232 := Tryd.zeroValue233
  t233 := Tryd.underlying234
  a233 := Tryd.isAgg234
  z233 := Tryd.sizeOf234
  v233 := Tryd.zeroValue234
  g17 := by kernel_rfl
  g18 := by kernel_rfl
  g19 := by kernel_rfl }
open Go.RowKit Go.Sort Go.Lib in
/-- THE ROAD WITHOUT THE TABLE: 0 <= i < 100: two constants are read, nothing is laid: no premise on the world, and the world is as it was. (LAID: no walk: one application.) -/
theorem Tryd.internal_strconv_FormatInt_10_small (i : Nat) (hi : i < 100) (w : World) :
    Calls Tryd.prog 180 #[.int .i64 i, .int .i64 10] w fun e w' => e = .returned (.string ⟨(Lib.decDigits i).toArray⟩) ∧ w' = w := Any.internal_strconv_FormatInt_10_small Tryd.lays246 i hi w
def Tryd.laysM243_ren : Go.Shelf.Ren := ⟨fun | 243 => 165 | 246 => 180 | 283 => 186 | 284 => 187 | 285 => 188 | 286 => 189 | 129 => 194 | 317 => 193 | 318 => 195 | 319 => 196 | 320 => 197 | 337 => 198 | 338 => 199 | n => n, fun | 3 => 3 | 9 => 9 | 2 => 2 | 4 => 4 | 171 => 218 | 0 => 0 | 53 => 65 | 37 => 54 | 5 => 5 | 173 => 221 | 212 => 227 | 51 => 228 | 20 => 20 | 213 => 229 | 46 => 210 | 232 => 233 | 233 => 234 | n => n, fun | 17 => 2 | 18 => 4 | 19 => 5 | n => n⟩
theorem Tryd.laysM243 : Go.Proofs.LaysM.n243 Tryd.prog Tryd.laysM243_ren := {
  mixed := by kernel_rfl
  f129 := Tryd.func194.trans (congrArg some (by kernel_rfl))
  f243 := Tryd.func165.trans (congrArg some (by kernel_rfl))
  f246 := Tryd.func180.trans (congrArg some (by kernel_rfl))
  f283 := Tryd.func186.trans (congrArg some (by kernel_rfl))
  f284 := Tryd.func187.trans (congrArg some (by kernel_rfl))
  f285 := Tryd.func188.trans (congrArg some (by kernel_rfl))
  f286 := Tryd.func189.trans (congrArg some (by kernel_rfl))
  f317 := Tryd.func193.trans (congrArg some (by kernel_rfl))
  f318 := Tryd.func195.trans (congrArg some (by kernel_rfl))
  f319 := Tryd.func196.trans (congrArg some (by kernel_rfl))
  f320 := Tryd.func197.trans (congrArg some (by kernel_rfl))
  f337 := Tryd.func198.trans (congrArg some (by kernel_rfl))
  f338 := Tryd.func199.trans (congrArg some (by kernel_rfl))
  t0 := Tryd.underlying0
  a0 := Tryd.isAgg0
  z0 := Tryd.sizeOf0
  v0 := Tryd.zeroValue0
  t2 := Tryd.underlying2
  a2 := Tryd.isAgg2
  z2 := Tryd.sizeOf2
  v2 := Tryd.zeroValue2
  t3 := Tryd.underlying3
  a3 := Tryd.isAgg3
  z3 := Tryd.sizeOf3
  v3 := Tryd.zeroValue3
  t4 := Tryd.underlying4
  a4 := Tryd.isAgg4
  z4 := Tryd.sizeOf4
  v4 := Tryd.zeroValue4
  t5 := Tryd.underlying5
  a5 := Tryd.isAgg5
  z5 := Tryd.sizeOf5
  v5 := Tryd.zeroValue5
  t9 := Tryd.underlying9
  a9 := Tryd.isAgg9
  z9 := Tryd.sizeOf9
  v9 := Tryd.zeroValue9
  t20 := Tryd.underlying20
  a20 := Tryd.isAgg20
  z20 := Tryd.sizeOf20
  v20 := Tryd.zeroValue20
  t37 := Tryd.underlying54
  a37 := Tryd.isAgg54
  z37 := Tryd.sizeOf54
  v37 := Tryd.zeroValue54
  t46 := Tryd.underlying210
  a46 := Tryd.isAgg210
  z46 := Tryd.sizeOf210
  v46 := Tryd.zeroValue210
  t51 := Tryd.underlying228
  a51 := Tryd.isAgg228
  z51 := Tryd.sizeOf228
  v51 := Tryd.zeroValue228
  t53 := Tryd.underlying65
  a53 := Tryd.isAgg65
  z53 := Tryd.sizeOf65
  v53 := Tryd.zeroValue65
  t171 := Tryd.underlying218
  a171 := Tryd.isAgg218
  z171 := Tryd.sizeOf218
  v171 := Tryd.zeroValue218
  t173 := Tryd.underlying221
  a173 := Tryd.isAgg221
  z173 := Tryd.sizeOf221
  v173 := Tryd.zeroValue221
  t212 := Tryd.underlying227
  a212 := Tryd.isAgg227
  z212 := Tryd.sizeOf227
  v212 := Tryd.zeroValue227
  t213 := Tryd.underlying229
  a213 := Tryd.isAgg229
  z213 := Tryd.sizeOf229
  t232 := Tryd.underlying233
  a232 := Tryd.isAgg233
  z232 := Tryd.sizeOf233
  v232 := Tryd.zeroValue233
  t233 := Tryd.underlying234
  a233 := Tryd.isAgg234
  z233 := Tryd.sizeOf234
  v233 := Tryd.zeroValue234
  g17 := by kernel_rfl
  g18 := by kernel_rfl
  g19 := by kernel_rfl
  i0 := by kernel_rfl
  i2 := by kernel_rfl
  i3 := by kernel_rfl
  i4 := by kernel_rfl
  i5 := by kernel_rfl
  i9 := by kernel_rfl
  i20 := by kernel_rfl
  i37 := by kernel_rfl
  i46 := by kernel_rfl
  i51 := by kernel_rfl
  i53 := by kernel_rfl
  i171 := by kernel_rfl
  i173 := by kernel_rfl
  i212 := by kernel_rfl
  i232 := by kernel_rfl
  i233 := by kernel_rfl
  m17 := by kernel_rfl
  m18 := by kernel_rfl
  m19 := by kernel_rfl }
open Go.RowKit Go.Sort Go.Lib in
/-- internal/strconv.Itoa: "Itoa is equivalent to FormatInt(int64(i), 10).": i's decimal numeral, for every int. (LAID: no walk: one application.) -/
theorem Tryd.internal_strconv_Itoa (n : Int) (h0 : -9223372036854775808 ≤ n) (h1 : n ≤ 9223372036854775807) (w : World) (htab : Lib.TabIs Tryd.prog w "internal/strconv.uint64pow10" .u64 Lib.pow10Tab) :
    Calls Tryd.prog 165 #[.int .i64 n] w fun e w' => e = .returned (.string ⟨(Lib.itoa n).toArray⟩) ∧ ∃ k os, w' = grow (w.drewN k) os := Any.internal_strconv_Itoa Tryd.laysM243 n h0 h1 w htab
def Tryd.lays243_ren : Go.Shelf.Ren := ⟨fun | 243 => 165 | 246 => 180 | 283 => 186 | 284 => 187 | 285 => 188 | 286 => 189 | 129 => 194 | 317 => 193 | 318 => 195 | 319 => 196 | 320 => 197 | 337 => 198 | 338 => 199 | n => n, fun | 3 => 3 | 9 => 9 | 2 => 2 | 4 => 4 | 171 => 218 | 0 => 0 | 53 => 65 | 37 => 54 | 5 => 5 | 173 => 221 | 212 => 227 | 51 => 228 | 20 => 20 | 213 => 229 | 46 => 210 | 232 => 233 | 233 => 234 | n => n, fun | 17 => 2 | 18 => 4 | 19 => 5 | n => n⟩
theorem Tryd.lays243 : Go.Proofs.Lays.n243 Tryd.prog Tryd.lays243_ren := {
  mixed := by kernel_rfl
  f129 := Tryd.func194.trans (congrArg some (by kernel_rfl))
  f243 := Tryd.func165.trans (congrArg some (by kernel_rfl))
  f246 := Tryd.func180.trans (congrArg some (by kernel_rfl))
  f283 := Tryd.func186.trans (congrArg some (by kernel_rfl))
  f284 := Tryd.func187.trans (congrArg some (by kernel_rfl))
  f285 := Tryd.func188.trans (congrArg some (by kernel_rfl))
  f286 := Tryd.func189.trans (congrArg some (by kernel_rfl))
  f317 := Tryd.func193.trans (congrArg some (by kernel_rfl))
  f318 := Tryd.func195.trans (congrArg some (by kernel_rfl))
  f319 := Tryd.func196.trans (congrArg some (by kernel_rfl))
  f320 := Tryd.func197.trans (congrArg some (by kernel_rfl))
  f337 := Tryd.func198.trans (congrArg some (by kernel_rfl))
  f338 := Tryd.func199.trans (congrArg some (by kernel_rfl))
  t0 := Tryd.underlying0
  a0 := Tryd.isAgg0
  z0 := Tryd.sizeOf0
  v0 := Tryd.zeroValue0
  t2 := Tryd.underlying2
  a2 := Tryd.isAgg2
  z2 := Tryd.sizeOf2
  v2 := Tryd.zeroValue2
  t3 := Tryd.underlying3
  a3 := Tryd.isAgg3
  z3 := Tryd.sizeOf3
  v3 := Tryd.zeroValue3
  t4 := Tryd.underlying4
  a4 := Tryd.isAgg4
  z4 := Tryd.sizeOf4
  v4 := Tryd.zeroValue4
  t5 := Tryd.underlying5
  a5 := Tryd.isAgg5
  z5 := Tryd.sizeOf5
  v5 := Tryd.zeroValue5
  t9 := Tryd.underlying9
  a9 := Tryd.isAgg9
  z9 := Tryd.sizeOf9
  v9 := Tryd.zeroValue9
  t20 := Tryd.underlying20
  a20 := Tryd.isAgg20
  z20 := Tryd.sizeOf20
  v20 := Tryd.zeroValue20
  t37 := Tryd.underlying54
  a37 := Tryd.isAgg54
  z37 := Tryd.sizeOf54
  v37 := Tryd.zeroValue54
  t46 := Tryd.underlying210
  a46 := Tryd.isAgg210
  z46 := Tryd.sizeOf210
  v46 := Tryd.zeroValue210
  t51 := Tryd.underlying228
  a51 := Tryd.isAgg228
  z51 := Tryd.sizeOf228
  v51 := Tryd.zeroValue228
  t53 := Tryd.underlying65
  a53 := Tryd.isAgg65
  z53 := Tryd.sizeOf65
  v53 := Tryd.zeroValue65
  t171 := Tryd.underlying218
  a171 := Tryd.isAgg218
  z171 := Tryd.sizeOf218
  v171 := Tryd.zeroValue218
  t173 := Tryd.underlying221
  a173 := Tryd.isAgg221
  z173 := Tryd.sizeOf221
  v173 := Tryd.zeroValue221
  t212 := Tryd.underlying227
  a212 := Tryd.isAgg227
  z212 := Tryd.sizeOf227
  v212 := Tryd.zeroValue227
  t213 := Tryd.underlying229
  a213 := Tryd.isAgg229
  z213 := Tryd.sizeOf229
  t232 := Tryd.underlying233
  a232 := Tryd.isAgg233
  z232 := Tryd.sizeOf233
  v232 := Tryd.zeroValue233
  t233 := Tryd.underlying234
  a233 := Tryd.isAgg234
  z233 := Tryd.sizeOf234
  v233 := Tryd.zeroValue234
  g17 := by kernel_rfl
  g18 := by kernel_rfl
  g19 := by kernel_rfl }
open Go.RowKit Go.Sort Go.Lib in
/-- THE ROAD WITHOUT THE TABLE: 0 <= i < 100. (LAID: no walk: one application.) -/
theorem Tryd.internal_strconv_Itoa_small (i : Nat) (hi : i < 100) (w : World) :
    Calls Tryd.prog 165 #[.int .i64 i] w fun e w' => e = .returned (.string ⟨(Lib.decDigits i).toArray⟩) ∧ w' = w := Any.internal_strconv_Itoa_small Tryd.lays243 i hi w
def Tryd.laysM171_ren : Go.Shelf.Ren := ⟨fun | 171 => 135 | 243 => 165 | 246 => 180 | 283 => 186 | 284 => 187 | 285 => 188 | 286 => 189 | 129 => 194 | 317 => 193 | 318 => 195 | 319 => 196 | 320 => 197 | 337 => 198 | 338 => 199 | n => n, fun | 3 => 3 | 9 => 9 | 2 => 2 | 4 => 4 | 171 => 218 | 0 => 0 | 53 => 65 | 37 => 54 | 5 => 5 | 173 => 221 | 212 => 227 | 51 => 228 | 20 => 20 | 213 => 229 | 46 => 210 | 232 => 233 | 233 => 234 | n => n, fun | 17 => 2 | 18 => 4 | 19 => 5 | n => n⟩
theorem Tryd.laysM171 : Go.Proofs.LaysM.n171 Tryd.prog Tryd.laysM171_ren := {
  mixed := by kernel_rfl
  f129 := Tryd.func194.trans (congrArg some (by kernel_rfl))
  f171 := Tryd.func135.trans (congrArg some (by kernel_rfl))
  f243 := Tryd.func165.trans (congrArg some (by kernel_rfl))
  f246 := Tryd.func180.trans (congrArg some (by kernel_rfl))
  f283 := Tryd.func186.trans (congrArg some (by kernel_rfl))
  f284 := Tryd.func187.trans (congrArg some (by kernel_rfl))
  f285 := Tryd.func188.trans (congrArg some (by kernel_rfl))
  f286 := Tryd.func189.trans (congrArg some (by kernel_rfl))
  f317 := Tryd.func193.trans (congrArg some (by kernel_rfl))
  f318 := Tryd.func195.trans (congrArg some (by kernel_rfl))
  f319 := Tryd.func196.trans (congrArg some (by kernel_rfl))
  f320 := Tryd.func197.trans (congrArg some (by kernel_rfl))
  f337 := Tryd.func198.trans (congrArg some (by kernel_rfl))
  f338 := Tryd.func199.trans (congrArg some (by kernel_rfl))
  t0 := Tryd.underlying0
  a0 := Tryd.isAgg0
  z0 := Tryd.sizeOf0
  v0 := Tryd.zeroValue0
  t2 := Tryd.underlying2
  a2 := Tryd.isAgg2
  z2 := Tryd.sizeOf2
  v2 := Tryd.zeroValue2
  t3 := Tryd.underlying3
  a3 := Tryd.isAgg3
  z3 := Tryd.sizeOf3
  v3 := Tryd.zeroValue3
  t4 := Tryd.underlying4
  a4 := Tryd.isAgg4
  z4 := Tryd.sizeOf4
  v4 := Tryd.zeroValue4
  t5 := Tryd.underlying5
  a5 := Tryd.isAgg5
  z5 := Tryd.sizeOf5
  v5 := Tryd.zeroValue5
  t9 := Tryd.underlying9
  a9 := Tryd.isAgg9
  z9 := Tryd.sizeOf9
  v9 := Tryd.zeroValue9
  t20 := Tryd.underlying20
  a20 := Tryd.isAgg20
  z20 := Tryd.sizeOf20
  v20 := Tryd.zeroValue20
  t37 := Tryd.underlying54
  a37 := Tryd.isAgg54
  z37 := Tryd.sizeOf54
  v37 := Tryd.zeroValue54
  t46 := Tryd.underlying210
  a46 := Tryd.isAgg210
  z46 := Tryd.sizeOf210
  v46 := Tryd.zeroValue210
  t51 := Tryd.underlying228
  a51 := Tryd.isAgg228
  z51 := Tryd.sizeOf228
  v51 := Tryd.zeroValue228
  t53 := Tryd.underlying65
  a53 := Tryd.isAgg65
  z53 := Tryd.sizeOf65
  v53 := Tryd.zeroValue65
  t171 := Tryd.underlying218
  a171 := Tryd.isAgg218
  z171 := Tryd.sizeOf218
  v171 := Tryd.zeroValue218
  t173 := Tryd.underlying221
  a173 := Tryd.isAgg221
  z173 := Tryd.sizeOf221
  v173 := Tryd.zeroValue221
  t212 := Tryd.underlying227
  a212 := Tryd.isAgg227
  z212 := Tryd.sizeOf227
  v212 := Tryd.zeroValue227
  t213 := Tryd.underlying229
  a213 := Tryd.isAgg229
  z213 := Tryd.sizeOf229
  t232 := Tryd.underlying233
  a232 := Tryd.isAgg233
  z232 := Tryd.sizeOf233
  v232 := Tryd.zeroValue233
  t233 := Tryd.underlying234
  a233 := Tryd.isAgg234
  z233 := Tryd.sizeOf234
  v233 := Tryd.zeroValue234
  g17 := by kernel_rfl
  g18 := by kernel_rfl
  g19 := by kernel_rfl
  i0 := by kernel_rfl
  i2 := by kernel_rfl
  i3 := by kernel_rfl
  i4 := by kernel_rfl
  i5 := by kernel_rfl
  i9 := by kernel_rfl
  i20 := by kernel_rfl
  i37 := by kernel_rfl
  i46 := by kernel_rfl
  i51 := by kernel_rfl
  i53 := by kernel_rfl
  i171 := by kernel_rfl
  i173 := by kernel_rfl
  i212 := by kernel_rfl
  i232 := by kernel_rfl
  i233 := by kernel_rfl
  m17 := by kernel_rfl
  m18 := by kernel_rfl
  m19 := by kernel_rfl }
open Go.RowKit Go.Sort Go.Lib in
/-- strconv.Itoa: "Itoa is equivalent to FormatInt(int64(i), 10).": i's DECIMAL NUMERAL ('Lib.itoa': a '-' where i is negative, then the digits), FOR EVERY int. The world behind the call: the world before it, new blocks behind the heap (the library's 'var a [24]byte'), draws. (LAID: no walk: one application.) -/
theorem Tryd.strconv_Itoa (n : Int) (h0 : -9223372036854775808 ≤ n) (h1 : n ≤ 9223372036854775807) (w : World) (htab : Lib.TabIs Tryd.prog w "internal/strconv.uint64pow10" .u64 Lib.pow10Tab) :
    Calls Tryd.prog 135 #[.int .i64 n] w fun e w' => e = .returned (.string ⟨(Lib.itoa n).toArray⟩) ∧ ∃ k os, w' = grow (w.drewN k) os := Any.strconv_Itoa Tryd.laysM171 n h0 h1 w htab
def Tryd.lays171_ren : Go.Shelf.Ren := ⟨fun | 171 => 135 | 243 => 165 | 246 => 180 | 283 => 186 | 284 => 187 | 285 => 188 | 286 => 189 | 129 => 194 | 317 => 193 | 318 => 195 | 319 => 196 | 320 => 197 | 337 => 198 | 338 => 199 | n => n, fun | 3 => 3 | 9 => 9 | 2 => 2 | 4 => 4 | 171 => 218 | 0 => 0 | 53 => 65 | 37 => 54 | 5 => 5 | 173 => 221 | 212 => 227 | 51 => 228 | 20 => 20 | 213 => 229 | 46 => 210 | 232 => 233 | 233 => 234 | n => n, fun | 17 => 2 | 18 => 4 | 19 => 5 | n => n⟩
theorem Tryd.lays171 : Go.Proofs.Lays.n171 Tryd.prog Tryd.lays171_ren := {
  mixed := by kernel_rfl
  f129 := Tryd.func194.trans (congrArg some (by kernel_rfl))
  f171 := Tryd.func135.trans (congrArg some (by kernel_rfl))
  f243 := Tryd.func165.trans (congrArg some (by kernel_rfl))
  f246 := Tryd.func180.trans (congrArg some (by kernel_rfl))
  f283 := Tryd.func186.trans (congrArg some (by kernel_rfl))
  f284 := Tryd.func187.trans (congrArg some (by kernel_rfl))
  f285 := Tryd.func188.trans (congrArg some (by kernel_rfl))
  f286 := Tryd.func189.trans (congrArg some (by kernel_rfl))
  f317 := Tryd.func193.trans (congrArg some (by kernel_rfl))
  f318 := Tryd.func195.trans (congrArg some (by kernel_rfl))
  f319 := Tryd.func196.trans (congrArg some (by kernel_rfl))
  f320 := Tryd.func197.trans (congrArg some (by kernel_rfl))
  f337 := Tryd.func198.trans (congrArg some (by kernel_rfl))
  f338 := Tryd.func199.trans (congrArg some (by kernel_rfl))
  t0 := Tryd.underlying0
  a0 := Tryd.isAgg0
  z0 := Tryd.sizeOf0
  v0 := Tryd.zeroValue0
  t2 := Tryd.underlying2
  a2 := Tryd.isAgg2
  z2 := Tryd.sizeOf2
  v2 := Tryd.zeroValue2
  t3 := Tryd.underlying3
  a3 := Tryd.isAgg3
  z3 := Tryd.sizeOf3
  v3 := Tryd.zeroValue3
  t4 := Tryd.underlying4
  a4 := Tryd.isAgg4
  z4 := Tryd.sizeOf4
  v4 := Tryd.zeroValue4
  t5 := Tryd.underlying5
  a5 := Tryd.isAgg5
  z5 := Tryd.sizeOf5
  v5 := Tryd.zeroValue5
  t9 := Tryd.underlying9
  a9 := Tryd.isAgg9
  z9 := Tryd.sizeOf9
  v9 := Tryd.zeroValue9
  t20 := Tryd.underlying20
  a20 := Tryd.isAgg20
  z20 := Tryd.sizeOf20
  v20 := Tryd.zeroValue20
  t37 := Tryd.underlying54
  a37 := Tryd.isAgg54
  z37 := Tryd.sizeOf54
  v37 := Tryd.zeroValue54
  t46 := Tryd.underlying210
  a46 := Tryd.isAgg210
  z46 := Tryd.sizeOf210
  v46 := Tryd.zeroValue210
  t51 := Tryd.underlying228
  a51 := Tryd.isAgg228
  z51 := Tryd.sizeOf228
  v51 := Tryd.zeroValue228
  t53 := Tryd.underlying65
  a53 := Tryd.isAgg65
  z53 := Tryd.sizeOf65
  v53 := Tryd.zeroValue65
  t171 := Tryd.underlying218
  a171 := Tryd.isAgg218
  z171 := Tryd.sizeOf218
  v171 := Tryd.zeroValue218
  t173 := Tryd.underlying221
  a173 := Tryd.isAgg221
  z173 := Tryd.sizeOf221
  v173 := Tryd.zeroValue221
  t212 := Tryd.underlying227
  a212 := Tryd.isAgg227
  z212 := Tryd.sizeOf227
  v212 := Tryd.zeroValue227
  t213 := Tryd.underlying229
  a213 := Tryd.isAgg229
  z213 := Tryd.sizeOf229
  t232 := Tryd.underlying233
  a232 := Tryd.isAgg233
  z232 := Tryd.sizeOf233
  v232 := Tryd.zeroValue233
  t233 := Tryd.underlying234
  a233 := Tryd.isAgg234
  z233 := Tryd.sizeOf234
  v233 := Tryd.zeroValue234
  g17 := by kernel_rfl
  g18 := by kernel_rfl
  g19 := by kernel_rfl }
open Go.RowKit Go.Sort Go.Lib in
/-- THE ROAD WITHOUT THE TABLE: 0 <= i < 100: NO PREMISE ON THE WORLD, AND THE WORLD IS AS IT WAS: a row that keeps its argument in that range need list no table ('laid = []'). (LAID: no walk: one application.) -/
theorem Tryd.strconv_Itoa_small (i : Nat) (hi : i < 100) (w : World) :
    Calls Tryd.prog 135 #[.int .i64 i] w fun e w' => e = .returned (.string ⟨(Lib.decDigits i).toArray⟩) ∧ w' = w := Any.strconv_Itoa_small Tryd.lays171 i hi w
def Tryd.lays206_ren : Go.Shelf.Ren := ⟨fun | 206 => 192 | n => n, fun | 9 => 9 | 4 => 4 | 3 => 3 | n => n, fun | n => n⟩
theorem Tryd.lays206 : Go.Proofs.Lays.n206 Tryd.prog Tryd.lays206_ren := {
  mixed := by kernel_rfl
  f206 := Tryd.func192.trans (congrArg some (by kernel_rfl))
  t3 := Tryd.underlying3
  a3 := Tryd.isAgg3
  z3 := Tryd.sizeOf3
  v3 := Tryd.zeroValue3
  t4 := Tryd.underlying4
  a4 := Tryd.isAgg4
  z4 := Tryd.sizeOf4
  v4 := Tryd.zeroValue4
  t9 := Tryd.underlying9
  a9 := Tryd.isAgg9
  z9 := Tryd.sizeOf9
  v9 := Tryd.zeroValue9 }
open Go.RowKit Go.Lib in
/-- internal/stringslite.HasPrefix (what strings.HasPrefix calls). (LAID: no walk: one application.) -/
theorem Tryd.stringslite_HasPrefix (s p : ByteArray) (w : World) :
    Calls Tryd.prog 192 #[.string s, .string p] w fun e w' => e = .returned (.bool (Lib.hasPrefix s.data.toList p.data.toList)) ∧ w' = w := Any.stringslite_HasPrefix Tryd.lays206 s p w
def Tryd.lays99_ren : Go.Shelf.Ren := ⟨fun | 99 => 183 | 206 => 192 | n => n, fun | 9 => 9 | 4 => 4 | 3 => 3 | n => n, fun | n => n⟩
theorem Tryd.lays99 : Go.Proofs.Lays.n99 Tryd.prog Tryd.lays99_ren := {
  mixed := by kernel_rfl
  f99 := Tryd.func183.trans (congrArg some (by kernel_rfl))
  f206 := Tryd.func192.trans (congrArg some (by kernel_rfl))
  t3 := Tryd.underlying3
  a3 := Tryd.isAgg3
  z3 := Tryd.sizeOf3
  v3 := Tryd.zeroValue3
  t4 := Tryd.underlying4
  a4 := Tryd.isAgg4
  z4 := Tryd.sizeOf4
  v4 := Tryd.zeroValue4
  t9 := Tryd.underlying9
  a9 := Tryd.isAgg9
  z9 := Tryd.sizeOf9
  v9 := Tryd.zeroValue9 }
open Go.RowKit Go.Lib in
/-- strings.HasPrefix: "HasPrefix reports whether the string s begins with prefix.": IT RETURNS 'Lib.hasPrefix s prefix'; the world is as it was. (LAID: no walk: one application.) -/
theorem Tryd.strings_HasPrefix (s p : ByteArray) (w : World) :
    Calls Tryd.prog 183 #[.string s, .string p] w fun e w' => e = .returned (.bool (Lib.hasPrefix s.data.toList p.data.toList)) ∧ w' = w := Any.strings_HasPrefix Tryd.lays99 s p w
def Tryd.laysSlK4_ren : Go.Shelf.Ren := ⟨fun | 4 => 64 | n => n, fun | 22 => 54 | 4 => 4 | 5 => 5 | n => n, fun | n => n⟩
theorem Tryd.laysSlK4 : Go.Proofs.SlLaysK.n4 Tryd.prog Tryd.laysSlK4_ren := {
  mixed := by kernel_rfl
  f4 := Tryd.func64.trans (congrArg some (by kernel_rfl))
  t4 := Tryd.underlying4
  a4 := Tryd.isAgg4
  z4 := Tryd.sizeOf4
  v4 := Tryd.zeroValue4
  t22 := Tryd.underlying54
  a22 := Tryd.isAgg54
  z22 := Tryd.sizeOf54
  v22 := Tryd.zeroValue54
  t5 := Tryd.underlying5
  i5 := by kernel_rfl }
open Go.RowKit Go.Lib in
/-- bytes.Clone: "Clone returns a copy of b[:len(b)]. The result may have additional unused capacity.": OF A SLICE THAT IS NOT nil IT RETURNS A SLICE THAT IS NOT nil, OF THE SAME BYTES, IN MEMORY OF THE CALL's OWN: in the how-to's words (6f): 'w'.ownsRow B e 1 v' n cells' · 'Below B w w'', B the heap's size at the call. b AT WHATEVER ADDRESS, its cells as 'open_ints' hands them ('a.add i'; the numbers 'xs'). No byte: no cell is asked for. (LAID: no walk: one application.) -/
theorem Tryd.bytes_Clone_at (a : Addr) (n c : Nat) (xs : List Int) (w : World) (hx : xs.length = n) (hbig : n ≤ 140737488355328) (hc : ∀ i, i < n → w.cell? (a.add i) = some (.int .u8 (xs.getD i 0))) :
    Calls Tryd.prog 64 #[.slice (some a) n c] w fun e w' => ∃ v', e = .returned v' ∧ w'.ownsRow w.heap.size 5 1 v' n (xs.map (Value.int .u8)) ∧ v' ≠ .slice none 0 0 ∧ Below w.heap.size w w' := Any.bytes_Clone_at Tryd.laysSlK4 a n c xs w hx hbig hc
open Go.RowKit Go.Lib in
/-- "Clone(nil) returns nil.": the world is as it was. (LAID: no walk: one application.) -/
theorem Tryd.bytes_Clone_nil (n c : Nat) (w : World) :
    Calls Tryd.prog 64 #[.slice none n c] w fun e w' => e = .returned (.slice none 0 0) ∧ w' = w := Any.bytes_Clone_nil Tryd.laysSlK4 n c w
end Go.Proofs
/-
  name's small functions, walked: stands, Count, Well.
-/
namespace Go.Proofs.YtkdhjejchdcipaaDoor
open Go.RowKit
set_option linter.unusedVariables false

theorem stands_any (p : Int) (r : ByteArray) (w : World) :
    Calls Tryd.prog 171 #[.int .i32 p, .string r] w fun e w' => e = .returned (.bool ((p != 65533) || fffd (bs r))) ∧ w = w' := by
  by_cases h : p = 65533
  · subst h
    go_enter Tryd.func171, Tryd.ntmps171
    go_wp2_with (go_at_call 183; refine (Tryd.strings_HasPrefix _ _ _).mono ?_; rintro e w' ⟨rfl, rfl⟩)
    go_ret
    exact ⟨by rw [show (([239, 191, 189] : List UInt8)) = [239, 191, 189] from rfl, prefix_fffd]; rfl, rfl⟩
  · have t1 : (p != 65533) = true := by simpa using h
    clear h
    go_enter Tryd.func171, Tryd.ntmps171
    go_wp2_with fail
    go_ret
    exact ⟨ret_bool (by rw [t1]; rfl), rfl⟩
theorem stands_yes (p : Nat) (r : ByteArray) (w : World) (h : p ≠ 65533 ∨ fffd (bs r) = true) :
    Calls Tryd.prog 171 #[.int .i32 p, .string r] w fun e w' => e = .returned (.bool true) ∧ w = w' :=
  (stands_any p r w).mono fun _ _ ⟨he, hw⟩ => ⟨by rw [he]; congr 2; rcases h with h | h <;> simp [h]; omega, hw⟩
theorem stands_no (p : Nat) (r : ByteArray) (w : World) (h : p = 65533) (h2 : fffd (bs r) = false) :
    Calls Tryd.prog 171 #[.int .i32 p, .string r] w fun e w' => e = .returned (.bool false) ∧ w = w' :=
  (stands_any p r w).mono fun _ _ ⟨he, hw⟩ => ⟨by rw [he, h2, h]; rfl, hw⟩

theorem cnt_end {l : List Nat} {pos : Nat} (h : l.length ≤ pos) : Nm.cnt (l.drop pos) = 0 := by rw [List.drop_of_length_le h]; exact Nm.cnt_nil
theorem iter_below (w : World) (s : ByteArray) (pos : Nat) : Below w.heap.size w (w.iter s pos) := (Below.refl _ _).alloc (Nat.le_refl _) _

set_option maxHeartbeats 1000000 in
theorem Count_any (s : ByteArray) (w : World) (hs : s.size ≤ maxLen) :
    Calls Tryd.prog 147 #[.string s] w fun e w' => e = .returned (.int .i64 (Nm.cnt (bs s))) ∧ Below w.heap.size w w' := by
  unfold maxLen at hs
  have hl := bs_len s
  have HL := Lib.hid hl
  clear hl
  go_enter Tryd.func147, Tryd.ntmps147
  go_wp2_with fail
  go_loopw [3] (fun n wr => ∃ (pos acc : Nat), wr = w.iter s pos ∧ n = .int .i64 acc ∧ acc ≤ pos ∧ pos ≤ s.size ∧ Hid (Nm.cnt (bs s) = if Nm.cnt ((bs s).drop pos) < 0 then -1 else acc + Nm.cnt ((bs s).drop pos))) (fun _ wr => s.size - wr.iterPos w.heap.size)
  case atStart => exact ⟨0, 0, rfl, rfl, by omega, by omega, by have := Nm.cnt_ge (bs s); rw [Hid, List.drop_zero]; split <;> omega⟩
  case round =>
    obtain ⟨pos, acc, rfl, rfl, ha, hle, H⟩ := hrel
    by_cases hp : pos < s.size
    · have hnx : ∀ ty, (Instr.next (.pointer (some ⟨w.heap.size, 0, none⟩)) true ty).run Tryd.prog (w.iter s pos) = _ := fun ty => run_next_any w s pos ty hp
      have hone := Nm.one_le ((bs s).drop pos)
      rw [List.length_drop, HL.out] at hone
      have hd := decode_one s pos hp
      have e := H.out
      generalize (Utf8.decode s pos).1 = c at hd hnx
      generalize (Utf8.decode s pos).2 = width at hd hnx
      rcases hd with ⟨d1, d2, d3⟩ | ⟨d1, d2, d3⟩
      · rw [Nm.cnt_step d1, List.drop_drop] at e
        rw [← d2] at e d1 hone
        rw [← bs_drop] at d3
        have E := Lib.hid e
        have D3 := Lib.hid d3
        clear e H d2 d3
        go_wp2_with (go_at_call 171; refine (stands_yes _ _ _ D3.out).mono ?_; rintro e w' ⟨rfl, rfl⟩)
        go_roundw
        case rel =>
          refine ⟨pos + width, acc + 1, rfl, rfl, by omega, by omega, ?_⟩
          have := E.out
          rw [Hid, this]
          split <;> split <;> omega
        case measure => simp; omega
      · rw [Nm.cnt_bad (by rw [List.length_drop, HL.out]; omega) d1] at e
        rw [← bs_drop] at d3
        have E := Lib.hid e
        have D2 := Lib.hid d2
        have D3 := Lib.hid d3
        clear e H d1 d2 d3
        go_wp2_with (go_at_call 171; refine (stands_no _ _ _ D2.out D3.out).mono ?_; rintro e w' ⟨rfl, rfl⟩)
        go_ret
        exact ⟨ret_int (by rw [E.out]; rfl), iter_below _ _ _⟩
    · have hnx : ∀ ty, (Instr.next (.pointer (some ⟨w.heap.size, 0, none⟩)) true ty).run Tryd.prog (w.iter s pos) = _ := fun ty => run_next_end w s pos ty hp
      have e := H.out
      rw [cnt_end (by rw [HL.out]; omega)] at e
      have E := Lib.hid e
      clear e H
      go_wp2_with fail
      go_ret
      exact ⟨ret_int (by rw [E.out]; simp), iter_below _ _ _⟩
end Go.Proofs.YtkdhjejchdcipaaDoor
/-
  name's Well, and the document's own One and Count, walked.
-/
namespace Go.Proofs.YtkdhjejchdcipaaDoor
open Go.RowKit
set_option linter.unusedVariables false

theorem Well_any (s : ByteArray) (w : World) (hs : s.size ≤ maxLen) :
    Calls Tryd.prog 113 #[.string s] w fun e w' => e = .returned (.bool (Nm.well (bs s))) ∧ Below w.heap.size w w' := by
  go_enter Tryd.func113, Tryd.ntmps113
  go_wp2_with fail
  refine (Count_any s _ hs).mono ?_
  rintro e w' ⟨rfl, hb⟩
  go_wp2
  go_ret
  exact ⟨rfl, hb⟩

theorem val_lt (c0 : Nat) (l : List Nat) (k : Nat) (h0 : c0 < 64) (h : Nm.conts l k = true) : Nm.val c0 l k < 64 ^ (k + 1) := by
  induction k with
  | zero => rw [Nm.val_0]; omega
  | succ k ih =>
    simp only [Nm.conts, Bool.and_eq_true, Nm.cont, decide_eq_true_eq] at h
    have := ih h.1
    rw [Nm.val_succ, Nat.pow_succ]
    omega

set_option maxRecDepth 100000 in
set_option maxHeartbeats 1000000 in
theorem One_any (s : ByteArray) (w : World) (hs : s.size ≤ maxLen) :
    Calls Tryd.prog 148 #[.string s] w fun e w' => e = .returned (.int .i64 (Nm.one (bs s) : Nat)) ∧ Below w.heap.size w w' := by
  unfold maxLen at hs
  have HL := Lib.hid (bs_len s)
  by_cases h0 : s.size = 0
  · have H1 := Lib.hid (Nm.one_none (l := bs s) (by rw [HL.out]; exact h0))
    have t1 : ((s.size : Int) == 0) = true := by rw [beq_iff_eq]; omega
    clear h0
    go_enter Tryd.func148, Tryd.ntmps148
    go_wp2_with fail
    go_ret
    exact ⟨ret_int (by rw [H1.out]; rfl), Below.refl _ _⟩
  have t1 : ((s.size : Int) == 0) = false := beq_eq_false_iff_ne.2 (by omega)
  have hp : 0 < s.size := by omega
  have HN : Hid ((bs s).length ≠ 0) := by rw [Hid, HL.out]; omega
  have HG := Lib.hid (bs_get s 0 hp)
  have hx : ∃ x : Nat, (s[0]'hp).toNat = x ∧ x < 256 := ⟨_, rfl, (s[0]'hp).toNat_lt⟩
  clear h0
  obtain ⟨x, hx, hx2⟩ := hx
  have hx3 : (x : Int) < 256 := by omega
  rw [hx] at HG
  have HX2 := Lib.hid hx2
  clear hx2
  by_cases h1 : x < 128
  · have H1 := Lib.hid (Nm.one_lo HN.out (by rw [HG.out]; exact h1))
    have t2 : (x : Int) < 128 := by omega
    clear h1
    go_enter Tryd.func148, Tryd.ntmps148
    go_wp2_with fail
    go_ret
    exact ⟨ret_int (by rw [H1.out]; rfl), Below.refl _ _⟩
  have t2 : 128 ≤ (x : Int) := by omega
  by_cases h2 : x < 192 ∨ 248 ≤ x
  · have H1 := Lib.hid (Nm.one_mid HN.out (by rw [HG.out]; omega) (by rw [HG.out]; exact h2))
    rcases h2 with h2 | h2
    · have t3 : (x : Int) < 192 := by omega
      clear h1 h2
      go_enter Tryd.func148, Tryd.ntmps148
      go_wp2_with fail
      go_ret
      exact ⟨ret_int (by rw [H1.out]; rfl), Below.refl _ _⟩
    · have t3 : 248 ≤ (x : Int) := by omega
      clear h1 h2
      go_enter Tryd.func148, Tryd.ntmps148
      go_wp2_with fail
      go_ret
      exact ⟨ret_int (by rw [H1.out]; rfl), Below.refl _ _⟩
  have t3 : 192 ≤ (x : Int) := by omega
  by_cases h3 : x < 224
  · have t4 : (x : Int) < 224 := by omega
    have H1 := Lib.hid (Nm.one_2 HN.out (by rw [HG.out]; omega) (by rw [HG.out]; omega))
    rw [HG.out] at H1
    clear h1 h2
    by_cases h4 : s.size < 2
    · have H2 := Lib.hid (Nm.gen_short (least := 128) (c0 := x - 192) (l := bs s) (n := 2) (by rw [HL.out]; exact h4))
      have t5 : (s.size : Int) < 2 := by omega
      clear h4
      go_enter Tryd.func148, Tryd.ntmps148
      go_wp2_with fail
      go_ret
      exact ⟨ret_int (by rw [H1.out, H2.out]; rfl), Below.refl _ _⟩
    · have t5 : (2 : Int) ≤ (s.size : Int) := by omega
      go_enter Tryd.func148, Tryd.ntmps148
      go_wp2_with fail
      go_loop [4, 5] (fun c i => ∃ j v : Nat, c = .int .i64 v ∧ i = .int .i64 j ∧ 1 ≤ j ∧ j ≤ 2 ∧ v < 16777216 ∧ Hid (v = Nm.val (x - 192) (bs s) (j - 1)) ∧ Hid (Nm.conts (bs s) (j - 1) = true)) (fun _ i => 4 - (intOf i).toNat)
      case atStart => exact ⟨1, x - 192, by congr 1; omega, rfl, by omega, by omega, by omega, rfl, rfl⟩
      case round =>
        obtain ⟨j, v, rfl, rfl, hj1, hj2, hv, H3, H4⟩ := hrel
        by_cases hlt : j < 2
        · have hjs : j < s.size := by omega
          have hg := bs_get s j hjs
          obtain ⟨y, hy, hy2⟩ : ∃ y : Nat, (s[j]'hjs).toNat = y ∧ y < 256 := ⟨_, rfl, (s[j]'hjs).toNat_lt⟩
          rw [hy] at hg
          have HG2 := Lib.hid hg
          have hy3 : (y : Int) < 256 := by omega
          have HY2 := Lib.hid hy2
          clear hg hy2
          by_cases hy4 : y < 128
          · have hy5 : (y : Int) < 128 := by omega
            have H5 := Lib.hid (Nm.gen_cut (n := 2) (least := 128) (c0 := x - 192) (l := bs s) (j - 1) (by omega) (by rw [show j - 1 + 1 = j by omega, HG2.out]; simp [Nm.cont]; omega))
            clear hy4
            go_wp2_with fail
            go_ret
            exact ⟨ret_int (by rw [H1.out, H5.out]; rfl), Below.refl _ _⟩
          · have hy5 : (128 : Int) ≤ (y : Int) := by omega
            clear hy4
            by_cases hy4 : 191 < y
            · have hy6 : (191 : Int) < (y : Int) := by omega
              have H5 := Lib.hid (Nm.gen_cut (n := 2) (least := 128) (c0 := x - 192) (l := bs s) (j - 1) (by omega) (by rw [show j - 1 + 1 = j by omega, HG2.out]; simp [Nm.cont]; omega))
              clear hy4
              go_wp2_with fail
              go_ret
              exact ⟨ret_int (by rw [H1.out, H5.out]; rfl), Below.refl _ _⟩
            · have hy6 : (y : Int) ≤ 191 := by omega
              clear hy4
              go_wp2_with fail
              go_round
              case rel =>
                have e1 : Nm.conts (bs s) (j + 1 - 1) = true := by
                  rw [show j + 1 - 1 = (j - 1) + 1 by omega, Nm.conts, H4.out, show j - 1 + 1 = j by omega, HG2.out]; simp [Nm.cont]; omega
                have e2 : v * 64 + y - 128 = Nm.val (x - 192) (bs s) (j + 1 - 1) := by
                  rw [show j + 1 - 1 = (j - 1) + 1 by omega, Nm.val_succ, ← H3.out, show j - 1 + 1 = j by omega, HG2.out]
                have e3 := val_lt (x - 192) (bs s) (j + 1 - 1) (by omega) e1
                rw [← e2, show j + 1 - 1 + 1 = j + 1 by omega] at e3
                have e4 := Nat.pow_le_pow_right (n := 64) (by omega) (show j + 1 ≤ 4 by omega)
                exact ⟨j + 1, v * 64 + y - 128, by congr 1; omega, rfl, by omega, by omega, by omega, e2, e1⟩
              case measure => simp [intOf]; omega
        · obtain rfl : j = 2 := by omega
          have H5 := Lib.hid (Nm.gen_end (n := 2) (least := 128) (c0 := x - 192) (l := bs s) (by rw [HL.out]; omega) H4.out)
          rw [← H3.out] at H5
          clear hj1 hj2 hlt
          go_wp2_with fail
          all_goals
            go_ret
            refine ⟨ret_int ?_, (Below.refl _ _).alloc (Nat.le_refl _) _⟩
            rw [H1.out, H5.out]
            first
              | (rw [if_neg (by simp only [Nm.okc, Bool.and_eq_true, Bool.not_eq_true', Bool.and_eq_false_iff, decide_eq_true_eq, decide_eq_false_iff_not]; omega)]; rfl)
              | (rw [if_pos (by simp only [Nm.okc, Bool.and_eq_true, Bool.not_eq_true', Bool.and_eq_false_iff, decide_eq_true_eq, decide_eq_false_iff_not]; omega)]; rfl)
  have t4 : 224 ≤ (x : Int) := by omega
  by_cases h3 : x < 240
  · have t6 : (x : Int) < 240 := by omega
    have H1 := Lib.hid (Nm.one_3 HN.out (by rw [HG.out]; omega) (by rw [HG.out]; omega))
    rw [HG.out] at H1
    clear h1 h2
    by_cases h4 : s.size < 3
    · have H2 := Lib.hid (Nm.gen_short (least := 2048) (c0 := x - 224) (l := bs s) (n := 3) (by rw [HL.out]; exact h4))
      have t5 : (s.size : Int) < 3 := by omega
      clear h4
      go_enter Tryd.func148, Tryd.ntmps148
      go_wp2_with fail
      go_ret
      exact ⟨ret_int (by rw [H1.out, H2.out]; rfl), Below.refl _ _⟩
    · have t5 : (3 : Int) ≤ (s.size : Int) := by omega
      go_enter Tryd.func148, Tryd.ntmps148
      go_wp2_with fail
      go_loop [4, 5] (fun c i => ∃ j v : Nat, c = .int .i64 v ∧ i = .int .i64 j ∧ 1 ≤ j ∧ j ≤ 3 ∧ v < 16777216 ∧ Hid (v = Nm.val (x - 224) (bs s) (j - 1)) ∧ Hid (Nm.conts (bs s) (j - 1) = true)) (fun _ i => 4 - (intOf i).toNat)
      case atStart => exact ⟨1, x - 224, by congr 1; omega, rfl, by omega, by omega, by omega, rfl, rfl⟩
      case round =>
        obtain ⟨j, v, rfl, rfl, hj1, hj2, hv, H3, H4⟩ := hrel
        by_cases hlt : j < 3
        · have hjs : j < s.size := by omega
          have hg := bs_get s j hjs
          obtain ⟨y, hy, hy2⟩ : ∃ y : Nat, (s[j]'hjs).toNat = y ∧ y < 256 := ⟨_, rfl, (s[j]'hjs).toNat_lt⟩
          rw [hy] at hg
          have HG2 := Lib.hid hg
          have hy3 : (y : Int) < 256 := by omega
          have HY2 := Lib.hid hy2
          clear hg hy2
          by_cases hy4 : y < 128
          · have hy5 : (y : Int) < 128 := by omega
            have H5 := Lib.hid (Nm.gen_cut (n := 3) (least := 2048) (c0 := x - 224) (l := bs s) (j - 1) (by omega) (by rw [show j - 1 + 1 = j by omega, HG2.out]; simp [Nm.cont]; omega))
            clear hy4
            go_wp2_with fail
            go_ret
            exact ⟨ret_int (by rw [H1.out, H5.out]; rfl), Below.refl _ _⟩
          · have hy5 : (128 : Int) ≤ (y : Int) := by omega
            clear hy4
            by_cases hy4 : 191 < y
            · have hy6 : (191 : Int) < (y : Int) := by omega
              have H5 := Lib.hid (Nm.gen_cut (n := 3) (least := 2048) (c0 := x - 224) (l := bs s) (j - 1) (by omega) (by rw [show j - 1 + 1 = j by omega, HG2.out]; simp [Nm.cont]; omega))
              clear hy4
              go_wp2_with fail
              go_ret
              exact ⟨ret_int (by rw [H1.out, H5.out]; rfl), Below.refl _ _⟩
            · have hy6 : (y : Int) ≤ 191 := by omega
              clear hy4
              go_wp2_with fail
              go_round
              case rel =>
                have e1 : Nm.conts (bs s) (j + 1 - 1) = true := by
                  rw [show j + 1 - 1 = (j - 1) + 1 by omega, Nm.conts, H4.out, show j - 1 + 1 = j by omega, HG2.out]; simp [Nm.cont]; omega
                have e2 : v * 64 + y - 128 = Nm.val (x - 224) (bs s) (j + 1 - 1) := by
                  rw [show j + 1 - 1 = (j - 1) + 1 by omega, Nm.val_succ, ← H3.out, show j - 1 + 1 = j by omega, HG2.out]
                have e3 := val_lt (x - 224) (bs s) (j + 1 - 1) (by omega) e1
                rw [← e2, show j + 1 - 1 + 1 = j + 1 by omega] at e3
                have e4 := Nat.pow_le_pow_right (n := 64) (by omega) (show j + 1 ≤ 4 by omega)
                exact ⟨j + 1, v * 64 + y - 128, by congr 1; omega, rfl, by omega, by omega, by omega, e2, e1⟩
              case measure => simp [intOf]; omega
        · obtain rfl : j = 3 := by omega
          have H5 := Lib.hid (Nm.gen_end (n := 3) (least := 2048) (c0 := x - 224) (l := bs s) (by rw [HL.out]; omega) H4.out)
          rw [← H3.out] at H5
          clear hj1 hj2 hlt
          go_wp2_with fail
          all_goals
            go_ret
            refine ⟨ret_int ?_, (Below.refl _ _).alloc (Nat.le_refl _) _⟩
            rw [H1.out, H5.out]
            first
              | (rw [if_neg (by simp only [Nm.okc, Bool.and_eq_true, Bool.not_eq_true', Bool.and_eq_false_iff, decide_eq_true_eq, decide_eq_false_iff_not]; omega)]; rfl)
              | (rw [if_pos (by simp only [Nm.okc, Bool.and_eq_true, Bool.not_eq_true', Bool.and_eq_false_iff, decide_eq_true_eq, decide_eq_false_iff_not]; omega)]; rfl)
  have t6 : 240 ≤ (x : Int) := by omega
  have t7 : (x : Int) < 248 := by omega
  have H1 := Lib.hid (Nm.one_4 HN.out (by rw [HG.out]; omega) (by rw [HG.out]; omega))
  rw [HG.out] at H1
  clear h1 h2
  by_cases h4 : s.size < 4
  · have H2 := Lib.hid (Nm.gen_short (least := 65536) (c0 := x - 240) (l := bs s) (n := 4) (by rw [HL.out]; exact h4))
    have t5 : (s.size : Int) < 4 := by omega
    clear h4
    go_enter Tryd.func148, Tryd.ntmps148
    go_wp2_with fail
    go_ret
    exact ⟨ret_int (by rw [H1.out, H2.out]; rfl), Below.refl _ _⟩
  · have t5 : (4 : Int) ≤ (s.size : Int) := by omega
    go_enter Tryd.func148, Tryd.ntmps148
    go_wp2_with fail
    go_loop [4, 5] (fun c i => ∃ j v : Nat, c = .int .i64 v ∧ i = .int .i64 j ∧ 1 ≤ j ∧ j ≤ 4 ∧ v < 16777216 ∧ Hid (v = Nm.val (x - 240) (bs s) (j - 1)) ∧ Hid (Nm.conts (bs s) (j - 1) = true)) (fun _ i => 4 - (intOf i).toNat)
    case atStart => exact ⟨1, x - 240, by congr 1; omega, rfl, by omega, by omega, by omega, rfl, rfl⟩
    case round =>
      obtain ⟨j, v, rfl, rfl, hj1, hj2, hv, H3, H4⟩ := hrel
      by_cases hlt : j < 4
      · have hjs : j < s.size := by omega
        have hg := bs_get s j hjs
        obtain ⟨y, hy, hy2⟩ : ∃ y : Nat, (s[j]'hjs).toNat = y ∧ y < 256 := ⟨_, rfl, (s[j]'hjs).toNat_lt⟩
        rw [hy] at hg
        have HG2 := Lib.hid hg
        have hy3 : (y : Int) < 256 := by omega
        have HY2 := Lib.hid hy2
        clear hg hy2
        by_cases hy4 : y < 128
        · have hy5 : (y : Int) < 128 := by omega
          have H5 := Lib.hid (Nm.gen_cut (n := 4) (least := 65536) (c0 := x - 240) (l := bs s) (j - 1) (by omega) (by rw [show j - 1 + 1 = j by omega, HG2.out]; simp [Nm.cont]; omega))
          clear hy4
          go_wp2_with fail
          go_ret
          exact ⟨ret_int (by rw [H1.out, H5.out]; rfl), Below.refl _ _⟩
        · have hy5 : (128 : Int) ≤ (y : Int) := by omega
          clear hy4
          by_cases hy4 : 191 < y
          · have hy6 : (191 : Int) < (y : Int) := by omega
            have H5 := Lib.hid (Nm.gen_cut (n := 4) (least := 65536) (c0 := x - 240) (l := bs s) (j - 1) (by omega) (by rw [show j - 1 + 1 = j by omega, HG2.out]; simp [Nm.cont]; omega))
            clear hy4
            go_wp2_with fail
            go_ret
            exact ⟨ret_int (by rw [H1.out, H5.out]; rfl), Below.refl _ _⟩
          · have hy6 : (y : Int) ≤ 191 := by omega
            clear hy4
            go_wp2_with fail
            go_round
            case rel =>
              have e1 : Nm.conts (bs s) (j + 1 - 1) = true := by
                rw [show j + 1 - 1 = (j - 1) + 1 by omega, Nm.conts, H4.out, show j - 1 + 1 = j by omega, HG2.out]; simp [Nm.cont]; omega
              have e2 : v * 64 + y - 128 = Nm.val (x - 240) (bs s) (j + 1 - 1) := by
                rw [show j + 1 - 1 = (j - 1) + 1 by omega, Nm.val_succ, ← H3.out, show j - 1 + 1 = j by omega, HG2.out]
              have e3 := val_lt (x - 240) (bs s) (j + 1 - 1) (by omega) e1
              rw [← e2, show j + 1 - 1 + 1 = j + 1 by omega] at e3
              have e4 := Nat.pow_le_pow_right (n := 64) (by omega) (show j + 1 ≤ 4 by omega)
              exact ⟨j + 1, v * 64 + y - 128, by congr 1; omega, rfl, by omega, by omega, by omega, e2, e1⟩
            case measure => simp [intOf]; omega
      · obtain rfl : j = 4 := by omega
        have H5 := Lib.hid (Nm.gen_end (n := 4) (least := 65536) (c0 := x - 240) (l := bs s) (by rw [HL.out]; omega) H4.out)
        rw [← H3.out] at H5
        clear hj1 hj2 hlt
        go_wp2_with fail
        all_goals
          go_ret
          refine ⟨ret_int ?_, (Below.refl _ _).alloc (Nat.le_refl _) _⟩
          rw [H1.out, H5.out]
          first
            | (rw [if_neg (by simp only [Nm.okc, Bool.and_eq_true, Bool.not_eq_true', Bool.and_eq_false_iff, decide_eq_true_eq, decide_eq_false_iff_not]; omega)]; rfl)
            | (rw [if_pos (by simp only [Nm.okc, Bool.and_eq_true, Bool.not_eq_true', Bool.and_eq_false_iff, decide_eq_true_eq, decide_eq_false_iff_not]; omega)]; rfl)
end Go.Proofs.YtkdhjejchdcipaaDoor
/-
  The document's own Count, and Read and Put, walked.
-/
namespace Go.Proofs.YtkdhjejchdcipaaDoor
open Go.RowKit
set_option linter.unusedVariables false
set_option maxRecDepth 100000

theorem below_trans {w b c : World} (h : Below w.heap.size w b) (k : Below b.heap.size b c) : Below w.heap.size w c := h.trans (k.mono h.size)
set_option maxHeartbeats 1000000 in
theorem refCount_any (s : ByteArray) (w : World) (hs : s.size ≤ maxLen) :
    Calls Tryd.prog 114 #[.string s] w fun e w' => e = .returned (.int .i64 (Nm.cnt (bs s))) ∧ Below w.heap.size w w' := by
  have hs2 := hs
  unfold maxLen at hs2
  have HL := Lib.hid (bs_len s)
  have HS := Lib.hid hs
  clear hs
  go_enter Tryd.func114, Tryd.ntmps114
  go_wp2_with fail
  go_loopw [3, 4] (fun n at_ wr => ∃ (pos acc : Nat), Below w.heap.size w wr ∧ n = .int .i64 acc ∧ at_ = .int .i64 pos ∧ acc ≤ pos ∧ pos ≤ s.size ∧ Hid (Nm.cnt (bs s) = if Nm.cnt ((bs s).drop pos) < 0 then -1 else acc + Nm.cnt ((bs s).drop pos))) (fun _ at_ _ => s.size - (intOf at_).toNat)
  case atStart => exact ⟨0, 0, Below.refl _ _, rfl, rfl, by omega, by omega, by have := Nm.cnt_ge (bs s); rw [Hid, List.drop_zero]; split <;> omega⟩
  case round =>
    obtain ⟨pos, acc, hb, rfl, rfl, ha, hle, H⟩ := hrel
    by_cases hp : pos < s.size
    · have hone := Nm.one_le ((bs s).drop pos)
      rw [List.length_drop, HL.out] at hone
      have e := H.out
      have hsz : (s.extract pos s.size).size ≤ maxLen := by have := HS.out; simp; omega
      have HO := Lib.hid (bs_drop s pos)
      have HSZ := Lib.hid hsz
      by_cases d1 : Nm.one ((bs s).drop pos) = 0
      · rw [Nm.cnt_bad (by rw [List.length_drop, HL.out]; omega) d1] at e
        have E := Lib.hid e
        have D1 := Lib.hid d1
        clear e H d1 hsz
        go_wp2_with (go_at_call 148; refine (One_any _ _ HSZ.out).mono ?_; rw [HO.out, D1.out]; rintro e w' ⟨rfl, hb1⟩)
        go_ret
        exact ⟨ret_int (by rw [E.out]; rfl), below_trans hb hb1⟩
      · rw [Nm.cnt_step d1, List.drop_drop] at e
        have hd : ∃ d, Nm.one ((bs s).drop pos) = d := ⟨_, rfl⟩
        obtain ⟨d, hd⟩ := hd
        rw [hd] at e d1 hone
        have hd0 : ((d : Int) == 0) = false := beq_eq_false_iff_ne.2 (by omega)
        have E := Lib.hid e
        have HD := Lib.hid hd
        have HD1 : Hid (1 ≤ d) := by rw [Hid]; omega
        clear e H hsz hd d1
        go_wp2_with (go_at_call 148; refine (One_any _ _ HSZ.out).mono ?_; rw [HO.out, HD.out]; rintro e w' ⟨rfl, hb1⟩)
        have := HD1.out
        go_roundw
        case rel =>
          refine ⟨pos + d, acc + 1, below_trans hb hb1, rfl, rfl, by omega, by omega, ?_⟩
          have := E.out
          rw [Hid, this]
          split <;> split <;> omega
        case measure => simp [intOf]; omega
    · have e := H.out
      rw [cnt_end (by rw [HL.out]; omega)] at e
      have E := Lib.hid e
      clear e H
      go_wp2_with fail
      go_ret
      exact ⟨ret_int (by rw [E.out]; simp), hb⟩

theorem told_next (l : List Nat) (at0 : Int) (h : (told false l at0 32).2.2 = 0) : (told false l at0 32).2.1 ≤ l.length := by
  unfold told at h ⊢
  split
  · exact Nat.zero_le _
  · next h1 =>
    rw [if_neg h1] at h
    obtain ⟨⟨v, nx, er⟩, hq⟩ : ∃ q, Leb.rd (32 : Int).toNat false (l.drop at0.toNat) at0.toNat 0 0 = q := ⟨_, rfl⟩
    rw [hq] at h ⊢
    simp only at h ⊢
    subst h
    have := Leb.rd_next _ _ _ _ _ _ _ _ hq
    rw [List.length_drop] at this
    omega

/-- What Read tells: the name's bytes, the place behind it, the error. -/
def readName (l : List Nat) (at0 : Int) : List Nat × Nat × Nat :=
  if (told false l at0 32).2.2 ≠ 0 then ([], 0, (told false l at0 32).2.2)
  else if l.length - (told false l at0 32).2.1 < (told false l at0 32).1 then ([], 0, 10)
  else if Nm.well ((l.drop (told false l at0 32).2.1).take (told false l at0 32).1) then ((l.drop (told false l at0 32).2.1).take (told false l at0 32).1, (told false l at0 32).2.1 + (told false l at0 32).1, 0)
  else ([], 0, 20)
def NameTold (r : List Nat × Nat × Nat) (w : World) (e : Ending) (w' : World) : Prop := e = .returned (.tuple #[.string (str r.1), .int .i64 r.2.1, .int .i64 r.2.2]) ∧ Below w.heap.size w w'

set_option maxHeartbeats 1000000 in
theorem Read_any (A : Option Addr) (n c : Nat) (l : List Nat) (C : Nat) (at0 : Int) (w : World) (hy : Bytes w C A n c l) :
    Calls Tryd.prog 76 #[.slice A n c, .int .i64 at0] w (NameTold (readName l at0) w) := by
  have hm := hy.2.2.1
  have hnc := hy.2.1
  unfold maxLen at hm
  have HU := Lib.hid (U_any A n c l C at0 32 w hy)
  obtain ⟨r, hr⟩ : ∃ r, readName l at0 = r := ⟨_, rfl⟩
  rw [hr]
  unfold readName at hr
  have hnx := told_next l at0
  have hlt := told_lt false l at0 32
  obtain ⟨⟨v, nx, er⟩, hT⟩ : ∃ q, told false l at0 32 = q := ⟨_, rfl⟩
  rw [hT] at HU hr hnx hlt
  simp only at hr hnx hlt
  clear hT
  rw [hy.1] at hr hnx
  by_cases he : er = 0
  · subst he
    rw [if_neg (by omega)] at hr
    have hnx := hnx rfl
    by_cases hv : n - nx < v
    · rw [if_pos hv] at hr
      have HR := Lib.hid hr
      have hv2 : (n : Int) - (nx : Int) < (v : Int) := by omega
      clear hr hv hy
      go_enter Tryd.func76, Tryd.ntmps76
      go_wp2_with fail
      refine HU.out.mono ?_
      rintro e w1 ⟨rfl, k1, rfl⟩
      go_wp2_with fail
      go_ret3
      exact ⟨by rw [← HR.out]; rfl, below_drewN (Below.refl _ _) _⟩
    · rw [if_neg hv] at hr
      have hv2 : (v : Int) ≤ (n : Int) - (nx : Int) := by omega
      have hyt := (hy.from_ hnx).take (show v ≤ n - nx by omega)
      have hmax : ((l.drop nx).take v).length ≤ maxLen := by rw [List.length_take, List.length_drop]; unfold maxLen; omega
      have hwl := bs_str ((l.drop nx).take v) hyt.2.2.2.1
      have hcap2 : nx ≤ c := by omega
      have hto : nx + v ≤ c := by omega
      have HV := Lib.hid hv
      clear hv
      generalize (l.drop nx).take v = t at hr hyt hmax hwl
      have HY := Lib.hid hyt
      have HM := Lib.hid hmax
      have HW := Lib.hid hwl
      clear hyt hmax hwl hy
      by_cases hcap : c = nx
      · rw [if_pos hcap] at HY
        obtain rfl : n = c := by omega
        obtain rfl : v = 0 := by omega
        subst hcap
        rw [Nat.sub_self] at HY
        by_cases hw : Nm.well t = true
        · rw [if_pos hw] at hr
          have HR := Lib.hid hr
          have HWW := Lib.hid hw
          clear hr hw
          go_enter Tryd.func76, Tryd.ntmps76
          go_wp2_with fail
          refine HU.out.mono ?_
          rintro e w1 ⟨rfl, k1, rfl⟩
          have c1 := run_str (w.drewN k1) (HY.out.drewN k1)
          go_wp2_with fail
          refine (Well_any _ _ (by rw [str_size]; exact HM.out)).mono ?_
          rw [HW.out, HWW.out]
          rintro e w2 ⟨rfl, hb2⟩
          go_wp2_with fail
          go_ret3
          exact ⟨by rw [← HR.out]; rfl, below_trans (below_drewN (Below.refl _ _) k1) hb2⟩
        · rw [if_neg hw] at hr
          have HR := Lib.hid hr
          have HWW : Hid (Nm.well t = false) := by rw [Hid]; simpa using hw
          clear hr hw
          go_enter Tryd.func76, Tryd.ntmps76
          go_wp2_with fail
          refine HU.out.mono ?_
          rintro e w1 ⟨rfl, k1, rfl⟩
          have c1 := run_str (w.drewN k1) (HY.out.drewN k1)
          go_wp2_with fail
          refine (Well_any _ _ (by rw [str_size]; exact HM.out)).mono ?_
          rw [HW.out, HWW.out]
          rintro e w2 ⟨rfl, hb2⟩
          go_wp2_with fail
          go_ret3
          exact ⟨by rw [← HR.out]; rfl, below_trans (below_drewN (Below.refl _ _) k1) hb2⟩
      · rw [if_neg hcap] at HY
        by_cases hw : Nm.well t = true
        · rw [if_pos hw] at hr
          have HR := Lib.hid hr
          have HWW := Lib.hid hw
          clear hr hw
          go_enter Tryd.func76, Tryd.ntmps76
          go_wp2_with fail
          refine HU.out.mono ?_
          rintro e w1 ⟨rfl, k1, rfl⟩
          have c1 := run_str (w.drewN k1) (HY.out.drewN k1)
          go_wp2_with fail
          refine (Well_any _ _ (by rw [str_size]; exact HM.out)).mono ?_
          rw [HW.out, HWW.out]
          rintro e w2 ⟨rfl, hb2⟩
          go_wp2_with fail
          go_ret3
          exact ⟨by rw [← HR.out]; rfl, below_trans (below_drewN (Below.refl _ _) k1) hb2⟩
        · rw [if_neg hw] at hr
          have HR := Lib.hid hr
          have HWW : Hid (Nm.well t = false) := by rw [Hid]; simpa using hw
          clear hr hw
          go_enter Tryd.func76, Tryd.ntmps76
          go_wp2_with fail
          refine HU.out.mono ?_
          rintro e w1 ⟨rfl, k1, rfl⟩
          have c1 := run_str (w.drewN k1) (HY.out.drewN k1)
          go_wp2_with fail
          refine (Well_any _ _ (by rw [str_size]; exact HM.out)).mono ?_
          rw [HW.out, HWW.out]
          rintro e w2 ⟨rfl, hb2⟩
          go_wp2_with fail
          go_ret3
          exact ⟨by rw [← HR.out]; rfl, below_trans (below_drewN (Below.refl _ _) k1) hb2⟩
  · rw [if_pos he] at hr
    have HR := Lib.hid hr
    have he2 : ((er : Int) != 0) = true := by simp; exact he
    clear hr he hy
    go_enter Tryd.func76, Tryd.ntmps76
    go_wp2_with fail
    refine HU.out.mono ?_
    rintro e w1 ⟨rfl, k1, rfl⟩
    go_wp2_with fail
    go_ret3
    exact ⟨by rw [← HR.out]; rfl, below_drewN (Below.refl _ _) _⟩
end Go.Proofs.YtkdhjejchdcipaaDoor
/-
  PLAIN: layer 6: a reader of bytes, as a function of what stands in it. No Go in sight.
-/
namespace Go.Proofs.YtkdhjejchdcipaaDoor
open Go.RowKit
set_option linter.unusedVariables false

/-- A reader: bytes, a place, the first error and its place. -/
structure Rd where
  bs : List Nat
  p : Nat
  e : Int
  bad : Int
deriving DecidableEq

namespace Tb
/-- An item that a function of bytes reads. -/
def item {α : Type} (d : α) (f : List Nat → Nat → α × Nat × Nat) (r : Rd) : α × Rd :=
  if r.e = 0 then
    (if (f r.bs r.p).2.2 = 0 then ((f r.bs r.p).1, { r with p := (f r.bs r.p).2.1 }) else (d, { r with e := (f r.bs r.p).2.2, bad := r.p }))
  else (d, r)
def byteAt (l : List Nat) (p : Nat) : Nat × Nat × Nat := if p < l.length then (l.getD p 0, p + 1, 0) else (0, 0, 10)
def uAt (bits : Int) (l : List Nat) (p : Nat) : Nat × Nat × Nat := told false l p bits
def sAt (bits : Int) (l : List Nat) (p : Nat) : Int × Nat × Nat := (Leb.sOf (told true l p bits).1, (told true l p bits).2.1, (told true l p bits).2.2)
def nameAt (l : List Nat) (p : Nat) : List Nat × Nat × Nat := readName l p
def countAt (l : List Nat) (p : Nat) : Nat × Nat × Nat :=
  if (told false l p 32).2.2 = 0 then (if l.length - (told false l p 32).2.1 < (told false l p 32).1 then (0, 0, 10) else told false l p 32) else (0, 0, (told false l p 32).2.2)
def takeAt (n : Int) (l : List Nat) (p : Nat) : List Nat × Nat × Nat := if n < 0 ∨ ((l.length - p : Nat) : Int) < n then ([], 0, 10) else ((l.drop p).take n.toNat, p + n.toNat, 0)
def kinds : List Int := [11, 5, 4, 3, 2, 1, 9, 7, 6, 10, 8, 12]
def isGiven (l : List Nat) (p : Nat) : Bool := decide (p < l.length) && (decide (105 ≤ l.getD p 0) && decide (l.getD p 0 < 117))
def given (l : List Nat) (p : Nat) : Hp := if isGiven l p then ⟨kinds.getD (l.getD p 0 - 105) 0, 0⟩ else ⟨0, 0⟩
def heapAt (l : List Nat) (p : Nat) : Hp × Nat × Nat :=
  if isGiven l p then (given l p, p + 1, 0)
  else if (told true l p 33).2.2 = 0 then (if Leb.sOf (told true l p 33).1 < 0 then (⟨0, 0⟩, 0, 60) else (⟨13, Leb.sOf (told true l p 33).1⟩, (told true l p 33).2.1, 0))
  else (⟨0, 0⟩, 0, (told true l p 33).2.2)
def noneAt {α : Type} (d : α) (l : List Nat) (p : Nat) : α × Nat × Nat := if p = l.length then (d, 0, 10) else (d, 0, 60)
def noVal : Vl := ⟨0, false, ⟨0, 0⟩⟩
def shortAt (l : List Nat) (p : Nat) : Vl × Nat × Nat :=
  if isGiven l p then (⟨3, true, given l p⟩, p + 1, 0)
  else if p < l.length ∧ 123 ≤ l.getD p 0 ∧ l.getD p 0 ≤ 125 then (noVal, 0, 61) else noneAt noVal l p
def mutAt (l : List Nat) (p : Nat) : Bool × Nat × Nat := if p < l.length ∧ l.getD p 0 ≤ 1 then (decide (l.getD p 0 = 1), p + 1, 0) else noneAt false l p
/-- Takes the byte b, if it is the next one. -/
def may (b : Nat) (r : Rd) : Bool := decide (r.e = 0) && (decide (r.p < r.bs.length) && decide (r.bs.getD r.p 0 = b))
def on (r : Rd) : Rd := { r with p := r.p + 1 }
def byte : Rd → Nat × Rd := item 0 byteAt
def u (bits : Int) : Rd → Nat × Rd := item 0 (uAt bits)
def s (bits : Int) : Rd → Int × Rd := item 0 (sAt bits)
def name : Rd → List Nat × Rd := item [] nameAt
def count : Rd → Nat × Rd := item 0 countAt
def take (n : Int) : Rd → List Nat × Rd := item [] (takeAt n)
def heap : Rd → Hp × Rd := item ⟨0, 0⟩ heapAt
def ref (nu : Bool) (r : Rd) : Vl × Rd := if (heap r).2.e = 0 then (⟨3, nu, (heap r).1⟩, (heap r).2) else (noVal, (heap r).2)
def val (r : Rd) : Vl × Rd :=
  if may 127 r then (⟨1, false, ⟨0, 0⟩⟩, on r) else if may 126 r then (⟨2, false, ⟨0, 0⟩⟩, on r)
  else if may 99 r then ref true (on r) else if may 100 r then ref false (on r) else item noVal shortAt r
/-- So many things, or none behind an error. -/
def many {α : Type} (one : Rd → α × Rd) : Nat → List α → Rd → List α × Rd
  | 0, out, r => (out, r)
  | n + 1, out, r => if (one r).2.e = 0 then many one n (out ++ [(one r).1]) (one r).2 else ([], (one r).2)
def list {α : Type} (one : Rd → α × Rd) (r : Rd) : List α × Rd := many one (count r).1 [] (count r).2
def vals : Rd → List Vl × Rd := list val
def index (r : Rd) : Hp × Rd := (⟨13, (u 32 r).1⟩, (u 32 r).2)
def store (r : Rd) : (Int × Vl) × Rd := if may 120 r then ((8, ⟨1, false, ⟨0, 0⟩⟩), on r) else if may 119 r then ((16, ⟨1, false, ⟨0, 0⟩⟩), on r) else ((0, (val r).1), (val r).2)
def field (r : Rd) : Fd × Rd := (⟨(store r).1.1, (store r).1.2, (item false mutAt (store r).2).1⟩, (item false mutAt (store r).2).2)
def noComp : Cp := ⟨0, [], [], []⟩
def comp (r : Rd) : Cp × Rd :=
  if may 96 r then (⟨1, (vals (on r)).1, (vals (vals (on r)).2).1, []⟩, (vals (vals (on r)).2).2)
  else if may 95 r then (⟨2, [], [], (list field (on r)).1⟩, (list field (on r)).2)
  else if may 94 r then (⟨3, [], [], [(field (on r)).1]⟩, (field (on r)).2)
  else item noComp (noneAt noComp) r
def sub (r : Rd) : Sb × Rd :=
  if may 80 r then (⟨false, (list index (on r)).1, (comp (list index (on r)).2).1⟩, (comp (list index (on r)).2).2)
  else if may 79 r then (⟨true, (list index (on r)).1, (comp (list index (on r)).2).1⟩, (comp (list index (on r)).2).2)
  else (⟨true, [], (comp r).1⟩, (comp r).2)
def rec_ (r : Rd) : List Sb × Rd := if may 78 r then list sub (on r) else if (sub r).2.e = 0 then ([(sub r).1], (sub r).2) else ([], (sub r).2)
def fail (e bad : Int) (r : Rd) : Rd := if r.e = 0 ∧ e ≠ 0 then { r with e := e, bad := bad } else r
def opened (l : List Nat) : Rd := ⟨l, 0, 0, 0⟩
end Tb
end Go.Proofs.YtkdhjejchdcipaaDoor
/-
  PLAIN: layer 6: a type's bytes. No Go in sight.
-/
namespace Go.Proofs.YtkdhjejchdcipaaDoor
open Go.RowKit
set_option linter.unusedVariables false

namespace Tb
/-- Where a kind stands among the short ones: 12 if nowhere. -/
def kindIx (k : Int) : Nat := kinds.findIdx (· == k)
def putHeap (h : Hp) : List Nat := if kindIx h.k < 12 then [105 + kindIx h.k] else Leb.putS h.n
def putVal (v : Vl) : List Nat := if v.k = 1 then [127] else if v.k = 2 then [126] else if v.nu = false then 100 :: putHeap v.h else if v.h.k = 13 then 99 :: putHeap v.h else putHeap v.h
def putIdx (h : Hp) : List Nat := Leb.putU h.n.toNat
def putStore (pk : Int) (v : Vl) : List Nat := if pk = 8 then [120] else if pk = 16 then [119] else putVal v
def putField (f : Fd) : List Nat := putStore f.pk f.v ++ [if f.mu then 1 else 0]
def putList {α : Type} (one : α → List Nat) (l : List α) : List Nat := Leb.putU l.length ++ l.flatMap one
def putComp (c : Cp) : List Nat :=
  if c.k = 1 then 96 :: (putList putVal c.ps ++ putList putVal c.rs) else if c.k = 2 then 95 :: putList putField c.fs else 94 :: putField (c.fs.headD ⟨0, ⟨0, false, ⟨0, 0⟩⟩, false⟩)
def putSub (s : Sb) : List Nat := (if s.fin = false then 80 :: putList putIdx s.sups else if s.sups = [] then [] else 79 :: putList putIdx s.sups) ++ putComp s.c
def putRec (l : List Sb) : List Nat := if l = [] ∨ l.all Kd.pSub = false then [] else match l with
  | [s] => putSub s
  | l => 78 :: putList putSub l

theorem kindIx_le (k : Int) : kindIx k ≤ 12 := List.findIdx_le_length
theorem kindIx_at {k : Int} {j : Nat} (hj : j < 12) (h : kinds.getD j 0 = k) (hn : ∀ i < j, kinds.getD i 0 ≠ k) : kindIx k = j := by
  unfold kindIx
  have hl : kinds.length = 12 := rfl
  rw [List.findIdx_eq (by omega)]
  refine ⟨?_, fun i hi => ?_⟩
  · have e : kinds.getD j 0 = kinds[j]'(by omega) := by simp [List.getD_eq_getElem?_getD, List.getElem?_eq_getElem (show j < kinds.length by omega)]
    rw [← e, h]; simp
  · have hi2 : i < kinds.length := by omega
    have e : kinds.getD i 0 = kinds[i] := by simp [List.getD_eq_getElem?_getD, List.getElem?_eq_getElem hi2]
    have := hn i hi
    rw [e] at this
    simpa using this
theorem kindIx_no {k : Int} (hn : ∀ i < 12, kinds.getD i 0 ≠ k) : kindIx k = 12 := by
  unfold kindIx
  have hl : kinds.length = 12 := rfl
  rw [← hl]
  apply List.findIdx_eq_length.2
  intro x hx
  obtain ⟨i, hi, e⟩ := List.getElem_of_mem hx
  have := hn i (by omega)
  have e2 : kinds.getD i 0 = kinds[i] := by simp [List.getD_eq_getElem?_getD, List.getElem?_eq_getElem hi]
  rw [e2, e] at this
  simpa using this
theorem putHeap_lt (h : Hp) : ∀ x ∈ putHeap h, x < 256 := by
  unfold putHeap
  split
  · intro x hx; simp at hx; omega
  · exact Leb.putS_lt _
theorem putHeap_len (h : Hp) (h1 : -9223372036854775808 ≤ h.n) (h2 : h.n < 9223372036854775808) : (putHeap h).length ≤ 10 := by
  unfold putHeap
  split
  · simp
  · exact Leb.putS_len10 _ ⟨h1, h2⟩
theorem putVal_lt (v : Vl) : ∀ x ∈ putVal v, x < 256 := by
  unfold putVal
  have := putHeap_lt v.h
  repeat' split
  all_goals intro x hx; try simp only [List.mem_cons, List.not_mem_nil, or_false] at hx
  all_goals first | omega | (rcases hx with rfl | hx; omega; exact this x hx) | exact this x hx
theorem putVal_len (v : Vl) (h1 : -9223372036854775808 ≤ v.h.n) (h2 : v.h.n < 9223372036854775808) : (putVal v).length ≤ 11 := by
  have := putHeap_len v.h h1 h2
  unfold putVal
  repeat' split
  all_goals simp
  all_goals omega
end Tb
end Go.Proofs.YtkdhjejchdcipaaDoor
/-
  PLAIN: layer 6: what was put is read back. No Go in sight.
-/
namespace Go.Proofs.YtkdhjejchdcipaaDoor
open Go.RowKit
set_option linter.unusedVariables false

/-- A reader that has not failed, before it these bytes. -/
structure Sees (r : Rd) (s : List Nat) : Prop where
  e : r.e = 0
  d : r.bs.drop r.p = s
  p : r.p ≤ r.bs.length
/-- So much further. -/
def Rd.go (r : Rd) (k : Nat) : Rd := { r with p := r.p + k }
section
variable {r : Rd} {s t : List Nat} {x : Nat}
theorem Sees.len (h : Sees r s) : r.bs.length = r.p + s.length := by
  have := congrArg List.length h.d
  rw [List.length_drop] at this
  have := h.p
  omega
theorem Sees.go (h : Sees r (s ++ t)) : Sees (r.go s.length) t := by
  refine ⟨h.e, ?_, ?_⟩
  · show r.bs.drop (r.p + s.length) = t
    rw [← List.drop_drop, h.d, List.drop_left]
  · have := h.len
    rw [List.length_append] at this
    show r.p + s.length ≤ r.bs.length
    omega
theorem Sees.next (h : Sees r (x :: s)) : Sees (Tb.on r) s := Sees.go (s := [x]) h
theorem Sees.get (h : Sees r (x :: s)) : r.p < r.bs.length ∧ r.bs.getD r.p 0 = x := by
  have h1 := h.len
  rw [List.length_cons] at h1
  refine ⟨by omega, ?_⟩
  have h2 : (r.bs.drop r.p)[0]? = some x := by rw [h.d]; rfl
  rw [List.getElem?_drop, Nat.add_zero] at h2
  rw [List.getD_eq_getElem?_getD, h2]; rfl
theorem Sees.may (h : Sees r (x :: s)) (b : Nat) : Tb.may b r = decide (x = b) := by
  have h1 := h.get
  unfold Tb.may
  rw [decide_eq_true h.e, decide_eq_true h1.1, h1.2, Bool.true_and, Bool.true_and]
theorem Sees.may_nil (h : Sees r []) (b : Nat) : Tb.may b r = false := by
  have h1 := h.len
  unfold Tb.may
  rw [decide_eq_false (p := r.p < r.bs.length) (by simp at h1; omega)]
  simp
theorem Tb.on_go (r : Rd) (k : Nat) : (Tb.on r).go k = r.go (k + 1) := by unfold Tb.on Rd.go; dsimp only; rw [Nat.add_assoc, Nat.add_comm 1 k]
theorem Rd.go_go (r : Rd) (k m : Nat) : (r.go k).go m = r.go (k + m) := by unfold Rd.go; dsimp only; rw [Nat.add_assoc]
/-- An item that is read. -/
theorem Sees.item {α : Type} (h : Sees r s) (d : α) (f : List Nat → Nat → α × Nat × Nat) (v : α) (k : Nat) (hf : f r.bs r.p = (v, r.p + k, 0)) : Tb.item d f r = (v, r.go k) := by
  unfold Tb.item Rd.go
  rw [if_pos h.e, hf]
  rfl
end
namespace Tb
theorem told_U {r : Rd} {t : List Nat} {n : Nat} (hn : n < 4294967296) (h : Sees r (Leb.putU n ++ t)) : told false r.bs r.p 32 = (n, r.p + (Leb.putU n).length, 0) := by
  unfold told
  have hp := h.p
  rw [if_neg (by omega)]
  show Leb.rd 32 false (r.bs.drop (r.p : Int).toNat) (r.p : Int).toNat 0 0 = _
  rw [Int.toNat_natCast, h.d]
  exact Leb.rd_putU 32 n t r.p (by omega) (by omega) hn
theorem u_back {r : Rd} {t : List Nat} {n : Nat} (hn : n < 4294967296) (h : Sees r (Leb.putU n ++ t)) : Tb.u 32 r = (n, r.go (Leb.putU n).length) := h.item _ _ _ _ (told_U hn h)
theorem index_back {r : Rd} {t : List Nat} {x : Hp} (hp : Kd.pIdx x = true) (h : Sees r (putIdx x ++ t)) : index r = (x, r.go (putIdx x).length) := by
  unfold Kd.pIdx at hp
  simp only [Bool.and_eq_true, decide_eq_true_eq] at hp
  unfold index putIdx at *
  rw [u_back (by omega) h]
  obtain ⟨k, n⟩ := x
  dsimp only at hp ⊢
  rw [hp.1, Int.toNat_of_nonneg hp.2.1]
theorem kinds_ix {k : Int} (h : kindIx k < 12) : kinds.getD (kindIx k) 0 = k := by
  have hl : kinds.length = 12 := rfl
  have hlt : kinds.findIdx (· == k) < kinds.length := by rw [hl]; exact h
  have h1 := List.findIdx_getElem (w := hlt)
  unfold kindIx
  rw [List.getD_eq_getElem?_getD, List.getElem?_eq_getElem hlt]
  simpa using h1
end Tb
end Go.Proofs.YtkdhjejchdcipaaDoor

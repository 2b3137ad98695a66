/-
  NARROWER THAN 'FOR EVERY INPUT', by the rows' own cells (each row's printed sentence says how): KindHeaps: laid · KindMaps: laid · TbinReads: laid · TbinBack: laid · TbinCut: laid.
  DERIVED. THE GIVEN ROWS OF THIS SEAT. 5 by the template 'for every input the law returns true; each argument reads behind the call as it read before'; 0 by the template 'total and deterministic' (their statements: YtkdhjejchdcipaaDoorTotals.lean).
  GIVEN WITH THE SEED: the statements are not yours to turn. If you find one false, say at which input.
  Laid BY PROGRAM, IN A SANDBOX (cutbox-rows.mjs): the forced cells as the released guide's own fill.sh prints them over the translation 666a225117037359… (all of the seat's roots in one cut). By AI agents, Wed Nov 11 2026. No macro, syntax, notation, axiom, sorry.
-/
import Derived.Test.YtkdhjejchdcipaaDoorChecked
import GoSem.Claim
import GoSem.ClaimJoined
import GoSem.ClaimMapViews
import Derived.JoinedTies
import Derived.KernelRfl
namespace Go.Proofs.YtkdhjejchdcipaaDoor
/- THE CELL 'sum', in the pinned program and in every row, IS THE sha256 OF THE DUMP (.gsa) THAT YtkdhjejchdcipaaDoorProg.lean LOADS. Nothing in Lean hashes anything: it is a label: what it is worth is what the hold of that sum in a sandbox is worth. -/
noncomputable def Tryd.pinned : Pinned := { name := "ytkdhjejchdcipaadoor", sum := "666a22511703735948dce63e7329d4da889ec658a2d8d041b537069e29d5c8a2", checked := Tryd.checked }
namespace Rows
def none {H : Type} : Left H := { results := [], args := [] }

/- WHAT THE LISTED PACKAGE-LEVEL VARIABLES READ AS WHEN THE CALL BEGINS. Each datum BY PROGRAM (the guide's laid-datum.mjs) off the statement by which the dump's own 'gosem.cut.vars' lays the variable. In a bare row this is a premise. The card (YtkdhjejchdcipaaDoorCards.lean) ties it to the program's text. -/
def laid_math_bits_deBruijn32tab {H : Type} : DataW H := .agg [.lit (.int .u8 0), .lit (.int .u8 1), .lit (.int .u8 28), .lit (.int .u8 2), .lit (.int .u8 29), .lit (.int .u8 14), .lit (.int .u8 24), .lit (.int .u8 3), .lit (.int .u8 30), .lit (.int .u8 22), .lit (.int .u8 20), .lit (.int .u8 15), .lit (.int .u8 25), .lit (.int .u8 17), .lit (.int .u8 4), .lit (.int .u8 8), .lit (.int .u8 31), .lit (.int .u8 27), .lit (.int .u8 13), .lit (.int .u8 23), .lit (.int .u8 21), .lit (.int .u8 19), .lit (.int .u8 16), .lit (.int .u8 7), .lit (.int .u8 26), .lit (.int .u8 12), .lit (.int .u8 18), .lit (.int .u8 6), .lit (.int .u8 11), .lit (.int .u8 5), .lit (.int .u8 10), .lit (.int .u8 9)]
def laid_math_bits_deBruijn64tab {H : Type} : DataW H := .agg [.lit (.int .u8 0), .lit (.int .u8 1), .lit (.int .u8 56), .lit (.int .u8 2), .lit (.int .u8 57), .lit (.int .u8 49), .lit (.int .u8 28), .lit (.int .u8 3), .lit (.int .u8 61), .lit (.int .u8 58), .lit (.int .u8 42), .lit (.int .u8 50), .lit (.int .u8 38), .lit (.int .u8 29), .lit (.int .u8 17), .lit (.int .u8 4), .lit (.int .u8 62), .lit (.int .u8 47), .lit (.int .u8 59), .lit (.int .u8 36), .lit (.int .u8 45), .lit (.int .u8 43), .lit (.int .u8 51), .lit (.int .u8 22), .lit (.int .u8 53), .lit (.int .u8 39), .lit (.int .u8 33), .lit (.int .u8 30), .lit (.int .u8 24), .lit (.int .u8 18), .lit (.int .u8 12), .lit (.int .u8 5), .lit (.int .u8 63), .lit (.int .u8 55), .lit (.int .u8 48), .lit (.int .u8 27), .lit (.int .u8 60), .lit (.int .u8 41), .lit (.int .u8 37), .lit (.int .u8 16), .lit (.int .u8 46), .lit (.int .u8 35), .lit (.int .u8 44), .lit (.int .u8 21), .lit (.int .u8 52), .lit (.int .u8 32), .lit (.int .u8 23), .lit (.int .u8 11), .lit (.int .u8 54), .lit (.int .u8 26), .lit (.int .u8 40), .lit (.int .u8 15), .lit (.int .u8 34), .lit (.int .u8 20), .lit (.int .u8 31), .lit (.int .u8 10), .lit (.int .u8 25), .lit (.int .u8 14), .lit (.int .u8 19), .lit (.int .u8 9), .lit (.int .u8 13), .lit (.int .u8 8), .lit (.int .u8 7), .lit (.int .u8 6)]
def laid_internal_strconv_uint64pow10 {H : Type} : DataW H := .agg [.lit (.int .u64 1), .lit (.int .u64 10), .lit (.int .u64 100), .lit (.int .u64 1000), .lit (.int .u64 10000), .lit (.int .u64 100000), .lit (.int .u64 1000000), .lit (.int .u64 10000000), .lit (.int .u64 100000000), .lit (.int .u64 1000000000), .lit (.int .u64 10000000000), .lit (.int .u64 100000000000), .lit (.int .u64 1000000000000), .lit (.int .u64 10000000000000), .lit (.int .u64 100000000000000), .lit (.int .u64 1000000000000000), .lit (.int .u64 10000000000000000), .lit (.int .u64 100000000000000000), .lit (.int .u64 1000000000000000000), .lit (.int .u64 10000000000000000000)]
def laid_geode_kind_heapNames {H : Type} : DataW H := .agg [.lit (.string []), .lit (.string [97, 110, 121]), .lit (.string [101, 113]), .lit (.string [105, 51, 49]), .lit (.string [115, 116, 114, 117, 99, 116]), .lit (.string [97, 114, 114, 97, 121]), .lit (.string [110, 111, 110, 101]), .lit (.string [102, 117, 110, 99]), .lit (.string [110, 111, 102, 117, 110, 99]), .lit (.string [101, 120, 116, 101, 114, 110]), .lit (.string [110, 111, 101, 120, 116, 101, 114, 110]), .lit (.string [101, 120, 110]), .lit (.string [110, 111, 101, 120, 110])]
def laid_geode_tbin_heapKinds {H : Type} : DataW H := .agg [.lit (.int .i64 11), .lit (.int .i64 5), .lit (.int .i64 4), .lit (.int .i64 3), .lit (.int .i64 2), .lit (.int .i64 1), .lit (.int .i64 9), .lit (.int .i64 7), .lit (.int .i64 6), .lit (.int .i64 10), .lit (.int .i64 8), .lit (.int .i64 12)]

/-- 'geodelaw04.KindHeaps': WHATEVER THE INPUT: true; the input reads as it did. -/
def kindHeapsSpec : ChangeSpec := { name := "kindHeaps", fn := fun _ => fun
  | [d1, d2, d3] => { results := [.lit (.bool true)], args := [d1, d2, d3] }
  | _ => none }
def kindHeapsRow : OpenClaim := { program := "ytkdhjejchdcipaadoor", sum := "666a22511703735948dce63e7329d4da889ec658a2d8d041b537069e29d5c8a2", func := "geode/geodelaw04.KindHeaps", spec := "kindHeaps", inPlace := ["internal/abi.NoEscape", "internal/bytealg.MakeNoZero"], unfollowed := true, recurses := true, named := ["geode/kind.heapNames", "internal/strconv.uint64pow10", "math/bits.deBruijn32tab", "math/bits.deBruijn64tab"], apart := false, laid := [("math/bits.deBruijn32tab", laid_math_bits_deBruijn32tab), ("math/bits.deBruijn64tab", laid_math_bits_deBruijn64tab), ("internal/strconv.uint64pow10", laid_internal_strconv_uint64pow10), ("geode/kind.heapNames", laid_geode_kind_heapNames)] }
def KindHeapsSaid : Prop := kindHeapsRow.holds Tryd.pinned (OpenSpec.ofChange kindHeapsSpec)

/-- ITS FALSE NEIGHBOUR: 'it returns false'. Refute it at one input. -/
def kindHeapsWrong : ChangeSpec := { name := "kindHeaps", fn := fun _ => fun
  | [d1, d2, d3] => { results := [.lit (.bool false)], args := [d1, d2, d3] }
  | _ => none }
def KindHeapsWrongFalsely : Prop := kindHeapsRow.holds Tryd.pinned (OpenSpec.ofChange kindHeapsWrong)

/-- 'geodelaw04.KindMaps': WHATEVER THE INPUT: true; the input reads as it did. -/
def kindMapsSpec : ChangeSpec := { name := "kindMaps", fn := fun _ => fun
  | [d1, d2, d3] => { results := [.lit (.bool true)], args := [d1, d2, d3] }
  | _ => none }
def kindMapsRow : OpenClaim := { program := "ytkdhjejchdcipaadoor", sum := "666a22511703735948dce63e7329d4da889ec658a2d8d041b537069e29d5c8a2", func := "geode/geodelaw04.KindMaps", spec := "kindMaps", inPlace := ["internal/abi.NoEscape", "internal/bytealg.MakeNoZero"], unfollowed := true, recurses := true, named := ["geode/kind.heapNames", "internal/strconv.uint64pow10", "math/bits.deBruijn32tab", "math/bits.deBruijn64tab"], apart := false, laid := [("math/bits.deBruijn32tab", laid_math_bits_deBruijn32tab), ("math/bits.deBruijn64tab", laid_math_bits_deBruijn64tab), ("internal/strconv.uint64pow10", laid_internal_strconv_uint64pow10), ("geode/kind.heapNames", laid_geode_kind_heapNames)] }
def KindMapsSaid : Prop := kindMapsRow.holds Tryd.pinned (OpenSpec.ofChange kindMapsSpec)

/-- ITS FALSE NEIGHBOUR: 'it returns false'. Refute it at one input. -/
def kindMapsWrong : ChangeSpec := { name := "kindMaps", fn := fun _ => fun
  | [d1, d2, d3] => { results := [.lit (.bool false)], args := [d1, d2, d3] }
  | _ => none }
def KindMapsWrongFalsely : Prop := kindMapsRow.holds Tryd.pinned (OpenSpec.ofChange kindMapsWrong)

/-- 'geodelaw06.TbinReads': WHATEVER THE INPUT: true; the input reads as it did. -/
def tbinReadsSpec : ChangeSpec := { name := "tbinReads", fn := fun _ => fun
  | [d1, d2] => { results := [.lit (.bool true)], args := [d1, d2] }
  | _ => none }
def tbinReadsRow : OpenClaim := { program := "ytkdhjejchdcipaadoor", sum := "666a22511703735948dce63e7329d4da889ec658a2d8d041b537069e29d5c8a2", func := "geode/geodelaw06.TbinReads", spec := "tbinReads", unfollowed := true, recurses := true, named := ["geode/tbin.heapKinds"], apart := false, laid := [("geode/tbin.heapKinds", laid_geode_tbin_heapKinds)] }
def TbinReadsSaid : Prop := tbinReadsRow.holds Tryd.pinned (OpenSpec.ofChange tbinReadsSpec)

/-- ITS FALSE NEIGHBOUR: 'it returns false'. Refute it at one input. -/
def tbinReadsWrong : ChangeSpec := { name := "tbinReads", fn := fun _ => fun
  | [d1, d2] => { results := [.lit (.bool false)], args := [d1, d2] }
  | _ => none }
def TbinReadsWrongFalsely : Prop := tbinReadsRow.holds Tryd.pinned (OpenSpec.ofChange tbinReadsWrong)

/-- 'geodelaw06.TbinBack': WHATEVER THE INPUT: true; the input reads as it did. -/
def tbinBackSpec : ChangeSpec := { name := "tbinBack", fn := fun _ => fun
  | [d1, d2, d3] => { results := [.lit (.bool true)], args := [d1, d2, d3] }
  | _ => none }
def tbinBackRow : OpenClaim := { program := "ytkdhjejchdcipaadoor", sum := "666a22511703735948dce63e7329d4da889ec658a2d8d041b537069e29d5c8a2", func := "geode/geodelaw06.TbinBack", spec := "tbinBack", unfollowed := true, recurses := true, named := ["geode/tbin.heapKinds"], apart := false, laid := [("geode/tbin.heapKinds", laid_geode_tbin_heapKinds)] }
def TbinBackSaid : Prop := tbinBackRow.holds Tryd.pinned (OpenSpec.ofChange tbinBackSpec)

/-- ITS FALSE NEIGHBOUR: 'it returns false'. Refute it at one input. -/
def tbinBackWrong : ChangeSpec := { name := "tbinBack", fn := fun _ => fun
  | [d1, d2, d3] => { results := [.lit (.bool false)], args := [d1, d2, d3] }
  | _ => none }
def TbinBackWrongFalsely : Prop := tbinBackRow.holds Tryd.pinned (OpenSpec.ofChange tbinBackWrong)

/-- 'geodelaw06.TbinCut': WHATEVER THE INPUT: true; the input reads as it did. -/
def tbinCutSpec : ChangeSpec := { name := "tbinCut", fn := fun _ => fun
  | [d1, d2] => { results := [.lit (.bool true)], args := [d1, d2] }
  | _ => none }
def tbinCutRow : OpenClaim := { program := "ytkdhjejchdcipaadoor", sum := "666a22511703735948dce63e7329d4da889ec658a2d8d041b537069e29d5c8a2", func := "geode/geodelaw06.TbinCut", spec := "tbinCut", unfollowed := true, recurses := true, named := ["geode/tbin.heapKinds"], apart := false, laid := [("geode/tbin.heapKinds", laid_geode_tbin_heapKinds)] }
def TbinCutSaid : Prop := tbinCutRow.holds Tryd.pinned (OpenSpec.ofChange tbinCutSpec)

/-- ITS FALSE NEIGHBOUR: 'it returns false'. Refute it at one input. -/
def tbinCutWrong : ChangeSpec := { name := "tbinCut", fn := fun _ => fun
  | [d1, d2] => { results := [.lit (.bool false)], args := [d1, d2] }
  | _ => none }
def TbinCutWrongFalsely : Prop := tbinCutRow.holds Tryd.pinned (OpenSpec.ofChange tbinCutWrong)

/- THE SECOND FORM. 'bulk': how many values and letters a reading holds, each counted each time it is reached (what is shared counts as often as it is met; a slice's spare places count too). A statement '..UptoSaid' is the law's where the arguments, and the package variables that the reading takes, are together of bulk at most 1048576: NARROWER than '..Said'. Prove '..Said' where nothing that the law and all that it calls make is longer than what came in: it says more and counts as full. Else prove '..UptoSaid'. A law counts once. -/
mutual
def uptoBulk {H : Type} : DataW H → Nat
  | .lit (.string bytes) => bytes.length + 1
  | .lit _ => 1
  | .nil => 1
  | .ptr d => uptoBulk d + 1
  | .slice elems spare => uptoBulkAll elems + uptoBulkAll spare + 1
  | .agg parts => uptoBulkAll parts + 1
  | .iface _ d => uptoBulk d + 1
  | .map entries => uptoBulkEntries entries + 1
  | .held _ => 1
def uptoBulkAll {H : Type} : List (DataW H) → Nat
  | [] => 0
  | d :: r => uptoBulk d + uptoBulkAll r
def uptoBulkEntries {H : Type} : List (Lit × DataW H) → Nat
  | [] => 0
  | x :: r => uptoBulkEntry x + uptoBulkEntries r
def uptoBulkEntry {H : Type} : Lit × DataW H → Nat
  | (.string bytes, d) => bytes.length + uptoBulk d + 1
  | (_, d) => uptoBulk d + 1
 end
def uptoSmall : (H : Type) → List (DataW H) → Bool := fun _ ds => decide (uptoBulkAll ds ≤ 1048576)
def OpenSpec.upto (s : _root_.Go.ChangeSpec) : _root_.Go.OpenSpec := { _root_.Go.OpenSpec.ofChange s with cond := some uptoSmall }

/-- 'geodelaw04.KindHeaps', WHERE WHAT IT READS IS OF BULK AT MOST 1048576: true; the input reads as it did. -/
def kindHeapsUptoRow : OpenClaim := { program := "ytkdhjejchdcipaadoor", sum := "666a22511703735948dce63e7329d4da889ec658a2d8d041b537069e29d5c8a2", func := "geode/geodelaw04.KindHeaps", spec := "kindHeaps", inPlace := ["internal/abi.NoEscape", "internal/bytealg.MakeNoZero"], unfollowed := true, recurses := true, named := ["geode/kind.heapNames", "internal/strconv.uint64pow10", "math/bits.deBruijn32tab", "math/bits.deBruijn64tab"], apart := false, laid := [("math/bits.deBruijn32tab", laid_math_bits_deBruijn32tab), ("math/bits.deBruijn64tab", laid_math_bits_deBruijn64tab), ("internal/strconv.uint64pow10", laid_internal_strconv_uint64pow10), ("geode/kind.heapNames", laid_geode_kind_heapNames)], narrowed := true }
def KindHeapsUptoSaid : Prop := kindHeapsUptoRow.holds Tryd.pinned (OpenSpec.upto kindHeapsSpec)

/-- 'geodelaw04.KindMaps', WHERE WHAT IT READS IS OF BULK AT MOST 1048576: true; the input reads as it did. -/
def kindMapsUptoRow : OpenClaim := { program := "ytkdhjejchdcipaadoor", sum := "666a22511703735948dce63e7329d4da889ec658a2d8d041b537069e29d5c8a2", func := "geode/geodelaw04.KindMaps", spec := "kindMaps", inPlace := ["internal/abi.NoEscape", "internal/bytealg.MakeNoZero"], unfollowed := true, recurses := true, named := ["geode/kind.heapNames", "internal/strconv.uint64pow10", "math/bits.deBruijn32tab", "math/bits.deBruijn64tab"], apart := false, laid := [("math/bits.deBruijn32tab", laid_math_bits_deBruijn32tab), ("math/bits.deBruijn64tab", laid_math_bits_deBruijn64tab), ("internal/strconv.uint64pow10", laid_internal_strconv_uint64pow10), ("geode/kind.heapNames", laid_geode_kind_heapNames)], narrowed := true }
def KindMapsUptoSaid : Prop := kindMapsUptoRow.holds Tryd.pinned (OpenSpec.upto kindMapsSpec)

/-- 'geodelaw06.TbinReads', WHERE WHAT IT READS IS OF BULK AT MOST 1048576: true; the input reads as it did. -/
def tbinReadsUptoRow : OpenClaim := { program := "ytkdhjejchdcipaadoor", sum := "666a22511703735948dce63e7329d4da889ec658a2d8d041b537069e29d5c8a2", func := "geode/geodelaw06.TbinReads", spec := "tbinReads", unfollowed := true, recurses := true, named := ["geode/tbin.heapKinds"], apart := false, laid := [("geode/tbin.heapKinds", laid_geode_tbin_heapKinds)], narrowed := true }
def TbinReadsUptoSaid : Prop := tbinReadsUptoRow.holds Tryd.pinned (OpenSpec.upto tbinReadsSpec)

/-- 'geodelaw06.TbinBack', WHERE WHAT IT READS IS OF BULK AT MOST 1048576: true; the input reads as it did. -/
def tbinBackUptoRow : OpenClaim := { program := "ytkdhjejchdcipaadoor", sum := "666a22511703735948dce63e7329d4da889ec658a2d8d041b537069e29d5c8a2", func := "geode/geodelaw06.TbinBack", spec := "tbinBack", unfollowed := true, recurses := true, named := ["geode/tbin.heapKinds"], apart := false, laid := [("geode/tbin.heapKinds", laid_geode_tbin_heapKinds)], narrowed := true }
def TbinBackUptoSaid : Prop := tbinBackUptoRow.holds Tryd.pinned (OpenSpec.upto tbinBackSpec)

/-- 'geodelaw06.TbinCut', WHERE WHAT IT READS IS OF BULK AT MOST 1048576: true; the input reads as it did. -/
def tbinCutUptoRow : OpenClaim := { program := "ytkdhjejchdcipaadoor", sum := "666a22511703735948dce63e7329d4da889ec658a2d8d041b537069e29d5c8a2", func := "geode/geodelaw06.TbinCut", spec := "tbinCut", unfollowed := true, recurses := true, named := ["geode/tbin.heapKinds"], apart := false, laid := [("geode/tbin.heapKinds", laid_geode_tbin_heapKinds)], narrowed := true }
def TbinCutUptoSaid : Prop := tbinCutUptoRow.holds Tryd.pinned (OpenSpec.upto tbinCutSpec)

end Rows
end Go.Proofs.YtkdhjejchdcipaaDoor

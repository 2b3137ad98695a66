/-
  No cell of these rows narrows 'for every input' (looked for: loops, veiled, ifaces, maps, wideKeys, modest, calm, conditions, laid).
  DERIVED. THE GIVEN ROWS OF THIS SEAT. 7 by the template 'for every input the law returns true; each argument reads behind the call as it read before'; 0 by the template 'total and deterministic' (their statements: YtobifilfhhhamaaTotals.lean).
  GIVEN WITH THE SEED: the statements are not yours to turn. If you find one false, say at which input.
  Laid BY PROGRAM, IN A SANDBOX (cutbox-rows.mjs): the forced cells as the released guide's own fill.sh prints them over the translation 947ae4322b449885… (all of the seat's roots in one cut). By AI agents, Wed Nov 11 2026. No macro, syntax, notation, axiom, sorry.
-/
import Derived.Test.YtobifilfhhhamaaChecked
import GoSem.Claim
import GoSem.ClaimJoined
import GoSem.ClaimMapViews
import Derived.JoinedTies
import Derived.KernelRfl
namespace Go.Proofs.Ytobifilfhhhamaa
/- THE CELL 'sum', in the pinned program and in every row, IS THE sha256 OF THE DUMP (.gsa) THAT YtobifilfhhhamaaProg.lean LOADS. Nothing in Lean hashes anything: it is a label: what it is worth is what the hold of that sum in a sandbox is worth. -/
noncomputable def Try.pinned : Pinned := { name := "ytobifilfhhhamaa", sum := "947ae4322b449885a0bf90be055fe83c40c65701caecf9718774ccff55bff794", checked := Try.checked }
namespace Rows
def none {H : Type} : Left H := { results := [], args := [] }

/-- 'geodelaw01.LebReads': WHATEVER THE INPUT: true; the input reads as it did. -/
def lebReadsSpec : ChangeSpec := { name := "lebReads", fn := fun _ => fun
  | [d1, d2, d3] => { results := [.lit (.bool true)], args := [d1, d2, d3] }
  | _ => none }
def lebReadsRow : OpenClaim := { program := "ytobifilfhhhamaa", sum := "947ae4322b449885a0bf90be055fe83c40c65701caecf9718774ccff55bff794", func := "geode/geodelaw01.LebReads", spec := "lebReads", apart := false }
def LebReadsSaid : Prop := lebReadsRow.holds Try.pinned (OpenSpec.ofChange lebReadsSpec)

/-- ITS FALSE NEIGHBOUR: 'it returns false'. Refute it at one input. -/
def lebReadsWrong : ChangeSpec := { name := "lebReads", fn := fun _ => fun
  | [d1, d2, d3] => { results := [.lit (.bool false)], args := [d1, d2, d3] }
  | _ => none }
def LebReadsWrongFalsely : Prop := lebReadsRow.holds Try.pinned (OpenSpec.ofChange lebReadsWrong)

/-- 'geodelaw01.LebPuts': WHATEVER THE INPUT: true; the input reads as it did. -/
def lebPutsSpec : ChangeSpec := { name := "lebPuts", fn := fun _ => fun
  | [d1, d2] => { results := [.lit (.bool true)], args := [d1, d2] }
  | _ => none }
def lebPutsRow : OpenClaim := { program := "ytobifilfhhhamaa", sum := "947ae4322b449885a0bf90be055fe83c40c65701caecf9718774ccff55bff794", func := "geode/geodelaw01.LebPuts", spec := "lebPuts", recurses := true, apart := false }
def LebPutsSaid : Prop := lebPutsRow.holds Try.pinned (OpenSpec.ofChange lebPutsSpec)

/-- ITS FALSE NEIGHBOUR: 'it returns false'. Refute it at one input. -/
def lebPutsWrong : ChangeSpec := { name := "lebPuts", fn := fun _ => fun
  | [d1, d2] => { results := [.lit (.bool false)], args := [d1, d2] }
  | _ => none }
def LebPutsWrongFalsely : Prop := lebPutsRow.holds Try.pinned (OpenSpec.ofChange lebPutsWrong)

/-- 'geodelaw01.LebBack': WHATEVER THE INPUT: true; the input reads as it did. -/
def lebBackSpec : ChangeSpec := { name := "lebBack", fn := fun _ => fun
  | [d1, d2, d3, d4, d5] => { results := [.lit (.bool true)], args := [d1, d2, d3, d4, d5] }
  | _ => none }
def lebBackRow : OpenClaim := { program := "ytobifilfhhhamaa", sum := "947ae4322b449885a0bf90be055fe83c40c65701caecf9718774ccff55bff794", func := "geode/geodelaw01.LebBack", spec := "lebBack", apart := false }
def LebBackSaid : Prop := lebBackRow.holds Try.pinned (OpenSpec.ofChange lebBackSpec)

/-- ITS FALSE NEIGHBOUR: 'it returns false'. Refute it at one input. -/
def lebBackWrong : ChangeSpec := { name := "lebBack", fn := fun _ => fun
  | [d1, d2, d3, d4, d5] => { results := [.lit (.bool false)], args := [d1, d2, d3, d4, d5] }
  | _ => none }
def LebBackWrongFalsely : Prop := lebBackRow.holds Try.pinned (OpenSpec.ofChange lebBackWrong)

/-- 'geodelaw01.LebShortest': WHATEVER THE INPUT: true; the input reads as it did. -/
def lebShortestSpec : ChangeSpec := { name := "lebShortest", fn := fun _ => fun
  | [d1, d2, d3] => { results := [.lit (.bool true)], args := [d1, d2, d3] }
  | _ => none }
def lebShortestRow : OpenClaim := { program := "ytobifilfhhhamaa", sum := "947ae4322b449885a0bf90be055fe83c40c65701caecf9718774ccff55bff794", func := "geode/geodelaw01.LebShortest", spec := "lebShortest", apart := false }
def LebShortestSaid : Prop := lebShortestRow.holds Try.pinned (OpenSpec.ofChange lebShortestSpec)

/-- ITS FALSE NEIGHBOUR: 'it returns false'. Refute it at one input. -/
def lebShortestWrong : ChangeSpec := { name := "lebShortest", fn := fun _ => fun
  | [d1, d2, d3] => { results := [.lit (.bool false)], args := [d1, d2, d3] }
  | _ => none }
def LebShortestWrongFalsely : Prop := lebShortestRow.holds Try.pinned (OpenSpec.ofChange lebShortestWrong)

/-- 'geodelaw01.LebCut': WHATEVER THE INPUT: true; the input reads as it did. -/
def lebCutSpec : ChangeSpec := { name := "lebCut", fn := fun _ => fun
  | [d1, d2] => { results := [.lit (.bool true)], args := [d1, d2] }
  | _ => none }
def lebCutRow : OpenClaim := { program := "ytobifilfhhhamaa", sum := "947ae4322b449885a0bf90be055fe83c40c65701caecf9718774ccff55bff794", func := "geode/geodelaw01.LebCut", spec := "lebCut", apart := false }
def LebCutSaid : Prop := lebCutRow.holds Try.pinned (OpenSpec.ofChange lebCutSpec)

/-- ITS FALSE NEIGHBOUR: 'it returns false'. Refute it at one input. -/
def lebCutWrong : ChangeSpec := { name := "lebCut", fn := fun _ => fun
  | [d1, d2] => { results := [.lit (.bool false)], args := [d1, d2] }
  | _ => none }
def LebCutWrongFalsely : Prop := lebCutRow.holds Try.pinned (OpenSpec.ofChange lebCutWrong)

/-- 'geodelaw01.LebBehind': WHATEVER THE INPUT: true; the input reads as it did. -/
def lebBehindSpec : ChangeSpec := { name := "lebBehind", fn := fun _ => fun
  | [d1, d2, d3] => { results := [.lit (.bool true)], args := [d1, d2, d3] }
  | _ => none }
def lebBehindRow : OpenClaim := { program := "ytobifilfhhhamaa", sum := "947ae4322b449885a0bf90be055fe83c40c65701caecf9718774ccff55bff794", func := "geode/geodelaw01.LebBehind", spec := "lebBehind", apart := false }
def LebBehindSaid : Prop := lebBehindRow.holds Try.pinned (OpenSpec.ofChange lebBehindSpec)

/-- ITS FALSE NEIGHBOUR: 'it returns false'. Refute it at one input. -/
def lebBehindWrong : ChangeSpec := { name := "lebBehind", fn := fun _ => fun
  | [d1, d2, d3] => { results := [.lit (.bool false)], args := [d1, d2, d3] }
  | _ => none }
def LebBehindWrongFalsely : Prop := lebBehindRow.holds Try.pinned (OpenSpec.ofChange lebBehindWrong)

/-- 'geodelaw01.LebPadded': WHATEVER THE INPUT: true; the input reads as it did. -/
def lebPaddedSpec : ChangeSpec := { name := "lebPadded", fn := fun _ => fun
  | [d1, d2] => { results := [.lit (.bool true)], args := [d1, d2] }
  | _ => none }
def lebPaddedRow : OpenClaim := { program := "ytobifilfhhhamaa", sum := "947ae4322b449885a0bf90be055fe83c40c65701caecf9718774ccff55bff794", func := "geode/geodelaw01.LebPadded", spec := "lebPadded", apart := false }
def LebPaddedSaid : Prop := lebPaddedRow.holds Try.pinned (OpenSpec.ofChange lebPaddedSpec)

/-- ITS FALSE NEIGHBOUR: 'it returns false'. Refute it at one input. -/
def lebPaddedWrong : ChangeSpec := { name := "lebPadded", fn := fun _ => fun
  | [d1, d2] => { results := [.lit (.bool false)], args := [d1, d2] }
  | _ => none }
def LebPaddedWrongFalsely : Prop := lebPaddedRow.holds Try.pinned (OpenSpec.ofChange lebPaddedWrong)

/- THE SECOND FORM. 'bulk': how many values and letters a reading holds, each counted each time it is reached (what is shared counts as often as it is met; a slice's spare places count too). A statement '..UptoSaid' is the law's where the arguments, and the package variables that the reading takes, are together of bulk at most 1048576: NARROWER than '..Said'. Prove '..Said' where nothing that the law and all that it calls make is longer than what came in: it says more and counts as full. Else prove '..UptoSaid'. A law counts once. -/
mutual
def uptoBulk {H : Type} : DataW H → Nat
  | .lit (.string bytes) => bytes.length + 1
  | .lit _ => 1
  | .nil => 1
  | .ptr d => uptoBulk d + 1
  | .slice elems spare => uptoBulkAll elems + uptoBulkAll spare + 1
  | .agg parts => uptoBulkAll parts + 1
  | .iface _ d => uptoBulk d + 1
  | .map entries => uptoBulkEntries entries + 1
  | .held _ => 1
def uptoBulkAll {H : Type} : List (DataW H) → Nat
  | [] => 0
  | d :: r => uptoBulk d + uptoBulkAll r
def uptoBulkEntries {H : Type} : List (Lit × DataW H) → Nat
  | [] => 0
  | x :: r => uptoBulkEntry x + uptoBulkEntries r
def uptoBulkEntry {H : Type} : Lit × DataW H → Nat
  | (.string bytes, d) => bytes.length + uptoBulk d + 1
  | (_, d) => uptoBulk d + 1
 end
def uptoSmall : (H : Type) → List (DataW H) → Bool := fun _ ds => decide (uptoBulkAll ds ≤ 1048576)
def OpenSpec.upto (s : _root_.Go.ChangeSpec) : _root_.Go.OpenSpec := { _root_.Go.OpenSpec.ofChange s with cond := some uptoSmall }

/-- 'geodelaw01.LebReads', WHERE WHAT IT READS IS OF BULK AT MOST 1048576: true; the input reads as it did. -/
def lebReadsUptoRow : OpenClaim := { program := "ytobifilfhhhamaa", sum := "947ae4322b449885a0bf90be055fe83c40c65701caecf9718774ccff55bff794", func := "geode/geodelaw01.LebReads", spec := "lebReads", apart := false, narrowed := true }
def LebReadsUptoSaid : Prop := lebReadsUptoRow.holds Try.pinned (OpenSpec.upto lebReadsSpec)

/-- 'geodelaw01.LebPuts', WHERE WHAT IT READS IS OF BULK AT MOST 1048576: true; the input reads as it did. -/
def lebPutsUptoRow : OpenClaim := { program := "ytobifilfhhhamaa", sum := "947ae4322b449885a0bf90be055fe83c40c65701caecf9718774ccff55bff794", func := "geode/geodelaw01.LebPuts", spec := "lebPuts", recurses := true, apart := false, narrowed := true }
def LebPutsUptoSaid : Prop := lebPutsUptoRow.holds Try.pinned (OpenSpec.upto lebPutsSpec)

/-- 'geodelaw01.LebBack', WHERE WHAT IT READS IS OF BULK AT MOST 1048576: true; the input reads as it did. -/
def lebBackUptoRow : OpenClaim := { program := "ytobifilfhhhamaa", sum := "947ae4322b449885a0bf90be055fe83c40c65701caecf9718774ccff55bff794", func := "geode/geodelaw01.LebBack", spec := "lebBack", apart := false, narrowed := true }
def LebBackUptoSaid : Prop := lebBackUptoRow.holds Try.pinned (OpenSpec.upto lebBackSpec)

/-- 'geodelaw01.LebShortest', WHERE WHAT IT READS IS OF BULK AT MOST 1048576: true; the input reads as it did. -/
def lebShortestUptoRow : OpenClaim := { program := "ytobifilfhhhamaa", sum := "947ae4322b449885a0bf90be055fe83c40c65701caecf9718774ccff55bff794", func := "geode/geodelaw01.LebShortest", spec := "lebShortest", apart := false, narrowed := true }
def LebShortestUptoSaid : Prop := lebShortestUptoRow.holds Try.pinned (OpenSpec.upto lebShortestSpec)

/-- 'geodelaw01.LebCut', WHERE WHAT IT READS IS OF BULK AT MOST 1048576: true; the input reads as it did. -/
def lebCutUptoRow : OpenClaim := { program := "ytobifilfhhhamaa", sum := "947ae4322b449885a0bf90be055fe83c40c65701caecf9718774ccff55bff794", func := "geode/geodelaw01.LebCut", spec := "lebCut", apart := false, narrowed := true }
def LebCutUptoSaid : Prop := lebCutUptoRow.holds Try.pinned (OpenSpec.upto lebCutSpec)

/-- 'geodelaw01.LebBehind', WHERE WHAT IT READS IS OF BULK AT MOST 1048576: true; the input reads as it did. -/
def lebBehindUptoRow : OpenClaim := { program := "ytobifilfhhhamaa", sum := "947ae4322b449885a0bf90be055fe83c40c65701caecf9718774ccff55bff794", func := "geode/geodelaw01.LebBehind", spec := "lebBehind", apart := false, narrowed := true }
def LebBehindUptoSaid : Prop := lebBehindUptoRow.holds Try.pinned (OpenSpec.upto lebBehindSpec)

/-- 'geodelaw01.LebPadded', WHERE WHAT IT READS IS OF BULK AT MOST 1048576: true; the input reads as it did. -/
def lebPaddedUptoRow : OpenClaim := { program := "ytobifilfhhhamaa", sum := "947ae4322b449885a0bf90be055fe83c40c65701caecf9718774ccff55bff794", func := "geode/geodelaw01.LebPadded", spec := "lebPadded", apart := false, narrowed := true }
def LebPaddedUptoSaid : Prop := lebPaddedUptoRow.holds Try.pinned (OpenSpec.upto lebPaddedSpec)

end Rows
end Go.Proofs.Ytobifilfhhhamaa

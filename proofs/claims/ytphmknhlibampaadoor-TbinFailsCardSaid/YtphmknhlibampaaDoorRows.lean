/-
  NARROWER THAN 'FOR EVERY INPUT', by the rows' own cells (each row's printed sentence says how): TbinReads: laid · TbinNone: laid · TbinBack: laid · TbinCut: laid · TbinFails: laid.
  DERIVED. THE GIVEN ROWS OF THIS SEAT. 5 by the template 'for every input the law returns true; each argument reads behind the call as it read before'; 0 by the template 'total and deterministic' (their statements: YtphmknhlibampaaDoorTotals.lean).
  GIVEN WITH THE SEED: the statements are not yours to turn. If you find one false, say at which input.
  Laid BY PROGRAM, IN A SANDBOX (cutbox-rows.mjs): the forced cells as the released guide's own fill.sh prints them over the translation e9072f59974bfd5a… (all of the seat's roots in one cut). By AI agents, Wed Nov 11 2026. No macro, syntax, notation, axiom, sorry.
-/
import Derived.Test.YtphmknhlibampaaDoorChecked
import GoSem.Claim
import GoSem.ClaimJoined
import GoSem.ClaimMapViews
import Derived.JoinedTies
import Derived.KernelRfl
namespace Go.Proofs.YtphmknhlibampaaDoor
/- THE CELL 'sum', in the pinned program and in every row, IS THE sha256 OF THE DUMP (.gsa) THAT YtphmknhlibampaaDoorProg.lean LOADS. Nothing in Lean hashes anything: it is a label: what it is worth is what the hold of that sum in a sandbox is worth. -/
noncomputable def Tryd.pinned : Pinned := { name := "ytphmknhlibampaadoor", sum := "e9072f59974bfd5a14e87812125e5b09cce2b182ed55b2740ee684e1f2664b95", checked := Tryd.checked }
namespace Rows
def none {H : Type} : Left H := { results := [], args := [] }

/- WHAT THE LISTED PACKAGE-LEVEL VARIABLES READ AS WHEN THE CALL BEGINS. Each datum BY PROGRAM (the guide's laid-datum.mjs) off the statement by which the dump's own 'gosem.cut.vars' lays the variable. In a bare row this is a premise. The card (YtphmknhlibampaaDoorCards.lean) ties it to the program's text. -/
def laid_geode_tbin_heapKinds {H : Type} : DataW H := .agg [.lit (.int .i64 11), .lit (.int .i64 5), .lit (.int .i64 4), .lit (.int .i64 3), .lit (.int .i64 2), .lit (.int .i64 1), .lit (.int .i64 9), .lit (.int .i64 7), .lit (.int .i64 6), .lit (.int .i64 10), .lit (.int .i64 8), .lit (.int .i64 12)]

/-- 'geodelaw06.TbinReads': WHATEVER THE INPUT: true; the input reads as it did. -/
def tbinReadsSpec : ChangeSpec := { name := "tbinReads", fn := fun _ => fun
  | [d1, d2] => { results := [.lit (.bool true)], args := [d1, d2] }
  | _ => none }
def tbinReadsRow : OpenClaim := { program := "ytphmknhlibampaadoor", sum := "e9072f59974bfd5a14e87812125e5b09cce2b182ed55b2740ee684e1f2664b95", func := "geode/geodelaw06.TbinReads", spec := "tbinReads", unfollowed := true, recurses := true, named := ["geode/tbin.heapKinds"], apart := false, laid := [("geode/tbin.heapKinds", laid_geode_tbin_heapKinds)] }
def TbinReadsSaid : Prop := tbinReadsRow.holds Tryd.pinned (OpenSpec.ofChange tbinReadsSpec)

/-- ITS FALSE NEIGHBOUR: 'it returns false'. Refute it at one input. -/
def tbinReadsWrong : ChangeSpec := { name := "tbinReads", fn := fun _ => fun
  | [d1, d2] => { results := [.lit (.bool false)], args := [d1, d2] }
  | _ => none }
def TbinReadsWrongFalsely : Prop := tbinReadsRow.holds Tryd.pinned (OpenSpec.ofChange tbinReadsWrong)

/-- 'geodelaw06.TbinNone': WHATEVER THE INPUT: true; the input reads as it did. -/
def tbinNoneSpec : ChangeSpec := { name := "tbinNone", fn := fun _ => fun
  | [d1, d2] => { results := [.lit (.bool true)], args := [d1, d2] }
  | _ => none }
def tbinNoneRow : OpenClaim := { program := "ytphmknhlibampaadoor", sum := "e9072f59974bfd5a14e87812125e5b09cce2b182ed55b2740ee684e1f2664b95", func := "geode/geodelaw06.TbinNone", spec := "tbinNone", unfollowed := true, recurses := true, named := ["geode/tbin.heapKinds"], apart := false, laid := [("geode/tbin.heapKinds", laid_geode_tbin_heapKinds)] }
def TbinNoneSaid : Prop := tbinNoneRow.holds Tryd.pinned (OpenSpec.ofChange tbinNoneSpec)

/-- ITS FALSE NEIGHBOUR: 'it returns false'. Refute it at one input. -/
def tbinNoneWrong : ChangeSpec := { name := "tbinNone", fn := fun _ => fun
  | [d1, d2] => { results := [.lit (.bool false)], args := [d1, d2] }
  | _ => none }
def TbinNoneWrongFalsely : Prop := tbinNoneRow.holds Tryd.pinned (OpenSpec.ofChange tbinNoneWrong)

/-- 'geodelaw06.TbinBack': WHATEVER THE INPUT: true; the input reads as it did. -/
def tbinBackSpec : ChangeSpec := { name := "tbinBack", fn := fun _ => fun
  | [d1, d2, d3] => { results := [.lit (.bool true)], args := [d1, d2, d3] }
  | _ => none }
def tbinBackRow : OpenClaim := { program := "ytphmknhlibampaadoor", sum := "e9072f59974bfd5a14e87812125e5b09cce2b182ed55b2740ee684e1f2664b95", func := "geode/geodelaw06.TbinBack", spec := "tbinBack", unfollowed := true, recurses := true, named := ["geode/tbin.heapKinds"], apart := false, laid := [("geode/tbin.heapKinds", laid_geode_tbin_heapKinds)] }
def TbinBackSaid : Prop := tbinBackRow.holds Tryd.pinned (OpenSpec.ofChange tbinBackSpec)

/-- ITS FALSE NEIGHBOUR: 'it returns false'. Refute it at one input. -/
def tbinBackWrong : ChangeSpec := { name := "tbinBack", fn := fun _ => fun
  | [d1, d2, d3] => { results := [.lit (.bool false)], args := [d1, d2, d3] }
  | _ => none }
def TbinBackWrongFalsely : Prop := tbinBackRow.holds Tryd.pinned (OpenSpec.ofChange tbinBackWrong)

/-- 'geodelaw06.TbinCut': WHATEVER THE INPUT: true; the input reads as it did. -/
def tbinCutSpec : ChangeSpec := { name := "tbinCut", fn := fun _ => fun
  | [d1, d2] => { results := [.lit (.bool true)], args := [d1, d2] }
  | _ => none }
def tbinCutRow : OpenClaim := { program := "ytphmknhlibampaadoor", sum := "e9072f59974bfd5a14e87812125e5b09cce2b182ed55b2740ee684e1f2664b95", func := "geode/geodelaw06.TbinCut", spec := "tbinCut", unfollowed := true, recurses := true, named := ["geode/tbin.heapKinds"], apart := false, laid := [("geode/tbin.heapKinds", laid_geode_tbin_heapKinds)] }
def TbinCutSaid : Prop := tbinCutRow.holds Tryd.pinned (OpenSpec.ofChange tbinCutSpec)

/-- ITS FALSE NEIGHBOUR: 'it returns false'. Refute it at one input. -/
def tbinCutWrong : ChangeSpec := { name := "tbinCut", fn := fun _ => fun
  | [d1, d2] => { results := [.lit (.bool false)], args := [d1, d2] }
  | _ => none }
def TbinCutWrongFalsely : Prop := tbinCutRow.holds Tryd.pinned (OpenSpec.ofChange tbinCutWrong)

/-- 'geodelaw06.TbinFails': WHATEVER THE INPUT: true; the input reads as it did. -/
def tbinFailsSpec : ChangeSpec := { name := "tbinFails", fn := fun _ => fun
  | [d1, d2, d3, d4, d5] => { results := [.lit (.bool true)], args := [d1, d2, d3, d4, d5] }
  | _ => none }
def tbinFailsRow : OpenClaim := { program := "ytphmknhlibampaadoor", sum := "e9072f59974bfd5a14e87812125e5b09cce2b182ed55b2740ee684e1f2664b95", func := "geode/geodelaw06.TbinFails", spec := "tbinFails", unfollowed := true, recurses := true, named := ["geode/tbin.heapKinds"], apart := false, laid := [("geode/tbin.heapKinds", laid_geode_tbin_heapKinds)] }
def TbinFailsSaid : Prop := tbinFailsRow.holds Tryd.pinned (OpenSpec.ofChange tbinFailsSpec)

/-- ITS FALSE NEIGHBOUR: 'it returns false'. Refute it at one input. -/
def tbinFailsWrong : ChangeSpec := { name := "tbinFails", fn := fun _ => fun
  | [d1, d2, d3, d4, d5] => { results := [.lit (.bool false)], args := [d1, d2, d3, d4, d5] }
  | _ => none }
def TbinFailsWrongFalsely : Prop := tbinFailsRow.holds Tryd.pinned (OpenSpec.ofChange tbinFailsWrong)

/- THE SECOND FORM. 'bulk': how many values and letters a reading holds, each counted each time it is reached (what is shared counts as often as it is met; a slice's spare places count too). A statement '..UptoSaid' is the law's where the arguments, and the package variables that the reading takes, are together of bulk at most 1048576: NARROWER than '..Said'. Prove '..Said' where nothing that the law and all that it calls make is longer than what came in: it says more and counts as full. Else prove '..UptoSaid'. A law counts once. -/
mutual
def uptoBulk {H : Type} : DataW H → Nat
  | .lit (.string bytes) => bytes.length + 1
  | .lit _ => 1
  | .nil => 1
  | .ptr d => uptoBulk d + 1
  | .slice elems spare => uptoBulkAll elems + uptoBulkAll spare + 1
  | .agg parts => uptoBulkAll parts + 1
  | .iface _ d => uptoBulk d + 1
  | .map entries => uptoBulkEntries entries + 1
  | .held _ => 1
def uptoBulkAll {H : Type} : List (DataW H) → Nat
  | [] => 0
  | d :: r => uptoBulk d + uptoBulkAll r
def uptoBulkEntries {H : Type} : List (Lit × DataW H) → Nat
  | [] => 0
  | x :: r => uptoBulkEntry x + uptoBulkEntries r
def uptoBulkEntry {H : Type} : Lit × DataW H → Nat
  | (.string bytes, d) => bytes.length + uptoBulk d + 1
  | (_, d) => uptoBulk d + 1
 end
def uptoSmall : (H : Type) → List (DataW H) → Bool := fun _ ds => decide (uptoBulkAll ds ≤ 1048576)
def OpenSpec.upto (s : _root_.Go.ChangeSpec) : _root_.Go.OpenSpec := { _root_.Go.OpenSpec.ofChange s with cond := some uptoSmall }

/-- 'geodelaw06.TbinReads', WHERE WHAT IT READS IS OF BULK AT MOST 1048576: true; the input reads as it did. -/
def tbinReadsUptoRow : OpenClaim := { program := "ytphmknhlibampaadoor", sum := "e9072f59974bfd5a14e87812125e5b09cce2b182ed55b2740ee684e1f2664b95", func := "geode/geodelaw06.TbinReads", spec := "tbinReads", unfollowed := true, recurses := true, named := ["geode/tbin.heapKinds"], apart := false, laid := [("geode/tbin.heapKinds", laid_geode_tbin_heapKinds)], narrowed := true }
def TbinReadsUptoSaid : Prop := tbinReadsUptoRow.holds Tryd.pinned (OpenSpec.upto tbinReadsSpec)

/-- 'geodelaw06.TbinNone', WHERE WHAT IT READS IS OF BULK AT MOST 1048576: true; the input reads as it did. -/
def tbinNoneUptoRow : OpenClaim := { program := "ytphmknhlibampaadoor", sum := "e9072f59974bfd5a14e87812125e5b09cce2b182ed55b2740ee684e1f2664b95", func := "geode/geodelaw06.TbinNone", spec := "tbinNone", unfollowed := true, recurses := true, named := ["geode/tbin.heapKinds"], apart := false, laid := [("geode/tbin.heapKinds", laid_geode_tbin_heapKinds)], narrowed := true }
def TbinNoneUptoSaid : Prop := tbinNoneUptoRow.holds Tryd.pinned (OpenSpec.upto tbinNoneSpec)

/-- 'geodelaw06.TbinBack', WHERE WHAT IT READS IS OF BULK AT MOST 1048576: true; the input reads as it did. -/
def tbinBackUptoRow : OpenClaim := { program := "ytphmknhlibampaadoor", sum := "e9072f59974bfd5a14e87812125e5b09cce2b182ed55b2740ee684e1f2664b95", func := "geode/geodelaw06.TbinBack", spec := "tbinBack", unfollowed := true, recurses := true, named := ["geode/tbin.heapKinds"], apart := false, laid := [("geode/tbin.heapKinds", laid_geode_tbin_heapKinds)], narrowed := true }
def TbinBackUptoSaid : Prop := tbinBackUptoRow.holds Tryd.pinned (OpenSpec.upto tbinBackSpec)

/-- 'geodelaw06.TbinCut', WHERE WHAT IT READS IS OF BULK AT MOST 1048576: true; the input reads as it did. -/
def tbinCutUptoRow : OpenClaim := { program := "ytphmknhlibampaadoor", sum := "e9072f59974bfd5a14e87812125e5b09cce2b182ed55b2740ee684e1f2664b95", func := "geode/geodelaw06.TbinCut", spec := "tbinCut", unfollowed := true, recurses := true, named := ["geode/tbin.heapKinds"], apart := false, laid := [("geode/tbin.heapKinds", laid_geode_tbin_heapKinds)], narrowed := true }
def TbinCutUptoSaid : Prop := tbinCutUptoRow.holds Tryd.pinned (OpenSpec.upto tbinCutSpec)

/-- 'geodelaw06.TbinFails', WHERE WHAT IT READS IS OF BULK AT MOST 1048576: true; the input reads as it did. -/
def tbinFailsUptoRow : OpenClaim := { program := "ytphmknhlibampaadoor", sum := "e9072f59974bfd5a14e87812125e5b09cce2b182ed55b2740ee684e1f2664b95", func := "geode/geodelaw06.TbinFails", spec := "tbinFails", unfollowed := true, recurses := true, named := ["geode/tbin.heapKinds"], apart := false, laid := [("geode/tbin.heapKinds", laid_geode_tbin_heapKinds)], narrowed := true }
def TbinFailsUptoSaid : Prop := tbinFailsUptoRow.holds Tryd.pinned (OpenSpec.upto tbinFailsSpec)

end Rows
end Go.Proofs.YtphmknhlibampaaDoor

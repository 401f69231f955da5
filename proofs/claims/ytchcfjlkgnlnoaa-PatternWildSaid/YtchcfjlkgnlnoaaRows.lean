/-
  NARROWER THAN 'FOR EVERY INPUT', by the rows' own cells (each row's printed sentence says how): PatternTests: loops · PatternWild: loops.
  DERIVED. THE GIVEN ROWS OF THIS SEAT. 6 by the template 'for every input the law returns true; each argument reads behind the call as it read before'; 0 by the template 'total and deterministic' (their statements: YtchcfjlkgnlnoaaTotals.lean).
  GIVEN WITH THE SEED: the statements are not yours to turn. If you find one false, say at which input.
  Laid BY PROGRAM, IN A SANDBOX (cutbox-rows.mjs): the forced cells as the released guide's own fill.sh prints them over the translation 989d610eff7d3c5b… (all of the seat's roots in one cut). By AI agents, Wed Nov 11 2026. No macro, syntax, notation, axiom, sorry.
-/
import Derived.Test.YtchcfjlkgnlnoaaChecked
import GoSem.Claim
import GoSem.ClaimJoined
import GoSem.ClaimMapViews
import Derived.JoinedTies
import Derived.KernelRfl
namespace Go.Proofs.Ytchcfjlkgnlnoaa
/- THE CELL 'sum', in the pinned program and in every row, IS THE sha256 OF THE DUMP (.gsa) THAT YtchcfjlkgnlnoaaProg.lean LOADS. Nothing in Lean hashes anything: it is a label: what it is worth is what the hold of that sum in a sandbox is worth. -/
noncomputable def Try.pinned : Pinned := { name := "ytchcfjlkgnlnoaa", sum := "989d610eff7d3c5bd669468f2d8d08c3246bca1cfdc029770ee7e25eab7c8dcc", checked := Try.checked }
namespace Rows
def none {H : Type} : Left H := { results := [], args := [] }

/-- 'postbaglaw17.PatternTests': WHATEVER THE INPUT: true; the input reads as it did. -/
def patternTestsSpec : ChangeSpec := { name := "patternTests", fn := fun _ => fun
  | [d1, d2, d3, d4] => { results := [.lit (.bool true)], args := [d1, d2, d3, d4] }
  | _ => none }
def patternTestsRow : OpenClaim := { program := "ytchcfjlkgnlnoaa", sum := "989d610eff7d3c5bd669468f2d8d08c3246bca1cfdc029770ee7e25eab7c8dcc", func := "postbag/postbaglaw17.PatternTests", spec := "patternTests", unfollowed := true, recurses := true, loops := true, plainKeys := false, apart := false }
def PatternTestsSaid : Prop := patternTestsRow.holds Try.pinned (OpenSpec.ofChange patternTestsSpec)

/-- ITS FALSE NEIGHBOUR: 'it returns false'. Refute it at one input. -/
def patternTestsWrong : ChangeSpec := { name := "patternTests", fn := fun _ => fun
  | [d1, d2, d3, d4] => { results := [.lit (.bool false)], args := [d1, d2, d3, d4] }
  | _ => none }
def PatternTestsWrongFalsely : Prop := patternTestsRow.holds Try.pinned (OpenSpec.ofChange patternTestsWrong)

/-- 'postbaglaw17.PatternWild': WHATEVER THE INPUT: true; the input reads as it did. -/
def patternWildSpec : ChangeSpec := { name := "patternWild", fn := fun _ => fun
  | [d1, d2] => { results := [.lit (.bool true)], args := [d1, d2] }
  | _ => none }
def patternWildRow : OpenClaim := { program := "ytchcfjlkgnlnoaa", sum := "989d610eff7d3c5bd669468f2d8d08c3246bca1cfdc029770ee7e25eab7c8dcc", func := "postbag/postbaglaw17.PatternWild", spec := "patternWild", unfollowed := true, recurses := true, loops := true, plainKeys := false, apart := false }
def PatternWildSaid : Prop := patternWildRow.holds Try.pinned (OpenSpec.ofChange patternWildSpec)

/-- ITS FALSE NEIGHBOUR: 'it returns false'. Refute it at one input. -/
def patternWildWrong : ChangeSpec := { name := "patternWild", fn := fun _ => fun
  | [d1, d2] => { results := [.lit (.bool false)], args := [d1, d2] }
  | _ => none }
def PatternWildWrongFalsely : Prop := patternWildRow.holds Try.pinned (OpenSpec.ofChange patternWildWrong)

/-- 'postbaglaw18.ScanAssigns': WHATEVER THE INPUT: true; the input reads as it did. -/
def scanAssignsSpec : ChangeSpec := { name := "scanAssigns", fn := fun _ => fun
  | [d1, d2] => { results := [.lit (.bool true)], args := [d1, d2] }
  | _ => none }
def scanAssignsRow : OpenClaim := { program := "ytchcfjlkgnlnoaa", sum := "989d610eff7d3c5bd669468f2d8d08c3246bca1cfdc029770ee7e25eab7c8dcc", func := "postbag/postbaglaw18.ScanAssigns", spec := "scanAssigns", unfollowed := true, recurses := true, plainKeys := false, apart := false }
def ScanAssignsSaid : Prop := scanAssignsRow.holds Try.pinned (OpenSpec.ofChange scanAssignsSpec)

/-- ITS FALSE NEIGHBOUR: 'it returns false'. Refute it at one input. -/
def scanAssignsWrong : ChangeSpec := { name := "scanAssigns", fn := fun _ => fun
  | [d1, d2] => { results := [.lit (.bool false)], args := [d1, d2] }
  | _ => none }
def ScanAssignsWrongFalsely : Prop := scanAssignsRow.holds Try.pinned (OpenSpec.ofChange scanAssignsWrong)

/-- 'postbaglaw18.ScanApart': WHATEVER THE INPUT: true; the input reads as it did. -/
def scanApartSpec : ChangeSpec := { name := "scanApart", fn := fun _ => fun
  | [d1, d2] => { results := [.lit (.bool true)], args := [d1, d2] }
  | _ => none }
def scanApartRow : OpenClaim := { program := "ytchcfjlkgnlnoaa", sum := "989d610eff7d3c5bd669468f2d8d08c3246bca1cfdc029770ee7e25eab7c8dcc", func := "postbag/postbaglaw18.ScanApart", spec := "scanApart", unfollowed := true, recurses := true, plainKeys := false, apart := false }
def ScanApartSaid : Prop := scanApartRow.holds Try.pinned (OpenSpec.ofChange scanApartSpec)

/-- ITS FALSE NEIGHBOUR: 'it returns false'. Refute it at one input. -/
def scanApartWrong : ChangeSpec := { name := "scanApart", fn := fun _ => fun
  | [d1, d2] => { results := [.lit (.bool false)], args := [d1, d2] }
  | _ => none }
def ScanApartWrongFalsely : Prop := scanApartRow.holds Try.pinned (OpenSpec.ofChange scanApartWrong)

/-- 'postbaglaw18.ScanFew': WHATEVER THE INPUT: true; the input reads as it did. -/
def scanFewSpec : ChangeSpec := { name := "scanFew", fn := fun _ => fun
  | [d1, d2] => { results := [.lit (.bool true)], args := [d1, d2] }
  | _ => none }
def scanFewRow : OpenClaim := { program := "ytchcfjlkgnlnoaa", sum := "989d610eff7d3c5bd669468f2d8d08c3246bca1cfdc029770ee7e25eab7c8dcc", func := "postbag/postbaglaw18.ScanFew", spec := "scanFew", unfollowed := true, recurses := true, plainKeys := false, apart := false }
def ScanFewSaid : Prop := scanFewRow.holds Try.pinned (OpenSpec.ofChange scanFewSpec)

/-- ITS FALSE NEIGHBOUR: 'it returns false'. Refute it at one input. -/
def scanFewWrong : ChangeSpec := { name := "scanFew", fn := fun _ => fun
  | [d1, d2] => { results := [.lit (.bool false)], args := [d1, d2] }
  | _ => none }
def ScanFewWrongFalsely : Prop := scanFewRow.holds Try.pinned (OpenSpec.ofChange scanFewWrong)

/-- 'postbaglaw18.ScanNone': WHATEVER THE INPUT: true; the input reads as it did. -/
def scanNoneSpec : ChangeSpec := { name := "scanNone", fn := fun _ => fun
  | [d] => { results := [.lit (.bool true)], args := [d] }
  | _ => none }
def scanNoneRow : OpenClaim := { program := "ytchcfjlkgnlnoaa", sum := "989d610eff7d3c5bd669468f2d8d08c3246bca1cfdc029770ee7e25eab7c8dcc", func := "postbag/postbaglaw18.ScanNone", spec := "scanNone", unfollowed := true, recurses := true, plainKeys := false, apart := false }
def ScanNoneSaid : Prop := scanNoneRow.holds Try.pinned (OpenSpec.ofChange scanNoneSpec)

/-- ITS FALSE NEIGHBOUR: 'it returns false'. Refute it at one input. -/
def scanNoneWrong : ChangeSpec := { name := "scanNone", fn := fun _ => fun
  | [d] => { results := [.lit (.bool false)], args := [d] }
  | _ => none }
def ScanNoneWrongFalsely : Prop := scanNoneRow.holds Try.pinned (OpenSpec.ofChange scanNoneWrong)

/- THE SECOND FORM. 'bulk': how many values and letters a reading holds, each counted each time it is reached (what is shared counts as often as it is met; a slice's spare places count too). A statement '..UptoSaid' is the law's where the arguments, and the package variables that the reading takes, are together of bulk at most 1048576: NARROWER than '..Said'. Prove '..Said' where nothing that the law and all that it calls make is longer than what came in: it says more and counts as full. Else prove '..UptoSaid'. A law counts once. -/
mutual
def uptoBulk {H : Type} : DataW H → Nat
  | .lit (.string bytes) => bytes.length + 1
  | .lit _ => 1
  | .nil => 1
  | .ptr d => uptoBulk d + 1
  | .slice elems spare => uptoBulkAll elems + uptoBulkAll spare + 1
  | .agg parts => uptoBulkAll parts + 1
  | .iface _ d => uptoBulk d + 1
  | .map entries => uptoBulkEntries entries + 1
  | .held _ => 1
def uptoBulkAll {H : Type} : List (DataW H) → Nat
  | [] => 0
  | d :: r => uptoBulk d + uptoBulkAll r
def uptoBulkEntries {H : Type} : List (Lit × DataW H) → Nat
  | [] => 0
  | x :: r => uptoBulkEntry x + uptoBulkEntries r
def uptoBulkEntry {H : Type} : Lit × DataW H → Nat
  | (.string bytes, d) => bytes.length + uptoBulk d + 1
  | (_, d) => uptoBulk d + 1
 end
def uptoSmall : (H : Type) → List (DataW H) → Bool := fun _ ds => decide (uptoBulkAll ds ≤ 1048576)
def OpenSpec.upto (s : _root_.Go.ChangeSpec) : _root_.Go.OpenSpec := { _root_.Go.OpenSpec.ofChange s with cond := some uptoSmall }

/-- 'postbaglaw17.PatternTests', WHERE WHAT IT READS IS OF BULK AT MOST 1048576: true; the input reads as it did. -/
def patternTestsUptoRow : OpenClaim := { program := "ytchcfjlkgnlnoaa", sum := "989d610eff7d3c5bd669468f2d8d08c3246bca1cfdc029770ee7e25eab7c8dcc", func := "postbag/postbaglaw17.PatternTests", spec := "patternTests", unfollowed := true, recurses := true, loops := true, plainKeys := false, apart := false, narrowed := true }
def PatternTestsUptoSaid : Prop := patternTestsUptoRow.holds Try.pinned (OpenSpec.upto patternTestsSpec)

/-- 'postbaglaw17.PatternWild', WHERE WHAT IT READS IS OF BULK AT MOST 1048576: true; the input reads as it did. -/
def patternWildUptoRow : OpenClaim := { program := "ytchcfjlkgnlnoaa", sum := "989d610eff7d3c5bd669468f2d8d08c3246bca1cfdc029770ee7e25eab7c8dcc", func := "postbag/postbaglaw17.PatternWild", spec := "patternWild", unfollowed := true, recurses := true, loops := true, plainKeys := false, apart := false, narrowed := true }
def PatternWildUptoSaid : Prop := patternWildUptoRow.holds Try.pinned (OpenSpec.upto patternWildSpec)

/-- 'postbaglaw18.ScanAssigns', WHERE WHAT IT READS IS OF BULK AT MOST 1048576: true; the input reads as it did. -/
def scanAssignsUptoRow : OpenClaim := { program := "ytchcfjlkgnlnoaa", sum := "989d610eff7d3c5bd669468f2d8d08c3246bca1cfdc029770ee7e25eab7c8dcc", func := "postbag/postbaglaw18.ScanAssigns", spec := "scanAssigns", unfollowed := true, recurses := true, plainKeys := false, apart := false, narrowed := true }
def ScanAssignsUptoSaid : Prop := scanAssignsUptoRow.holds Try.pinned (OpenSpec.upto scanAssignsSpec)

/-- 'postbaglaw18.ScanApart', WHERE WHAT IT READS IS OF BULK AT MOST 1048576: true; the input reads as it did. -/
def scanApartUptoRow : OpenClaim := { program := "ytchcfjlkgnlnoaa", sum := "989d610eff7d3c5bd669468f2d8d08c3246bca1cfdc029770ee7e25eab7c8dcc", func := "postbag/postbaglaw18.ScanApart", spec := "scanApart", unfollowed := true, recurses := true, plainKeys := false, apart := false, narrowed := true }
def ScanApartUptoSaid : Prop := scanApartUptoRow.holds Try.pinned (OpenSpec.upto scanApartSpec)

/-- 'postbaglaw18.ScanFew', WHERE WHAT IT READS IS OF BULK AT MOST 1048576: true; the input reads as it did. -/
def scanFewUptoRow : OpenClaim := { program := "ytchcfjlkgnlnoaa", sum := "989d610eff7d3c5bd669468f2d8d08c3246bca1cfdc029770ee7e25eab7c8dcc", func := "postbag/postbaglaw18.ScanFew", spec := "scanFew", unfollowed := true, recurses := true, plainKeys := false, apart := false, narrowed := true }
def ScanFewUptoSaid : Prop := scanFewUptoRow.holds Try.pinned (OpenSpec.upto scanFewSpec)

/-- 'postbaglaw18.ScanNone', WHERE WHAT IT READS IS OF BULK AT MOST 1048576: true; the input reads as it did. -/
def scanNoneUptoRow : OpenClaim := { program := "ytchcfjlkgnlnoaa", sum := "989d610eff7d3c5bd669468f2d8d08c3246bca1cfdc029770ee7e25eab7c8dcc", func := "postbag/postbaglaw18.ScanNone", spec := "scanNone", unfollowed := true, recurses := true, plainKeys := false, apart := false, narrowed := true }
def ScanNoneUptoSaid : Prop := scanNoneUptoRow.holds Try.pinned (OpenSpec.upto scanNoneSpec)

end Rows
end Go.Proofs.Ytchcfjlkgnlnoaa

/-
  NARROWER THAN 'FOR EVERY INPUT', by the rows' own cells (each row's printed sentence says how): CodeAssembles: laid · CodeParts: laid.
  DERIVED. THE GIVEN ROWS OF THIS SEAT. 2 by the template 'for every input the law returns true; each argument reads behind the call as it read before'; 0 by the template 'total and deterministic' (their statements: YtnooabgdcfegeaaDoorTotals.lean).
  GIVEN WITH THE SEED: the statements are not yours to turn. If you find one false, say at which input.
  Laid BY PROGRAM, IN A SANDBOX (cutbox-rows.mjs): the forced cells as the released guide's own fill.sh prints them over the translation f23214d8308062c0… (all of the seat's roots in one cut). By AI agents, Wed Nov 11 2026. No macro, syntax, notation, axiom, sorry.
-/
import Derived.Test.YtnooabgdcfegeaaDoorChecked
import GoSem.Claim
import GoSem.ClaimJoined
import GoSem.ClaimMapViews
import Derived.JoinedTies
import Derived.KernelRfl
namespace Go.Proofs.YtnooabgdcfegeaaDoor
/- THE CELL 'sum', in the pinned program and in every row, IS THE sha256 OF THE DUMP (.gsa) THAT YtnooabgdcfegeaaDoorProg.lean LOADS. Nothing in Lean hashes anything: it is a label: what it is worth is what the hold of that sum in a sandbox is worth. -/
noncomputable def Tryd.pinned : Pinned := { name := "ytnooabgdcfegeaadoor", sum := "f23214d8308062c06e0229d4e55acb483ce704f6c992977a6b540935912e27c1", checked := Tryd.checked }
namespace Rows
def none {H : Type} : Left H := { results := [], args := [] }

/- WHAT THE LISTED PACKAGE-LEVEL VARIABLES READ AS WHEN THE CALL BEGINS. Each datum BY PROGRAM (the guide's laid-datum.mjs) off the statement by which the dump's own 'gosem.cut.vars' lays the variable. In a bare row this is a premise. The card (YtnooabgdcfegeaaDoorCards.lean) ties it to the program's text. -/
def laid_postbag_inst_codes {H : Type} : DataW H := .agg [.lit (.int .u32 0), .lit (.int .u32 1273856), .lit (.int .u32 1142784), .lit (.int .u32 2551808), .lit (.int .u32 3567616), .lit (.int .u32 4599808), .lit (.int .u32 4600064), .lit (.int .u32 4600832), .lit (.int .u32 4601088), .lit (.int .u32 4601344), .lit (.int .u32 4601600), .lit (.int .u32 3158016), .lit (.int .u32 3158272), .lit (.int .u32 3158528), .lit (.int .u32 3158784), .lit (.int .u32 3159040), .lit (.int .u32 3159296), .lit (.int .u32 3159552), .lit (.int .u32 5386240), .lit (.int .u32 5386496), .lit (.int .u32 5386752), .lit (.int .u32 5387008), .lit (.int .u32 3223552), .lit (.int .u32 3224064), .lit (.int .u32 3224320), .lit (.int .u32 3224576), .lit (.int .u32 3225088), .lit (.int .u32 3225344), .lit (.int .u32 6369536), .lit (.int .u32 6370560), .lit (.int .u32 6370592), .lit (.int .u32 8597504), .lit (.int .u32 8597536), .lit (.int .u32 8597760), .lit (.int .u32 8598016), .lit (.int .u32 8598272), .lit (.int .u32 8598528), .lit (.int .u32 8598784), .lit (.int .u32 8598816), .lit (.int .u32 8599040), .lit (.int .u32 8599296), .lit (.int .u32 3256320), .lit (.int .u32 7450880), .lit (.int .u32 7451904), .lit (.int .u32 7451936), .lit (.int .u32 8630272), .lit (.int .u32 8630304), .lit (.int .u32 8630528), .lit (.int .u32 8631552), .lit (.int .u32 8631584), .lit (.int .u32 9498624), .lit (.int .u32 10956800), .lit (.int .u32 10956801), .lit (.int .u32 8597505), .lit (.int .u32 8597761), .lit (.int .u32 8598017), .lit (.int .u32 8598273), .lit (.int .u32 8598529), .lit (.int .u32 8598785), .lit (.int .u32 8599041), .lit (.int .u32 8599297), .lit (.int .u32 8630273), .lit (.int .u32 8631297), .lit (.int .u32 8631553), .lit (.int .u32 8631809), .lit (.int .u32 8632065), .lit (.int .u32 11727362), .lit (.int .u32 12775939), .lit (.int .u32 12775937), .lit (.int .u32 12775936), .lit (.int .u32 12775940), .lit (.int .u32 12775948), .lit (.int .u32 12775944), .lit (.int .u32 12775952), .lit (.int .u32 12775956), .lit (.int .u32 12775960), .lit (.int .u32 12775964), .lit (.int .u32 11727618), .lit (.int .u32 12776195), .lit (.int .u32 12776193), .lit (.int .u32 12776192), .lit (.int .u32 12776196), .lit (.int .u32 12776204), .lit (.int .u32 12776200), .lit (.int .u32 12776208), .lit (.int .u32 12776212), .lit (.int .u32 12776216), .lit (.int .u32 12776220)]

/-- 'postbaglaw19.CodeAssembles': WHATEVER THE INPUT: true; the input reads as it did. -/
def codeAssemblesSpec : ChangeSpec := { name := "codeAssembles", fn := fun _ => fun
  | [d1, d2] => { results := [.lit (.bool true)], args := [d1, d2] }
  | _ => none }
def codeAssemblesRow : OpenClaim := { program := "ytnooabgdcfegeaadoor", sum := "f23214d8308062c06e0229d4e55acb483ce704f6c992977a6b540935912e27c1", func := "postbag/postbaglaw19.CodeAssembles", spec := "codeAssembles", unfollowed := true, recurses := true, named := ["postbag/inst.codes"], apart := false, laid := [("postbag/inst.codes", laid_postbag_inst_codes)] }
def CodeAssemblesSaid : Prop := codeAssemblesRow.holds Tryd.pinned (OpenSpec.ofChange codeAssemblesSpec)

/-- ITS FALSE NEIGHBOUR: 'it returns false'. Refute it at one input. -/
def codeAssemblesWrong : ChangeSpec := { name := "codeAssembles", fn := fun _ => fun
  | [d1, d2] => { results := [.lit (.bool false)], args := [d1, d2] }
  | _ => none }
def CodeAssemblesWrongFalsely : Prop := codeAssemblesRow.holds Tryd.pinned (OpenSpec.ofChange codeAssemblesWrong)

/-- 'postbaglaw19.CodeParts': WHATEVER THE INPUT: true; the input reads as it did. -/
def codePartsSpec : ChangeSpec := { name := "codeParts", fn := fun _ => fun
  | [d1, d2, d3] => { results := [.lit (.bool true)], args := [d1, d2, d3] }
  | _ => none }
def codePartsRow : OpenClaim := { program := "ytnooabgdcfegeaadoor", sum := "f23214d8308062c06e0229d4e55acb483ce704f6c992977a6b540935912e27c1", func := "postbag/postbaglaw19.CodeParts", spec := "codeParts", unfollowed := true, recurses := true, named := ["postbag/inst.codes"], apart := false, laid := [("postbag/inst.codes", laid_postbag_inst_codes)] }
def CodePartsSaid : Prop := codePartsRow.holds Tryd.pinned (OpenSpec.ofChange codePartsSpec)

/-- ITS FALSE NEIGHBOUR: 'it returns false'. Refute it at one input. -/
def codePartsWrong : ChangeSpec := { name := "codeParts", fn := fun _ => fun
  | [d1, d2, d3] => { results := [.lit (.bool false)], args := [d1, d2, d3] }
  | _ => none }
def CodePartsWrongFalsely : Prop := codePartsRow.holds Tryd.pinned (OpenSpec.ofChange codePartsWrong)

/- THE SECOND FORM. 'bulk': how many values and letters a reading holds, each counted each time it is reached (what is shared counts as often as it is met; a slice's spare places count too). A statement '..UptoSaid' is the law's where the arguments, and the package variables that the reading takes, are together of bulk at most 1048576: NARROWER than '..Said'. Prove '..Said' where nothing that the law and all that it calls make is longer than what came in: it says more and counts as full. Else prove '..UptoSaid'. A law counts once. -/
mutual
def uptoBulk {H : Type} : DataW H → Nat
  | .lit (.string bytes) => bytes.length + 1
  | .lit _ => 1
  | .nil => 1
  | .ptr d => uptoBulk d + 1
  | .slice elems spare => uptoBulkAll elems + uptoBulkAll spare + 1
  | .agg parts => uptoBulkAll parts + 1
  | .iface _ d => uptoBulk d + 1
  | .map entries => uptoBulkEntries entries + 1
  | .held _ => 1
def uptoBulkAll {H : Type} : List (DataW H) → Nat
  | [] => 0
  | d :: r => uptoBulk d + uptoBulkAll r
def uptoBulkEntries {H : Type} : List (Lit × DataW H) → Nat
  | [] => 0
  | x :: r => uptoBulkEntry x + uptoBulkEntries r
def uptoBulkEntry {H : Type} : Lit × DataW H → Nat
  | (.string bytes, d) => bytes.length + uptoBulk d + 1
  | (_, d) => uptoBulk d + 1
 end
def uptoSmall : (H : Type) → List (DataW H) → Bool := fun _ ds => decide (uptoBulkAll ds ≤ 1048576)
def OpenSpec.upto (s : _root_.Go.ChangeSpec) : _root_.Go.OpenSpec := { _root_.Go.OpenSpec.ofChange s with cond := some uptoSmall }

/-- 'postbaglaw19.CodeAssembles', WHERE WHAT IT READS IS OF BULK AT MOST 1048576: true; the input reads as it did. -/
def codeAssemblesUptoRow : OpenClaim := { program := "ytnooabgdcfegeaadoor", sum := "f23214d8308062c06e0229d4e55acb483ce704f6c992977a6b540935912e27c1", func := "postbag/postbaglaw19.CodeAssembles", spec := "codeAssembles", unfollowed := true, recurses := true, named := ["postbag/inst.codes"], apart := false, laid := [("postbag/inst.codes", laid_postbag_inst_codes)], narrowed := true }
def CodeAssemblesUptoSaid : Prop := codeAssemblesUptoRow.holds Tryd.pinned (OpenSpec.upto codeAssemblesSpec)

/-- 'postbaglaw19.CodeParts', WHERE WHAT IT READS IS OF BULK AT MOST 1048576: true; the input reads as it did. -/
def codePartsUptoRow : OpenClaim := { program := "ytnooabgdcfegeaadoor", sum := "f23214d8308062c06e0229d4e55acb483ce704f6c992977a6b540935912e27c1", func := "postbag/postbaglaw19.CodeParts", spec := "codeParts", unfollowed := true, recurses := true, named := ["postbag/inst.codes"], apart := false, laid := [("postbag/inst.codes", laid_postbag_inst_codes)], narrowed := true }
def CodePartsUptoSaid : Prop := codePartsUptoRow.holds Tryd.pinned (OpenSpec.upto codePartsSpec)

end Rows
end Go.Proofs.YtnooabgdcfegeaaDoor

/-
  NARROWER THAN 'FOR EVERY INPUT', by the rows' own cells (each row's printed sentence says how): HartSteps: laid · HartRuns: laid.
  DERIVED. THE GIVEN ROWS OF THIS SEAT. 2 by the template 'for every input the law returns true; each argument reads behind the call as it read before'; 0 by the template 'total and deterministic' (their statements: YtgpdpaljbiclkaaGreatDoorTotals.lean).
  GIVEN WITH THE SEED: the statements are not yours to turn. If you find one false, say at which input.
  Laid BY PROGRAM, IN A SANDBOX (cutbox-rows.mjs): the forced cells as the released guide's own fill.sh prints them over the translation 582f2d3ef6d54180… (all of the seat's roots in one cut). By AI agents, Wed Nov 11 2026. No macro, syntax, notation, axiom, sorry.
-/
import Derived.Test.YtgpdpaljbiclkaaGreatDoorChecked
import GoSem.Claim
import GoSem.ClaimJoined
import GoSem.ClaimMapViews
import Derived.JoinedTies
import Derived.KernelRfl
namespace Go.Proofs.YtgpdpaljbiclkaaGreatDoor
/- THE CELL 'sum', in the pinned program and in every row, IS THE sha256 OF THE DUMP (.gsa) THAT YtgpdpaljbiclkaaGreatDoorProg.lean LOADS. Nothing in Lean hashes anything: it is a label: what it is worth is what the hold of that sum in a sandbox is worth. -/
noncomputable def Tryz.pinned : Pinned := { name := "ytgpdpaljbiclkaagreatdoor", sum := "582f2d3ef6d5418013f385575b8229f816996720cc3485af412ab061d7482d22", checked := Tryz.checked }
namespace Rows
def none {H : Type} : Left H := { results := [], args := [] }

/- WHAT THE LISTED PACKAGE-LEVEL VARIABLES READ AS WHEN THE CALL BEGINS. Each datum BY PROGRAM (the guide's laid-datum.mjs) off the statement by which the dump's own 'gosem.cut.vars' lays the variable. In a bare row this is a premise. The card (YtgpdpaljbiclkaaGreatDoorCards.lean) ties it to the program's text. -/
def laid_postbag_inst_codes {H : Type} : DataW H := .agg [.lit (.int .u32 0), .lit (.int .u32 1273856), .lit (.int .u32 1142784), .lit (.int .u32 2551808), .lit (.int .u32 3567616), .lit (.int .u32 4599808), .lit (.int .u32 4600064), .lit (.int .u32 4600832), .lit (.int .u32 4601088), .lit (.int .u32 4601344), .lit (.int .u32 4601600), .lit (.int .u32 3158016), .lit (.int .u32 3158272), .lit (.int .u32 3158528), .lit (.int .u32 3158784), .lit (.int .u32 3159040), .lit (.int .u32 3159296), .lit (.int .u32 3159552), .lit (.int .u32 5386240), .lit (.int .u32 5386496), .lit (.int .u32 5386752), .lit (.int .u32 5387008), .lit (.int .u32 3223552), .lit (.int .u32 3224064), .lit (.int .u32 3224320), .lit (.int .u32 3224576), .lit (.int .u32 3225088), .lit (.int .u32 3225344), .lit (.int .u32 6369536), .lit (.int .u32 6370560), .lit (.int .u32 6370592), .lit (.int .u32 8597504), .lit (.int .u32 8597536), .lit (.int .u32 8597760), .lit (.int .u32 8598016), .lit (.int .u32 8598272), .lit (.int .u32 8598528), .lit (.int .u32 8598784), .lit (.int .u32 8598816), .lit (.int .u32 8599040), .lit (.int .u32 8599296), .lit (.int .u32 3256320), .lit (.int .u32 7450880), .lit (.int .u32 7451904), .lit (.int .u32 7451936), .lit (.int .u32 8630272), .lit (.int .u32 8630304), .lit (.int .u32 8630528), .lit (.int .u32 8631552), .lit (.int .u32 8631584), .lit (.int .u32 9498624), .lit (.int .u32 10956800), .lit (.int .u32 10956801), .lit (.int .u32 8597505), .lit (.int .u32 8597761), .lit (.int .u32 8598017), .lit (.int .u32 8598273), .lit (.int .u32 8598529), .lit (.int .u32 8598785), .lit (.int .u32 8599041), .lit (.int .u32 8599297), .lit (.int .u32 8630273), .lit (.int .u32 8631297), .lit (.int .u32 8631553), .lit (.int .u32 8631809), .lit (.int .u32 8632065), .lit (.int .u32 11727362), .lit (.int .u32 12775939), .lit (.int .u32 12775937), .lit (.int .u32 12775936), .lit (.int .u32 12775940), .lit (.int .u32 12775948), .lit (.int .u32 12775944), .lit (.int .u32 12775952), .lit (.int .u32 12775956), .lit (.int .u32 12775960), .lit (.int .u32 12775964), .lit (.int .u32 11727618), .lit (.int .u32 12776195), .lit (.int .u32 12776193), .lit (.int .u32 12776192), .lit (.int .u32 12776196), .lit (.int .u32 12776204), .lit (.int .u32 12776200), .lit (.int .u32 12776208), .lit (.int .u32 12776212), .lit (.int .u32 12776216), .lit (.int .u32 12776220)]

/-- 'postbaglaw06.HartSteps': WHATEVER THE INPUT: true; the input reads as it did. -/
def hartStepsSpec : ChangeSpec := { name := "hartSteps", fn := fun _ => fun
  | [d1, d2, d3, d4] => { results := [.lit (.bool true)], args := [d1, d2, d3, d4] }
  | _ => none }
def hartStepsRow : OpenClaim := { program := "ytgpdpaljbiclkaagreatdoor", sum := "582f2d3ef6d5418013f385575b8229f816996720cc3485af412ab061d7482d22", func := "postbag/postbaglaw06.HartSteps", spec := "hartSteps", unfollowed := true, recurses := true, named := ["postbag/inst.codes"], apart := false, laid := [("postbag/inst.codes", laid_postbag_inst_codes)] }
def HartStepsSaid : Prop := hartStepsRow.holds Tryz.pinned (OpenSpec.ofChange hartStepsSpec)

/-- ITS FALSE NEIGHBOUR: 'it returns false'. Refute it at one input. -/
def hartStepsWrong : ChangeSpec := { name := "hartSteps", fn := fun _ => fun
  | [d1, d2, d3, d4] => { results := [.lit (.bool false)], args := [d1, d2, d3, d4] }
  | _ => none }
def HartStepsWrongFalsely : Prop := hartStepsRow.holds Tryz.pinned (OpenSpec.ofChange hartStepsWrong)

/-- 'postbaglaw06.HartRuns': WHATEVER THE INPUT: true; the input reads as it did. -/
def hartRunsSpec : ChangeSpec := { name := "hartRuns", fn := fun _ => fun
  | [d1, d2, d3, d4] => { results := [.lit (.bool true)], args := [d1, d2, d3, d4] }
  | _ => none }
def hartRunsRow : OpenClaim := { program := "ytgpdpaljbiclkaagreatdoor", sum := "582f2d3ef6d5418013f385575b8229f816996720cc3485af412ab061d7482d22", func := "postbag/postbaglaw06.HartRuns", spec := "hartRuns", unfollowed := true, recurses := true, named := ["postbag/inst.codes"], apart := false, laid := [("postbag/inst.codes", laid_postbag_inst_codes)] }
def HartRunsSaid : Prop := hartRunsRow.holds Tryz.pinned (OpenSpec.ofChange hartRunsSpec)

/-- ITS FALSE NEIGHBOUR: 'it returns false'. Refute it at one input. -/
def hartRunsWrong : ChangeSpec := { name := "hartRuns", fn := fun _ => fun
  | [d1, d2, d3, d4] => { results := [.lit (.bool false)], args := [d1, d2, d3, d4] }
  | _ => none }
def HartRunsWrongFalsely : Prop := hartRunsRow.holds Tryz.pinned (OpenSpec.ofChange hartRunsWrong)

/- THE SECOND FORM. 'bulk': how many values and letters a reading holds, each counted each time it is reached (what is shared counts as often as it is met; a slice's spare places count too). A statement '..UptoSaid' is the law's where the arguments, and the package variables that the reading takes, are together of bulk at most 1048576: NARROWER than '..Said'. Prove '..Said' where nothing that the law and all that it calls make is longer than what came in: it says more and counts as full. Else prove '..UptoSaid'. A law counts once. -/
mutual
def uptoBulk {H : Type} : DataW H → Nat
  | .lit (.string bytes) => bytes.length + 1
  | .lit _ => 1
  | .nil => 1
  | .ptr d => uptoBulk d + 1
  | .slice elems spare => uptoBulkAll elems + uptoBulkAll spare + 1
  | .agg parts => uptoBulkAll parts + 1
  | .iface _ d => uptoBulk d + 1
  | .map entries => uptoBulkEntries entries + 1
  | .held _ => 1
def uptoBulkAll {H : Type} : List (DataW H) → Nat
  | [] => 0
  | d :: r => uptoBulk d + uptoBulkAll r
def uptoBulkEntries {H : Type} : List (Lit × DataW H) → Nat
  | [] => 0
  | x :: r => uptoBulkEntry x + uptoBulkEntries r
def uptoBulkEntry {H : Type} : Lit × DataW H → Nat
  | (.string bytes, d) => bytes.length + uptoBulk d + 1
  | (_, d) => uptoBulk d + 1
 end
def uptoSmall : (H : Type) → List (DataW H) → Bool := fun _ ds => decide (uptoBulkAll ds ≤ 1048576)
def OpenSpec.upto (s : _root_.Go.ChangeSpec) : _root_.Go.OpenSpec := { _root_.Go.OpenSpec.ofChange s with cond := some uptoSmall }

/-- 'postbaglaw06.HartSteps', WHERE WHAT IT READS IS OF BULK AT MOST 1048576: true; the input reads as it did. -/
def hartStepsUptoRow : OpenClaim := { program := "ytgpdpaljbiclkaagreatdoor", sum := "582f2d3ef6d5418013f385575b8229f816996720cc3485af412ab061d7482d22", func := "postbag/postbaglaw06.HartSteps", spec := "hartSteps", unfollowed := true, recurses := true, named := ["postbag/inst.codes"], apart := false, laid := [("postbag/inst.codes", laid_postbag_inst_codes)], narrowed := true }
def HartStepsUptoSaid : Prop := hartStepsUptoRow.holds Tryz.pinned (OpenSpec.upto hartStepsSpec)

/-- 'postbaglaw06.HartRuns', WHERE WHAT IT READS IS OF BULK AT MOST 1048576: true; the input reads as it did. -/
def hartRunsUptoRow : OpenClaim := { program := "ytgpdpaljbiclkaagreatdoor", sum := "582f2d3ef6d5418013f385575b8229f816996720cc3485af412ab061d7482d22", func := "postbag/postbaglaw06.HartRuns", spec := "hartRuns", unfollowed := true, recurses := true, named := ["postbag/inst.codes"], apart := false, laid := [("postbag/inst.codes", laid_postbag_inst_codes)], narrowed := true }
def HartRunsUptoSaid : Prop := hartRunsUptoRow.holds Tryz.pinned (OpenSpec.upto hartRunsSpec)

end Rows
end Go.Proofs.YtgpdpaljbiclkaaGreatDoor

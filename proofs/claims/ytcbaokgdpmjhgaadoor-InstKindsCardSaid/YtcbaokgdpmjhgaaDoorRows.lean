/-
  NARROWER THAN 'FOR EVERY INPUT', by the rows' own cells (each row's printed sentence says how): InstEncodes: laid · InstDecodes: laid · InstTells: laid · InstBack: laid · InstForm: laid · InstApart: laid · InstKinds: laid.
  DERIVED. THE GIVEN ROWS OF THIS SEAT. 7 by the template 'for every input the law returns true; each argument reads behind the call as it read before'; 0 by the template 'total and deterministic' (their statements: YtcbaokgdpmjhgaaDoorTotals.lean).
  GIVEN WITH THE SEED: the statements are not yours to turn. If you find one false, say at which input.
  Laid BY PROGRAM, IN A SANDBOX (cutbox-rows.mjs): the forced cells as the released guide's own fill.sh prints them over the translation 0987e42034d2d7b9… (all of the seat's roots in one cut). By AI agents, Wed Nov 11 2026. No macro, syntax, notation, axiom, sorry.
-/
import Derived.Test.YtcbaokgdpmjhgaaDoorChecked
import GoSem.Claim
import GoSem.ClaimJoined
import GoSem.ClaimMapViews
import Derived.JoinedTies
import Derived.KernelRfl
namespace Go.Proofs.YtcbaokgdpmjhgaaDoor
/- THE CELL 'sum', in the pinned program and in every row, IS THE sha256 OF THE DUMP (.gsa) THAT YtcbaokgdpmjhgaaDoorProg.lean LOADS. Nothing in Lean hashes anything: it is a label: what it is worth is what the hold of that sum in a sandbox is worth. -/
noncomputable def Tryd.pinned : Pinned := { name := "ytcbaokgdpmjhgaadoor", sum := "0987e42034d2d7b980adf4e66108f4fd52cae95afb2d8eda4b56a8409107d17a", checked := Tryd.checked }
namespace Rows
def none {H : Type} : Left H := { results := [], args := [] }

/- WHAT THE LISTED PACKAGE-LEVEL VARIABLES READ AS WHEN THE CALL BEGINS. Each datum BY PROGRAM (the guide's laid-datum.mjs) off the statement by which the dump's own 'gosem.cut.vars' lays the variable. In a bare row this is a premise. The card (YtcbaokgdpmjhgaaDoorCards.lean) ties it to the program's text. -/
def laid_postbag_inst_codes {H : Type} : DataW H := .agg [.lit (.int .u32 0), .lit (.int .u32 1273856), .lit (.int .u32 1142784), .lit (.int .u32 2551808), .lit (.int .u32 3567616), .lit (.int .u32 4599808), .lit (.int .u32 4600064), .lit (.int .u32 4600832), .lit (.int .u32 4601088), .lit (.int .u32 4601344), .lit (.int .u32 4601600), .lit (.int .u32 3158016), .lit (.int .u32 3158272), .lit (.int .u32 3158528), .lit (.int .u32 3158784), .lit (.int .u32 3159040), .lit (.int .u32 3159296), .lit (.int .u32 3159552), .lit (.int .u32 5386240), .lit (.int .u32 5386496), .lit (.int .u32 5386752), .lit (.int .u32 5387008), .lit (.int .u32 3223552), .lit (.int .u32 3224064), .lit (.int .u32 3224320), .lit (.int .u32 3224576), .lit (.int .u32 3225088), .lit (.int .u32 3225344), .lit (.int .u32 6369536), .lit (.int .u32 6370560), .lit (.int .u32 6370592), .lit (.int .u32 8597504), .lit (.int .u32 8597536), .lit (.int .u32 8597760), .lit (.int .u32 8598016), .lit (.int .u32 8598272), .lit (.int .u32 8598528), .lit (.int .u32 8598784), .lit (.int .u32 8598816), .lit (.int .u32 8599040), .lit (.int .u32 8599296), .lit (.int .u32 3256320), .lit (.int .u32 7450880), .lit (.int .u32 7451904), .lit (.int .u32 7451936), .lit (.int .u32 8630272), .lit (.int .u32 8630304), .lit (.int .u32 8630528), .lit (.int .u32 8631552), .lit (.int .u32 8631584), .lit (.int .u32 9498624), .lit (.int .u32 10956800), .lit (.int .u32 10956801), .lit (.int .u32 8597505), .lit (.int .u32 8597761), .lit (.int .u32 8598017), .lit (.int .u32 8598273), .lit (.int .u32 8598529), .lit (.int .u32 8598785), .lit (.int .u32 8599041), .lit (.int .u32 8599297), .lit (.int .u32 8630273), .lit (.int .u32 8631297), .lit (.int .u32 8631553), .lit (.int .u32 8631809), .lit (.int .u32 8632065), .lit (.int .u32 11727362), .lit (.int .u32 12775939), .lit (.int .u32 12775937), .lit (.int .u32 12775936), .lit (.int .u32 12775940), .lit (.int .u32 12775948), .lit (.int .u32 12775944), .lit (.int .u32 12775952), .lit (.int .u32 12775956), .lit (.int .u32 12775960), .lit (.int .u32 12775964), .lit (.int .u32 11727618), .lit (.int .u32 12776195), .lit (.int .u32 12776193), .lit (.int .u32 12776192), .lit (.int .u32 12776196), .lit (.int .u32 12776204), .lit (.int .u32 12776200), .lit (.int .u32 12776208), .lit (.int .u32 12776212), .lit (.int .u32 12776216), .lit (.int .u32 12776220)]

/-- 'postbaglaw02.InstEncodes': WHATEVER THE INPUT: true; the input reads as it did. -/
def instEncodesSpec : ChangeSpec := { name := "instEncodes", fn := fun _ => fun
  | [d] => { results := [.lit (.bool true)], args := [d] }
  | _ => none }
def instEncodesRow : OpenClaim := { program := "ytcbaokgdpmjhgaadoor", sum := "0987e42034d2d7b980adf4e66108f4fd52cae95afb2d8eda4b56a8409107d17a", func := "postbag/postbaglaw02.InstEncodes", spec := "instEncodes", named := ["postbag/inst.codes"], apart := false, laid := [("postbag/inst.codes", laid_postbag_inst_codes)] }
def InstEncodesSaid : Prop := instEncodesRow.holds Tryd.pinned (OpenSpec.ofChange instEncodesSpec)

/-- ITS FALSE NEIGHBOUR: 'it returns false'. Refute it at one input. -/
def instEncodesWrong : ChangeSpec := { name := "instEncodes", fn := fun _ => fun
  | [d] => { results := [.lit (.bool false)], args := [d] }
  | _ => none }
def InstEncodesWrongFalsely : Prop := instEncodesRow.holds Tryd.pinned (OpenSpec.ofChange instEncodesWrong)

/-- 'postbaglaw02.InstDecodes': WHATEVER THE INPUT: true; the input reads as it did. -/
def instDecodesSpec : ChangeSpec := { name := "instDecodes", fn := fun _ => fun
  | [d] => { results := [.lit (.bool true)], args := [d] }
  | _ => none }
def instDecodesRow : OpenClaim := { program := "ytcbaokgdpmjhgaadoor", sum := "0987e42034d2d7b980adf4e66108f4fd52cae95afb2d8eda4b56a8409107d17a", func := "postbag/postbaglaw02.InstDecodes", spec := "instDecodes", named := ["postbag/inst.codes"], apart := false, laid := [("postbag/inst.codes", laid_postbag_inst_codes)] }
def InstDecodesSaid : Prop := instDecodesRow.holds Tryd.pinned (OpenSpec.ofChange instDecodesSpec)

/-- ITS FALSE NEIGHBOUR: 'it returns false'. Refute it at one input. -/
def instDecodesWrong : ChangeSpec := { name := "instDecodes", fn := fun _ => fun
  | [d] => { results := [.lit (.bool false)], args := [d] }
  | _ => none }
def InstDecodesWrongFalsely : Prop := instDecodesRow.holds Tryd.pinned (OpenSpec.ofChange instDecodesWrong)

/-- 'postbaglaw02.InstTells': WHATEVER THE INPUT: true; the input reads as it did. -/
def instTellsSpec : ChangeSpec := { name := "instTells", fn := fun _ => fun
  | [d1, d2] => { results := [.lit (.bool true)], args := [d1, d2] }
  | _ => none }
def instTellsRow : OpenClaim := { program := "ytcbaokgdpmjhgaadoor", sum := "0987e42034d2d7b980adf4e66108f4fd52cae95afb2d8eda4b56a8409107d17a", func := "postbag/postbaglaw02.InstTells", spec := "instTells", named := ["postbag/inst.codes"], apart := false, laid := [("postbag/inst.codes", laid_postbag_inst_codes)] }
def InstTellsSaid : Prop := instTellsRow.holds Tryd.pinned (OpenSpec.ofChange instTellsSpec)

/-- ITS FALSE NEIGHBOUR: 'it returns false'. Refute it at one input. -/
def instTellsWrong : ChangeSpec := { name := "instTells", fn := fun _ => fun
  | [d1, d2] => { results := [.lit (.bool false)], args := [d1, d2] }
  | _ => none }
def InstTellsWrongFalsely : Prop := instTellsRow.holds Tryd.pinned (OpenSpec.ofChange instTellsWrong)

/-- 'postbaglaw02.InstBack': WHATEVER THE INPUT: true; the input reads as it did. -/
def instBackSpec : ChangeSpec := { name := "instBack", fn := fun _ => fun
  | [d] => { results := [.lit (.bool true)], args := [d] }
  | _ => none }
def instBackRow : OpenClaim := { program := "ytcbaokgdpmjhgaadoor", sum := "0987e42034d2d7b980adf4e66108f4fd52cae95afb2d8eda4b56a8409107d17a", func := "postbag/postbaglaw02.InstBack", spec := "instBack", named := ["postbag/inst.codes"], apart := false, laid := [("postbag/inst.codes", laid_postbag_inst_codes)] }
def InstBackSaid : Prop := instBackRow.holds Tryd.pinned (OpenSpec.ofChange instBackSpec)

/-- ITS FALSE NEIGHBOUR: 'it returns false'. Refute it at one input. -/
def instBackWrong : ChangeSpec := { name := "instBack", fn := fun _ => fun
  | [d] => { results := [.lit (.bool false)], args := [d] }
  | _ => none }
def InstBackWrongFalsely : Prop := instBackRow.holds Tryd.pinned (OpenSpec.ofChange instBackWrong)

/-- 'postbaglaw02.InstForm': WHATEVER THE INPUT: true; the input reads as it did. -/
def instFormSpec : ChangeSpec := { name := "instForm", fn := fun _ => fun
  | [d] => { results := [.lit (.bool true)], args := [d] }
  | _ => none }
def instFormRow : OpenClaim := { program := "ytcbaokgdpmjhgaadoor", sum := "0987e42034d2d7b980adf4e66108f4fd52cae95afb2d8eda4b56a8409107d17a", func := "postbag/postbaglaw02.InstForm", spec := "instForm", named := ["postbag/inst.codes"], apart := false, laid := [("postbag/inst.codes", laid_postbag_inst_codes)] }
def InstFormSaid : Prop := instFormRow.holds Tryd.pinned (OpenSpec.ofChange instFormSpec)

/-- ITS FALSE NEIGHBOUR: 'it returns false'. Refute it at one input. -/
def instFormWrong : ChangeSpec := { name := "instForm", fn := fun _ => fun
  | [d] => { results := [.lit (.bool false)], args := [d] }
  | _ => none }
def InstFormWrongFalsely : Prop := instFormRow.holds Tryd.pinned (OpenSpec.ofChange instFormWrong)

/-- 'postbaglaw02.InstApart': WHATEVER THE INPUT: true; the input reads as it did. -/
def instApartSpec : ChangeSpec := { name := "instApart", fn := fun _ => fun
  | [d1, d2] => { results := [.lit (.bool true)], args := [d1, d2] }
  | _ => none }
def instApartRow : OpenClaim := { program := "ytcbaokgdpmjhgaadoor", sum := "0987e42034d2d7b980adf4e66108f4fd52cae95afb2d8eda4b56a8409107d17a", func := "postbag/postbaglaw02.InstApart", spec := "instApart", named := ["postbag/inst.codes"], apart := false, laid := [("postbag/inst.codes", laid_postbag_inst_codes)] }
def InstApartSaid : Prop := instApartRow.holds Tryd.pinned (OpenSpec.ofChange instApartSpec)

/-- ITS FALSE NEIGHBOUR: 'it returns false'. Refute it at one input. -/
def instApartWrong : ChangeSpec := { name := "instApart", fn := fun _ => fun
  | [d1, d2] => { results := [.lit (.bool false)], args := [d1, d2] }
  | _ => none }
def InstApartWrongFalsely : Prop := instApartRow.holds Tryd.pinned (OpenSpec.ofChange instApartWrong)

/-- 'postbaglaw02.InstKinds': WHATEVER THE INPUT: true; the input reads as it did. -/
def instKindsSpec : ChangeSpec := { name := "instKinds", fn := fun _ => fun
  | [d] => { results := [.lit (.bool true)], args := [d] }
  | _ => none }
def instKindsRow : OpenClaim := { program := "ytcbaokgdpmjhgaadoor", sum := "0987e42034d2d7b980adf4e66108f4fd52cae95afb2d8eda4b56a8409107d17a", func := "postbag/postbaglaw02.InstKinds", spec := "instKinds", named := ["postbag/inst.codes"], apart := false, laid := [("postbag/inst.codes", laid_postbag_inst_codes)] }
def InstKindsSaid : Prop := instKindsRow.holds Tryd.pinned (OpenSpec.ofChange instKindsSpec)

/-- ITS FALSE NEIGHBOUR: 'it returns false'. Refute it at one input. -/
def instKindsWrong : ChangeSpec := { name := "instKinds", fn := fun _ => fun
  | [d] => { results := [.lit (.bool false)], args := [d] }
  | _ => none }
def InstKindsWrongFalsely : Prop := instKindsRow.holds Tryd.pinned (OpenSpec.ofChange instKindsWrong)

/- THE SECOND FORM. 'bulk': how many values and letters a reading holds, each counted each time it is reached (what is shared counts as often as it is met; a slice's spare places count too). A statement '..UptoSaid' is the law's where the arguments, and the package variables that the reading takes, are together of bulk at most 1048576: NARROWER than '..Said'. Prove '..Said' where nothing that the law and all that it calls make is longer than what came in: it says more and counts as full. Else prove '..UptoSaid'. A law counts once. -/
mutual
def uptoBulk {H : Type} : DataW H → Nat
  | .lit (.string bytes) => bytes.length + 1
  | .lit _ => 1
  | .nil => 1
  | .ptr d => uptoBulk d + 1
  | .slice elems spare => uptoBulkAll elems + uptoBulkAll spare + 1
  | .agg parts => uptoBulkAll parts + 1
  | .iface _ d => uptoBulk d + 1
  | .map entries => uptoBulkEntries entries + 1
  | .held _ => 1
def uptoBulkAll {H : Type} : List (DataW H) → Nat
  | [] => 0
  | d :: r => uptoBulk d + uptoBulkAll r
def uptoBulkEntries {H : Type} : List (Lit × DataW H) → Nat
  | [] => 0
  | x :: r => uptoBulkEntry x + uptoBulkEntries r
def uptoBulkEntry {H : Type} : Lit × DataW H → Nat
  | (.string bytes, d) => bytes.length + uptoBulk d + 1
  | (_, d) => uptoBulk d + 1
 end
def uptoSmall : (H : Type) → List (DataW H) → Bool := fun _ ds => decide (uptoBulkAll ds ≤ 1048576)
def OpenSpec.upto (s : _root_.Go.ChangeSpec) : _root_.Go.OpenSpec := { _root_.Go.OpenSpec.ofChange s with cond := some uptoSmall }

/-- 'postbaglaw02.InstEncodes', WHERE WHAT IT READS IS OF BULK AT MOST 1048576: true; the input reads as it did. -/
def instEncodesUptoRow : OpenClaim := { program := "ytcbaokgdpmjhgaadoor", sum := "0987e42034d2d7b980adf4e66108f4fd52cae95afb2d8eda4b56a8409107d17a", func := "postbag/postbaglaw02.InstEncodes", spec := "instEncodes", named := ["postbag/inst.codes"], apart := false, laid := [("postbag/inst.codes", laid_postbag_inst_codes)], narrowed := true }
def InstEncodesUptoSaid : Prop := instEncodesUptoRow.holds Tryd.pinned (OpenSpec.upto instEncodesSpec)

/-- 'postbaglaw02.InstDecodes', WHERE WHAT IT READS IS OF BULK AT MOST 1048576: true; the input reads as it did. -/
def instDecodesUptoRow : OpenClaim := { program := "ytcbaokgdpmjhgaadoor", sum := "0987e42034d2d7b980adf4e66108f4fd52cae95afb2d8eda4b56a8409107d17a", func := "postbag/postbaglaw02.InstDecodes", spec := "instDecodes", named := ["postbag/inst.codes"], apart := false, laid := [("postbag/inst.codes", laid_postbag_inst_codes)], narrowed := true }
def InstDecodesUptoSaid : Prop := instDecodesUptoRow.holds Tryd.pinned (OpenSpec.upto instDecodesSpec)

/-- 'postbaglaw02.InstTells', WHERE WHAT IT READS IS OF BULK AT MOST 1048576: true; the input reads as it did. -/
def instTellsUptoRow : OpenClaim := { program := "ytcbaokgdpmjhgaadoor", sum := "0987e42034d2d7b980adf4e66108f4fd52cae95afb2d8eda4b56a8409107d17a", func := "postbag/postbaglaw02.InstTells", spec := "instTells", named := ["postbag/inst.codes"], apart := false, laid := [("postbag/inst.codes", laid_postbag_inst_codes)], narrowed := true }
def InstTellsUptoSaid : Prop := instTellsUptoRow.holds Tryd.pinned (OpenSpec.upto instTellsSpec)

/-- 'postbaglaw02.InstBack', WHERE WHAT IT READS IS OF BULK AT MOST 1048576: true; the input reads as it did. -/
def instBackUptoRow : OpenClaim := { program := "ytcbaokgdpmjhgaadoor", sum := "0987e42034d2d7b980adf4e66108f4fd52cae95afb2d8eda4b56a8409107d17a", func := "postbag/postbaglaw02.InstBack", spec := "instBack", named := ["postbag/inst.codes"], apart := false, laid := [("postbag/inst.codes", laid_postbag_inst_codes)], narrowed := true }
def InstBackUptoSaid : Prop := instBackUptoRow.holds Tryd.pinned (OpenSpec.upto instBackSpec)

/-- 'postbaglaw02.InstForm', WHERE WHAT IT READS IS OF BULK AT MOST 1048576: true; the input reads as it did. -/
def instFormUptoRow : OpenClaim := { program := "ytcbaokgdpmjhgaadoor", sum := "0987e42034d2d7b980adf4e66108f4fd52cae95afb2d8eda4b56a8409107d17a", func := "postbag/postbaglaw02.InstForm", spec := "instForm", named := ["postbag/inst.codes"], apart := false, laid := [("postbag/inst.codes", laid_postbag_inst_codes)], narrowed := true }
def InstFormUptoSaid : Prop := instFormUptoRow.holds Tryd.pinned (OpenSpec.upto instFormSpec)

/-- 'postbaglaw02.InstApart', WHERE WHAT IT READS IS OF BULK AT MOST 1048576: true; the input reads as it did. -/
def instApartUptoRow : OpenClaim := { program := "ytcbaokgdpmjhgaadoor", sum := "0987e42034d2d7b980adf4e66108f4fd52cae95afb2d8eda4b56a8409107d17a", func := "postbag/postbaglaw02.InstApart", spec := "instApart", named := ["postbag/inst.codes"], apart := false, laid := [("postbag/inst.codes", laid_postbag_inst_codes)], narrowed := true }
def InstApartUptoSaid : Prop := instApartUptoRow.holds Tryd.pinned (OpenSpec.upto instApartSpec)

/-- 'postbaglaw02.InstKinds', WHERE WHAT IT READS IS OF BULK AT MOST 1048576: true; the input reads as it did. -/
def instKindsUptoRow : OpenClaim := { program := "ytcbaokgdpmjhgaadoor", sum := "0987e42034d2d7b980adf4e66108f4fd52cae95afb2d8eda4b56a8409107d17a", func := "postbag/postbaglaw02.InstKinds", spec := "instKinds", named := ["postbag/inst.codes"], apart := false, laid := [("postbag/inst.codes", laid_postbag_inst_codes)], narrowed := true }
def InstKindsUptoSaid : Prop := instKindsUptoRow.holds Tryd.pinned (OpenSpec.upto instKindsSpec)

end Rows
end Go.Proofs.YtcbaokgdpmjhgaaDoor

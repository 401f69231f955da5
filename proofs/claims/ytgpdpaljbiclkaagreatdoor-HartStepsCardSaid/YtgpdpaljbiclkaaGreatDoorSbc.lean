/-
  Proved here: what alu.Value of the code and of the reference gives: the same. Conditions: the numbers are words; the table of codes holds what its text lays. ¦ where an instruction goes, the code's answer and the reference's. Conditions: the numbers are words.
-/
import Derived.Test.YtgpdpaljbiclkaaGreatDoorSzz
import Derived.Test.YtgpdpaljbiclkaaGreatDoorSat
import Derived.Test.YtgpdpaljbiclkaaGreatDoorSau
import Derived.Test.YtgpdpaljbiclkaaGreatDoorSav
import Derived.Test.YtgpdpaljbiclkaaGreatDoorSaw
import Derived.Test.YtgpdpaljbiclkaaGreatDoorSax
import Derived.Test.YtgpdpaljbiclkaaGreatDoorSba
import Derived.Test.YtgpdpaljbiclkaaGreatDoorSbb
set_option maxHeartbeats 1000000
set_option maxRecDepth 100000
section
namespace Go.Proofs.YtgpdpaljbiclkaaGreatDoor
open _root_.Go.Proofs.Tryz
open Go.RowKit
set_option linter.unusedVariables false
theorem Z1z(op:Int)(h:Ks op=true):op=1∨op=2∨op=3∨op=4∨op=22∨op=23∨op=24∨op=25∨op=26∨op=27∨op=28∨op=29∨op=30∨op=31∨op=32∨op=33∨op=34∨op=35∨op=36∨op=37∨op=38∨op=39∨op=40∨op=41∨op=42∨op=43∨op=44∨op=45∨op=46∨op=47∨op=48∨op=49∨op=53∨op=54∨op=55∨op=56∨op=57∨op=58∨op=59∨op=60∨op=61∨op=62∨op=63∨op=64∨op=65:=by
 unfold Ks at h
 simp at h
 omega
def VX (op rd rs1 rs2 im:Int) (aq rl:Bool) (pc a b:Int):Int:=if GoodB op rd rs1 rs2 im aq rl=true then(if Ks op=true then VB op im pc a b else 0) else 0
def EX (op rd rs1 rs2 im:Int) (aq rl:Bool):Int:=if GoodB op rd rs1 rs2 im aq rl=true then(if Ks op=true then 0 else 80) else 20
theorem Y7(im:Int):InU (IntKind.u64.wrap im):=ZF im
theorem Z7U(op rd rs1 rs2 im pc a b:Int)(aq rl:Bool)(qa:InU a)(qb:InU b)(hh:Ks op=true)(HG:Hid (∀w,Cod w→Calls prog 37 #[.agg #[.int .i64 op,.int .i64 rd,.int .i64 rs1,.int .i64 rs2,.int .i64 im,.bool aq,.bool rl]] w fun e w'=>e=.returned (.bool true)∧Nb w w'))(w:World)(hC:Cod w):
  Calls prog 50 #[.agg #[.int .i64 op,.int .i64 rd,.int .i64 rs1,.int .i64 rs2,.int .i64 im,.bool aq,.bool rl],.int .u64 pc,.int .u64 a,.int .u64 b] w fun e w'=>e=.returned (.tuple #[.int .u64 (VB op im pc a b),.int .i64 0])∧Nb w w':=by
 have hl:=Z1z op hh
 clear hh
 rcases hl with rfl|rfl|rfl|rfl|rfl|rfl|rfl|rfl|rfl|rfl|rfl|rfl|rfl|rfl|rfl|rfl|rfl|rfl|rfl|rfl|rfl|rfl|rfl|rfl|rfl|rfl|rfl|rfl|rfl|rfl|rfl|rfl|rfl|rfl|rfl|rfl|rfl|rfl|rfl|rfl|rfl|rfl|rfl|rfl|rfl
 ·exact val_1 rd rs1 rs2 im pc a b aq rl qa qb (Y7 im) HG w hC
 ·exact val_2 rd rs1 rs2 im pc a b aq rl qa qb (Y7 im) HG w hC
 ·exact val_3 rd rs1 rs2 im pc a b aq rl qa qb (Y7 im) HG w hC
 ·exact val_4 rd rs1 rs2 im pc a b aq rl qa qb (Y7 im) HG w hC
 ·exact val_22 rd rs1 rs2 im pc a b aq rl qa qb (Y7 im) HG w hC
 ·exact val_23 rd rs1 rs2 im pc a b aq rl qa qb (Y7 im) HG w hC
 ·exact val_24 rd rs1 rs2 im pc a b aq rl qa qb (Y7 im) HG w hC
 ·exact val_25 rd rs1 rs2 im pc a b aq rl qa qb (Y7 im) HG w hC
 ·exact val_26 rd rs1 rs2 im pc a b aq rl qa qb (Y7 im) HG w hC
 ·exact val_27 rd rs1 rs2 im pc a b aq rl qa qb (Y7 im) HG w hC
 ·exact val_28 rd rs1 rs2 im pc a b aq rl qa qb (Y7 im) HG w hC
 ·exact val_29 rd rs1 rs2 im pc a b aq rl qa qb (Y7 im) HG w hC
 ·exact val_30 rd rs1 rs2 im pc a b aq rl qa qb (Y7 im) HG w hC
 ·exact val_31 rd rs1 rs2 im pc a b aq rl qa qb (Y7 im) HG w hC
 ·exact val_32 rd rs1 rs2 im pc a b aq rl qa qb (Y7 im) HG w hC
 ·exact val_33 rd rs1 rs2 im pc a b aq rl qa qb (Y7 im) HG w hC
 ·exact val_34 rd rs1 rs2 im pc a b aq rl qa qb (Y7 im) HG w hC
 ·exact val_35 rd rs1 rs2 im pc a b aq rl qa qb (Y7 im) HG w hC
 ·exact val_36 rd rs1 rs2 im pc a b aq rl qa qb (Y7 im) HG w hC
 ·exact val_37 rd rs1 rs2 im pc a b aq rl qa qb (Y7 im) HG w hC
 ·exact val_38 rd rs1 rs2 im pc a b aq rl qa qb (Y7 im) HG w hC
 ·exact val_39 rd rs1 rs2 im pc a b aq rl qa qb (Y7 im) HG w hC
 ·exact val_40 rd rs1 rs2 im pc a b aq rl qa qb (Y7 im) HG w hC
 ·exact val_41 rd rs1 rs2 im pc a b aq rl qa qb (Y7 im) HG w hC
 ·exact val_42 rd rs1 rs2 im pc a b aq rl qa qb (Y7 im) HG w hC
 ·exact val_43 rd rs1 rs2 im pc a b aq rl qa qb (Y7 im) HG w hC
 ·exact val_44 rd rs1 rs2 im pc a b aq rl qa qb (Y7 im) HG w hC
 ·exact val_45 rd rs1 rs2 im pc a b aq rl qa qb (Y7 im) HG w hC
 ·exact val_46 rd rs1 rs2 im pc a b aq rl qa qb (Y7 im) HG w hC
 ·exact val_47 rd rs1 rs2 im pc a b aq rl qa qb (Y7 im) HG w hC
 ·exact val_48 rd rs1 rs2 im pc a b aq rl qa qb (Y7 im) HG w hC
 ·exact val_49 rd rs1 rs2 im pc a b aq rl qa qb (Y7 im) HG w hC
 ·exact val_53 rd rs1 rs2 im pc a b aq rl qa qb (Y7 im) HG w hC
 ·exact val_54 rd rs1 rs2 im pc a b aq rl qa qb (Y7 im) HG w hC
 ·exact val_55 rd rs1 rs2 im pc a b aq rl qa qb (Y7 im) HG w hC
 ·exact val_56 rd rs1 rs2 im pc a b aq rl qa qb (Y7 im) HG w hC
 ·exact val_57 rd rs1 rs2 im pc a b aq rl qa qb (Y7 im) HG w hC
 ·exact val_58 rd rs1 rs2 im pc a b aq rl qa qb (Y7 im) HG w hC
 ·exact val_59 rd rs1 rs2 im pc a b aq rl qa qb (Y7 im) HG w hC
 ·exact val_60 rd rs1 rs2 im pc a b aq rl qa qb (Y7 im) HG w hC
 ·exact val_61 rd rs1 rs2 im pc a b aq rl qa qb (Y7 im) HG w hC
 ·exact val_62 rd rs1 rs2 im pc a b aq rl qa qb (Y7 im) HG w hC
 ·exact val_63 rd rs1 rs2 im pc a b aq rl qa qb (Y7 im) HG w hC
 ·exact val_64 rd rs1 rs2 im pc a b aq rl qa qb (Y7 im) HG w hC
 ·exact val_65 rd rs1 rs2 im pc a b aq rl qa qb (Y7 im) HG w hC
theorem Z57(op rd rs1 rs2 im pc a b:Int)(aq rl:Bool)(qa:InU a)(qb:InU b)(hh:Ks op=true)(HG:Hid (∀w,Calls prog 66 #[.agg #[.int .i64 op,.int .i64 rd,.int .i64 rs1,.int .i64 rs2,.int .i64 im,.bool aq,.bool rl]] w fun e w'=>e=.returned (.bool true)∧Nb w w'))(w:World):
  Calls prog 32 #[.agg #[.int .i64 op,.int .i64 rd,.int .i64 rs1,.int .i64 rs2,.int .i64 im,.bool aq,.bool rl],.int .u64 pc,.int .u64 a,.int .u64 b] w fun e w'=>e=.returned (.tuple #[.int .u64 (VB op im pc a b),.int .i64 0])∧Nb w w':=by
 have hl:=Z1z op hh
 clear hh
 rcases hl with rfl|rfl|rfl|rfl|rfl|rfl|rfl|rfl|rfl|rfl|rfl|rfl|rfl|rfl|rfl|rfl|rfl|rfl|rfl|rfl|rfl|rfl|rfl|rfl|rfl|rfl|rfl|rfl|rfl|rfl|rfl|rfl|rfl|rfl|rfl|rfl|rfl|rfl|rfl|rfl|rfl|rfl|rfl|rfl|rfl
 ·exact rval_1 rd rs1 rs2 im pc a b aq rl qa qb (Y7 im) HG w
 ·exact rval_2 rd rs1 rs2 im pc a b aq rl qa qb (Y7 im) HG w
 ·exact rval_3 rd rs1 rs2 im pc a b aq rl qa qb (Y7 im) HG w
 ·exact rval_4 rd rs1 rs2 im pc a b aq rl qa qb (Y7 im) HG w
 all_goals exact rval_b _ rd rs1 rs2 im pc a b aq rl qa qb (Y7 im) (by decide) HG w
theorem Z7V(op rd rs1 rs2 im pc a b:Int)(aq rl:Bool)(qa:InU a)(qb:InU b)(v0: -9223372036854775808≤im)(v1:im<9223372036854775808)(w:World)(hC:Cod w):
  Calls prog 50 #[.agg #[.int .i64 op,.int .i64 rd,.int .i64 rs1,.int .i64 rs2,.int .i64 im,.bool aq,.bool rl],.int .u64 pc,.int .u64 a,.int .u64 b] w fun e w'=>e=.returned (.tuple #[.int .u64 (VX op rd rs1 rs2 im aq rl pc a b),.int .i64 (EX op rd rs1 rs2 im aq rl)])∧Nb w w':=by
 have HG:=fun w (hC:Cod w)=>XZ op rd rs1 rs2 im aq rl v0 v1 w hC
 unfold VX EX
 cases hg:GoodB op rd rs1 rs2 im aq rl<;>rw[hg] at HG
 ·exact Z7I op rd rs1 rs2 im pc a b aq rl qa qb (Y7 im) (Lib.hid HG) w hC
 ·cases hh:Ks op
  ·exact Z4G op rd rs1 rs2 im pc a b aq rl hh qa qb (Y7 im) (Lib.hid HG) w hC
  ·exact Z7U op rd rs1 rs2 im pc a b aq rl qa qb hh (Lib.hid HG) w hC
theorem Z58(op rd rs1 rs2 im pc a b:Int)(aq rl:Bool)(qa:InU a)(qb:InU b)(v0: -9223372036854775808≤im)(v1:im<9223372036854775808)(w:World):
  Calls prog 32 #[.agg #[.int .i64 op,.int .i64 rd,.int .i64 rs1,.int .i64 rs2,.int .i64 im,.bool aq,.bool rl],.int .u64 pc,.int .u64 a,.int .u64 b] w fun e w'=>e=.returned (.tuple #[.int .u64 (VX op rd rs1 rs2 im aq rl pc a b),.int .i64 (EX op rd rs1 rs2 im aq rl)])∧Nb w w':=by
 have HG:=fun w=>rgoods op rd rs1 rs2 im aq rl v0 v1 w
 unfold VX EX
 cases hg:GoodB op rd rs1 rs2 im aq rl<;>rw[hg] at HG
 ·exact Z56 op rd rs1 rs2 im pc a b aq rl qa qb (Y7 im) (Lib.hid HG) w
 ·cases hh:Ks op
  ·cases hf:((Z9 op).1 !=8)
   ·exact Z2b op rd rs1 rs2 im pc a b aq rl qa qb (Y7 im) hh _ _ _ _ hf (Lib.hid (Xc op)) (Lib.hid HG) w
   ·exact Z2c op rd rs1 rs2 im pc a b aq rl qa qb (Y7 im) hh _ _ _ _ hf (Lib.hid (Xc op)) (Lib.hid HG) w
  ·exact Z57 op rd rs1 rs2 im pc a b aq rl qa qb hh (Lib.hid HG) w
end Go.Proofs.YtgpdpaljbiclkaaGreatDoor
end
section
namespace Go.Proofs.YtgpdpaljbiclkaaGreatDoor
open _root_.Go.Proofs.Tryz
open Go.RowKit
set_option linter.unusedVariables false
def TgB (op im pc a:Int):Int:=if op=3∨(5≤op∧op≤10) then IntKind.u64.wrap (pc+IntKind.u64.wrap im) else if op=4 then Plc (IntKind.u64.wrap (a+IntKind.u64.wrap im)) 0 1 0 else IntKind.u64.wrap (pc+4)
theorem Z7W(x:Int)(h:InU x):bits .andNot .u64 x 1=Plc x 0 1 0:=by
 obtain⟨a,b⟩:=h
 have e1:bits .andNot .u64 x 1=x-x % 2:=by go_bits2
 rw[e1]
 obtain⟨n,rfl⟩:=Int.eq_ofNat_of_zero_le a
 unfold Plc
 rw[show wid 0 1=1 from by decide]
 simp only[plc,Int.toNat_natCast,show((0:Int).toNat)=0 from rfl,Nat.pow_zero,Nat.zero_add,Nat.pow_one]
 omega
theorem tgt_3(rd rs1 rs2 im pc a:Int)(aq rl:Bool)(w:World):
  Calls prog 57 #[.agg #[.int .i64 3,.int .i64 rd,.int .i64 rs1,.int .i64 rs2,.int .i64 im,.bool aq,.bool rl],.int .u64 pc,.int .u64 a] w fun e w'=>e=.returned (.int .u64 (IntKind.u64.wrap (pc+IntKind.u64.wrap im)))∧Nb w w':=by
 go_enter func57,ntmps57
 repeat (first|(with_reducible first|refine tE ?_|refine iS ?_|refine iO ?_)|go_values|go_skip|go_guarded|go_step|go_upon|go_back)
 go_ret
 exact⟨rfl,(Nb.refl _).alloc _⟩
theorem tgt_5(rd rs1 rs2 im pc a:Int)(aq rl:Bool)(w:World):
  Calls prog 57 #[.agg #[.int .i64 5,.int .i64 rd,.int .i64 rs1,.int .i64 rs2,.int .i64 im,.bool aq,.bool rl],.int .u64 pc,.int .u64 a] w fun e w'=>e=.returned (.int .u64 (IntKind.u64.wrap (pc+IntKind.u64.wrap im)))∧Nb w w':=by
 go_enter func57,ntmps57
 repeat (first|(with_reducible first|refine tE ?_|refine iS ?_|refine iO ?_)|go_values|go_skip|go_guarded|go_step|go_upon|go_back)
 go_ret
 exact⟨rfl,(Nb.refl _).alloc _⟩
theorem tgt_6(rd rs1 rs2 im pc a:Int)(aq rl:Bool)(w:World):
  Calls prog 57 #[.agg #[.int .i64 6,.int .i64 rd,.int .i64 rs1,.int .i64 rs2,.int .i64 im,.bool aq,.bool rl],.int .u64 pc,.int .u64 a] w fun e w'=>e=.returned (.int .u64 (IntKind.u64.wrap (pc+IntKind.u64.wrap im)))∧Nb w w':=by
 go_enter func57,ntmps57
 repeat (first|(with_reducible first|refine tE ?_|refine iS ?_|refine iO ?_)|go_values|go_skip|go_guarded|go_step|go_upon|go_back)
 go_ret
 exact⟨rfl,(Nb.refl _).alloc _⟩
theorem tgt_7(rd rs1 rs2 im pc a:Int)(aq rl:Bool)(w:World):
  Calls prog 57 #[.agg #[.int .i64 7,.int .i64 rd,.int .i64 rs1,.int .i64 rs2,.int .i64 im,.bool aq,.bool rl],.int .u64 pc,.int .u64 a] w fun e w'=>e=.returned (.int .u64 (IntKind.u64.wrap (pc+IntKind.u64.wrap im)))∧Nb w w':=by
 go_enter func57,ntmps57
 repeat (first|(with_reducible first|refine tE ?_|refine iS ?_|refine iO ?_)|go_values|go_skip|go_guarded|go_step|go_upon|go_back)
 go_ret
 exact⟨rfl,(Nb.refl _).alloc _⟩
theorem tgt_8(rd rs1 rs2 im pc a:Int)(aq rl:Bool)(w:World):
  Calls prog 57 #[.agg #[.int .i64 8,.int .i64 rd,.int .i64 rs1,.int .i64 rs2,.int .i64 im,.bool aq,.bool rl],.int .u64 pc,.int .u64 a] w fun e w'=>e=.returned (.int .u64 (IntKind.u64.wrap (pc+IntKind.u64.wrap im)))∧Nb w w':=by
 go_enter func57,ntmps57
 repeat (first|(with_reducible first|refine tE ?_|refine iS ?_|refine iO ?_)|go_values|go_skip|go_guarded|go_step|go_upon|go_back)
 go_ret
 exact⟨rfl,(Nb.refl _).alloc _⟩
theorem tgt_9(rd rs1 rs2 im pc a:Int)(aq rl:Bool)(w:World):
  Calls prog 57 #[.agg #[.int .i64 9,.int .i64 rd,.int .i64 rs1,.int .i64 rs2,.int .i64 im,.bool aq,.bool rl],.int .u64 pc,.int .u64 a] w fun e w'=>e=.returned (.int .u64 (IntKind.u64.wrap (pc+IntKind.u64.wrap im)))∧Nb w w':=by
 go_enter func57,ntmps57
 repeat (first|(with_reducible first|refine tE ?_|refine iS ?_|refine iO ?_)|go_values|go_skip|go_guarded|go_step|go_upon|go_back)
 go_ret
 exact⟨rfl,(Nb.refl _).alloc _⟩
theorem tgt_10(rd rs1 rs2 im pc a:Int)(aq rl:Bool)(w:World):
  Calls prog 57 #[.agg #[.int .i64 10,.int .i64 rd,.int .i64 rs1,.int .i64 rs2,.int .i64 im,.bool aq,.bool rl],.int .u64 pc,.int .u64 a] w fun e w'=>e=.returned (.int .u64 (IntKind.u64.wrap (pc+IntKind.u64.wrap im)))∧Nb w w':=by
 go_enter func57,ntmps57
 repeat (first|(with_reducible first|refine tE ?_|refine iS ?_|refine iO ?_)|go_values|go_skip|go_guarded|go_step|go_upon|go_back)
 go_ret
 exact⟨rfl,(Nb.refl _).alloc _⟩
theorem tgt_4(rd rs1 rs2 im pc a:Int)(aq rl:Bool)(w:World):
  Calls prog 57 #[.agg #[.int .i64 4,.int .i64 rd,.int .i64 rs1,.int .i64 rs2,.int .i64 im,.bool aq,.bool rl],.int .u64 pc,.int .u64 a] w fun e w'=>e=.returned (.int .u64 (Plc (IntKind.u64.wrap (a+IntKind.u64.wrap im)) 0 1 0))∧Nb w w':=by
 have HP:=Lib.hid (Z7W _ (ZF (a+IntKind.u64.wrap im)))
 go_enter func57,ntmps57
 repeat (first|(with_reducible first|refine tE ?_|refine iS ?_|refine iO ?_)|go_values|go_skip|go_guarded|go_step|go_upon|go_back)
 go_ret
 exact⟨Zm HP.out,(Nb.refl _).alloc _⟩
theorem tgt_o(op rd rs1 rs2 im pc a:Int)(aq rl:Bool)(h:op≠3∧op≠4∧op≠5∧op≠6∧op≠7∧op≠8∧op≠9∧op≠10)(w:World):
  Calls prog 57 #[.agg #[.int .i64 op,.int .i64 rd,.int .i64 rs1,.int .i64 rs2,.int .i64 im,.bool aq,.bool rl],.int .u64 pc,.int .u64 a] w fun e w'=>e=.returned (.int .u64 (IntKind.u64.wrap (pc+4)))∧Nb w w':=by
 have e3:(op==3)=false:=nB (by omega)
 have e4:(op==4)=false:=nB (by omega)
 have e5:(op==5)=false:=nB (by omega)
 have e6:(op==6)=false:=nB (by omega)
 have e7:(op==7)=false:=nB (by omega)
 have e8:(op==8)=false:=nB (by omega)
 have e9:(op==9)=false:=nB (by omega)
 have e10:(op==10)=false:=nB (by omega)
 clear h
 go_enter func57,ntmps57
 repeat (first|(with_reducible first|refine tE ?_|refine iS ?_|refine iO ?_)|go_values|go_skip|go_guarded|go_step|go_upon|go_back)
 go_ret
 exact⟨rfl,(Nb.refl _).alloc _⟩
theorem Z7X(op rd rs1 rs2 im pc a:Int)(aq rl:Bool)(w:World):
  Calls prog 57 #[.agg #[.int .i64 op,.int .i64 rd,.int .i64 rs1,.int .i64 rs2,.int .i64 im,.bool aq,.bool rl],.int .u64 pc,.int .u64 a] w fun e w'=>e=.returned (.int .u64 (TgB op im pc a))∧Nb w w':=by
 by_cases h:op=3∨op=4∨op=5∨op=6∨op=7∨op=8∨op=9∨op=10
 ·rcases h with rfl|rfl|rfl|rfl|rfl|rfl|rfl|rfl
  ·exact tgt_3 rd rs1 rs2 im pc a aq rl w
  ·exact tgt_4 rd rs1 rs2 im pc a aq rl w
  ·exact tgt_5 rd rs1 rs2 im pc a aq rl w
  ·exact tgt_6 rd rs1 rs2 im pc a aq rl w
  ·exact tgt_7 rd rs1 rs2 im pc a aq rl w
  ·exact tgt_8 rd rs1 rs2 im pc a aq rl w
  ·exact tgt_9 rd rs1 rs2 im pc a aq rl w
  ·exact tgt_10 rd rs1 rs2 im pc a aq rl w
 ·have e:TgB op im pc a=IntKind.u64.wrap (pc+4):=by unfold TgB;rw[if_neg (by omega),if_neg (by omega)]
  rw[e]
  exact tgt_o op rd rs1 rs2 im pc a aq rl (by omega) w
theorem rtgt_3(rd rs1 rs2 im pc a:Int)(aq rl:Bool)(w:World):
  Calls prog 34 #[.agg #[.int .i64 3,.int .i64 rd,.int .i64 rs1,.int .i64 rs2,.int .i64 im,.bool aq,.bool rl],.int .u64 pc,.int .u64 a] w fun e w'=>e=.returned (.int .u64 (IntKind.u64.wrap (pc+IntKind.u64.wrap im)))∧Nb w w':=by
 go_enter func34,ntmps34
 repeat (first|(with_reducible first|refine tE ?_|refine iS ?_|refine iO ?_)|go_values|go_skip|go_guarded|go_step|go_upon|go_back)
 go_ret
 exact⟨rfl,(Nb.refl _).alloc _⟩
theorem rtgt_5(rd rs1 rs2 im pc a:Int)(aq rl:Bool)(w:World):
  Calls prog 34 #[.agg #[.int .i64 5,.int .i64 rd,.int .i64 rs1,.int .i64 rs2,.int .i64 im,.bool aq,.bool rl],.int .u64 pc,.int .u64 a] w fun e w'=>e=.returned (.int .u64 (IntKind.u64.wrap (pc+IntKind.u64.wrap im)))∧Nb w w':=by
 go_enter func34,ntmps34
 repeat (first|(with_reducible first|refine tE ?_|refine iS ?_|refine iO ?_)|go_values|go_skip|go_guarded|go_step|go_upon|go_back)
 go_ret
 exact⟨rfl,(Nb.refl _).alloc _⟩
theorem rtgt_6(rd rs1 rs2 im pc a:Int)(aq rl:Bool)(w:World):
  Calls prog 34 #[.agg #[.int .i64 6,.int .i64 rd,.int .i64 rs1,.int .i64 rs2,.int .i64 im,.bool aq,.bool rl],.int .u64 pc,.int .u64 a] w fun e w'=>e=.returned (.int .u64 (IntKind.u64.wrap (pc+IntKind.u64.wrap im)))∧Nb w w':=by
 go_enter func34,ntmps34
 repeat (first|(with_reducible first|refine tE ?_|refine iS ?_|refine iO ?_)|go_values|go_skip|go_guarded|go_step|go_upon|go_back)
 go_ret
 exact⟨rfl,(Nb.refl _).alloc _⟩
theorem rtgt_7(rd rs1 rs2 im pc a:Int)(aq rl:Bool)(w:World):
  Calls prog 34 #[.agg #[.int .i64 7,.int .i64 rd,.int .i64 rs1,.int .i64 rs2,.int .i64 im,.bool aq,.bool rl],.int .u64 pc,.int .u64 a] w fun e w'=>e=.returned (.int .u64 (IntKind.u64.wrap (pc+IntKind.u64.wrap im)))∧Nb w w':=by
 go_enter func34,ntmps34
 repeat (first|(with_reducible first|refine tE ?_|refine iS ?_|refine iO ?_)|go_values|go_skip|go_guarded|go_step|go_upon|go_back)
 go_ret
 exact⟨rfl,(Nb.refl _).alloc _⟩
theorem rtgt_8(rd rs1 rs2 im pc a:Int)(aq rl:Bool)(w:World):
  Calls prog 34 #[.agg #[.int .i64 8,.int .i64 rd,.int .i64 rs1,.int .i64 rs2,.int .i64 im,.bool aq,.bool rl],.int .u64 pc,.int .u64 a] w fun e w'=>e=.returned (.int .u64 (IntKind.u64.wrap (pc+IntKind.u64.wrap im)))∧Nb w w':=by
 go_enter func34,ntmps34
 repeat (first|(with_reducible first|refine tE ?_|refine iS ?_|refine iO ?_)|go_values|go_skip|go_guarded|go_step|go_upon|go_back)
 go_ret
 exact⟨rfl,(Nb.refl _).alloc _⟩
theorem rtgt_9(rd rs1 rs2 im pc a:Int)(aq rl:Bool)(w:World):
  Calls prog 34 #[.agg #[.int .i64 9,.int .i64 rd,.int .i64 rs1,.int .i64 rs2,.int .i64 im,.bool aq,.bool rl],.int .u64 pc,.int .u64 a] w fun e w'=>e=.returned (.int .u64 (IntKind.u64.wrap (pc+IntKind.u64.wrap im)))∧Nb w w':=by
 go_enter func34,ntmps34
 repeat (first|(with_reducible first|refine tE ?_|refine iS ?_|refine iO ?_)|go_values|go_skip|go_guarded|go_step|go_upon|go_back)
 go_ret
 exact⟨rfl,(Nb.refl _).alloc _⟩
theorem Z7Y(rd rs1 rs2 im pc a:Int)(aq rl:Bool)(w:World):
  Calls prog 34 #[.agg #[.int .i64 10,.int .i64 rd,.int .i64 rs1,.int .i64 rs2,.int .i64 im,.bool aq,.bool rl],.int .u64 pc,.int .u64 a] w fun e w'=>e=.returned (.int .u64 (IntKind.u64.wrap (pc+IntKind.u64.wrap im)))∧Nb w w':=by
 go_enter func34,ntmps34
 repeat (first|(with_reducible first|refine tE ?_|refine iS ?_|refine iO ?_)|go_values|go_skip|go_guarded|go_step|go_upon|go_back)
 go_ret
 exact⟨rfl,(Nb.refl _).alloc _⟩
theorem rtgt_4(rd rs1 rs2 im pc a:Int)(aq rl:Bool)(w:World):
  Calls prog 34 #[.agg #[.int .i64 4,.int .i64 rd,.int .i64 rs1,.int .i64 rs2,.int .i64 im,.bool aq,.bool rl],.int .u64 pc,.int .u64 a] w fun e w'=>e=.returned (.int .u64 (Plc (IntKind.u64.wrap (a+IntKind.u64.wrap im)) 0 1 0))∧Nb w w':=by
 obtain⟨q0,q1⟩:=ZF (a+IntKind.u64.wrap im)
 go_enter func34,ntmps34
 repeat (first|(with_reducible first|refine tE ?_|refine iS ?_|refine iO ?_)|go_values|go_skip|go_guarded|go_step|go_upon|go_back|(refine(XH _ _ _ _ q0 q1 (by decide) (by decide) _).mono ?_;rintro e w'⟨rfl,rfl⟩;simp only[]))
 go_ret
 exact⟨rfl,(Nb.refl _).alloc _⟩
theorem Z59(op rd rs1 rs2 im pc a:Int)(aq rl:Bool)(h:op≠3∧op≠4∧op<5)(w:World):
  Calls prog 34 #[.agg #[.int .i64 op,.int .i64 rd,.int .i64 rs1,.int .i64 rs2,.int .i64 im,.bool aq,.bool rl],.int .u64 pc,.int .u64 a] w fun e w'=>e=.returned (.int .u64 (IntKind.u64.wrap (pc+4)))∧Nb w w':=by
 have e3:(op==3)=false:=nB (by omega)
 have e4:(op==4)=false:=nB (by omega)
 have e5:¬5≤op:=by omega
 clear h
 go_enter func34,ntmps34
 repeat (first|(with_reducible first|refine tE ?_|refine iS ?_|refine iO ?_)|go_values|go_skip|go_guarded|go_step|go_upon|go_back)
 go_ret
 exact⟨rfl,(Nb.refl _).alloc _⟩
theorem Z5a(op rd rs1 rs2 im pc a:Int)(aq rl:Bool)(h:op≠3∧op≠4∧10<op)(w:World):
  Calls prog 34 #[.agg #[.int .i64 op,.int .i64 rd,.int .i64 rs1,.int .i64 rs2,.int .i64 im,.bool aq,.bool rl],.int .u64 pc,.int .u64 a] w fun e w'=>e=.returned (.int .u64 (IntKind.u64.wrap (pc+4)))∧Nb w w':=by
 have e3:(op==3)=false:=nB (by omega)
 have e4:(op==4)=false:=nB (by omega)
 have e5:5≤op:=by omega
 have e6:¬op≤10:=by omega
 clear h
 go_enter func34,ntmps34
 repeat (first|(with_reducible first|refine tE ?_|refine iS ?_|refine iO ?_)|go_values|go_skip|go_guarded|go_step|go_upon|go_back)
 go_ret
 exact⟨rfl,(Nb.refl _).alloc _⟩
theorem Z5b(op rd rs1 rs2 im pc a:Int)(aq rl:Bool)(w:World):
  Calls prog 34 #[.agg #[.int .i64 op,.int .i64 rd,.int .i64 rs1,.int .i64 rs2,.int .i64 im,.bool aq,.bool rl],.int .u64 pc,.int .u64 a] w fun e w'=>e=.returned (.int .u64 (TgB op im pc a))∧Nb w w':=by
 by_cases h:op=3∨op=4∨op=5∨op=6∨op=7∨op=8∨op=9∨op=10
 ·rcases h with rfl|rfl|rfl|rfl|rfl|rfl|rfl|rfl
  ·exact rtgt_3 rd rs1 rs2 im pc a aq rl w
  ·exact rtgt_4 rd rs1 rs2 im pc a aq rl w
  ·exact rtgt_5 rd rs1 rs2 im pc a aq rl w
  ·exact rtgt_6 rd rs1 rs2 im pc a aq rl w
  ·exact rtgt_7 rd rs1 rs2 im pc a aq rl w
  ·exact rtgt_8 rd rs1 rs2 im pc a aq rl w
  ·exact rtgt_9 rd rs1 rs2 im pc a aq rl w
  ·exact Z7Y rd rs1 rs2 im pc a aq rl w
 ·have e:TgB op im pc a=IntKind.u64.wrap (pc+4):=by unfold TgB;rw[if_neg (by omega),if_neg (by omega)]
  rw[e]
  by_cases c:op<5
  ·exact Z59 op rd rs1 rs2 im pc a aq rl (by omega) w
  ·exact Z5a op rd rs1 rs2 im pc a aq rl (by omega) w
end Go.Proofs.YtgpdpaljbiclkaaGreatDoor
end

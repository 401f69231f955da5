/-
  Proved here: what the reference's Value gives, by what plain, narrow and many of it answer. Conditions: the numbers are words.
-/
import Derived.Test.YtgpdpaljbiclkaaGreatDoorSzz
import Derived.Test.YtgpdpaljbiclkaaGreatDoorSaz
set_option maxHeartbeats 4000000
set_option maxRecDepth 100000
namespace Go.Proofs.YtgpdpaljbiclkaaGreatDoor
open _root_.Go.Proofs.Tryz
open Go.RowKit
set_option linter.unusedVariables false
theorem Xw(op rd rs1 rs2 im pc a b V:Int)(aq rl:Bool)(hop:4<op)(f o a3 a7:Int)(hf:(f !=8)=false)(HR:Hid (∀w,Calls prog 67 #[.int .i64 op] w fun e w'=>e=.returned (.agg #[.int .i64 f,.int .i64 o,.int .i64 a3,.int .i64 a7])∧Nw w w'))(P1:Hid (∀w,Calls prog 68 #[.int .i64 op,.int .u64 a,.int .u64 b] w fun e w'=>e=.returned (.tuple #[.int .u64 V,.bool true])∧w=w'))
  (HG:Hid (∀w,Calls prog 66 #[.agg #[.int .i64 op,.int .i64 rd,.int .i64 rs1,.int .i64 rs2,.int .i64 im,.bool aq,.bool rl]] w fun e w'=>e=.returned (.bool true)∧Nb w w')) (w:World):
  Calls prog 32 #[.agg #[.int .i64 op,.int .i64 rd,.int .i64 rs1,.int .i64 rs2,.int .i64 im,.bool aq,.bool rl],.int .u64 pc,.int .u64 a,.int .u64 b] w fun e w'=>e=.returned (.tuple #[.int .u64 V,.int .i64 0])∧Nb w w':=by
 have e1:(op==1)=false:=nB (by omega)
 have e2:(op==2)=false:=nB (by omega)
 have e3:(op==3)=false:=nB (by omega)
 have e4:(op==4)=false:=nB (by omega)
 clear hop
 have hix:∀(x y z u:Int) (w:World),(Instr.index 105 (.agg #[.int .i64 x,.int .i64 y,.int .i64 z,.int .i64 u]) (.int .i64 0)).run prog w=.ok (.int .i64 x) w:=fun _ _ _ _ _=>by kernel_rfl
 go_enter func32,ntmps32
 repeat (first|(with_reducible first|refine tE ?_|refine iS ?_|refine iO ?_)|go_values|go_skip|go_guarded|go_step|go_upon|go_back)
 obtain⟨W1,hW⟩:∃W1,w.alloc (.cells #[.int .i64 op,.int .i64 rd,.int .i64 rs1,.int .i64 rs2,.int .i64 im,.bool aq,.bool rl] 50)=W1:=⟨_,rfl⟩
 have hb:=Z0 w _ hW rfl
 have h2:Nb w W1:=by rw[←hW];exact(Nb.refl _).alloc _
 rw[hW]
 clear hW
 refine(HG.out _).mono ?_
 rintro e w1⟨rfl,hn⟩
 have hb1:=Nb.block hn hb
 have HB1:=Lib.hid hb1
 obtain⟨n1,c0,c1,c2,c3,c4,c5,c6⟩:=Z4 hb1
 clear hb hb1
 simp only[]
 repeat (first|(with_reducible first|refine tE ?_|refine iS ?_|refine iO ?_)|go_values|go_skip|go_guarded|go_step|go_upon|go_back)
 refine(HR.out _).mono ?_
 rintro e w2⟨rfl,hr⟩
 clear n1 c0 c1 c2 c3 c4 c5 c6
 obtain⟨n1,c0,c1,c2,c3,c4,c5,c6⟩:=Z4 (Nb.block (Nw.b hr) HB1.out)
 have h3:Nb w w2:=(h2.trans hn).trans (Nw.b hr)
 clear hr hn h2 HB1
 simp only[]
 repeat (first|(with_reducible first|refine tE ?_|refine iS ?_|refine iO ?_)|go_values|go_skip|go_guarded|go_step|go_upon|go_back)
 refine(P1.out _).mono ?_
 rintro e w'⟨rfl,rfl⟩
 simp only[]
 repeat (first|(with_reducible first|refine tE ?_|refine iS ?_|refine iO ?_)|go_values|go_skip|go_guarded|go_step|go_upon|go_back)
 go_ret2
 exact⟨rfl,h3⟩
theorem Xh(op rd rs1 rs2 im pc a b V:Int)(aq rl:Bool)(hop:4<op)(f o a3 a7:Int)(hf:(f !=8)=true)(HR:Hid (∀w,Calls prog 67 #[.int .i64 op] w fun e w'=>e=.returned (.agg #[.int .i64 f,.int .i64 o,.int .i64 a3,.int .i64 a7])∧Nw w w'))(P1:Hid (∀w,Calls prog 68 #[.int .i64 op,.int .u64 a,.int .u64 (IntKind.u64.wrap im)] w fun e w'=>e=.returned (.tuple #[.int .u64 V,.bool true])∧w=w'))
  (HG:Hid (∀w,Calls prog 66 #[.agg #[.int .i64 op,.int .i64 rd,.int .i64 rs1,.int .i64 rs2,.int .i64 im,.bool aq,.bool rl]] w fun e w'=>e=.returned (.bool true)∧Nb w w')) (w:World):
  Calls prog 32 #[.agg #[.int .i64 op,.int .i64 rd,.int .i64 rs1,.int .i64 rs2,.int .i64 im,.bool aq,.bool rl],.int .u64 pc,.int .u64 a,.int .u64 b] w fun e w'=>e=.returned (.tuple #[.int .u64 V,.int .i64 0])∧Nb w w':=by
 have e1:(op==1)=false:=nB (by omega)
 have e2:(op==2)=false:=nB (by omega)
 have e3:(op==3)=false:=nB (by omega)
 have e4:(op==4)=false:=nB (by omega)
 clear hop
 have hix:∀(x y z u:Int) (w:World),(Instr.index 105 (.agg #[.int .i64 x,.int .i64 y,.int .i64 z,.int .i64 u]) (.int .i64 0)).run prog w=.ok (.int .i64 x) w:=fun _ _ _ _ _=>by kernel_rfl
 go_enter func32,ntmps32
 repeat (first|(with_reducible first|refine tE ?_|refine iS ?_|refine iO ?_)|go_values|go_skip|go_guarded|go_step|go_upon|go_back)
 obtain⟨W1,hW⟩:∃W1,w.alloc (.cells #[.int .i64 op,.int .i64 rd,.int .i64 rs1,.int .i64 rs2,.int .i64 im,.bool aq,.bool rl] 50)=W1:=⟨_,rfl⟩
 have hb:=Z0 w _ hW rfl
 have h2:Nb w W1:=by rw[←hW];exact(Nb.refl _).alloc _
 rw[hW]
 clear hW
 refine(HG.out _).mono ?_
 rintro e w1⟨rfl,hn⟩
 have hb1:=Nb.block hn hb
 have HB1:=Lib.hid hb1
 obtain⟨n1,c0,c1,c2,c3,c4,c5,c6⟩:=Z4 hb1
 clear hb hb1
 simp only[]
 repeat (first|(with_reducible first|refine tE ?_|refine iS ?_|refine iO ?_)|go_values|go_skip|go_guarded|go_step|go_upon|go_back)
 refine(HR.out _).mono ?_
 rintro e w2⟨rfl,hr⟩
 clear n1 c0 c1 c2 c3 c4 c5 c6
 obtain⟨n1,c0,c1,c2,c3,c4,c5,c6⟩:=Z4 (Nb.block (Nw.b hr) HB1.out)
 have h3:Nb w w2:=(h2.trans hn).trans (Nw.b hr)
 clear hr hn h2 HB1
 simp only[]
 repeat (first|(with_reducible first|refine tE ?_|refine iS ?_|refine iO ?_)|go_values|go_skip|go_guarded|go_step|go_upon|go_back)
 refine(P1.out _).mono ?_
 rintro e w'⟨rfl,rfl⟩
 simp only[]
 repeat (first|(with_reducible first|refine tE ?_|refine iS ?_|refine iO ?_)|go_values|go_skip|go_guarded|go_step|go_upon|go_back)
 go_ret2
 exact⟨rfl,h3⟩
theorem Xx(op rd rs1 rs2 im pc a b V0 V:Int)(aq rl:Bool)(hop:4<op)(f o a3 a7:Int)(hf:(f !=8)=false)(HR:Hid (∀w,Calls prog 67 #[.int .i64 op] w fun e w'=>e=.returned (.agg #[.int .i64 f,.int .i64 o,.int .i64 a3,.int .i64 a7])∧Nw w w'))(P1:Hid (∀w,Calls prog 68 #[.int .i64 op,.int .u64 a,.int .u64 b] w fun e w'=>e=.returned (.tuple #[.int .u64 V0,.bool false])∧w=w'))(P2:Hid (∀w,Calls prog 69 #[.int .i64 op,.int .u64 a,.int .u64 b] w fun e w'=>e=.returned (.tuple #[.int .u64 V,.bool true])∧w=w'))
  (HG:Hid (∀w,Calls prog 66 #[.agg #[.int .i64 op,.int .i64 rd,.int .i64 rs1,.int .i64 rs2,.int .i64 im,.bool aq,.bool rl]] w fun e w'=>e=.returned (.bool true)∧Nb w w')) (w:World):
  Calls prog 32 #[.agg #[.int .i64 op,.int .i64 rd,.int .i64 rs1,.int .i64 rs2,.int .i64 im,.bool aq,.bool rl],.int .u64 pc,.int .u64 a,.int .u64 b] w fun e w'=>e=.returned (.tuple #[.int .u64 V,.int .i64 0])∧Nb w w':=by
 have e1:(op==1)=false:=nB (by omega)
 have e2:(op==2)=false:=nB (by omega)
 have e3:(op==3)=false:=nB (by omega)
 have e4:(op==4)=false:=nB (by omega)
 clear hop
 have hix:∀(x y z u:Int) (w:World),(Instr.index 105 (.agg #[.int .i64 x,.int .i64 y,.int .i64 z,.int .i64 u]) (.int .i64 0)).run prog w=.ok (.int .i64 x) w:=fun _ _ _ _ _=>by kernel_rfl
 go_enter func32,ntmps32
 repeat (first|(with_reducible first|refine tE ?_|refine iS ?_|refine iO ?_)|go_values|go_skip|go_guarded|go_step|go_upon|go_back)
 obtain⟨W1,hW⟩:∃W1,w.alloc (.cells #[.int .i64 op,.int .i64 rd,.int .i64 rs1,.int .i64 rs2,.int .i64 im,.bool aq,.bool rl] 50)=W1:=⟨_,rfl⟩
 have hb:=Z0 w _ hW rfl
 have h2:Nb w W1:=by rw[←hW];exact(Nb.refl _).alloc _
 rw[hW]
 clear hW
 refine(HG.out _).mono ?_
 rintro e w1⟨rfl,hn⟩
 have hb1:=Nb.block hn hb
 have HB1:=Lib.hid hb1
 obtain⟨n1,c0,c1,c2,c3,c4,c5,c6⟩:=Z4 hb1
 clear hb hb1
 simp only[]
 repeat (first|(with_reducible first|refine tE ?_|refine iS ?_|refine iO ?_)|go_values|go_skip|go_guarded|go_step|go_upon|go_back)
 refine(HR.out _).mono ?_
 rintro e w2⟨rfl,hr⟩
 clear n1 c0 c1 c2 c3 c4 c5 c6
 obtain⟨n1,c0,c1,c2,c3,c4,c5,c6⟩:=Z4 (Nb.block (Nw.b hr) HB1.out)
 have h3:Nb w w2:=(h2.trans hn).trans (Nw.b hr)
 clear hr hn h2 HB1
 simp only[]
 repeat (first|(with_reducible first|refine tE ?_|refine iS ?_|refine iO ?_)|go_values|go_skip|go_guarded|go_step|go_upon|go_back)
 refine(P1.out _).mono ?_
 rintro e w'⟨rfl,rfl⟩
 simp only[]
 repeat (first|(with_reducible first|refine tE ?_|refine iS ?_|refine iO ?_)|go_values|go_skip|go_guarded|go_step|go_upon|go_back)
 refine(P2.out _).mono ?_
 rintro e w'⟨rfl,rfl⟩
 simp only[]
 repeat (first|(with_reducible first|refine tE ?_|refine iS ?_|refine iO ?_)|go_values|go_skip|go_guarded|go_step|go_upon|go_back)
 go_ret2
 exact⟨rfl,h3⟩
theorem Jx(op rd rs1 rs2 im pc a b V0 V:Int)(aq rl:Bool)(hop:4<op)(f o a3 a7:Int)(hf:(f !=8)=true)(HR:Hid (∀w,Calls prog 67 #[.int .i64 op] w fun e w'=>e=.returned (.agg #[.int .i64 f,.int .i64 o,.int .i64 a3,.int .i64 a7])∧Nw w w'))(P1:Hid (∀w,Calls prog 68 #[.int .i64 op,.int .u64 a,.int .u64 (IntKind.u64.wrap im)] w fun e w'=>e=.returned (.tuple #[.int .u64 V0,.bool false])∧w=w'))(P2:Hid (∀w,Calls prog 69 #[.int .i64 op,.int .u64 a,.int .u64 (IntKind.u64.wrap im)] w fun e w'=>e=.returned (.tuple #[.int .u64 V,.bool true])∧w=w'))
  (HG:Hid (∀w,Calls prog 66 #[.agg #[.int .i64 op,.int .i64 rd,.int .i64 rs1,.int .i64 rs2,.int .i64 im,.bool aq,.bool rl]] w fun e w'=>e=.returned (.bool true)∧Nb w w')) (w:World):
  Calls prog 32 #[.agg #[.int .i64 op,.int .i64 rd,.int .i64 rs1,.int .i64 rs2,.int .i64 im,.bool aq,.bool rl],.int .u64 pc,.int .u64 a,.int .u64 b] w fun e w'=>e=.returned (.tuple #[.int .u64 V,.int .i64 0])∧Nb w w':=by
 have e1:(op==1)=false:=nB (by omega)
 have e2:(op==2)=false:=nB (by omega)
 have e3:(op==3)=false:=nB (by omega)
 have e4:(op==4)=false:=nB (by omega)
 clear hop
 have hix:∀(x y z u:Int) (w:World),(Instr.index 105 (.agg #[.int .i64 x,.int .i64 y,.int .i64 z,.int .i64 u]) (.int .i64 0)).run prog w=.ok (.int .i64 x) w:=fun _ _ _ _ _=>by kernel_rfl
 go_enter func32,ntmps32
 repeat (first|(with_reducible first|refine tE ?_|refine iS ?_|refine iO ?_)|go_values|go_skip|go_guarded|go_step|go_upon|go_back)
 obtain⟨W1,hW⟩:∃W1,w.alloc (.cells #[.int .i64 op,.int .i64 rd,.int .i64 rs1,.int .i64 rs2,.int .i64 im,.bool aq,.bool rl] 50)=W1:=⟨_,rfl⟩
 have hb:=Z0 w _ hW rfl
 have h2:Nb w W1:=by rw[←hW];exact(Nb.refl _).alloc _
 rw[hW]
 clear hW
 refine(HG.out _).mono ?_
 rintro e w1⟨rfl,hn⟩
 have hb1:=Nb.block hn hb
 have HB1:=Lib.hid hb1
 obtain⟨n1,c0,c1,c2,c3,c4,c5,c6⟩:=Z4 hb1
 clear hb hb1
 simp only[]
 repeat (first|(with_reducible first|refine tE ?_|refine iS ?_|refine iO ?_)|go_values|go_skip|go_guarded|go_step|go_upon|go_back)
 refine(HR.out _).mono ?_
 rintro e w2⟨rfl,hr⟩
 clear n1 c0 c1 c2 c3 c4 c5 c6
 obtain⟨n1,c0,c1,c2,c3,c4,c5,c6⟩:=Z4 (Nb.block (Nw.b hr) HB1.out)
 have h3:Nb w w2:=(h2.trans hn).trans (Nw.b hr)
 clear hr hn h2 HB1
 simp only[]
 repeat (first|(with_reducible first|refine tE ?_|refine iS ?_|refine iO ?_)|go_values|go_skip|go_guarded|go_step|go_upon|go_back)
 refine(P1.out _).mono ?_
 rintro e w'⟨rfl,rfl⟩
 simp only[]
 repeat (first|(with_reducible first|refine tE ?_|refine iS ?_|refine iO ?_)|go_values|go_skip|go_guarded|go_step|go_upon|go_back)
 refine(P2.out _).mono ?_
 rintro e w'⟨rfl,rfl⟩
 simp only[]
 repeat (first|(with_reducible first|refine tE ?_|refine iS ?_|refine iO ?_)|go_values|go_skip|go_guarded|go_step|go_upon|go_back)
 go_ret2
 exact⟨rfl,h3⟩
theorem K6(op rd rs1 rs2 im pc a b V0 V1 V:Int)(aq rl:Bool)(hop:4<op)(f o a3 a7:Int)(hf:(f !=8)=false)(HR:Hid (∀w,Calls prog 67 #[.int .i64 op] w fun e w'=>e=.returned (.agg #[.int .i64 f,.int .i64 o,.int .i64 a3,.int .i64 a7])∧Nw w w'))(P1:Hid (∀w,Calls prog 68 #[.int .i64 op,.int .u64 a,.int .u64 b] w fun e w'=>e=.returned (.tuple #[.int .u64 V0,.bool false])∧w=w'))(P2:Hid (∀w,Calls prog 69 #[.int .i64 op,.int .u64 a,.int .u64 b] w fun e w'=>e=.returned (.tuple #[.int .u64 V1,.bool false])∧w=w'))(P3:Hid (∀w,Calls prog 70 #[.int .i64 op,.int .u64 a,.int .u64 b] w fun e w'=>e=.returned (.tuple #[.int .u64 V,.bool true])∧w=w'))
  (HG:Hid (∀w,Calls prog 66 #[.agg #[.int .i64 op,.int .i64 rd,.int .i64 rs1,.int .i64 rs2,.int .i64 im,.bool aq,.bool rl]] w fun e w'=>e=.returned (.bool true)∧Nb w w')) (w:World):
  Calls prog 32 #[.agg #[.int .i64 op,.int .i64 rd,.int .i64 rs1,.int .i64 rs2,.int .i64 im,.bool aq,.bool rl],.int .u64 pc,.int .u64 a,.int .u64 b] w fun e w'=>e=.returned (.tuple #[.int .u64 V,.int .i64 0])∧Nb w w':=by
 have e1:(op==1)=false:=nB (by omega)
 have e2:(op==2)=false:=nB (by omega)
 have e3:(op==3)=false:=nB (by omega)
 have e4:(op==4)=false:=nB (by omega)
 clear hop
 have hix:∀(x y z u:Int) (w:World),(Instr.index 105 (.agg #[.int .i64 x,.int .i64 y,.int .i64 z,.int .i64 u]) (.int .i64 0)).run prog w=.ok (.int .i64 x) w:=fun _ _ _ _ _=>by kernel_rfl
 go_enter func32,ntmps32
 repeat (first|(with_reducible first|refine tE ?_|refine iS ?_|refine iO ?_)|go_values|go_skip|go_guarded|go_step|go_upon|go_back)
 obtain⟨W1,hW⟩:∃W1,w.alloc (.cells #[.int .i64 op,.int .i64 rd,.int .i64 rs1,.int .i64 rs2,.int .i64 im,.bool aq,.bool rl] 50)=W1:=⟨_,rfl⟩
 have hb:=Z0 w _ hW rfl
 have h2:Nb w W1:=by rw[←hW];exact(Nb.refl _).alloc _
 rw[hW]
 clear hW
 refine(HG.out _).mono ?_
 rintro e w1⟨rfl,hn⟩
 have hb1:=Nb.block hn hb
 have HB1:=Lib.hid hb1
 obtain⟨n1,c0,c1,c2,c3,c4,c5,c6⟩:=Z4 hb1
 clear hb hb1
 simp only[]
 repeat (first|(with_reducible first|refine tE ?_|refine iS ?_|refine iO ?_)|go_values|go_skip|go_guarded|go_step|go_upon|go_back)
 refine(HR.out _).mono ?_
 rintro e w2⟨rfl,hr⟩
 clear n1 c0 c1 c2 c3 c4 c5 c6
 obtain⟨n1,c0,c1,c2,c3,c4,c5,c6⟩:=Z4 (Nb.block (Nw.b hr) HB1.out)
 have h3:Nb w w2:=(h2.trans hn).trans (Nw.b hr)
 clear hr hn h2 HB1
 simp only[]
 repeat (first|(with_reducible first|refine tE ?_|refine iS ?_|refine iO ?_)|go_values|go_skip|go_guarded|go_step|go_upon|go_back)
 refine(P1.out _).mono ?_
 rintro e w'⟨rfl,rfl⟩
 simp only[]
 repeat (first|(with_reducible first|refine tE ?_|refine iS ?_|refine iO ?_)|go_values|go_skip|go_guarded|go_step|go_upon|go_back)
 refine(P2.out _).mono ?_
 rintro e w'⟨rfl,rfl⟩
 simp only[]
 repeat (first|(with_reducible first|refine tE ?_|refine iS ?_|refine iO ?_)|go_values|go_skip|go_guarded|go_step|go_upon|go_back)
 refine(P3.out _).mono ?_
 rintro e w'⟨rfl,rfl⟩
 simp only[]
 repeat (first|(with_reducible first|refine tE ?_|refine iS ?_|refine iO ?_)|go_values|go_skip|go_guarded|go_step|go_upon|go_back)
 go_ret2
 exact⟨rfl,h3⟩
theorem rval_b(op rd rs1 rs2 im pc a b:Int)(aq rl:Bool)(qa:InU a)(qb:InU b)(qi:InU (IntKind.u64.wrap im))(hop:op=45∨op=41∨op=31∨op=22∨op=46∨op=32∨op=47∨op=42∨op=33∨op=28∨op=48∨op=43∨op=37∨op=29∨op=49∨op=44∨op=38∨op=30∨op=34∨op=23∨op=35∨op=24∨op=36∨op=25∨op=39∨op=26∨op=40∨op=27∨op=61∨op=53∨op=54∨op=55∨op=56∨op=62∨op=57∨op=63∨op=58∨op=64∨op=59∨op=65∨op=60)
  (HG:Hid (∀w,Calls prog 66 #[.agg #[.int .i64 op,.int .i64 rd,.int .i64 rs1,.int .i64 rs2,.int .i64 im,.bool aq,.bool rl]] w fun e w'=>e=.returned (.bool true)∧Nb w w')) (w:World):
  Calls prog 32 #[.agg #[.int .i64 op,.int .i64 rd,.int .i64 rs1,.int .i64 rs2,.int .i64 im,.bool aq,.bool rl],.int .u64 pc,.int .u64 a,.int .u64 b] w fun e w'=>e=.returned (.tuple #[.int .u64 (VB op im pc a b),.int .i64 0])∧Nb w w':=by
 have HR:=Lib.hid (Xc op)
 rcases hop with rfl|rfl|rfl|rfl|rfl|rfl|rfl|rfl|rfl|rfl|rfl|rfl|rfl|rfl|rfl|rfl|rfl|rfl|rfl|rfl|rfl|rfl|rfl|rfl|rfl|rfl|rfl|rfl|rfl|rfl|rfl|rfl|rfl|rfl|rfl|rfl|rfl|rfl|rfl|rfl|rfl
 ·exact Xx 45 rd rs1 rs2 im pc a b _ _ aq rl (by decide) _ _ _ _ (by rfl) HR (Lib.hid (ZH 45 _ _ (by decide) qa qb)) (Lib.hid (Z3j _ _ qa qb)) HG w
 ·exact Jx 41 rd rs1 rs2 im pc a b _ _ aq rl (by decide) _ _ _ _ (by rfl) HR (Lib.hid (ZH 41 _ _ (by decide) qa qi)) (Lib.hid (Z3k _ _ qa qi)) HG w
 ·exact Xw 31 rd rs1 rs2 im pc a b _ aq rl (by decide) _ _ _ _ (by rfl) HR (Lib.hid (Z4N _ _ qa qb)) HG w
 ·exact Xh 22 rd rs1 rs2 im pc a b _ aq rl (by decide) _ _ _ _ (by rfl) HR (Lib.hid (Z4O _ _ qa qi)) HG w
 ·exact Xx 46 rd rs1 rs2 im pc a b _ _ aq rl (by decide) _ _ _ _ (by rfl) HR (Lib.hid (ZH 46 _ _ (by decide) qa qb)) (Lib.hid (Z3l _ _ qa qb)) HG w
 ·exact Xw 32 rd rs1 rs2 im pc a b _ aq rl (by decide) _ _ _ _ (by rfl) HR (Lib.hid (Z4P _ _ qa qb)) HG w
 ·exact Xx 47 rd rs1 rs2 im pc a b _ _ aq rl (by decide) _ _ _ _ (by rfl) HR (Lib.hid (ZH 47 _ _ (by decide) qa qb)) (Lib.hid (Z3m _ _ qa qb)) HG w
 ·exact Jx 42 rd rs1 rs2 im pc a b _ _ aq rl (by decide) _ _ _ _ (by rfl) HR (Lib.hid (ZH 42 _ _ (by decide) qa qi)) (Lib.hid (Z3n _ _ qa qi)) HG w
 ·exact Xw 33 rd rs1 rs2 im pc a b _ aq rl (by decide) _ _ _ _ (by rfl) HR (Lib.hid (Z4Q _ _ qa qb)) HG w
 ·exact Xh 28 rd rs1 rs2 im pc a b _ aq rl (by decide) _ _ _ _ (by rfl) HR (Lib.hid (Z4R _ _ qa qi)) HG w
 ·exact Xx 48 rd rs1 rs2 im pc a b _ _ aq rl (by decide) _ _ _ _ (by rfl) HR (Lib.hid (ZH 48 _ _ (by decide) qa qb)) (Lib.hid (Z3o _ _ qa qb)) HG w
 ·exact Jx 43 rd rs1 rs2 im pc a b _ _ aq rl (by decide) _ _ _ _ (by rfl) HR (Lib.hid (ZH 43 _ _ (by decide) qa qi)) (Lib.hid (Z3p _ _ qa qi)) HG w
 ·exact Xw 37 rd rs1 rs2 im pc a b _ aq rl (by decide) _ _ _ _ (by rfl) HR (Lib.hid (Z4S _ _ qa qb)) HG w
 ·exact Xh 29 rd rs1 rs2 im pc a b _ aq rl (by decide) _ _ _ _ (by rfl) HR (Lib.hid (Z4T _ _ qa qi)) HG w
 ·exact Xx 49 rd rs1 rs2 im pc a b _ _ aq rl (by decide) _ _ _ _ (by rfl) HR (Lib.hid (ZH 49 _ _ (by decide) qa qb)) (Lib.hid (Z3q _ _ qa qb)) HG w
 ·exact Jx 44 rd rs1 rs2 im pc a b _ _ aq rl (by decide) _ _ _ _ (by rfl) HR (Lib.hid (ZH 44 _ _ (by decide) qa qi)) (Lib.hid (Z3r _ _ qa qi)) HG w
 ·exact Xw 38 rd rs1 rs2 im pc a b _ aq rl (by decide) _ _ _ _ (by rfl) HR (Lib.hid (Z4U _ _ qa qb)) HG w
 ·exact Xh 30 rd rs1 rs2 im pc a b _ aq rl (by decide) _ _ _ _ (by rfl) HR (Lib.hid (Z4V _ _ qa qi)) HG w
 ·exact Xw 34 rd rs1 rs2 im pc a b _ aq rl (by decide) _ _ _ _ (by rfl) HR (Lib.hid (Z4W _ _ qa qb)) HG w
 ·exact Xh 23 rd rs1 rs2 im pc a b _ aq rl (by decide) _ _ _ _ (by rfl) HR (Lib.hid (Z4X _ _ qa qi)) HG w
 ·exact Xw 35 rd rs1 rs2 im pc a b _ aq rl (by decide) _ _ _ _ (by rfl) HR (Lib.hid (Z4Y _ _ qa qb)) HG w
 ·exact Xh 24 rd rs1 rs2 im pc a b _ aq rl (by decide) _ _ _ _ (by rfl) HR (Lib.hid (Z4Z _ _ qa qi)) HG w
 ·exact Xw 36 rd rs1 rs2 im pc a b _ aq rl (by decide) _ _ _ _ (by rfl) HR (Lib.hid (Z50 _ _ qa qb)) HG w
 ·exact Xh 25 rd rs1 rs2 im pc a b _ aq rl (by decide) _ _ _ _ (by rfl) HR (Lib.hid (Z51 _ _ qa qi)) HG w
 ·exact Xw 39 rd rs1 rs2 im pc a b _ aq rl (by decide) _ _ _ _ (by rfl) HR (Lib.hid (Z52 _ _ qa qb)) HG w
 ·exact Xh 26 rd rs1 rs2 im pc a b _ aq rl (by decide) _ _ _ _ (by rfl) HR (Lib.hid (Z53 _ _ qa qi)) HG w
 ·exact Xw 40 rd rs1 rs2 im pc a b _ aq rl (by decide) _ _ _ _ (by rfl) HR (Lib.hid (Z54 _ _ qa qb)) HG w
 ·exact Xh 27 rd rs1 rs2 im pc a b _ aq rl (by decide) _ _ _ _ (by rfl) HR (Lib.hid (Z55 _ _ qa qi)) HG w
 ·exact Xx 61 rd rs1 rs2 im pc a b _ _ aq rl (by decide) _ _ _ _ (by rfl) HR (Lib.hid (ZH 61 _ _ (by decide) qa qb)) (Lib.hid (Z3s _ _ qa qb)) HG w
 ·exact K6 53 rd rs1 rs2 im pc a b _ _ _ aq rl (by decide) _ _ _ _ (by rfl) HR (Lib.hid (ZH 53 _ _ (by decide) qa qb)) (Lib.hid (Yk 53 _ _ (by decide) qa qb)) (Lib.hid (Z7M _ _ qa qb)) HG w
 ·exact K6 54 rd rs1 rs2 im pc a b _ _ _ aq rl (by decide) _ _ _ _ (by rfl) HR (Lib.hid (ZH 54 _ _ (by decide) qa qb)) (Lib.hid (Yk 54 _ _ (by decide) qa qb)) (Lib.hid (Z7N _ _ qa qb)) HG w
 ·exact K6 55 rd rs1 rs2 im pc a b _ _ _ aq rl (by decide) _ _ _ _ (by rfl) HR (Lib.hid (ZH 55 _ _ (by decide) qa qb)) (Lib.hid (Yk 55 _ _ (by decide) qa qb)) (Lib.hid (Z7O _ _ qa qb)) HG w
 ·exact K6 56 rd rs1 rs2 im pc a b _ _ _ aq rl (by decide) _ _ _ _ (by rfl) HR (Lib.hid (ZH 56 _ _ (by decide) qa qb)) (Lib.hid (Yk 56 _ _ (by decide) qa qb)) (Lib.hid (Z7P _ _ qa qb)) HG w
 ·exact Xx 62 rd rs1 rs2 im pc a b _ _ aq rl (by decide) _ _ _ _ (by rfl) HR (Lib.hid (ZH 62 _ _ (by decide) qa qb)) (Lib.hid (Z3t _ _ qa qb)) HG w
 ·exact K6 57 rd rs1 rs2 im pc a b _ _ _ aq rl (by decide) _ _ _ _ (by rfl) HR (Lib.hid (ZH 57 _ _ (by decide) qa qb)) (Lib.hid (Yk 57 _ _ (by decide) qa qb)) (Lib.hid (Z7Q _ _ qa qb)) HG w
 ·exact Xx 63 rd rs1 rs2 im pc a b _ _ aq rl (by decide) _ _ _ _ (by rfl) HR (Lib.hid (ZH 63 _ _ (by decide) qa qb)) (Lib.hid (Z3u _ _ qa qb)) HG w
 ·exact K6 58 rd rs1 rs2 im pc a b _ _ _ aq rl (by decide) _ _ _ _ (by rfl) HR (Lib.hid (ZH 58 _ _ (by decide) qa qb)) (Lib.hid (Yk 58 _ _ (by decide) qa qb)) (Lib.hid (Z7R _ _ qa qb)) HG w
 ·exact Xx 64 rd rs1 rs2 im pc a b _ _ aq rl (by decide) _ _ _ _ (by rfl) HR (Lib.hid (ZH 64 _ _ (by decide) qa qb)) (Lib.hid (Z3v _ _ qa qb)) HG w
 ·exact K6 59 rd rs1 rs2 im pc a b _ _ _ aq rl (by decide) _ _ _ _ (by rfl) HR (Lib.hid (ZH 59 _ _ (by decide) qa qb)) (Lib.hid (Yk 59 _ _ (by decide) qa qb)) (Lib.hid (Z7S _ _ qa qb)) HG w
 ·exact Xx 65 rd rs1 rs2 im pc a b _ _ aq rl (by decide) _ _ _ _ (by rfl) HR (Lib.hid (ZH 65 _ _ (by decide) qa qb)) (Lib.hid (Z3w _ _ qa qb)) HG w
 ·exact K6 60 rd rs1 rs2 im pc a b _ _ _ aq rl (by decide) _ _ _ _ (by rfl) HR (Lib.hid (ZH 60 _ _ (by decide) qa qb)) (Lib.hid (Yk 60 _ _ (by decide) qa qb)) (Lib.hid (Z7T _ _ qa qb)) HG w
end Go.Proofs.YtgpdpaljbiclkaaGreatDoor

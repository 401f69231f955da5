/-
  Proved here: what the reference's Value gives, the other operations. Conditions: the numbers are words.
-/
import Derived.Test.YtgpdpaljbiclkaaGreatDoorSzz
import Derived.Test.YtgpdpaljbiclkaaGreatDoorSaz
set_option maxHeartbeats 1000000
set_option maxRecDepth 100000
namespace Go.Proofs.YtgpdpaljbiclkaaGreatDoor
open _root_.Go.Proofs.Tryz
open Go.RowKit
set_option linter.unusedVariables false
theorem rval_1(rd rs1 rs2 im pc a b:Int)(aq rl:Bool)(qa:InU a)(qb:InU b)(qi:InU (IntKind.u64.wrap im))
  (HG:Hid (∀w,Calls prog 66 #[.agg #[.int .i64 1,.int .i64 rd,.int .i64 rs1,.int .i64 rs2,.int .i64 im,.bool aq,.bool rl]] w fun e w'=>e=.returned (.bool true)∧Nb w w')) (w:World):
  Calls prog 32 #[.agg #[.int .i64 1,.int .i64 rd,.int .i64 rs1,.int .i64 rs2,.int .i64 im,.bool aq,.bool rl],.int .u64 pc,.int .u64 a,.int .u64 b] w fun e w'=>e=.returned (.tuple #[.int .u64 (IntKind.u64.wrap im),.int .i64 0])∧Nb w w':=by
 have HR:=Lib.hid (Xc 1)
 rw[show Z9 1=(1,55,0,0) from rfl] at HR
 have hix:∀(x y z u:Int) (w:World),(Instr.index 105 (.agg #[.int .i64 x,.int .i64 y,.int .i64 z,.int .i64 u]) (.int .i64 0)).run prog w=.ok (.int .i64 x) w:=fun _ _ _ _ _=>by kernel_rfl
 go_enter func32,ntmps32
 repeat (first|(with_reducible first|refine tE ?_|refine iS ?_|refine iO ?_)|go_values|go_skip|go_guarded|go_step|go_upon|go_back)
 obtain⟨W1,hW⟩:∃W1,w.alloc (.cells #[.int .i64 1,.int .i64 rd,.int .i64 rs1,.int .i64 rs2,.int .i64 im,.bool aq,.bool rl] 50)=W1:=⟨_,rfl⟩
 have hb:=Z0 w _ hW rfl
 have h2:Nb w W1:=by rw[←hW];exact(Nb.refl _).alloc _
 rw[hW]
 clear hW
 refine(HG.out _).mono ?_
 rintro e w1⟨rfl,hn⟩
 have hb1:=Nb.block hn hb
 have HB1:=Lib.hid hb1
 obtain⟨n1,c0,c1,c2,c3,c4,c5,c6⟩:=Z4 hb1
 clear hb hb1
 simp only[]
 repeat (first|(with_reducible first|refine tE ?_|refine iS ?_|refine iO ?_)|go_values|go_skip|go_guarded|go_step|go_upon|go_back)
 refine(HR.out _).mono ?_
 rintro e w2⟨rfl,hr⟩
 clear n1 c0 c1 c2 c3 c4 c5 c6
 obtain⟨n1,c0,c1,c2,c3,c4,c5,c6⟩:=Z4 (Nb.block (Nw.b hr) HB1.out)
 have h3:Nb w w2:=(h2.trans hn).trans (Nw.b hr)
 clear hr hn h2 HB1
 simp only[]
 repeat (first|(with_reducible first|refine tE ?_|refine iS ?_|refine iO ?_)|go_values|go_skip|go_guarded|go_step|go_upon|go_back)
 go_ret2
 exact⟨rfl,h3⟩
theorem rval_2(rd rs1 rs2 im pc a b:Int)(aq rl:Bool)(qa:InU a)(qb:InU b)(qi:InU (IntKind.u64.wrap im))
  (HG:Hid (∀w,Calls prog 66 #[.agg #[.int .i64 2,.int .i64 rd,.int .i64 rs1,.int .i64 rs2,.int .i64 im,.bool aq,.bool rl]] w fun e w'=>e=.returned (.bool true)∧Nb w w')) (w:World):
  Calls prog 32 #[.agg #[.int .i64 2,.int .i64 rd,.int .i64 rs1,.int .i64 rs2,.int .i64 im,.bool aq,.bool rl],.int .u64 pc,.int .u64 a,.int .u64 b] w fun e w'=>e=.returned (.tuple #[.int .u64 (IntKind.u64.wrap (pc+IntKind.u64.wrap im)),.int .i64 0])∧Nb w w':=by
 have HR:=Lib.hid (Xc 2)
 rw[show Z9 2=(1,23,0,0) from rfl] at HR
 have hix:∀(x y z u:Int) (w:World),(Instr.index 105 (.agg #[.int .i64 x,.int .i64 y,.int .i64 z,.int .i64 u]) (.int .i64 0)).run prog w=.ok (.int .i64 x) w:=fun _ _ _ _ _=>by kernel_rfl
 go_enter func32,ntmps32
 repeat (first|(with_reducible first|refine tE ?_|refine iS ?_|refine iO ?_)|go_values|go_skip|go_guarded|go_step|go_upon|go_back)
 obtain⟨W1,hW⟩:∃W1,w.alloc (.cells #[.int .i64 2,.int .i64 rd,.int .i64 rs1,.int .i64 rs2,.int .i64 im,.bool aq,.bool rl] 50)=W1:=⟨_,rfl⟩
 have hb:=Z0 w _ hW rfl
 have h2:Nb w W1:=by rw[←hW];exact(Nb.refl _).alloc _
 rw[hW]
 clear hW
 refine(HG.out _).mono ?_
 rintro e w1⟨rfl,hn⟩
 have hb1:=Nb.block hn hb
 have HB1:=Lib.hid hb1
 obtain⟨n1,c0,c1,c2,c3,c4,c5,c6⟩:=Z4 hb1
 clear hb hb1
 simp only[]
 repeat (first|(with_reducible first|refine tE ?_|refine iS ?_|refine iO ?_)|go_values|go_skip|go_guarded|go_step|go_upon|go_back)
 refine(HR.out _).mono ?_
 rintro e w2⟨rfl,hr⟩
 clear n1 c0 c1 c2 c3 c4 c5 c6
 obtain⟨n1,c0,c1,c2,c3,c4,c5,c6⟩:=Z4 (Nb.block (Nw.b hr) HB1.out)
 have h3:Nb w w2:=(h2.trans hn).trans (Nw.b hr)
 clear hr hn h2 HB1
 simp only[]
 repeat (first|(with_reducible first|refine tE ?_|refine iS ?_|refine iO ?_)|go_values|go_skip|go_guarded|go_step|go_upon|go_back)
 go_ret2
 exact⟨rfl,h3⟩
theorem rval_3(rd rs1 rs2 im pc a b:Int)(aq rl:Bool)(qa:InU a)(qb:InU b)(qi:InU (IntKind.u64.wrap im))
  (HG:Hid (∀w,Calls prog 66 #[.agg #[.int .i64 3,.int .i64 rd,.int .i64 rs1,.int .i64 rs2,.int .i64 im,.bool aq,.bool rl]] w fun e w'=>e=.returned (.bool true)∧Nb w w')) (w:World):
  Calls prog 32 #[.agg #[.int .i64 3,.int .i64 rd,.int .i64 rs1,.int .i64 rs2,.int .i64 im,.bool aq,.bool rl],.int .u64 pc,.int .u64 a,.int .u64 b] w fun e w'=>e=.returned (.tuple #[.int .u64 (IntKind.u64.wrap (pc+4)),.int .i64 0])∧Nb w w':=by
 have HR:=Lib.hid (Xc 3)
 rw[show Z9 3=(2,111,0,0) from rfl] at HR
 have hix:∀(x y z u:Int) (w:World),(Instr.index 105 (.agg #[.int .i64 x,.int .i64 y,.int .i64 z,.int .i64 u]) (.int .i64 0)).run prog w=.ok (.int .i64 x) w:=fun _ _ _ _ _=>by kernel_rfl
 go_enter func32,ntmps32
 repeat (first|(with_reducible first|refine tE ?_|refine iS ?_|refine iO ?_)|go_values|go_skip|go_guarded|go_step|go_upon|go_back)
 obtain⟨W1,hW⟩:∃W1,w.alloc (.cells #[.int .i64 3,.int .i64 rd,.int .i64 rs1,.int .i64 rs2,.int .i64 im,.bool aq,.bool rl] 50)=W1:=⟨_,rfl⟩
 have hb:=Z0 w _ hW rfl
 have h2:Nb w W1:=by rw[←hW];exact(Nb.refl _).alloc _
 rw[hW]
 clear hW
 refine(HG.out _).mono ?_
 rintro e w1⟨rfl,hn⟩
 have hb1:=Nb.block hn hb
 have HB1:=Lib.hid hb1
 obtain⟨n1,c0,c1,c2,c3,c4,c5,c6⟩:=Z4 hb1
 clear hb hb1
 simp only[]
 repeat (first|(with_reducible first|refine tE ?_|refine iS ?_|refine iO ?_)|go_values|go_skip|go_guarded|go_step|go_upon|go_back)
 refine(HR.out _).mono ?_
 rintro e w2⟨rfl,hr⟩
 clear n1 c0 c1 c2 c3 c4 c5 c6
 obtain⟨n1,c0,c1,c2,c3,c4,c5,c6⟩:=Z4 (Nb.block (Nw.b hr) HB1.out)
 have h3:Nb w w2:=(h2.trans hn).trans (Nw.b hr)
 clear hr hn h2 HB1
 simp only[]
 repeat (first|(with_reducible first|refine tE ?_|refine iS ?_|refine iO ?_)|go_values|go_skip|go_guarded|go_step|go_upon|go_back)
 go_ret2
 exact⟨rfl,h3⟩
theorem rval_4(rd rs1 rs2 im pc a b:Int)(aq rl:Bool)(qa:InU a)(qb:InU b)(qi:InU (IntKind.u64.wrap im))
  (HG:Hid (∀w,Calls prog 66 #[.agg #[.int .i64 4,.int .i64 rd,.int .i64 rs1,.int .i64 rs2,.int .i64 im,.bool aq,.bool rl]] w fun e w'=>e=.returned (.bool true)∧Nb w w')) (w:World):
  Calls prog 32 #[.agg #[.int .i64 4,.int .i64 rd,.int .i64 rs1,.int .i64 rs2,.int .i64 im,.bool aq,.bool rl],.int .u64 pc,.int .u64 a,.int .u64 b] w fun e w'=>e=.returned (.tuple #[.int .u64 (IntKind.u64.wrap (pc+4)),.int .i64 0])∧Nb w w':=by
 have HR:=Lib.hid (Xc 4)
 rw[show Z9 4=(3,103,0,0) from rfl] at HR
 have hix:∀(x y z u:Int) (w:World),(Instr.index 105 (.agg #[.int .i64 x,.int .i64 y,.int .i64 z,.int .i64 u]) (.int .i64 0)).run prog w=.ok (.int .i64 x) w:=fun _ _ _ _ _=>by kernel_rfl
 go_enter func32,ntmps32
 repeat (first|(with_reducible first|refine tE ?_|refine iS ?_|refine iO ?_)|go_values|go_skip|go_guarded|go_step|go_upon|go_back)
 obtain⟨W1,hW⟩:∃W1,w.alloc (.cells #[.int .i64 4,.int .i64 rd,.int .i64 rs1,.int .i64 rs2,.int .i64 im,.bool aq,.bool rl] 50)=W1:=⟨_,rfl⟩
 have hb:=Z0 w _ hW rfl
 have h2:Nb w W1:=by rw[←hW];exact(Nb.refl _).alloc _
 rw[hW]
 clear hW
 refine(HG.out _).mono ?_
 rintro e w1⟨rfl,hn⟩
 have hb1:=Nb.block hn hb
 have HB1:=Lib.hid hb1
 obtain⟨n1,c0,c1,c2,c3,c4,c5,c6⟩:=Z4 hb1
 clear hb hb1
 simp only[]
 repeat (first|(with_reducible first|refine tE ?_|refine iS ?_|refine iO ?_)|go_values|go_skip|go_guarded|go_step|go_upon|go_back)
 refine(HR.out _).mono ?_
 rintro e w2⟨rfl,hr⟩
 clear n1 c0 c1 c2 c3 c4 c5 c6
 obtain⟨n1,c0,c1,c2,c3,c4,c5,c6⟩:=Z4 (Nb.block (Nw.b hr) HB1.out)
 have h3:Nb w w2:=(h2.trans hn).trans (Nw.b hr)
 clear hr hn h2 HB1
 simp only[]
 repeat (first|(with_reducible first|refine tE ?_|refine iS ?_|refine iO ?_)|go_values|go_skip|go_guarded|go_step|go_upon|go_back)
 go_ret2
 exact⟨rfl,h3⟩
theorem Z56(op rd rs1 rs2 im pc a b:Int)(aq rl:Bool)(qa:InU a)(qb:InU b)(qi:InU (IntKind.u64.wrap im))
  (HG:Hid (∀w,Calls prog 66 #[.agg #[.int .i64 op,.int .i64 rd,.int .i64 rs1,.int .i64 rs2,.int .i64 im,.bool aq,.bool rl]] w fun e w'=>e=.returned (.bool false)∧Nb w w')) (w:World):
  Calls prog 32 #[.agg #[.int .i64 op,.int .i64 rd,.int .i64 rs1,.int .i64 rs2,.int .i64 im,.bool aq,.bool rl],.int .u64 pc,.int .u64 a,.int .u64 b] w fun e w'=>e=.returned (.tuple #[.int .u64 (0),.int .i64 20])∧Nb w w':=by
 have hix:∀(x y z u:Int) (w:World),(Instr.index 105 (.agg #[.int .i64 x,.int .i64 y,.int .i64 z,.int .i64 u]) (.int .i64 0)).run prog w=.ok (.int .i64 x) w:=fun _ _ _ _ _=>by kernel_rfl
 go_enter func32,ntmps32
 repeat (first|(with_reducible first|refine tE ?_|refine iS ?_|refine iO ?_)|go_values|go_skip|go_guarded|go_step|go_upon|go_back)
 obtain⟨W1,hW⟩:∃W1,w.alloc (.cells #[.int .i64 op,.int .i64 rd,.int .i64 rs1,.int .i64 rs2,.int .i64 im,.bool aq,.bool rl] 50)=W1:=⟨_,rfl⟩
 have hb:=Z0 w _ hW rfl
 have h2:Nb w W1:=by rw[←hW];exact(Nb.refl _).alloc _
 rw[hW]
 clear hW
 refine(HG.out _).mono ?_
 rintro e w1⟨rfl,hn⟩
 clear hb
 simp only[]
 repeat (first|(with_reducible first|refine tE ?_|refine iS ?_|refine iO ?_)|go_values|go_skip|go_guarded|go_step|go_upon|go_back)
 go_ret2
 exact⟨rfl,h2.trans hn⟩
theorem Z2b(op rd rs1 rs2 im pc a b:Int)(aq rl:Bool)(qa:InU a)(qb:InU b)(qi:InU (IntKind.u64.wrap im))(hno:Ks op=false)(f o a3 a7:Int)(hf:(f !=8)=false)(HR:Hid (∀w,Calls prog 67 #[.int .i64 op] w fun e w'=>e=.returned (.agg #[.int .i64 f,.int .i64 o,.int .i64 a3,.int .i64 a7])∧Nw w w'))
  (HG:Hid (∀w,Calls prog 66 #[.agg #[.int .i64 op,.int .i64 rd,.int .i64 rs1,.int .i64 rs2,.int .i64 im,.bool aq,.bool rl]] w fun e w'=>e=.returned (.bool true)∧Nb w w')) (w:World):
  Calls prog 32 #[.agg #[.int .i64 op,.int .i64 rd,.int .i64 rs1,.int .i64 rs2,.int .i64 im,.bool aq,.bool rl],.int .u64 pc,.int .u64 a,.int .u64 b] w fun e w'=>e=.returned (.tuple #[.int .u64 (0),.int .i64 80])∧Nb w w':=by
 unfold Ks at hno
 simp at hno
 have e1:(op==1)=false:=nB (by omega)
 have e2:(op==2)=false:=nB (by omega)
 have e3:(op==3)=false:=nB (by omega)
 have e4:(op==4)=false:=nB (by omega)
 have P1:=Lib.hid (ZH op a b (by omega) qa qb)
 have P2:=Lib.hid (Yk op a b (by omega) qa qb)
 have P3:=Lib.hid (Z0l op a b (by omega) qa qb)
 clear hno
 have hix:∀(x y z u:Int) (w:World),(Instr.index 105 (.agg #[.int .i64 x,.int .i64 y,.int .i64 z,.int .i64 u]) (.int .i64 0)).run prog w=.ok (.int .i64 x) w:=fun _ _ _ _ _=>by kernel_rfl
 go_enter func32,ntmps32
 repeat (first|(with_reducible first|refine tE ?_|refine iS ?_|refine iO ?_)|go_values|go_skip|go_guarded|go_step|go_upon|go_back)
 obtain⟨W1,hW⟩:∃W1,w.alloc (.cells #[.int .i64 op,.int .i64 rd,.int .i64 rs1,.int .i64 rs2,.int .i64 im,.bool aq,.bool rl] 50)=W1:=⟨_,rfl⟩
 have hb:=Z0 w _ hW rfl
 have h2:Nb w W1:=by rw[←hW];exact(Nb.refl _).alloc _
 rw[hW]
 clear hW
 refine(HG.out _).mono ?_
 rintro e w1⟨rfl,hn⟩
 have hb1:=Nb.block hn hb
 have HB1:=Lib.hid hb1
 obtain⟨n1,c0,c1,c2,c3,c4,c5,c6⟩:=Z4 hb1
 clear hb hb1
 simp only[]
 repeat (first|(with_reducible first|refine tE ?_|refine iS ?_|refine iO ?_)|go_values|go_skip|go_guarded|go_step|go_upon|go_back)
 refine(HR.out _).mono ?_
 rintro e w2⟨rfl,hr⟩
 clear n1 c0 c1 c2 c3 c4 c5 c6
 obtain⟨n1,c0,c1,c2,c3,c4,c5,c6⟩:=Z4 (Nb.block (Nw.b hr) HB1.out)
 have h3:Nb w w2:=(h2.trans hn).trans (Nw.b hr)
 clear hr hn h2 HB1
 simp only[]
 repeat (first|(with_reducible first|refine tE ?_|refine iS ?_|refine iO ?_)|go_values|go_skip|go_guarded|go_step|go_upon|go_back)
 refine(P1.out _).mono ?_
 rintro e w'⟨rfl,rfl⟩
 simp only[]
 repeat (first|(with_reducible first|refine tE ?_|refine iS ?_|refine iO ?_)|go_values|go_skip|go_guarded|go_step|go_upon|go_back)
 refine(P2.out _).mono ?_
 rintro e w'⟨rfl,rfl⟩
 simp only[]
 repeat (first|(with_reducible first|refine tE ?_|refine iS ?_|refine iO ?_)|go_values|go_skip|go_guarded|go_step|go_upon|go_back)
 refine(P3.out _).mono ?_
 rintro e w'⟨rfl,rfl⟩
 simp only[]
 repeat (first|(with_reducible first|refine tE ?_|refine iS ?_|refine iO ?_)|go_values|go_skip|go_guarded|go_step|go_upon|go_back)
 go_ret2
 exact⟨rfl,h3⟩
theorem Z2c(op rd rs1 rs2 im pc a b:Int)(aq rl:Bool)(qa:InU a)(qb:InU b)(qi:InU (IntKind.u64.wrap im))(hno:Ks op=false)(f o a3 a7:Int)(hf:(f !=8)=true)(HR:Hid (∀w,Calls prog 67 #[.int .i64 op] w fun e w'=>e=.returned (.agg #[.int .i64 f,.int .i64 o,.int .i64 a3,.int .i64 a7])∧Nw w w'))
  (HG:Hid (∀w,Calls prog 66 #[.agg #[.int .i64 op,.int .i64 rd,.int .i64 rs1,.int .i64 rs2,.int .i64 im,.bool aq,.bool rl]] w fun e w'=>e=.returned (.bool true)∧Nb w w')) (w:World):
  Calls prog 32 #[.agg #[.int .i64 op,.int .i64 rd,.int .i64 rs1,.int .i64 rs2,.int .i64 im,.bool aq,.bool rl],.int .u64 pc,.int .u64 a,.int .u64 b] w fun e w'=>e=.returned (.tuple #[.int .u64 (0),.int .i64 80])∧Nb w w':=by
 unfold Ks at hno
 simp at hno
 have e1:(op==1)=false:=nB (by omega)
 have e2:(op==2)=false:=nB (by omega)
 have e3:(op==3)=false:=nB (by omega)
 have e4:(op==4)=false:=nB (by omega)
 have P1:=Lib.hid (ZH op a (IntKind.u64.wrap im) (by omega) qa qi)
 have P2:=Lib.hid (Yk op a (IntKind.u64.wrap im) (by omega) qa qi)
 have P3:=Lib.hid (Z0l op a b (by omega) qa qb)
 clear hno
 have hix:∀(x y z u:Int) (w:World),(Instr.index 105 (.agg #[.int .i64 x,.int .i64 y,.int .i64 z,.int .i64 u]) (.int .i64 0)).run prog w=.ok (.int .i64 x) w:=fun _ _ _ _ _=>by kernel_rfl
 go_enter func32,ntmps32
 repeat (first|(with_reducible first|refine tE ?_|refine iS ?_|refine iO ?_)|go_values|go_skip|go_guarded|go_step|go_upon|go_back)
 obtain⟨W1,hW⟩:∃W1,w.alloc (.cells #[.int .i64 op,.int .i64 rd,.int .i64 rs1,.int .i64 rs2,.int .i64 im,.bool aq,.bool rl] 50)=W1:=⟨_,rfl⟩
 have hb:=Z0 w _ hW rfl
 have h2:Nb w W1:=by rw[←hW];exact(Nb.refl _).alloc _
 rw[hW]
 clear hW
 refine(HG.out _).mono ?_
 rintro e w1⟨rfl,hn⟩
 have hb1:=Nb.block hn hb
 have HB1:=Lib.hid hb1
 obtain⟨n1,c0,c1,c2,c3,c4,c5,c6⟩:=Z4 hb1
 clear hb hb1
 simp only[]
 repeat (first|(with_reducible first|refine tE ?_|refine iS ?_|refine iO ?_)|go_values|go_skip|go_guarded|go_step|go_upon|go_back)
 refine(HR.out _).mono ?_
 rintro e w2⟨rfl,hr⟩
 clear n1 c0 c1 c2 c3 c4 c5 c6
 obtain⟨n1,c0,c1,c2,c3,c4,c5,c6⟩:=Z4 (Nb.block (Nw.b hr) HB1.out)
 have h3:Nb w w2:=(h2.trans hn).trans (Nw.b hr)
 clear hr hn h2 HB1
 simp only[]
 repeat (first|(with_reducible first|refine tE ?_|refine iS ?_|refine iO ?_)|go_values|go_skip|go_guarded|go_step|go_upon|go_back)
 refine(P1.out _).mono ?_
 rintro e w'⟨rfl,rfl⟩
 simp only[]
 repeat (first|(with_reducible first|refine tE ?_|refine iS ?_|refine iO ?_)|go_values|go_skip|go_guarded|go_step|go_upon|go_back)
 refine(P2.out _).mono ?_
 rintro e w'⟨rfl,rfl⟩
 simp only[]
 repeat (first|(with_reducible first|refine tE ?_|refine iS ?_|refine iO ?_)|go_values|go_skip|go_guarded|go_step|go_upon|go_back)
 refine(P3.out _).mono ?_
 rintro e w'⟨rfl,rfl⟩
 simp only[]
 repeat (first|(with_reducible first|refine tE ?_|refine iS ?_|refine iO ?_)|go_values|go_skip|go_guarded|go_step|go_upon|go_back)
 go_ret2
 exact⟨rfl,h3⟩
end Go.Proofs.YtgpdpaljbiclkaaGreatDoor

/-
  Proved here: whether a branch is taken, and where an instruction loads or stores, the code's answer and the reference's. Conditions: the numbers are words; the table of codes holds what its text lays.
-/
import Derived.Test.YtgpdpaljbiclkaaGreatDoorSzz
import Derived.Test.YtgpdpaljbiclkaaGreatDoorSbc
set_option maxHeartbeats 1000000
set_option maxRecDepth 100000
namespace Go.Proofs.YtgpdpaljbiclkaaGreatDoor
open _root_.Go.Proofs.Tryz
open Go.RowKit
set_option linter.unusedVariables false
def Z1A (op a b:Int):Bool:=if op=5 then a==b else if op=6 then a !=b else if op=7 then LtS a b else if op=8 then !LtS a b else if op=9 then LtU a b else if op=10 then !LtU a b else false
def TkB (op rd rs1 rs2 im:Int) (aq rl:Bool) (a b:Int):Bool:=if GoodB op rd rs1 rs2 im aq rl=true then Z1A op a b else false
def AdB (op im a:Int):Int:=if ZR op=true then a else if (Zz op||Zq op)=true then IntKind.u64.wrap (a+IntKind.u64.wrap im) else 0
theorem tk_5(rd rs1 rs2 im a b:Int)(aq rl:Bool)(qa:InU a)(qb:InU b)
  (HG:Hid (∀w,Cod w→Calls prog 37 #[.agg #[.int .i64 5,.int .i64 rd,.int .i64 rs1,.int .i64 rs2,.int .i64 im,.bool aq,.bool rl]] w fun e w'=>e=.returned (.bool true)∧Nb w w')) (w:World) (hC:Cod w):
  Calls prog 56 #[.agg #[.int .i64 5,.int .i64 rd,.int .i64 rs1,.int .i64 rs2,.int .i64 im,.bool aq,.bool rl],.int .u64 a,.int .u64 b] w fun e w'=>e=.returned (.bool (a==b))∧Nb w w':=by
 go_enter func56,ntmps56
 repeat (first|(with_reducible first|refine tE ?_|refine iS ?_|refine iO ?_)|go_values|go_skip|go_guarded|go_step|go_upon|go_back)
 obtain⟨W1,hW⟩:∃W1,w.alloc (.cells #[.int .i64 5,.int .i64 rd,.int .i64 rs1,.int .i64 rs2,.int .i64 im,.bool aq,.bool rl] 50)=W1:=⟨_,rfl⟩
 have hb:=Z0 w _ hW rfl
 have h2:Nb w W1:=by rw[←hW];exact(Nb.refl _).alloc _
 rw[hW]
 clear hW
 refine(HG.out _ (hC.of_nb h2)).mono ?_
 rintro e w1⟨rfl,hn⟩
 have hb1:=Nb.block hn hb
 obtain⟨n1,c0,c1,c2,c3,c4,c5,c6⟩:=Z4 hb1
 clear hb1 hb
 simp only[]
 repeat (first|(with_reducible first|refine tE ?_|refine iS ?_|refine iO ?_)|go_values|go_skip|go_guarded|go_step|go_upon|go_back)
 go_ret
 exact⟨rfl,h2.trans (hn.alloc _)⟩
theorem tk_6(rd rs1 rs2 im a b:Int)(aq rl:Bool)(qa:InU a)(qb:InU b)
  (HG:Hid (∀w,Cod w→Calls prog 37 #[.agg #[.int .i64 6,.int .i64 rd,.int .i64 rs1,.int .i64 rs2,.int .i64 im,.bool aq,.bool rl]] w fun e w'=>e=.returned (.bool true)∧Nb w w')) (w:World) (hC:Cod w):
  Calls prog 56 #[.agg #[.int .i64 6,.int .i64 rd,.int .i64 rs1,.int .i64 rs2,.int .i64 im,.bool aq,.bool rl],.int .u64 a,.int .u64 b] w fun e w'=>e=.returned (.bool (a !=b))∧Nb w w':=by
 go_enter func56,ntmps56
 repeat (first|(with_reducible first|refine tE ?_|refine iS ?_|refine iO ?_)|go_values|go_skip|go_guarded|go_step|go_upon|go_back)
 obtain⟨W1,hW⟩:∃W1,w.alloc (.cells #[.int .i64 6,.int .i64 rd,.int .i64 rs1,.int .i64 rs2,.int .i64 im,.bool aq,.bool rl] 50)=W1:=⟨_,rfl⟩
 have hb:=Z0 w _ hW rfl
 have h2:Nb w W1:=by rw[←hW];exact(Nb.refl _).alloc _
 rw[hW]
 clear hW
 refine(HG.out _ (hC.of_nb h2)).mono ?_
 rintro e w1⟨rfl,hn⟩
 have hb1:=Nb.block hn hb
 obtain⟨n1,c0,c1,c2,c3,c4,c5,c6⟩:=Z4 hb1
 clear hb1 hb
 simp only[]
 repeat (first|(with_reducible first|refine tE ?_|refine iS ?_|refine iO ?_)|go_values|go_skip|go_guarded|go_step|go_upon|go_back)
 go_ret
 exact⟨rfl,h2.trans (hn.alloc _)⟩
theorem tk_7(rd rs1 rs2 im a b:Int)(aq rl:Bool)(qa:InU a)(qb:InU b)
  (HG:Hid (∀w,Cod w→Calls prog 37 #[.agg #[.int .i64 7,.int .i64 rd,.int .i64 rs1,.int .i64 rs2,.int .i64 im,.bool aq,.bool rl]] w fun e w'=>e=.returned (.bool true)∧Nb w w')) (w:World) (hC:Cod w):
  Calls prog 56 #[.agg #[.int .i64 7,.int .i64 rd,.int .i64 rs1,.int .i64 rs2,.int .i64 im,.bool aq,.bool rl],.int .u64 a,.int .u64 b] w fun e w'=>e=.returned (.bool (LtS a b))∧Nb w w':=by
 go_enter func56,ntmps56
 repeat (first|(with_reducible first|refine tE ?_|refine iS ?_|refine iO ?_)|go_values|go_skip|go_guarded|go_step|go_upon|go_back)
 obtain⟨W1,hW⟩:∃W1,w.alloc (.cells #[.int .i64 7,.int .i64 rd,.int .i64 rs1,.int .i64 rs2,.int .i64 im,.bool aq,.bool rl] 50)=W1:=⟨_,rfl⟩
 have hb:=Z0 w _ hW rfl
 have h2:Nb w W1:=by rw[←hW];exact(Nb.refl _).alloc _
 rw[hW]
 clear hW
 refine(HG.out _ (hC.of_nb h2)).mono ?_
 rintro e w1⟨rfl,hn⟩
 have hb1:=Nb.block hn hb
 obtain⟨n1,c0,c1,c2,c3,c4,c5,c6⟩:=Z4 hb1
 clear hb1 hb
 simp only[]
 repeat (first|(with_reducible first|refine tE ?_|refine iS ?_|refine iO ?_)|go_values|go_skip|go_guarded|go_step|go_upon|go_back)
 refine(K3 a b _ _).mono ?_
 rintro e w2⟨rfl,hn2⟩
 simp only[]
 repeat (first|(with_reducible first|refine tE ?_|refine iS ?_|refine iO ?_)|go_values|go_skip|go_guarded|go_step|go_upon|go_back)
 go_ret
 exact⟨rfl,(h2.trans (hn.alloc _)).trans hn2⟩
theorem tk_8(rd rs1 rs2 im a b:Int)(aq rl:Bool)(qa:InU a)(qb:InU b)
  (HG:Hid (∀w,Cod w→Calls prog 37 #[.agg #[.int .i64 8,.int .i64 rd,.int .i64 rs1,.int .i64 rs2,.int .i64 im,.bool aq,.bool rl]] w fun e w'=>e=.returned (.bool true)∧Nb w w')) (w:World) (hC:Cod w):
  Calls prog 56 #[.agg #[.int .i64 8,.int .i64 rd,.int .i64 rs1,.int .i64 rs2,.int .i64 im,.bool aq,.bool rl],.int .u64 a,.int .u64 b] w fun e w'=>e=.returned (.bool (!LtS a b))∧Nb w w':=by
 go_enter func56,ntmps56
 repeat (first|(with_reducible first|refine tE ?_|refine iS ?_|refine iO ?_)|go_values|go_skip|go_guarded|go_step|go_upon|go_back)
 obtain⟨W1,hW⟩:∃W1,w.alloc (.cells #[.int .i64 8,.int .i64 rd,.int .i64 rs1,.int .i64 rs2,.int .i64 im,.bool aq,.bool rl] 50)=W1:=⟨_,rfl⟩
 have hb:=Z0 w _ hW rfl
 have h2:Nb w W1:=by rw[←hW];exact(Nb.refl _).alloc _
 rw[hW]
 clear hW
 refine(HG.out _ (hC.of_nb h2)).mono ?_
 rintro e w1⟨rfl,hn⟩
 have hb1:=Nb.block hn hb
 obtain⟨n1,c0,c1,c2,c3,c4,c5,c6⟩:=Z4 hb1
 clear hb1 hb
 simp only[]
 repeat (first|(with_reducible first|refine tE ?_|refine iS ?_|refine iO ?_)|go_values|go_skip|go_guarded|go_step|go_upon|go_back)
 refine(K3 a b _ _).mono ?_
 rintro e w2⟨rfl,hn2⟩
 simp only[]
 repeat (first|(with_reducible first|refine tE ?_|refine iS ?_|refine iO ?_)|go_values|go_skip|go_guarded|go_step|go_upon|go_back)
 go_ret
 exact⟨rfl,(h2.trans (hn.alloc _)).trans hn2⟩
theorem tk_9(rd rs1 rs2 im a b:Int)(aq rl:Bool)(qa:InU a)(qb:InU b)
  (HG:Hid (∀w,Cod w→Calls prog 37 #[.agg #[.int .i64 9,.int .i64 rd,.int .i64 rs1,.int .i64 rs2,.int .i64 im,.bool aq,.bool rl]] w fun e w'=>e=.returned (.bool true)∧Nb w w')) (w:World) (hC:Cod w):
  Calls prog 56 #[.agg #[.int .i64 9,.int .i64 rd,.int .i64 rs1,.int .i64 rs2,.int .i64 im,.bool aq,.bool rl],.int .u64 a,.int .u64 b] w fun e w'=>e=.returned (.bool (LtU a b))∧Nb w w':=by
 go_enter func56,ntmps56
 repeat (first|(with_reducible first|refine tE ?_|refine iS ?_|refine iO ?_)|go_values|go_skip|go_guarded|go_step|go_upon|go_back)
 obtain⟨W1,hW⟩:∃W1,w.alloc (.cells #[.int .i64 9,.int .i64 rd,.int .i64 rs1,.int .i64 rs2,.int .i64 im,.bool aq,.bool rl] 50)=W1:=⟨_,rfl⟩
 have hb:=Z0 w _ hW rfl
 have h2:Nb w W1:=by rw[←hW];exact(Nb.refl _).alloc _
 rw[hW]
 clear hW
 refine(HG.out _ (hC.of_nb h2)).mono ?_
 rintro e w1⟨rfl,hn⟩
 have hb1:=Nb.block hn hb
 obtain⟨n1,c0,c1,c2,c3,c4,c5,c6⟩:=Z4 hb1
 clear hb1 hb
 simp only[]
 repeat (first|(with_reducible first|refine tE ?_|refine iS ?_|refine iO ?_)|go_values|go_skip|go_guarded|go_step|go_upon|go_back)
 refine(J4 a b _ _).mono ?_
 rintro e w2⟨rfl,hn2⟩
 simp only[]
 repeat (first|(with_reducible first|refine tE ?_|refine iS ?_|refine iO ?_)|go_values|go_skip|go_guarded|go_step|go_upon|go_back)
 go_ret
 exact⟨rfl,(h2.trans (hn.alloc _)).trans hn2⟩
theorem tk_10(rd rs1 rs2 im a b:Int)(aq rl:Bool)(qa:InU a)(qb:InU b)
  (HG:Hid (∀w,Cod w→Calls prog 37 #[.agg #[.int .i64 10,.int .i64 rd,.int .i64 rs1,.int .i64 rs2,.int .i64 im,.bool aq,.bool rl]] w fun e w'=>e=.returned (.bool true)∧Nb w w')) (w:World) (hC:Cod w):
  Calls prog 56 #[.agg #[.int .i64 10,.int .i64 rd,.int .i64 rs1,.int .i64 rs2,.int .i64 im,.bool aq,.bool rl],.int .u64 a,.int .u64 b] w fun e w'=>e=.returned (.bool (!LtU a b))∧Nb w w':=by
 go_enter func56,ntmps56
 repeat (first|(with_reducible first|refine tE ?_|refine iS ?_|refine iO ?_)|go_values|go_skip|go_guarded|go_step|go_upon|go_back)
 obtain⟨W1,hW⟩:∃W1,w.alloc (.cells #[.int .i64 10,.int .i64 rd,.int .i64 rs1,.int .i64 rs2,.int .i64 im,.bool aq,.bool rl] 50)=W1:=⟨_,rfl⟩
 have hb:=Z0 w _ hW rfl
 have h2:Nb w W1:=by rw[←hW];exact(Nb.refl _).alloc _
 rw[hW]
 clear hW
 refine(HG.out _ (hC.of_nb h2)).mono ?_
 rintro e w1⟨rfl,hn⟩
 have hb1:=Nb.block hn hb
 obtain⟨n1,c0,c1,c2,c3,c4,c5,c6⟩:=Z4 hb1
 clear hb1 hb
 simp only[]
 repeat (first|(with_reducible first|refine tE ?_|refine iS ?_|refine iO ?_)|go_values|go_skip|go_guarded|go_step|go_upon|go_back)
 refine(J4 a b _ _).mono ?_
 rintro e w2⟨rfl,hn2⟩
 simp only[]
 repeat (first|(with_reducible first|refine tE ?_|refine iS ?_|refine iO ?_)|go_values|go_skip|go_guarded|go_step|go_upon|go_back)
 go_ret
 exact⟨rfl,(h2.trans (hn.alloc _)).trans hn2⟩
theorem tk_o(op rd rs1 rs2 im a b:Int)(aq rl:Bool)(qa:InU a)(qb:InU b)(h:op≠5∧op≠6∧op≠7∧op≠8∧op≠9∧op≠10)
  (HG:Hid (∀w,Cod w→Calls prog 37 #[.agg #[.int .i64 op,.int .i64 rd,.int .i64 rs1,.int .i64 rs2,.int .i64 im,.bool aq,.bool rl]] w fun e w'=>e=.returned (.bool true)∧Nb w w')) (w:World) (hC:Cod w):
  Calls prog 56 #[.agg #[.int .i64 op,.int .i64 rd,.int .i64 rs1,.int .i64 rs2,.int .i64 im,.bool aq,.bool rl],.int .u64 a,.int .u64 b] w fun e w'=>e=.returned (.bool (false))∧Nb w w':=by
 have e5:(op==5)=false:=nB (by omega)
 have e6:(op==6)=false:=nB (by omega)
 have e7:(op==7)=false:=nB (by omega)
 have e8:(op==8)=false:=nB (by omega)
 have e9:(op==9)=false:=nB (by omega)
 have e10:(op==10)=false:=nB (by omega)
 clear h
 go_enter func56,ntmps56
 repeat (first|(with_reducible first|refine tE ?_|refine iS ?_|refine iO ?_)|go_values|go_skip|go_guarded|go_step|go_upon|go_back)
 obtain⟨W1,hW⟩:∃W1,w.alloc (.cells #[.int .i64 op,.int .i64 rd,.int .i64 rs1,.int .i64 rs2,.int .i64 im,.bool aq,.bool rl] 50)=W1:=⟨_,rfl⟩
 have hb:=Z0 w _ hW rfl
 have h2:Nb w W1:=by rw[←hW];exact(Nb.refl _).alloc _
 rw[hW]
 clear hW
 refine(HG.out _ (hC.of_nb h2)).mono ?_
 rintro e w1⟨rfl,hn⟩
 have hb1:=Nb.block hn hb
 obtain⟨n1,c0,c1,c2,c3,c4,c5,c6⟩:=Z4 hb1
 clear hb1 hb
 simp only[]
 repeat (first|(with_reducible first|refine tE ?_|refine iS ?_|refine iO ?_)|go_values|go_skip|go_guarded|go_step|go_upon|go_back)
 go_ret
 exact⟨rfl,h2.trans (hn.alloc _)⟩
theorem tk_bad(op rd rs1 rs2 im a b:Int)(aq rl:Bool)(qa:InU a)(qb:InU b)
  (HG:Hid (∀w,Cod w→Calls prog 37 #[.agg #[.int .i64 op,.int .i64 rd,.int .i64 rs1,.int .i64 rs2,.int .i64 im,.bool aq,.bool rl]] w fun e w'=>e=.returned (.bool false)∧Nb w w')) (w:World) (hC:Cod w):
  Calls prog 56 #[.agg #[.int .i64 op,.int .i64 rd,.int .i64 rs1,.int .i64 rs2,.int .i64 im,.bool aq,.bool rl],.int .u64 a,.int .u64 b] w fun e w'=>e=.returned (.bool (false))∧Nb w w':=by
 go_enter func56,ntmps56
 repeat (first|(with_reducible first|refine tE ?_|refine iS ?_|refine iO ?_)|go_values|go_skip|go_guarded|go_step|go_upon|go_back)
 obtain⟨W1,hW⟩:∃W1,w.alloc (.cells #[.int .i64 op,.int .i64 rd,.int .i64 rs1,.int .i64 rs2,.int .i64 im,.bool aq,.bool rl] 50)=W1:=⟨_,rfl⟩
 have hb:=Z0 w _ hW rfl
 have h2:Nb w W1:=by rw[←hW];exact(Nb.refl _).alloc _
 rw[hW]
 clear hW
 refine(HG.out _ (hC.of_nb h2)).mono ?_
 rintro e w1⟨rfl,hn⟩
 have hb1:=Nb.block hn hb
 obtain⟨n1,c0,c1,c2,c3,c4,c5,c6⟩:=Z4 hb1
 clear hb1 hb
 simp only[]
 repeat (first|(with_reducible first|refine tE ?_|refine iS ?_|refine iO ?_)|go_values|go_skip|go_guarded|go_step|go_upon|go_back)
 go_ret
 exact⟨rfl,h2.trans hn⟩
theorem tk_any(op rd rs1 rs2 im a b:Int)(aq rl:Bool)(qa:InU a)(qb:InU b)(v0: -9223372036854775808≤im)(v1:im<9223372036854775808)(w:World)(hC:Cod w):
  Calls prog 56 #[.agg #[.int .i64 op,.int .i64 rd,.int .i64 rs1,.int .i64 rs2,.int .i64 im,.bool aq,.bool rl],.int .u64 a,.int .u64 b] w fun e w'=>e=.returned (.bool (TkB op rd rs1 rs2 im aq rl a b))∧Nb w w':=by
 have HG:=fun w (hC:Cod w)=>XZ op rd rs1 rs2 im aq rl v0 v1 w hC
 unfold TkB
 cases hg:GoodB op rd rs1 rs2 im aq rl<;>rw[hg] at HG
 ·exact tk_bad op rd rs1 rs2 im a b aq rl qa qb (Lib.hid HG) w hC
 rw[if_pos rfl]
 clear hg
 by_cases h:op=5∨op=6∨op=7∨op=8∨op=9∨op=10
 ·rcases h with rfl|rfl|rfl|rfl|rfl|rfl
  ·exact tk_5 rd rs1 rs2 im a b aq rl qa qb (Lib.hid HG) w hC
  ·exact tk_6 rd rs1 rs2 im a b aq rl qa qb (Lib.hid HG) w hC
  ·exact tk_7 rd rs1 rs2 im a b aq rl qa qb (Lib.hid HG) w hC
  ·exact tk_8 rd rs1 rs2 im a b aq rl qa qb (Lib.hid HG) w hC
  ·exact tk_9 rd rs1 rs2 im a b aq rl qa qb (Lib.hid HG) w hC
  ·exact tk_10 rd rs1 rs2 im a b aq rl qa qb (Lib.hid HG) w hC
 ·have e:Z1A op a b=false:=by unfold Z1A;repeat rw[if_neg (by omega)]
  rw[e]
  exact tk_o op rd rs1 rs2 im a b aq rl qa qb (by omega) (Lib.hid HG) w hC
theorem rtk_5(rd rs1 rs2 im a b:Int)(aq rl:Bool)(qa:InU a)(qb:InU b)
  (HG:Hid (∀w,Calls prog 66 #[.agg #[.int .i64 5,.int .i64 rd,.int .i64 rs1,.int .i64 rs2,.int .i64 im,.bool aq,.bool rl]] w fun e w'=>e=.returned (.bool true)∧Nb w w')) (w:World):
  Calls prog 33 #[.agg #[.int .i64 5,.int .i64 rd,.int .i64 rs1,.int .i64 rs2,.int .i64 im,.bool aq,.bool rl],.int .u64 a,.int .u64 b] w fun e w'=>e=.returned (.bool (a==b))∧Nb w w':=by
 go_enter func33,ntmps33
 repeat (first|(with_reducible first|refine tE ?_|refine iS ?_|refine iO ?_)|go_values|go_skip|go_guarded|go_step|go_upon|go_back)
 obtain⟨W1,hW⟩:∃W1,w.alloc (.cells #[.int .i64 5,.int .i64 rd,.int .i64 rs1,.int .i64 rs2,.int .i64 im,.bool aq,.bool rl] 50)=W1:=⟨_,rfl⟩
 have hb:=Z0 w _ hW rfl
 have h2:Nb w W1:=by rw[←hW];exact(Nb.refl _).alloc _
 rw[hW]
 clear hW
 refine(HG.out _).mono ?_
 rintro e w1⟨rfl,hn⟩
 have hb1:=Nb.block hn hb
 obtain⟨n1,c0,c1,c2,c3,c4,c5,c6⟩:=Z4 hb1
 clear hb1 hb
 simp only[]
 repeat (first|(with_reducible first|refine tE ?_|refine iS ?_|refine iO ?_)|go_values|go_skip|go_guarded|go_step|go_upon|go_back)
 go_ret
 exact⟨rfl,h2.trans hn⟩
theorem rtk_6(rd rs1 rs2 im a b:Int)(aq rl:Bool)(qa:InU a)(qb:InU b)
  (HG:Hid (∀w,Calls prog 66 #[.agg #[.int .i64 6,.int .i64 rd,.int .i64 rs1,.int .i64 rs2,.int .i64 im,.bool aq,.bool rl]] w fun e w'=>e=.returned (.bool true)∧Nb w w')) (w:World):
  Calls prog 33 #[.agg #[.int .i64 6,.int .i64 rd,.int .i64 rs1,.int .i64 rs2,.int .i64 im,.bool aq,.bool rl],.int .u64 a,.int .u64 b] w fun e w'=>e=.returned (.bool (a !=b))∧Nb w w':=by
 go_enter func33,ntmps33
 repeat (first|(with_reducible first|refine tE ?_|refine iS ?_|refine iO ?_)|go_values|go_skip|go_guarded|go_step|go_upon|go_back)
 obtain⟨W1,hW⟩:∃W1,w.alloc (.cells #[.int .i64 6,.int .i64 rd,.int .i64 rs1,.int .i64 rs2,.int .i64 im,.bool aq,.bool rl] 50)=W1:=⟨_,rfl⟩
 have hb:=Z0 w _ hW rfl
 have h2:Nb w W1:=by rw[←hW];exact(Nb.refl _).alloc _
 rw[hW]
 clear hW
 refine(HG.out _).mono ?_
 rintro e w1⟨rfl,hn⟩
 have hb1:=Nb.block hn hb
 obtain⟨n1,c0,c1,c2,c3,c4,c5,c6⟩:=Z4 hb1
 clear hb1 hb
 simp only[]
 repeat (first|(with_reducible first|refine tE ?_|refine iS ?_|refine iO ?_)|go_values|go_skip|go_guarded|go_step|go_upon|go_back)
 go_ret
 exact⟨rfl,h2.trans hn⟩
theorem rtk_7(rd rs1 rs2 im a b:Int)(aq rl:Bool)(qa:InU a)(qb:InU b)
  (HG:Hid (∀w,Calls prog 66 #[.agg #[.int .i64 7,.int .i64 rd,.int .i64 rs1,.int .i64 rs2,.int .i64 im,.bool aq,.bool rl]] w fun e w'=>e=.returned (.bool true)∧Nb w w')) (w:World):
  Calls prog 33 #[.agg #[.int .i64 7,.int .i64 rd,.int .i64 rs1,.int .i64 rs2,.int .i64 im,.bool aq,.bool rl],.int .u64 a,.int .u64 b] w fun e w'=>e=.returned (.bool (LtS a b))∧Nb w w':=by
 go_enter func33,ntmps33
 repeat (first|(with_reducible first|refine tE ?_|refine iS ?_|refine iO ?_)|go_values|go_skip|go_guarded|go_step|go_upon|go_back)
 obtain⟨W1,hW⟩:∃W1,w.alloc (.cells #[.int .i64 7,.int .i64 rd,.int .i64 rs1,.int .i64 rs2,.int .i64 im,.bool aq,.bool rl] 50)=W1:=⟨_,rfl⟩
 have hb:=Z0 w _ hW rfl
 have h2:Nb w W1:=by rw[←hW];exact(Nb.refl _).alloc _
 rw[hW]
 clear hW
 refine(HG.out _).mono ?_
 rintro e w1⟨rfl,hn⟩
 have hb1:=Nb.block hn hb
 obtain⟨n1,c0,c1,c2,c3,c4,c5,c6⟩:=Z4 hb1
 clear hb1 hb
 simp only[]
 repeat (first|(with_reducible first|refine tE ?_|refine iS ?_|refine iO ?_)|go_values|go_skip|go_guarded|go_step|go_upon|go_back|(refine(YZ a b qa qb _).mono ?_;rintro e w'⟨rfl,rfl⟩;simp only[]))
 go_ret
 exact⟨rfl,h2.trans hn⟩
theorem rtk_8(rd rs1 rs2 im a b:Int)(aq rl:Bool)(qa:InU a)(qb:InU b)
  (HG:Hid (∀w,Calls prog 66 #[.agg #[.int .i64 8,.int .i64 rd,.int .i64 rs1,.int .i64 rs2,.int .i64 im,.bool aq,.bool rl]] w fun e w'=>e=.returned (.bool true)∧Nb w w')) (w:World):
  Calls prog 33 #[.agg #[.int .i64 8,.int .i64 rd,.int .i64 rs1,.int .i64 rs2,.int .i64 im,.bool aq,.bool rl],.int .u64 a,.int .u64 b] w fun e w'=>e=.returned (.bool (!LtS a b))∧Nb w w':=by
 go_enter func33,ntmps33
 repeat (first|(with_reducible first|refine tE ?_|refine iS ?_|refine iO ?_)|go_values|go_skip|go_guarded|go_step|go_upon|go_back)
 obtain⟨W1,hW⟩:∃W1,w.alloc (.cells #[.int .i64 8,.int .i64 rd,.int .i64 rs1,.int .i64 rs2,.int .i64 im,.bool aq,.bool rl] 50)=W1:=⟨_,rfl⟩
 have hb:=Z0 w _ hW rfl
 have h2:Nb w W1:=by rw[←hW];exact(Nb.refl _).alloc _
 rw[hW]
 clear hW
 refine(HG.out _).mono ?_
 rintro e w1⟨rfl,hn⟩
 have hb1:=Nb.block hn hb
 obtain⟨n1,c0,c1,c2,c3,c4,c5,c6⟩:=Z4 hb1
 clear hb1 hb
 simp only[]
 repeat (first|(with_reducible first|refine tE ?_|refine iS ?_|refine iO ?_)|go_values|go_skip|go_guarded|go_step|go_upon|go_back|(refine(YZ a b qa qb _).mono ?_;rintro e w'⟨rfl,rfl⟩;simp only[]))
 go_ret
 exact⟨rfl,h2.trans hn⟩
theorem rtk_9(rd rs1 rs2 im a b:Int)(aq rl:Bool)(qa:InU a)(qb:InU b)
  (HG:Hid (∀w,Calls prog 66 #[.agg #[.int .i64 9,.int .i64 rd,.int .i64 rs1,.int .i64 rs2,.int .i64 im,.bool aq,.bool rl]] w fun e w'=>e=.returned (.bool true)∧Nb w w')) (w:World):
  Calls prog 33 #[.agg #[.int .i64 9,.int .i64 rd,.int .i64 rs1,.int .i64 rs2,.int .i64 im,.bool aq,.bool rl],.int .u64 a,.int .u64 b] w fun e w'=>e=.returned (.bool (LtU a b))∧Nb w w':=by
 go_enter func33,ntmps33
 repeat (first|(with_reducible first|refine tE ?_|refine iS ?_|refine iO ?_)|go_values|go_skip|go_guarded|go_step|go_upon|go_back)
 obtain⟨W1,hW⟩:∃W1,w.alloc (.cells #[.int .i64 9,.int .i64 rd,.int .i64 rs1,.int .i64 rs2,.int .i64 im,.bool aq,.bool rl] 50)=W1:=⟨_,rfl⟩
 have hb:=Z0 w _ hW rfl
 have h2:Nb w W1:=by rw[←hW];exact(Nb.refl _).alloc _
 rw[hW]
 clear hW
 refine(HG.out _).mono ?_
 rintro e w1⟨rfl,hn⟩
 have hb1:=Nb.block hn hb
 obtain⟨n1,c0,c1,c2,c3,c4,c5,c6⟩:=Z4 hb1
 clear hb1 hb
 simp only[]
 repeat (first|(with_reducible first|refine tE ?_|refine iS ?_|refine iO ?_)|go_values|go_skip|go_guarded|go_step|go_upon|go_back)
 go_ret
 exact⟨rfl,h2.trans hn⟩
theorem rtk_10(rd rs1 rs2 im a b:Int)(aq rl:Bool)(qa:InU a)(qb:InU b)
  (HG:Hid (∀w,Calls prog 66 #[.agg #[.int .i64 10,.int .i64 rd,.int .i64 rs1,.int .i64 rs2,.int .i64 im,.bool aq,.bool rl]] w fun e w'=>e=.returned (.bool true)∧Nb w w')) (w:World):
  Calls prog 33 #[.agg #[.int .i64 10,.int .i64 rd,.int .i64 rs1,.int .i64 rs2,.int .i64 im,.bool aq,.bool rl],.int .u64 a,.int .u64 b] w fun e w'=>e=.returned (.bool (!LtU a b))∧Nb w w':=by
 have HR:Hid (decide (b≤a)= !LtU a b):=Lib.hid (by unfold LtU;rw[Bool.eq_iff_iff];simp)
 go_enter func33,ntmps33
 repeat (first|(with_reducible first|refine tE ?_|refine iS ?_|refine iO ?_)|go_values|go_skip|go_guarded|go_step|go_upon|go_back)
 obtain⟨W1,hW⟩:∃W1,w.alloc (.cells #[.int .i64 10,.int .i64 rd,.int .i64 rs1,.int .i64 rs2,.int .i64 im,.bool aq,.bool rl] 50)=W1:=⟨_,rfl⟩
 have hb:=Z0 w _ hW rfl
 have h2:Nb w W1:=by rw[←hW];exact(Nb.refl _).alloc _
 rw[hW]
 clear hW
 refine(HG.out _).mono ?_
 rintro e w1⟨rfl,hn⟩
 have hb1:=Nb.block hn hb
 obtain⟨n1,c0,c1,c2,c3,c4,c5,c6⟩:=Z4 hb1
 clear hb1 hb
 simp only[]
 repeat (first|(with_reducible first|refine tE ?_|refine iS ?_|refine iO ?_)|go_values|go_skip|go_guarded|go_step|go_upon|go_back)
 go_ret
 exact⟨Zw HR.out,h2.trans hn⟩
theorem rtk_o(op rd rs1 rs2 im a b:Int)(aq rl:Bool)(qa:InU a)(qb:InU b)(h:op≠5∧op≠6∧op≠7∧op≠8∧op≠9∧op≠10)
  (HG:Hid (∀w,Calls prog 66 #[.agg #[.int .i64 op,.int .i64 rd,.int .i64 rs1,.int .i64 rs2,.int .i64 im,.bool aq,.bool rl]] w fun e w'=>e=.returned (.bool true)∧Nb w w')) (w:World):
  Calls prog 33 #[.agg #[.int .i64 op,.int .i64 rd,.int .i64 rs1,.int .i64 rs2,.int .i64 im,.bool aq,.bool rl],.int .u64 a,.int .u64 b] w fun e w'=>e=.returned (.bool (false))∧Nb w w':=by
 have e5:(op==5)=false:=nB (by omega)
 have e6:(op==6)=false:=nB (by omega)
 have e7:(op==7)=false:=nB (by omega)
 have e8:(op==8)=false:=nB (by omega)
 have e9:(op==9)=false:=nB (by omega)
 have e10:(op==10)=false:=nB (by omega)
 clear h
 go_enter func33,ntmps33
 repeat (first|(with_reducible first|refine tE ?_|refine iS ?_|refine iO ?_)|go_values|go_skip|go_guarded|go_step|go_upon|go_back)
 obtain⟨W1,hW⟩:∃W1,w.alloc (.cells #[.int .i64 op,.int .i64 rd,.int .i64 rs1,.int .i64 rs2,.int .i64 im,.bool aq,.bool rl] 50)=W1:=⟨_,rfl⟩
 have hb:=Z0 w _ hW rfl
 have h2:Nb w W1:=by rw[←hW];exact(Nb.refl _).alloc _
 rw[hW]
 clear hW
 refine(HG.out _).mono ?_
 rintro e w1⟨rfl,hn⟩
 have hb1:=Nb.block hn hb
 obtain⟨n1,c0,c1,c2,c3,c4,c5,c6⟩:=Z4 hb1
 clear hb1 hb
 simp only[]
 repeat (first|(with_reducible first|refine tE ?_|refine iS ?_|refine iO ?_)|go_values|go_skip|go_guarded|go_step|go_upon|go_back)
 go_ret
 exact⟨rfl,h2.trans hn⟩
theorem Z7Z(op rd rs1 rs2 im a b:Int)(aq rl:Bool)(qa:InU a)(qb:InU b)
  (HG:Hid (∀w,Calls prog 66 #[.agg #[.int .i64 op,.int .i64 rd,.int .i64 rs1,.int .i64 rs2,.int .i64 im,.bool aq,.bool rl]] w fun e w'=>e=.returned (.bool false)∧Nb w w')) (w:World):
  Calls prog 33 #[.agg #[.int .i64 op,.int .i64 rd,.int .i64 rs1,.int .i64 rs2,.int .i64 im,.bool aq,.bool rl],.int .u64 a,.int .u64 b] w fun e w'=>e=.returned (.bool (false))∧Nb w w':=by
 go_enter func33,ntmps33
 repeat (first|(with_reducible first|refine tE ?_|refine iS ?_|refine iO ?_)|go_values|go_skip|go_guarded|go_step|go_upon|go_back)
 obtain⟨W1,hW⟩:∃W1,w.alloc (.cells #[.int .i64 op,.int .i64 rd,.int .i64 rs1,.int .i64 rs2,.int .i64 im,.bool aq,.bool rl] 50)=W1:=⟨_,rfl⟩
 have hb:=Z0 w _ hW rfl
 have h2:Nb w W1:=by rw[←hW];exact(Nb.refl _).alloc _
 rw[hW]
 clear hW
 refine(HG.out _).mono ?_
 rintro e w1⟨rfl,hn⟩
 have hb1:=Nb.block hn hb
 obtain⟨n1,c0,c1,c2,c3,c4,c5,c6⟩:=Z4 hb1
 clear hb1 hb
 simp only[]
 repeat (first|(with_reducible first|refine tE ?_|refine iS ?_|refine iO ?_)|go_values|go_skip|go_guarded|go_step|go_upon|go_back)
 go_ret
 exact⟨rfl,h2.trans hn⟩
theorem Z80(op rd rs1 rs2 im a b:Int)(aq rl:Bool)(qa:InU a)(qb:InU b)(v0: -9223372036854775808≤im)(v1:im<9223372036854775808)(w:World):
  Calls prog 33 #[.agg #[.int .i64 op,.int .i64 rd,.int .i64 rs1,.int .i64 rs2,.int .i64 im,.bool aq,.bool rl],.int .u64 a,.int .u64 b] w fun e w'=>e=.returned (.bool (TkB op rd rs1 rs2 im aq rl a b))∧Nb w w':=by
 have HG:=fun w=>rgoods op rd rs1 rs2 im aq rl v0 v1 w
 unfold TkB
 cases hg:GoodB op rd rs1 rs2 im aq rl<;>rw[hg] at HG
 ·exact Z7Z op rd rs1 rs2 im a b aq rl qa qb (Lib.hid HG) w
 rw[if_pos rfl]
 clear hg
 by_cases h:op=5∨op=6∨op=7∨op=8∨op=9∨op=10
 ·rcases h with rfl|rfl|rfl|rfl|rfl|rfl
  ·exact rtk_5 rd rs1 rs2 im a b aq rl qa qb (Lib.hid HG) w
  ·exact rtk_6 rd rs1 rs2 im a b aq rl qa qb (Lib.hid HG) w
  ·exact rtk_7 rd rs1 rs2 im a b aq rl qa qb (Lib.hid HG) w
  ·exact rtk_8 rd rs1 rs2 im a b aq rl qa qb (Lib.hid HG) w
  ·exact rtk_9 rd rs1 rs2 im a b aq rl qa qb (Lib.hid HG) w
  ·exact rtk_10 rd rs1 rs2 im a b aq rl qa qb (Lib.hid HG) w
 ·have e:Z1A op a b=false:=by unfold Z1A;repeat rw[if_neg (by omega)]
  rw[e]
  exact rtk_o op rd rs1 rs2 im a b aq rl qa qb (by omega) (Lib.hid HG) w
theorem adr_a(op rd rs1 rs2 im a:Int)(aq rl:Bool)(HA:Hid (∀w,Calls prog 85 #[.int .i64 op] w fun e w'=>e=.returned (.bool true)∧w=w'))
  (HL:Hid (∀w,Calls prog 48 #[.int .i64 op] w fun e w'=>e=.returned (.bool (Zz op))∧w=w')) (HS:Hid (∀w,Calls prog 49 #[.int .i64 op] w fun e w'=>e=.returned (.bool (Zq op))∧w=w')) (w:World):
  Calls prog 51 #[.agg #[.int .i64 op,.int .i64 rd,.int .i64 rs1,.int .i64 rs2,.int .i64 im,.bool aq,.bool rl],.int .u64 a] w fun e w'=>e=.returned (.int .u64 (a))∧Nb w w':=by
 go_enter func51,ntmps51
 repeat (first|(with_reducible first|refine tE ?_|refine iS ?_|refine iO ?_)|go_values|go_skip|go_guarded|go_step|go_upon|go_back)
 obtain⟨W1,hW⟩:∃W1,w.alloc (.cells #[.int .i64 op,.int .i64 rd,.int .i64 rs1,.int .i64 rs2,.int .i64 im,.bool aq,.bool rl] 50)=W1:=⟨_,rfl⟩
 have hb:=Z0 w _ hW rfl
 have h2:Nb w W1:=by rw[←hW];exact(Nb.refl _).alloc _
 rw[hW]
 clear hW
 obtain⟨n1,c0,c1,c2,c3,c4,c5,c6⟩:=Z4 hb
 clear hb
 refine(HA.out _).mono ?_
 rintro e w'⟨rfl,rfl⟩
 simp only[]
 repeat (first|(with_reducible first|refine tE ?_|refine iS ?_|refine iO ?_)|go_values|go_skip|go_guarded|go_step|go_upon|go_back)
 go_ret
 exact⟨rfl,h2⟩
theorem adr_l(op rd rs1 rs2 im a:Int)(aq rl:Bool)(HA:Hid (∀w,Calls prog 85 #[.int .i64 op] w fun e w'=>e=.returned (.bool false)∧w=w'))
  (HL:Hid (∀w,Calls prog 48 #[.int .i64 op] w fun e w'=>e=.returned (.bool true)∧w=w')) (HS:Hid (∀w,Calls prog 49 #[.int .i64 op] w fun e w'=>e=.returned (.bool (Zq op))∧w=w')) (w:World):
  Calls prog 51 #[.agg #[.int .i64 op,.int .i64 rd,.int .i64 rs1,.int .i64 rs2,.int .i64 im,.bool aq,.bool rl],.int .u64 a] w fun e w'=>e=.returned (.int .u64 (IntKind.u64.wrap (a+IntKind.u64.wrap im)))∧Nb w w':=by
 go_enter func51,ntmps51
 repeat (first|(with_reducible first|refine tE ?_|refine iS ?_|refine iO ?_)|go_values|go_skip|go_guarded|go_step|go_upon|go_back)
 obtain⟨W1,hW⟩:∃W1,w.alloc (.cells #[.int .i64 op,.int .i64 rd,.int .i64 rs1,.int .i64 rs2,.int .i64 im,.bool aq,.bool rl] 50)=W1:=⟨_,rfl⟩
 have hb:=Z0 w _ hW rfl
 have h2:Nb w W1:=by rw[←hW];exact(Nb.refl _).alloc _
 rw[hW]
 clear hW
 obtain⟨n1,c0,c1,c2,c3,c4,c5,c6⟩:=Z4 hb
 clear hb
 refine(HA.out _).mono ?_
 rintro e w'⟨rfl,rfl⟩
 simp only[]
 repeat (first|(with_reducible first|refine tE ?_|refine iS ?_|refine iO ?_)|go_values|go_skip|go_guarded|go_step|go_upon|go_back|(refine(HL.out _).mono ?_;rintro e w'⟨rfl,rfl⟩;simp only[]))
 go_ret
 exact⟨rfl,h2⟩
theorem adr_s(op rd rs1 rs2 im a:Int)(aq rl:Bool)(HA:Hid (∀w,Calls prog 85 #[.int .i64 op] w fun e w'=>e=.returned (.bool false)∧w=w'))
  (HL:Hid (∀w,Calls prog 48 #[.int .i64 op] w fun e w'=>e=.returned (.bool false)∧w=w')) (HS:Hid (∀w,Calls prog 49 #[.int .i64 op] w fun e w'=>e=.returned (.bool true)∧w=w')) (w:World):
  Calls prog 51 #[.agg #[.int .i64 op,.int .i64 rd,.int .i64 rs1,.int .i64 rs2,.int .i64 im,.bool aq,.bool rl],.int .u64 a] w fun e w'=>e=.returned (.int .u64 (IntKind.u64.wrap (a+IntKind.u64.wrap im)))∧Nb w w':=by
 go_enter func51,ntmps51
 repeat (first|(with_reducible first|refine tE ?_|refine iS ?_|refine iO ?_)|go_values|go_skip|go_guarded|go_step|go_upon|go_back)
 obtain⟨W1,hW⟩:∃W1,w.alloc (.cells #[.int .i64 op,.int .i64 rd,.int .i64 rs1,.int .i64 rs2,.int .i64 im,.bool aq,.bool rl] 50)=W1:=⟨_,rfl⟩
 have hb:=Z0 w _ hW rfl
 have h2:Nb w W1:=by rw[←hW];exact(Nb.refl _).alloc _
 rw[hW]
 clear hW
 obtain⟨n1,c0,c1,c2,c3,c4,c5,c6⟩:=Z4 hb
 clear hb
 refine(HA.out _).mono ?_
 rintro e w'⟨rfl,rfl⟩
 simp only[]
 repeat (first|(with_reducible first|refine tE ?_|refine iS ?_|refine iO ?_)|go_values|go_skip|go_guarded|go_step|go_upon|go_back|(refine(HL.out _).mono ?_;rintro e w'⟨rfl,rfl⟩;simp only[])|(refine(HS.out _).mono ?_;rintro e w'⟨rfl,rfl⟩;simp only[]))
 go_ret
 exact⟨rfl,h2⟩
theorem adr_n(op rd rs1 rs2 im a:Int)(aq rl:Bool)(HA:Hid (∀w,Calls prog 85 #[.int .i64 op] w fun e w'=>e=.returned (.bool false)∧w=w'))
  (HL:Hid (∀w,Calls prog 48 #[.int .i64 op] w fun e w'=>e=.returned (.bool false)∧w=w')) (HS:Hid (∀w,Calls prog 49 #[.int .i64 op] w fun e w'=>e=.returned (.bool false)∧w=w')) (w:World):
  Calls prog 51 #[.agg #[.int .i64 op,.int .i64 rd,.int .i64 rs1,.int .i64 rs2,.int .i64 im,.bool aq,.bool rl],.int .u64 a] w fun e w'=>e=.returned (.int .u64 (0))∧Nb w w':=by
 go_enter func51,ntmps51
 repeat (first|(with_reducible first|refine tE ?_|refine iS ?_|refine iO ?_)|go_values|go_skip|go_guarded|go_step|go_upon|go_back)
 obtain⟨W1,hW⟩:∃W1,w.alloc (.cells #[.int .i64 op,.int .i64 rd,.int .i64 rs1,.int .i64 rs2,.int .i64 im,.bool aq,.bool rl] 50)=W1:=⟨_,rfl⟩
 have hb:=Z0 w _ hW rfl
 have h2:Nb w W1:=by rw[←hW];exact(Nb.refl _).alloc _
 rw[hW]
 clear hW
 obtain⟨n1,c0,c1,c2,c3,c4,c5,c6⟩:=Z4 hb
 clear hb
 refine(HA.out _).mono ?_
 rintro e w'⟨rfl,rfl⟩
 simp only[]
 repeat (first|(with_reducible first|refine tE ?_|refine iS ?_|refine iO ?_)|go_values|go_skip|go_guarded|go_step|go_upon|go_back|(refine(HL.out _).mono ?_;rintro e w'⟨rfl,rfl⟩;simp only[])|(refine(HS.out _).mono ?_;rintro e w'⟨rfl,rfl⟩;simp only[]))
 go_ret
 exact⟨rfl,h2⟩
theorem YU(op rd rs1 rs2 im a:Int)(aq rl:Bool)(w:World):
  Calls prog 51 #[.agg #[.int .i64 op,.int .i64 rd,.int .i64 rs1,.int .i64 rs2,.int .i64 im,.bool aq,.bool rl],.int .u64 a] w fun e w'=>e=.returned (.int .u64 (AdB op im a))∧Nb w w':=by
 have HA:=fun w=>Xn op w
 have HL:=fun w=>ZZ op w
 have HS:=fun w=>Y4 op w
 unfold AdB
 cases ha:ZR op<;>rw[ha] at HA
 ·cases hl:Zz op<;>rw[hl] at HL
  ·cases hs:Zq op<;>rw[hs] at HS
   ·exact adr_n op rd rs1 rs2 im a aq rl (Lib.hid HA) (Lib.hid HL) (Lib.hid HS) w
   ·exact adr_s op rd rs1 rs2 im a aq rl (Lib.hid HA) (Lib.hid HL) (Lib.hid HS) w
  ·exact adr_l op rd rs1 rs2 im a aq rl (Lib.hid HA) (Lib.hid HL) (Lib.hid HS) w
 ·exact adr_a op rd rs1 rs2 im a aq rl (Lib.hid HA) (Lib.hid HL) (Lib.hid HS) w
theorem Z81(op rd rs1 rs2 im a:Int)(aq rl:Bool)(k0:11≤op)(k1:op≤21)(w:World):
  Calls prog 61 #[.agg #[.int .i64 op,.int .i64 rd,.int .i64 rs1,.int .i64 rs2,.int .i64 im,.bool aq,.bool rl],.int .u64 a] w fun e w'=>e=.returned (.int .u64 (IntKind.u64.wrap (a+IntKind.u64.wrap im)))∧Nb w w':=by
 go_enter func61,ntmps61
 repeat (first|(with_reducible first|refine tE ?_|refine iS ?_|refine iO ?_)|go_values|go_skip|go_guarded|go_step|go_upon|go_back)
 go_ret
 exact⟨rfl,(Nb.refl _).alloc _⟩
theorem Z1B(op rd rs1 rs2 im a:Int)(aq rl:Bool)(k0:¬11≤op)(HA:Hid (∀w,Calls prog 60 #[.int .i64 op] w fun e w'=>e=.returned (.bool true)∧w=w'))(w:World):
  Calls prog 61 #[.agg #[.int .i64 op,.int .i64 rd,.int .i64 rs1,.int .i64 rs2,.int .i64 im,.bool aq,.bool rl],.int .u64 a] w fun e w'=>e=.returned (.int .u64 (a))∧Nb w w':=by
 go_enter func61,ntmps61
 repeat (first|(with_reducible first|refine tE ?_|refine iS ?_|refine iO ?_)|go_values|go_skip|go_guarded|go_step|go_upon|go_back|(refine(HA.out _).mono ?_;rintro e w'⟨rfl,rfl⟩;simp only[]))
 go_ret
 exact⟨rfl,(Nb.refl _).alloc _⟩
theorem Z1C(op rd rs1 rs2 im a:Int)(aq rl:Bool)(k0:11≤op)(k1:¬op≤21)(HA:Hid (∀w,Calls prog 60 #[.int .i64 op] w fun e w'=>e=.returned (.bool true)∧w=w'))(w:World):
  Calls prog 61 #[.agg #[.int .i64 op,.int .i64 rd,.int .i64 rs1,.int .i64 rs2,.int .i64 im,.bool aq,.bool rl],.int .u64 a] w fun e w'=>e=.returned (.int .u64 (a))∧Nb w w':=by
 go_enter func61,ntmps61
 repeat (first|(with_reducible first|refine tE ?_|refine iS ?_|refine iO ?_)|go_values|go_skip|go_guarded|go_step|go_upon|go_back|(refine(HA.out _).mono ?_;rintro e w'⟨rfl,rfl⟩;simp only[]))
 go_ret
 exact⟨rfl,(Nb.refl _).alloc _⟩
theorem Z0N(op rd rs1 rs2 im a:Int)(aq rl:Bool)(k0:¬11≤op)(HA:Hid (∀w,Calls prog 60 #[.int .i64 op] w fun e w'=>e=.returned (.bool false)∧w=w'))(w:World):
  Calls prog 61 #[.agg #[.int .i64 op,.int .i64 rd,.int .i64 rs1,.int .i64 rs2,.int .i64 im,.bool aq,.bool rl],.int .u64 a] w fun e w'=>e=.returned (.int .u64 (0))∧Nb w w':=by
 go_enter func61,ntmps61
 repeat (first|(with_reducible first|refine tE ?_|refine iS ?_|refine iO ?_)|go_values|go_skip|go_guarded|go_step|go_upon|go_back|(refine(HA.out _).mono ?_;rintro e w'⟨rfl,rfl⟩;simp only[]))
 go_ret
 exact⟨rfl,(Nb.refl _).alloc _⟩
theorem Z0O(op rd rs1 rs2 im a:Int)(aq rl:Bool)(k0:11≤op)(k1:¬op≤21)(HA:Hid (∀w,Calls prog 60 #[.int .i64 op] w fun e w'=>e=.returned (.bool false)∧w=w'))(w:World):
  Calls prog 61 #[.agg #[.int .i64 op,.int .i64 rd,.int .i64 rs1,.int .i64 rs2,.int .i64 im,.bool aq,.bool rl],.int .u64 a] w fun e w'=>e=.returned (.int .u64 (0))∧Nb w w':=by
 go_enter func61,ntmps61
 repeat (first|(with_reducible first|refine tE ?_|refine iS ?_|refine iO ?_)|go_values|go_skip|go_guarded|go_step|go_upon|go_back|(refine(HA.out _).mono ?_;rintro e w'⟨rfl,rfl⟩;simp only[]))
 go_ret
 exact⟨rfl,(Nb.refl _).alloc _⟩
theorem Z5c(op rd rs1 rs2 im a:Int)(aq rl:Bool)(w:World):
  Calls prog 61 #[.agg #[.int .i64 op,.int .i64 rd,.int .i64 rs1,.int .i64 rs2,.int .i64 im,.bool aq,.bool rl],.int .u64 a] w fun e w'=>e=.returned (.int .u64 (AdB op im a))∧Nb w w':=by
 by_cases k0:11≤op
 ·by_cases k1:op≤21
  ·have e:AdB op im a=IntKind.u64.wrap (a+IntKind.u64.wrap im):=by
    unfold AdB
    have h1:ZR op=false:=by unfold ZR;simp;omega
    have h2:(Zz op||Zq op)=true:=by unfold Zz Zq;simp;omega
    rw[h1,h2];rfl
   rw[e]
   exact Z81 op rd rs1 rs2 im a aq rl k0 k1 w
  ·have HA:=fun w=>YJ op w
   unfold AdB
   cases ha:ZR op<;>rw[ha] at HA
   ·have h2:(Zz op||Zq op)=false:=by unfold ZR at ha;unfold Zz Zq;simp at ha ⊢;omega
    rw[h2]
    exact Z0O op rd rs1 rs2 im a aq rl k0 k1 (Lib.hid HA) w
   ·exact Z1C op rd rs1 rs2 im a aq rl k0 k1 (Lib.hid HA) w
 ·have HA:=fun w=>YJ op w
  unfold AdB
  cases ha:ZR op<;>rw[ha] at HA
  ·have h2:(Zz op||Zq op)=false:=by unfold ZR at ha;unfold Zz Zq;simp at ha ⊢;omega
   rw[h2]
   exact Z0N op rd rs1 rs2 im a aq rl k0 (Lib.hid HA) w
  ·exact Z1B op rd rs1 rs2 im a aq rl k0 (Lib.hid HA) w
end Go.Proofs.YtgpdpaljbiclkaaGreatDoor

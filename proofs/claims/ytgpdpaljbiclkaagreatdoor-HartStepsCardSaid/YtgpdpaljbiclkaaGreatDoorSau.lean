/-
  Proved here: what alu.Value of the code gives, operation by operation, a part. Conditions: the numbers are words; the table of codes holds what its text lays.
-/
import Derived.Test.YtgpdpaljbiclkaaGreatDoorSzz
import Derived.Test.YtgpdpaljbiclkaaGreatDoorSat
set_option maxHeartbeats 1000000
set_option maxRecDepth 100000
namespace Go.Proofs.YtgpdpaljbiclkaaGreatDoor
open _root_.Go.Proofs.Tryz
open Go.RowKit
set_option linter.unusedVariables false
theorem val_41(rd rs1 rs2 im pc a b:Int)(aq rl:Bool)(qa:InU a)(qb:InU b)(qi:InU (IntKind.u64.wrap im))
  (HG:Hid (∀w,Cod w→Calls prog 37 #[.agg #[.int .i64 41,.int .i64 rd,.int .i64 rs1,.int .i64 rs2,.int .i64 im,.bool aq,.bool rl]] w fun e w'=>e=.returned (.bool true)∧Nb w w')) (w:World) (hC:Cod w):
  Calls prog 50 #[.agg #[.int .i64 41,.int .i64 rd,.int .i64 rs1,.int .i64 rs2,.int .i64 im,.bool aq,.bool rl],.int .u64 pc,.int .u64 a,.int .u64 b] w fun e w'=>e=.returned (.tuple #[.int .u64 (Sgn (IntKind.u64.wrap ((Sgn a 32)+(Sgn (IntKind.u64.wrap im) 32))) 32),.int .i64 0])∧Nb w w':=by
 have HI:=Lib.hid (ZD 41)
 rw[show Y6 41=true from rfl] at HI
 have HK:=Lib.hid (Z74 a (IntKind.u64.wrap im) qa qi)
 have q0:InU (Sgn a 32):=Zn _ 32 qa
 have q1:InU (Sgn (IntKind.u64.wrap im) 32):=Zn _ 32 qi
 have QV:InU (IntKind.u64.wrap ((Sgn a 32)+(Sgn (IntKind.u64.wrap im) 32))):=Ju (Sgn a 32) (Sgn (IntKind.u64.wrap im) 32) q0 q1
 have hef:=ZN
 unfold Z1 at HK
 go_enter func50,ntmps50
 repeat (first|(with_reducible first|refine tE ?_|refine iS ?_|refine iO ?_)|go_values|go_skip|go_guarded|go_step|go_upon|go_back)
 obtain⟨W1,hW⟩:∃W1,w.alloc (.cells #[.int .i64 41,.int .i64 rd,.int .i64 rs1,.int .i64 rs2,.int .i64 im,.bool aq,.bool rl] 50)=W1:=⟨_,rfl⟩
 have hb:=Z0 w _ hW rfl
 have h2:Nb w W1:=by rw[←hW];exact(Nb.refl _).alloc _
 rw[hW]
 clear hW
 refine(HG.out _ (hC.of_nb h2)).mono ?_
 rintro e w1⟨rfl,hn⟩
 have hb1:=Nb.block hn hb
 obtain⟨n1,c0,c1,c2,c3,c4,c5,c6⟩:=Z4 hb1
 clear hb
 simp only[]
 repeat (first|(with_reducible first|refine tE ?_|refine iS ?_|refine iO ?_)|go_values|go_skip|go_guarded|go_step|go_upon|go_back)
 refine(HI.out _).mono ?_
 rintro e w'⟨rfl,rfl⟩
 go_wp2_with fail
 refine(HK.out _).mono ?_
 rintro e w2⟨rfl,hn2⟩
 clear hb1 n1 c0 c1 c2 c3 c4 c5 c6
 go_wp2_with fail
 refine(Km _ _ _ _).mono ?_
 rintro e w3⟨rfl,hn3⟩
 go_wp2_with fail
 refine(Zr _ _ QV.1 QV.2 _).mono ?_
 rintro e w'⟨rfl,rfl⟩
 go_wp2_with fail
 go_ret2
 exact⟨rfl,((h2.trans hn).trans hn2).trans hn3⟩
theorem val_32(rd rs1 rs2 im pc a b:Int)(aq rl:Bool)(qa:InU a)(qb:InU b)(qi:InU (IntKind.u64.wrap im))
  (HG:Hid (∀w,Cod w→Calls prog 37 #[.agg #[.int .i64 32,.int .i64 rd,.int .i64 rs1,.int .i64 rs2,.int .i64 im,.bool aq,.bool rl]] w fun e w'=>e=.returned (.bool true)∧Nb w w')) (w:World) (hC:Cod w):
  Calls prog 50 #[.agg #[.int .i64 32,.int .i64 rd,.int .i64 rs1,.int .i64 rs2,.int .i64 im,.bool aq,.bool rl],.int .u64 pc,.int .u64 a,.int .u64 b] w fun e w'=>e=.returned (.tuple #[.int .u64 (IntKind.u64.wrap (a-b)),.int .i64 0])∧Nb w w':=by
 have HI:=Lib.hid (ZD 32)
 rw[show Y6 32=false from rfl] at HI
 have HK:=Lib.hid (Z78 a b qa qb)
 have q0:InU a:=qa
 have q1:InU b:=qb
 have QV:InU (IntKind.u64.wrap (a-b)):=K4 a b q0 q1
 have hef:=ZN
 unfold Z1 at HK
 go_enter func50,ntmps50
 repeat (first|(with_reducible first|refine tE ?_|refine iS ?_|refine iO ?_)|go_values|go_skip|go_guarded|go_step|go_upon|go_back)
 obtain⟨W1,hW⟩:∃W1,w.alloc (.cells #[.int .i64 32,.int .i64 rd,.int .i64 rs1,.int .i64 rs2,.int .i64 im,.bool aq,.bool rl] 50)=W1:=⟨_,rfl⟩
 have hb:=Z0 w _ hW rfl
 have h2:Nb w W1:=by rw[←hW];exact(Nb.refl _).alloc _
 rw[hW]
 clear hW
 refine(HG.out _ (hC.of_nb h2)).mono ?_
 rintro e w1⟨rfl,hn⟩
 have hb1:=Nb.block hn hb
 obtain⟨n1,c0,c1,c2,c3,c4,c5,c6⟩:=Z4 hb1
 clear hb
 simp only[]
 repeat (first|(with_reducible first|refine tE ?_|refine iS ?_|refine iO ?_)|go_values|go_skip|go_guarded|go_step|go_upon|go_back)
 refine(HI.out _).mono ?_
 rintro e w'⟨rfl,rfl⟩
 go_wp2_with fail
 refine(HK.out _).mono ?_
 rintro e w2⟨rfl,hn2⟩
 clear hb1 n1 c0 c1 c2 c3 c4 c5 c6
 go_wp2_with fail
 refine(Z1o _ _ _ _).mono ?_
 rintro e w3⟨rfl,hn3⟩
 go_wp2_with fail
 refine(Zr _ _ QV.1 QV.2 _).mono ?_
 rintro e w'⟨rfl,rfl⟩
 rw[ZS]
 go_wp2_with fail
 go_ret2
 exact⟨rfl,((h2.trans hn).trans hn2).trans hn3⟩
theorem val_28(rd rs1 rs2 im pc a b:Int)(aq rl:Bool)(qa:InU a)(qb:InU b)(qi:InU (IntKind.u64.wrap im))
  (HG:Hid (∀w,Cod w→Calls prog 37 #[.agg #[.int .i64 28,.int .i64 rd,.int .i64 rs1,.int .i64 rs2,.int .i64 im,.bool aq,.bool rl]] w fun e w'=>e=.returned (.bool true)∧Nb w w')) (w:World) (hC:Cod w):
  Calls prog 50 #[.agg #[.int .i64 28,.int .i64 rd,.int .i64 rs1,.int .i64 rs2,.int .i64 im,.bool aq,.bool rl],.int .u64 pc,.int .u64 a,.int .u64 b] w fun e w'=>e=.returned (.tuple #[.int .u64 (IntKind.u64.wrap (a*2 ^ ((IntKind.u64.wrap im) % 64).toNat)),.int .i64 0])∧Nb w w':=by
 have HI:=Lib.hid (ZD 28)
 rw[show Y6 28=true from rfl] at HI
 have HK:=Lib.hid (Z7c a (IntKind.u64.wrap im) qa qi)
 have q0:InU a:=qa
 have q1:InU (IntKind.u64.wrap im):=qi
 have QV:InU (IntKind.u64.wrap (a*2 ^ ((IntKind.u64.wrap im) % 64).toNat)):=Jv a (IntKind.u64.wrap im) 64 q0 q1
 have hef:=ZN
 unfold Z1 at HK
 go_enter func50,ntmps50
 repeat (first|(with_reducible first|refine tE ?_|refine iS ?_|refine iO ?_)|go_values|go_skip|go_guarded|go_step|go_upon|go_back)
 obtain⟨W1,hW⟩:∃W1,w.alloc (.cells #[.int .i64 28,.int .i64 rd,.int .i64 rs1,.int .i64 rs2,.int .i64 im,.bool aq,.bool rl] 50)=W1:=⟨_,rfl⟩
 have hb:=Z0 w _ hW rfl
 have h2:Nb w W1:=by rw[←hW];exact(Nb.refl _).alloc _
 rw[hW]
 clear hW
 refine(HG.out _ (hC.of_nb h2)).mono ?_
 rintro e w1⟨rfl,hn⟩
 have hb1:=Nb.block hn hb
 obtain⟨n1,c0,c1,c2,c3,c4,c5,c6⟩:=Z4 hb1
 clear hb
 simp only[]
 repeat (first|(with_reducible first|refine tE ?_|refine iS ?_|refine iO ?_)|go_values|go_skip|go_guarded|go_step|go_upon|go_back)
 refine(HI.out _).mono ?_
 rintro e w'⟨rfl,rfl⟩
 go_wp2_with fail
 refine(HK.out _).mono ?_
 rintro e w2⟨B,rfl,hn2,hB⟩
 have HB:=Lib.hid hB
 clear hB hb1 n1 c0 c1 c2 c3 c4 c5 c6
 go_wp2_with fail
 refine(shl64 _ _ _ q0.1 q0.2 q1.1 q1.2 _ HB.out).mono ?_
 rintro e w3⟨rfl,hn3⟩
 go_wp2_with fail
 refine(Zr _ _ QV.1 QV.2 _).mono ?_
 rintro e w'⟨rfl,rfl⟩
 rw[ZS]
 go_wp2_with fail
 go_ret2
 exact⟨rfl,((h2.trans hn).trans hn2).trans hn3⟩
theorem val_29(rd rs1 rs2 im pc a b:Int)(aq rl:Bool)(qa:InU a)(qb:InU b)(qi:InU (IntKind.u64.wrap im))
  (HG:Hid (∀w,Cod w→Calls prog 37 #[.agg #[.int .i64 29,.int .i64 rd,.int .i64 rs1,.int .i64 rs2,.int .i64 im,.bool aq,.bool rl]] w fun e w'=>e=.returned (.bool true)∧Nb w w')) (w:World) (hC:Cod w):
  Calls prog 50 #[.agg #[.int .i64 29,.int .i64 rd,.int .i64 rs1,.int .i64 rs2,.int .i64 im,.bool aq,.bool rl],.int .u64 pc,.int .u64 a,.int .u64 b] w fun e w'=>e=.returned (.tuple #[.int .u64 (a / 2 ^ ((IntKind.u64.wrap im) % 64).toNat),.int .i64 0])∧Nb w w':=by
 have HI:=Lib.hid (ZD 29)
 rw[show Y6 29=true from rfl] at HI
 have HK:=Lib.hid (Z7g a (IntKind.u64.wrap im) qa qi)
 have q0:InU a:=qa
 have q1:InU (IntKind.u64.wrap im):=qi
 have QV:InU (a / 2 ^ ((IntKind.u64.wrap im) % 64).toNat):=Ko a (IntKind.u64.wrap im) 64 q0 q1
 have hef:=ZN
 unfold Z1 at HK
 go_enter func50,ntmps50
 repeat (first|(with_reducible first|refine tE ?_|refine iS ?_|refine iO ?_)|go_values|go_skip|go_guarded|go_step|go_upon|go_back)
 obtain⟨W1,hW⟩:∃W1,w.alloc (.cells #[.int .i64 29,.int .i64 rd,.int .i64 rs1,.int .i64 rs2,.int .i64 im,.bool aq,.bool rl] 50)=W1:=⟨_,rfl⟩
 have hb:=Z0 w _ hW rfl
 have h2:Nb w W1:=by rw[←hW];exact(Nb.refl _).alloc _
 rw[hW]
 clear hW
 refine(HG.out _ (hC.of_nb h2)).mono ?_
 rintro e w1⟨rfl,hn⟩
 have hb1:=Nb.block hn hb
 obtain⟨n1,c0,c1,c2,c3,c4,c5,c6⟩:=Z4 hb1
 clear hb
 simp only[]
 repeat (first|(with_reducible first|refine tE ?_|refine iS ?_|refine iO ?_)|go_values|go_skip|go_guarded|go_step|go_upon|go_back)
 refine(HI.out _).mono ?_
 rintro e w'⟨rfl,rfl⟩
 go_wp2_with fail
 refine(HK.out _).mono ?_
 rintro e w2⟨B,rfl,hn2,hB⟩
 have HB:=Lib.hid hB
 clear hB hb1 n1 c0 c1 c2 c3 c4 c5 c6
 go_wp2_with fail
 refine(shr64 _ _ _ q0.1 q0.2 q1.1 q1.2 _ HB.out).mono ?_
 rintro e w3⟨rfl,hn3⟩
 go_wp2_with fail
 refine(Zr _ _ QV.1 QV.2 _).mono ?_
 rintro e w'⟨rfl,rfl⟩
 rw[ZS]
 go_wp2_with fail
 go_ret2
 exact⟨rfl,((h2.trans hn).trans hn2).trans hn3⟩
theorem val_30(rd rs1 rs2 im pc a b:Int)(aq rl:Bool)(qa:InU a)(qb:InU b)(qi:InU (IntKind.u64.wrap im))
  (HG:Hid (∀w,Cod w→Calls prog 37 #[.agg #[.int .i64 30,.int .i64 rd,.int .i64 rs1,.int .i64 rs2,.int .i64 im,.bool aq,.bool rl]] w fun e w'=>e=.returned (.bool true)∧Nb w w')) (w:World) (hC:Cod w):
  Calls prog 50 #[.agg #[.int .i64 30,.int .i64 rd,.int .i64 rs1,.int .i64 rs2,.int .i64 im,.bool aq,.bool rl],.int .u64 pc,.int .u64 a,.int .u64 b] w fun e w'=>e=.returned (.tuple #[.int .u64 (Sar a (IntKind.u64.wrap im) 64),.int .i64 0])∧Nb w w':=by
 have HI:=Lib.hid (ZD 30)
 rw[show Y6 30=true from rfl] at HI
 have HK:=Lib.hid (Z7k a (IntKind.u64.wrap im) qa qi)
 have q0:InU a:=qa
 have q1:InU (IntKind.u64.wrap im):=qi
 have QV:InU (Sar a (IntKind.u64.wrap im) 64):=Kn a (IntKind.u64.wrap im) 64 q0 q1
 have hef:=ZN
 unfold Z1 at HK
 go_enter func50,ntmps50
 repeat (first|(with_reducible first|refine tE ?_|refine iS ?_|refine iO ?_)|go_values|go_skip|go_guarded|go_step|go_upon|go_back)
 obtain⟨W1,hW⟩:∃W1,w.alloc (.cells #[.int .i64 30,.int .i64 rd,.int .i64 rs1,.int .i64 rs2,.int .i64 im,.bool aq,.bool rl] 50)=W1:=⟨_,rfl⟩
 have hb:=Z0 w _ hW rfl
 have h2:Nb w W1:=by rw[←hW];exact(Nb.refl _).alloc _
 rw[hW]
 clear hW
 refine(HG.out _ (hC.of_nb h2)).mono ?_
 rintro e w1⟨rfl,hn⟩
 have hb1:=Nb.block hn hb
 obtain⟨n1,c0,c1,c2,c3,c4,c5,c6⟩:=Z4 hb1
 clear hb
 simp only[]
 repeat (first|(with_reducible first|refine tE ?_|refine iS ?_|refine iO ?_)|go_values|go_skip|go_guarded|go_step|go_upon|go_back)
 refine(HI.out _).mono ?_
 rintro e w'⟨rfl,rfl⟩
 go_wp2_with fail
 refine(HK.out _).mono ?_
 rintro e w2⟨B,rfl,hn2,hB⟩
 have HB:=Lib.hid hB
 clear hB hb1 n1 c0 c1 c2 c3 c4 c5 c6
 go_wp2_with fail
 refine(Z4C _ _ _ q0.1 q0.2 q1.1 q1.2 _ HB.out).mono ?_
 rintro e w3⟨rfl,hn3⟩
 go_wp2_with fail
 refine(Zr _ _ QV.1 QV.2 _).mono ?_
 rintro e w'⟨rfl,rfl⟩
 rw[ZS]
 go_wp2_with fail
 go_ret2
 exact⟨rfl,((h2.trans hn).trans hn2).trans hn3⟩
theorem val_24(rd rs1 rs2 im pc a b:Int)(aq rl:Bool)(qa:InU a)(qb:InU b)(qi:InU (IntKind.u64.wrap im))
  (HG:Hid (∀w,Cod w→Calls prog 37 #[.agg #[.int .i64 24,.int .i64 rd,.int .i64 rs1,.int .i64 rs2,.int .i64 im,.bool aq,.bool rl]] w fun e w'=>e=.returned (.bool true)∧Nb w w')) (w:World) (hC:Cod w):
  Calls prog 50 #[.agg #[.int .i64 24,.int .i64 rd,.int .i64 rs1,.int .i64 rs2,.int .i64 im,.bool aq,.bool rl],.int .u64 pc,.int .u64 a,.int .u64 b] w fun e w'=>e=.returned (.tuple #[.int .u64 (Xv (LtU a (IntKind.u64.wrap im))),.int .i64 0])∧Nb w w':=by
 have HI:=Lib.hid (ZD 24)
 rw[show Y6 24=true from rfl] at HI
 have HK:=Lib.hid (Z7o a (IntKind.u64.wrap im) qa qi)
 have q0:InU a:=qa
 have q1:InU (IntKind.u64.wrap im):=qi
 have QV:InU (Xv (LtU a (IntKind.u64.wrap im))):=KL a (IntKind.u64.wrap im) q0 q1
 have hef:=ZN
 unfold Z1 at HK
 go_enter func50,ntmps50
 repeat (first|(with_reducible first|refine tE ?_|refine iS ?_|refine iO ?_)|go_values|go_skip|go_guarded|go_step|go_upon|go_back)
 obtain⟨W1,hW⟩:∃W1,w.alloc (.cells #[.int .i64 24,.int .i64 rd,.int .i64 rs1,.int .i64 rs2,.int .i64 im,.bool aq,.bool rl] 50)=W1:=⟨_,rfl⟩
 have hb:=Z0 w _ hW rfl
 have h2:Nb w W1:=by rw[←hW];exact(Nb.refl _).alloc _
 rw[hW]
 clear hW
 refine(HG.out _ (hC.of_nb h2)).mono ?_
 rintro e w1⟨rfl,hn⟩
 have hb1:=Nb.block hn hb
 obtain⟨n1,c0,c1,c2,c3,c4,c5,c6⟩:=Z4 hb1
 clear hb
 simp only[]
 repeat (first|(with_reducible first|refine tE ?_|refine iS ?_|refine iO ?_)|go_values|go_skip|go_guarded|go_step|go_upon|go_back)
 refine(HI.out _).mono ?_
 rintro e w'⟨rfl,rfl⟩
 go_wp2_with fail
 refine(HK.out _).mono ?_
 rintro e w2⟨rfl,hn2⟩
 clear hb1 n1 c0 c1 c2 c3 c4 c5 c6
 go_wp2_with fail
 refine(Z0i _ _ _ _).mono ?_
 rintro e w3⟨rfl,hn3⟩
 go_wp2_with fail
 refine(Zr _ _ QV.1 QV.2 _).mono ?_
 rintro e w'⟨rfl,rfl⟩
 rw[ZS]
 go_wp2_with fail
 go_ret2
 exact⟨rfl,((h2.trans hn).trans hn2).trans hn3⟩
theorem val_26(rd rs1 rs2 im pc a b:Int)(aq rl:Bool)(qa:InU a)(qb:InU b)(qi:InU (IntKind.u64.wrap im))
  (HG:Hid (∀w,Cod w→Calls prog 37 #[.agg #[.int .i64 26,.int .i64 rd,.int .i64 rs1,.int .i64 rs2,.int .i64 im,.bool aq,.bool rl]] w fun e w'=>e=.returned (.bool true)∧Nb w w')) (w:World) (hC:Cod w):
  Calls prog 50 #[.agg #[.int .i64 26,.int .i64 rd,.int .i64 rs1,.int .i64 rs2,.int .i64 im,.bool aq,.bool rl],.int .u64 pc,.int .u64 a,.int .u64 b] w fun e w'=>e=.returned (.tuple #[.int .u64 (bits .or .u64 a (IntKind.u64.wrap im)),.int .i64 0])∧Nb w w':=by
 have HI:=Lib.hid (ZD 26)
 rw[show Y6 26=true from rfl] at HI
 have HK:=Lib.hid (Z7s a (IntKind.u64.wrap im) qa qi)
 have q0:InU a:=qa
 have q1:InU (IntKind.u64.wrap im):=qi
 have QV:InU (bits .or .u64 a (IntKind.u64.wrap im)):=Z4E a (IntKind.u64.wrap im) q0 q1
 have hef:=ZN
 unfold Z1 at HK
 go_enter func50,ntmps50
 repeat (first|(with_reducible first|refine tE ?_|refine iS ?_|refine iO ?_)|go_values|go_skip|go_guarded|go_step|go_upon|go_back)
 obtain⟨W1,hW⟩:∃W1,w.alloc (.cells #[.int .i64 26,.int .i64 rd,.int .i64 rs1,.int .i64 rs2,.int .i64 im,.bool aq,.bool rl] 50)=W1:=⟨_,rfl⟩
 have hb:=Z0 w _ hW rfl
 have h2:Nb w W1:=by rw[←hW];exact(Nb.refl _).alloc _
 rw[hW]
 clear hW
 refine(HG.out _ (hC.of_nb h2)).mono ?_
 rintro e w1⟨rfl,hn⟩
 have hb1:=Nb.block hn hb
 obtain⟨n1,c0,c1,c2,c3,c4,c5,c6⟩:=Z4 hb1
 clear hb
 simp only[]
 repeat (first|(with_reducible first|refine tE ?_|refine iS ?_|refine iO ?_)|go_values|go_skip|go_guarded|go_step|go_upon|go_back)
 refine(HI.out _).mono ?_
 rintro e w'⟨rfl,rfl⟩
 go_wp2_with fail
 refine(HK.out _).mono ?_
 rintro e w2⟨rfl,hn2⟩
 clear hb1 n1 c0 c1 c2 c3 c4 c5 c6
 go_wp2_with fail
 refine(Z0J _ _ _ _).mono ?_
 rintro e w3⟨rfl,hn3⟩
 go_wp2_with fail
 refine(Zr _ _ QV.1 QV.2 _).mono ?_
 rintro e w'⟨rfl,rfl⟩
 rw[ZS]
 go_wp2_with fail
 go_ret2
 exact⟨rfl,((h2.trans hn).trans hn2).trans hn3⟩
theorem val_53(rd rs1 rs2 im pc a b:Int)(aq rl:Bool)(qa:InU a)(qb:InU b)(qi:InU (IntKind.u64.wrap im))
  (HG:Hid (∀w,Cod w→Calls prog 37 #[.agg #[.int .i64 53,.int .i64 rd,.int .i64 rs1,.int .i64 rs2,.int .i64 im,.bool aq,.bool rl]] w fun e w'=>e=.returned (.bool true)∧Nb w w')) (w:World) (hC:Cod w):
  Calls prog 50 #[.agg #[.int .i64 53,.int .i64 rd,.int .i64 rs1,.int .i64 rs2,.int .i64 im,.bool aq,.bool rl],.int .u64 pc,.int .u64 a,.int .u64 b] w fun e w'=>e=.returned (.tuple #[.int .u64 (IntKind.u64.wrap (a*b)),.int .i64 0])∧Nb w w':=by
 have HI:=Lib.hid (ZD 53)
 rw[show Y6 53=false from rfl] at HI
 have HK:=Lib.hid (Z7w a b qa qb)
 have q0:InU a:=qa
 have q1:InU b:=qb
 have QV:InU (IntKind.u64.wrap (a*b)):=Jk a b q0 q1
 have hef:=ZN
 unfold Z1 at HK
 go_enter func50,ntmps50
 repeat (first|(with_reducible first|refine tE ?_|refine iS ?_|refine iO ?_)|go_values|go_skip|go_guarded|go_step|go_upon|go_back)
 obtain⟨W1,hW⟩:∃W1,w.alloc (.cells #[.int .i64 53,.int .i64 rd,.int .i64 rs1,.int .i64 rs2,.int .i64 im,.bool aq,.bool rl] 50)=W1:=⟨_,rfl⟩
 have hb:=Z0 w _ hW rfl
 have h2:Nb w W1:=by rw[←hW];exact(Nb.refl _).alloc _
 rw[hW]
 clear hW
 refine(HG.out _ (hC.of_nb h2)).mono ?_
 rintro e w1⟨rfl,hn⟩
 have hb1:=Nb.block hn hb
 obtain⟨n1,c0,c1,c2,c3,c4,c5,c6⟩:=Z4 hb1
 clear hb
 simp only[]
 repeat (first|(with_reducible first|refine tE ?_|refine iS ?_|refine iO ?_)|go_values|go_skip|go_guarded|go_step|go_upon|go_back)
 refine(HI.out _).mono ?_
 rintro e w'⟨rfl,rfl⟩
 go_wp2_with fail
 refine(HK.out _).mono ?_
 rintro e w2⟨rfl,hn2⟩
 clear hb1 n1 c0 c1 c2 c3 c4 c5 c6
 go_wp2_with fail
 refine(Z2L _ _ _ _).mono ?_
 rintro e w3⟨rfl,hn3⟩
 go_wp2_with fail
 refine(Zr _ _ QV.1 QV.2 _).mono ?_
 rintro e w'⟨rfl,rfl⟩
 rw[ZS]
 go_wp2_with fail
 go_ret2
 exact⟨rfl,((h2.trans hn).trans hn2).trans hn3⟩
theorem val_62(rd rs1 rs2 im pc a b:Int)(aq rl:Bool)(qa:InU a)(qb:InU b)(qi:InU (IntKind.u64.wrap im))
  (HG:Hid (∀w,Cod w→Calls prog 37 #[.agg #[.int .i64 62,.int .i64 rd,.int .i64 rs1,.int .i64 rs2,.int .i64 im,.bool aq,.bool rl]] w fun e w'=>e=.returned (.bool true)∧Nb w w')) (w:World) (hC:Cod w):
  Calls prog 50 #[.agg #[.int .i64 62,.int .i64 rd,.int .i64 rs1,.int .i64 rs2,.int .i64 im,.bool aq,.bool rl],.int .u64 pc,.int .u64 a,.int .u64 b] w fun e w'=>e=.returned (.tuple #[.int .u64 (Sgn (_root_.Go.Proofs.YtgpdpaljbiclkaaGreatDoor.Quo (Sgn a 32) (Sgn b 32) true) 32),.int .i64 0])∧Nb w w':=by
 have HI:=Lib.hid (ZD 62)
 rw[show Y6 62=false from rfl] at HI
 have HK:=Lib.hid (Z7A a b qa qb)
 have q0:InU (Sgn a 32):=Zn _ 32 qa
 have q1:InU (Sgn b 32):=Zn _ 32 qb
 have QV:InU (_root_.Go.Proofs.YtgpdpaljbiclkaaGreatDoor.Quo (Sgn a 32) (Sgn b 32) true):=YR (Sgn a 32) (Sgn b 32) q0 q1
 have hef:=ZN
 unfold Z1 at HK
 go_enter func50,ntmps50
 repeat (first|(with_reducible first|refine tE ?_|refine iS ?_|refine iO ?_)|go_values|go_skip|go_guarded|go_step|go_upon|go_back)
 obtain⟨W1,hW⟩:∃W1,w.alloc (.cells #[.int .i64 62,.int .i64 rd,.int .i64 rs1,.int .i64 rs2,.int .i64 im,.bool aq,.bool rl] 50)=W1:=⟨_,rfl⟩
 have hb:=Z0 w _ hW rfl
 have h2:Nb w W1:=by rw[←hW];exact(Nb.refl _).alloc _
 rw[hW]
 clear hW
 refine(HG.out _ (hC.of_nb h2)).mono ?_
 rintro e w1⟨rfl,hn⟩
 have hb1:=Nb.block hn hb
 obtain⟨n1,c0,c1,c2,c3,c4,c5,c6⟩:=Z4 hb1
 clear hb
 simp only[]
 repeat (first|(with_reducible first|refine tE ?_|refine iS ?_|refine iO ?_)|go_values|go_skip|go_guarded|go_step|go_upon|go_back)
 refine(HI.out _).mono ?_
 rintro e w'⟨rfl,rfl⟩
 go_wp2_with fail
 refine(HK.out _).mono ?_
 rintro e w2⟨rfl,hn2⟩
 clear hb1 n1 c0 c1 c2 c3 c4 c5 c6
 go_wp2_with fail
 refine(Z1r _ _ _ q0.1 q0.2 q1.1 q1.2 _).mono ?_
 rintro e w3⟨rfl,hn3⟩
 go_wp2_with fail
 refine(Zr _ _ QV.1 QV.2 _).mono ?_
 rintro e w'⟨rfl,rfl⟩
 go_wp2_with fail
 go_ret2
 exact⟨rfl,((h2.trans hn).trans hn2).trans hn3⟩
theorem val_64(rd rs1 rs2 im pc a b:Int)(aq rl:Bool)(qa:InU a)(qb:InU b)(qi:InU (IntKind.u64.wrap im))
  (HG:Hid (∀w,Cod w→Calls prog 37 #[.agg #[.int .i64 64,.int .i64 rd,.int .i64 rs1,.int .i64 rs2,.int .i64 im,.bool aq,.bool rl]] w fun e w'=>e=.returned (.bool true)∧Nb w w')) (w:World) (hC:Cod w):
  Calls prog 50 #[.agg #[.int .i64 64,.int .i64 rd,.int .i64 rs1,.int .i64 rs2,.int .i64 im,.bool aq,.bool rl],.int .u64 pc,.int .u64 a,.int .u64 b] w fun e w'=>e=.returned (.tuple #[.int .u64 (Sgn (_root_.Go.Proofs.YtgpdpaljbiclkaaGreatDoor.Rem (Sgn a 32) (Sgn b 32) true) 32),.int .i64 0])∧Nb w w':=by
 have HI:=Lib.hid (ZD 64)
 rw[show Y6 64=false from rfl] at HI
 have HK:=Lib.hid (Z7E a b qa qb)
 have q0:InU (Sgn a 32):=Zn _ 32 qa
 have q1:InU (Sgn b 32):=Zn _ 32 qb
 have QV:InU (_root_.Go.Proofs.YtgpdpaljbiclkaaGreatDoor.Rem (Sgn a 32) (Sgn b 32) true):=YS (Sgn a 32) (Sgn b 32) q0 q1
 have hef:=ZN
 unfold Z1 at HK
 go_enter func50,ntmps50
 repeat (first|(with_reducible first|refine tE ?_|refine iS ?_|refine iO ?_)|go_values|go_skip|go_guarded|go_step|go_upon|go_back)
 obtain⟨W1,hW⟩:∃W1,w.alloc (.cells #[.int .i64 64,.int .i64 rd,.int .i64 rs1,.int .i64 rs2,.int .i64 im,.bool aq,.bool rl] 50)=W1:=⟨_,rfl⟩
 have hb:=Z0 w _ hW rfl
 have h2:Nb w W1:=by rw[←hW];exact(Nb.refl _).alloc _
 rw[hW]
 clear hW
 refine(HG.out _ (hC.of_nb h2)).mono ?_
 rintro e w1⟨rfl,hn⟩
 have hb1:=Nb.block hn hb
 obtain⟨n1,c0,c1,c2,c3,c4,c5,c6⟩:=Z4 hb1
 clear hb
 simp only[]
 repeat (first|(with_reducible first|refine tE ?_|refine iS ?_|refine iO ?_)|go_values|go_skip|go_guarded|go_step|go_upon|go_back)
 refine(HI.out _).mono ?_
 rintro e w'⟨rfl,rfl⟩
 go_wp2_with fail
 refine(HK.out _).mono ?_
 rintro e w2⟨rfl,hn2⟩
 clear hb1 n1 c0 c1 c2 c3 c4 c5 c6
 go_wp2_with fail
 refine(Z1t _ _ _ q0.1 q0.2 q1.1 q1.2 _).mono ?_
 rintro e w3⟨rfl,hn3⟩
 go_wp2_with fail
 refine(Zr _ _ QV.1 QV.2 _).mono ?_
 rintro e w'⟨rfl,rfl⟩
 go_wp2_with fail
 go_ret2
 exact⟨rfl,((h2.trans hn).trans hn2).trans hn3⟩
end Go.Proofs.YtgpdpaljbiclkaaGreatDoor

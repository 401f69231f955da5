/-
  Proved here: what alu.Value of the code gives, operation by operation, a part. Conditions: the numbers are words; the table of codes holds what its text lays.
-/
import Derived.Test.YtgpdpaljbiclkaaGreatDoorSzz
import Derived.Test.YtgpdpaljbiclkaaGreatDoorSat
set_option maxHeartbeats 1000000
set_option maxRecDepth 100000
namespace Go.Proofs.YtgpdpaljbiclkaaGreatDoor
open _root_.Go.Proofs.Tryz
open Go.RowKit
set_option linter.unusedVariables false
theorem val_31(rd rs1 rs2 im pc a b:Int)(aq rl:Bool)(qa:InU a)(qb:InU b)(qi:InU (IntKind.u64.wrap im))
  (HG:Hid (∀w,Cod w→Calls prog 37 #[.agg #[.int .i64 31,.int .i64 rd,.int .i64 rs1,.int .i64 rs2,.int .i64 im,.bool aq,.bool rl]] w fun e w'=>e=.returned (.bool true)∧Nb w w')) (w:World) (hC:Cod w):
  Calls prog 50 #[.agg #[.int .i64 31,.int .i64 rd,.int .i64 rs1,.int .i64 rs2,.int .i64 im,.bool aq,.bool rl],.int .u64 pc,.int .u64 a,.int .u64 b] w fun e w'=>e=.returned (.tuple #[.int .u64 (IntKind.u64.wrap (a+b)),.int .i64 0])∧Nb w w':=by
 have HI:=Lib.hid (ZD 31)
 rw[show Y6 31=false from rfl] at HI
 have HK:=Lib.hid (Z75 a b qa qb)
 have q0:InU a:=qa
 have q1:InU b:=qb
 have QV:InU (IntKind.u64.wrap (a+b)):=Ju a b q0 q1
 have hef:=ZN
 unfold Z1 at HK
 go_enter func50,ntmps50
 repeat (first|(with_reducible first|refine tE ?_|refine iS ?_|refine iO ?_)|go_values|go_skip|go_guarded|go_step|go_upon|go_back)
 obtain⟨W1,hW⟩:∃W1,w.alloc (.cells #[.int .i64 31,.int .i64 rd,.int .i64 rs1,.int .i64 rs2,.int .i64 im,.bool aq,.bool rl] 50)=W1:=⟨_,rfl⟩
 have hb:=Z0 w _ hW rfl
 have h2:Nb w W1:=by rw[←hW];exact(Nb.refl _).alloc _
 rw[hW]
 clear hW
 refine(HG.out _ (hC.of_nb h2)).mono ?_
 rintro e w1⟨rfl,hn⟩
 have hb1:=Nb.block hn hb
 obtain⟨n1,c0,c1,c2,c3,c4,c5,c6⟩:=Z4 hb1
 clear hb
 simp only[]
 repeat (first|(with_reducible first|refine tE ?_|refine iS ?_|refine iO ?_)|go_values|go_skip|go_guarded|go_step|go_upon|go_back)
 refine(HI.out _).mono ?_
 rintro e w'⟨rfl,rfl⟩
 go_wp2_with fail
 refine(HK.out _).mono ?_
 rintro e w2⟨rfl,hn2⟩
 clear hb1 n1 c0 c1 c2 c3 c4 c5 c6
 go_wp2_with fail
 refine(Km _ _ _ _).mono ?_
 rintro e w3⟨rfl,hn3⟩
 go_wp2_with fail
 refine(Zr _ _ QV.1 QV.2 _).mono ?_
 rintro e w'⟨rfl,rfl⟩
 rw[ZS]
 go_wp2_with fail
 go_ret2
 exact⟨rfl,((h2.trans hn).trans hn2).trans hn3⟩
theorem val_47(rd rs1 rs2 im pc a b:Int)(aq rl:Bool)(qa:InU a)(qb:InU b)(qi:InU (IntKind.u64.wrap im))
  (HG:Hid (∀w,Cod w→Calls prog 37 #[.agg #[.int .i64 47,.int .i64 rd,.int .i64 rs1,.int .i64 rs2,.int .i64 im,.bool aq,.bool rl]] w fun e w'=>e=.returned (.bool true)∧Nb w w')) (w:World) (hC:Cod w):
  Calls prog 50 #[.agg #[.int .i64 47,.int .i64 rd,.int .i64 rs1,.int .i64 rs2,.int .i64 im,.bool aq,.bool rl],.int .u64 pc,.int .u64 a,.int .u64 b] w fun e w'=>e=.returned (.tuple #[.int .u64 (Sgn (IntKind.u64.wrap ((Fld a 0 32)*2 ^ ((Fld b 0 32) % 32).toNat)) 32),.int .i64 0])∧Nb w w':=by
 have HI:=Lib.hid (ZD 47)
 rw[show Y6 47=false from rfl] at HI
 have HK:=Lib.hid (Z79 a b qa qb)
 have q0:InU (Fld a 0 32):=ZL _ 0 32 qa
 have q1:InU (Fld b 0 32):=ZL _ 0 32 qb
 have QV:InU (IntKind.u64.wrap ((Fld a 0 32)*2 ^ ((Fld b 0 32) % 32).toNat)):=Jv (Fld a 0 32) (Fld b 0 32) 32 q0 q1
 have hef:=ZN
 unfold Z1 at HK
 go_enter func50,ntmps50
 repeat (first|(with_reducible first|refine tE ?_|refine iS ?_|refine iO ?_)|go_values|go_skip|go_guarded|go_step|go_upon|go_back)
 obtain⟨W1,hW⟩:∃W1,w.alloc (.cells #[.int .i64 47,.int .i64 rd,.int .i64 rs1,.int .i64 rs2,.int .i64 im,.bool aq,.bool rl] 50)=W1:=⟨_,rfl⟩
 have hb:=Z0 w _ hW rfl
 have h2:Nb w W1:=by rw[←hW];exact(Nb.refl _).alloc _
 rw[hW]
 clear hW
 refine(HG.out _ (hC.of_nb h2)).mono ?_
 rintro e w1⟨rfl,hn⟩
 have hb1:=Nb.block hn hb
 obtain⟨n1,c0,c1,c2,c3,c4,c5,c6⟩:=Z4 hb1
 clear hb
 simp only[]
 repeat (first|(with_reducible first|refine tE ?_|refine iS ?_|refine iO ?_)|go_values|go_skip|go_guarded|go_step|go_upon|go_back)
 refine(HI.out _).mono ?_
 rintro e w'⟨rfl,rfl⟩
 go_wp2_with fail
 refine(HK.out _).mono ?_
 rintro e w2⟨B,rfl,hn2,hB⟩
 have HB:=Lib.hid hB
 clear hB hb1 n1 c0 c1 c2 c3 c4 c5 c6
 go_wp2_with fail
 refine(shl32 _ _ _ q0.1 q0.2 q1.1 q1.2 _ HB.out).mono ?_
 rintro e w3⟨rfl,hn3⟩
 go_wp2_with fail
 refine(Zr _ _ QV.1 QV.2 _).mono ?_
 rintro e w'⟨rfl,rfl⟩
 go_wp2_with fail
 go_ret2
 exact⟨rfl,((h2.trans hn).trans hn2).trans hn3⟩
theorem val_48(rd rs1 rs2 im pc a b:Int)(aq rl:Bool)(qa:InU a)(qb:InU b)(qi:InU (IntKind.u64.wrap im))
  (HG:Hid (∀w,Cod w→Calls prog 37 #[.agg #[.int .i64 48,.int .i64 rd,.int .i64 rs1,.int .i64 rs2,.int .i64 im,.bool aq,.bool rl]] w fun e w'=>e=.returned (.bool true)∧Nb w w')) (w:World) (hC:Cod w):
  Calls prog 50 #[.agg #[.int .i64 48,.int .i64 rd,.int .i64 rs1,.int .i64 rs2,.int .i64 im,.bool aq,.bool rl],.int .u64 pc,.int .u64 a,.int .u64 b] w fun e w'=>e=.returned (.tuple #[.int .u64 (Sgn ((Fld a 0 32) / 2 ^ ((Fld b 0 32) % 32).toNat) 32),.int .i64 0])∧Nb w w':=by
 have HI:=Lib.hid (ZD 48)
 rw[show Y6 48=false from rfl] at HI
 have HK:=Lib.hid (Z7d a b qa qb)
 have q0:InU (Fld a 0 32):=ZL _ 0 32 qa
 have q1:InU (Fld b 0 32):=ZL _ 0 32 qb
 have QV:InU ((Fld a 0 32) / 2 ^ ((Fld b 0 32) % 32).toNat):=Ko (Fld a 0 32) (Fld b 0 32) 32 q0 q1
 have hef:=ZN
 unfold Z1 at HK
 go_enter func50,ntmps50
 repeat (first|(with_reducible first|refine tE ?_|refine iS ?_|refine iO ?_)|go_values|go_skip|go_guarded|go_step|go_upon|go_back)
 obtain⟨W1,hW⟩:∃W1,w.alloc (.cells #[.int .i64 48,.int .i64 rd,.int .i64 rs1,.int .i64 rs2,.int .i64 im,.bool aq,.bool rl] 50)=W1:=⟨_,rfl⟩
 have hb:=Z0 w _ hW rfl
 have h2:Nb w W1:=by rw[←hW];exact(Nb.refl _).alloc _
 rw[hW]
 clear hW
 refine(HG.out _ (hC.of_nb h2)).mono ?_
 rintro e w1⟨rfl,hn⟩
 have hb1:=Nb.block hn hb
 obtain⟨n1,c0,c1,c2,c3,c4,c5,c6⟩:=Z4 hb1
 clear hb
 simp only[]
 repeat (first|(with_reducible first|refine tE ?_|refine iS ?_|refine iO ?_)|go_values|go_skip|go_guarded|go_step|go_upon|go_back)
 refine(HI.out _).mono ?_
 rintro e w'⟨rfl,rfl⟩
 go_wp2_with fail
 refine(HK.out _).mono ?_
 rintro e w2⟨B,rfl,hn2,hB⟩
 have HB:=Lib.hid hB
 clear hB hb1 n1 c0 c1 c2 c3 c4 c5 c6
 go_wp2_with fail
 refine(shr32 _ _ _ q0.1 q0.2 q1.1 q1.2 _ HB.out).mono ?_
 rintro e w3⟨rfl,hn3⟩
 go_wp2_with fail
 refine(Zr _ _ QV.1 QV.2 _).mono ?_
 rintro e w'⟨rfl,rfl⟩
 go_wp2_with fail
 go_ret2
 exact⟨rfl,((h2.trans hn).trans hn2).trans hn3⟩
theorem val_49(rd rs1 rs2 im pc a b:Int)(aq rl:Bool)(qa:InU a)(qb:InU b)(qi:InU (IntKind.u64.wrap im))
  (HG:Hid (∀w,Cod w→Calls prog 37 #[.agg #[.int .i64 49,.int .i64 rd,.int .i64 rs1,.int .i64 rs2,.int .i64 im,.bool aq,.bool rl]] w fun e w'=>e=.returned (.bool true)∧Nb w w')) (w:World) (hC:Cod w):
  Calls prog 50 #[.agg #[.int .i64 49,.int .i64 rd,.int .i64 rs1,.int .i64 rs2,.int .i64 im,.bool aq,.bool rl],.int .u64 pc,.int .u64 a,.int .u64 b] w fun e w'=>e=.returned (.tuple #[.int .u64 (Sgn (Sar (Sgn a 32) (Sgn b 32) 32) 32),.int .i64 0])∧Nb w w':=by
 have HI:=Lib.hid (ZD 49)
 rw[show Y6 49=false from rfl] at HI
 have HK:=Lib.hid (Z7h a b qa qb)
 have q0:InU (Sgn a 32):=Zn _ 32 qa
 have q1:InU (Sgn b 32):=Zn _ 32 qb
 have QV:InU (Sar (Sgn a 32) (Sgn b 32) 32):=Kn (Sgn a 32) (Sgn b 32) 32 q0 q1
 have hef:=ZN
 unfold Z1 at HK
 go_enter func50,ntmps50
 repeat (first|(with_reducible first|refine tE ?_|refine iS ?_|refine iO ?_)|go_values|go_skip|go_guarded|go_step|go_upon|go_back)
 obtain⟨W1,hW⟩:∃W1,w.alloc (.cells #[.int .i64 49,.int .i64 rd,.int .i64 rs1,.int .i64 rs2,.int .i64 im,.bool aq,.bool rl] 50)=W1:=⟨_,rfl⟩
 have hb:=Z0 w _ hW rfl
 have h2:Nb w W1:=by rw[←hW];exact(Nb.refl _).alloc _
 rw[hW]
 clear hW
 refine(HG.out _ (hC.of_nb h2)).mono ?_
 rintro e w1⟨rfl,hn⟩
 have hb1:=Nb.block hn hb
 obtain⟨n1,c0,c1,c2,c3,c4,c5,c6⟩:=Z4 hb1
 clear hb
 simp only[]
 repeat (first|(with_reducible first|refine tE ?_|refine iS ?_|refine iO ?_)|go_values|go_skip|go_guarded|go_step|go_upon|go_back)
 refine(HI.out _).mono ?_
 rintro e w'⟨rfl,rfl⟩
 go_wp2_with fail
 refine(HK.out _).mono ?_
 rintro e w2⟨B,rfl,hn2,hB⟩
 have HB:=Lib.hid hB
 clear hB hb1 n1 c0 c1 c2 c3 c4 c5 c6
 go_wp2_with fail
 refine(Z4D _ _ _ q0.1 q0.2 q1.1 q1.2 _ HB.out).mono ?_
 rintro e w3⟨rfl,hn3⟩
 go_wp2_with fail
 refine(Zr _ _ QV.1 QV.2 _).mono ?_
 rintro e w'⟨rfl,rfl⟩
 go_wp2_with fail
 go_ret2
 exact⟨rfl,((h2.trans hn).trans hn2).trans hn3⟩
theorem val_34(rd rs1 rs2 im pc a b:Int)(aq rl:Bool)(qa:InU a)(qb:InU b)(qi:InU (IntKind.u64.wrap im))
  (HG:Hid (∀w,Cod w→Calls prog 37 #[.agg #[.int .i64 34,.int .i64 rd,.int .i64 rs1,.int .i64 rs2,.int .i64 im,.bool aq,.bool rl]] w fun e w'=>e=.returned (.bool true)∧Nb w w')) (w:World) (hC:Cod w):
  Calls prog 50 #[.agg #[.int .i64 34,.int .i64 rd,.int .i64 rs1,.int .i64 rs2,.int .i64 im,.bool aq,.bool rl],.int .u64 pc,.int .u64 a,.int .u64 b] w fun e w'=>e=.returned (.tuple #[.int .u64 (Xv (LtS a b)),.int .i64 0])∧Nb w w':=by
 have HI:=Lib.hid (ZD 34)
 rw[show Y6 34=false from rfl] at HI
 have HK:=Lib.hid (Z7l a b qa qb)
 have q0:InU a:=qa
 have q1:InU b:=qb
 have QV:InU (Xv (LtS a b)):=Jl a b q0 q1
 have hef:=ZN
 unfold Z1 at HK
 go_enter func50,ntmps50
 repeat (first|(with_reducible first|refine tE ?_|refine iS ?_|refine iO ?_)|go_values|go_skip|go_guarded|go_step|go_upon|go_back)
 obtain⟨W1,hW⟩:∃W1,w.alloc (.cells #[.int .i64 34,.int .i64 rd,.int .i64 rs1,.int .i64 rs2,.int .i64 im,.bool aq,.bool rl] 50)=W1:=⟨_,rfl⟩
 have hb:=Z0 w _ hW rfl
 have h2:Nb w W1:=by rw[←hW];exact(Nb.refl _).alloc _
 rw[hW]
 clear hW
 refine(HG.out _ (hC.of_nb h2)).mono ?_
 rintro e w1⟨rfl,hn⟩
 have hb1:=Nb.block hn hb
 obtain⟨n1,c0,c1,c2,c3,c4,c5,c6⟩:=Z4 hb1
 clear hb
 simp only[]
 repeat (first|(with_reducible first|refine tE ?_|refine iS ?_|refine iO ?_)|go_values|go_skip|go_guarded|go_step|go_upon|go_back)
 refine(HI.out _).mono ?_
 rintro e w'⟨rfl,rfl⟩
 go_wp2_with fail
 refine(HK.out _).mono ?_
 rintro e w2⟨rfl,hn2⟩
 clear hb1 n1 c0 c1 c2 c3 c4 c5 c6
 go_wp2_with fail
 refine(Z1w _ _ _ _).mono ?_
 rintro e w3⟨rfl,hn3⟩
 go_wp2_with fail
 refine(Zr _ _ QV.1 QV.2 _).mono ?_
 rintro e w'⟨rfl,rfl⟩
 rw[ZS]
 go_wp2_with fail
 go_ret2
 exact⟨rfl,((h2.trans hn).trans hn2).trans hn3⟩
theorem val_36(rd rs1 rs2 im pc a b:Int)(aq rl:Bool)(qa:InU a)(qb:InU b)(qi:InU (IntKind.u64.wrap im))
  (HG:Hid (∀w,Cod w→Calls prog 37 #[.agg #[.int .i64 36,.int .i64 rd,.int .i64 rs1,.int .i64 rs2,.int .i64 im,.bool aq,.bool rl]] w fun e w'=>e=.returned (.bool true)∧Nb w w')) (w:World) (hC:Cod w):
  Calls prog 50 #[.agg #[.int .i64 36,.int .i64 rd,.int .i64 rs1,.int .i64 rs2,.int .i64 im,.bool aq,.bool rl],.int .u64 pc,.int .u64 a,.int .u64 b] w fun e w'=>e=.returned (.tuple #[.int .u64 (bits .xor .u64 a b),.int .i64 0])∧Nb w w':=by
 have HI:=Lib.hid (ZD 36)
 rw[show Y6 36=false from rfl] at HI
 have HK:=Lib.hid (Z7p a b qa qb)
 have q0:InU a:=qa
 have q1:InU b:=qb
 have QV:InU (bits .xor .u64 a b):=Z2N a b q0 q1
 have hef:=ZN
 unfold Z1 at HK
 go_enter func50,ntmps50
 repeat (first|(with_reducible first|refine tE ?_|refine iS ?_|refine iO ?_)|go_values|go_skip|go_guarded|go_step|go_upon|go_back)
 obtain⟨W1,hW⟩:∃W1,w.alloc (.cells #[.int .i64 36,.int .i64 rd,.int .i64 rs1,.int .i64 rs2,.int .i64 im,.bool aq,.bool rl] 50)=W1:=⟨_,rfl⟩
 have hb:=Z0 w _ hW rfl
 have h2:Nb w W1:=by rw[←hW];exact(Nb.refl _).alloc _
 rw[hW]
 clear hW
 refine(HG.out _ (hC.of_nb h2)).mono ?_
 rintro e w1⟨rfl,hn⟩
 have hb1:=Nb.block hn hb
 obtain⟨n1,c0,c1,c2,c3,c4,c5,c6⟩:=Z4 hb1
 clear hb
 simp only[]
 repeat (first|(with_reducible first|refine tE ?_|refine iS ?_|refine iO ?_)|go_values|go_skip|go_guarded|go_step|go_upon|go_back)
 refine(HI.out _).mono ?_
 rintro e w'⟨rfl,rfl⟩
 go_wp2_with fail
 refine(HK.out _).mono ?_
 rintro e w2⟨rfl,hn2⟩
 clear hb1 n1 c0 c1 c2 c3 c4 c5 c6
 go_wp2_with fail
 refine(Js _ _ _ _).mono ?_
 rintro e w3⟨rfl,hn3⟩
 go_wp2_with fail
 refine(Zr _ _ QV.1 QV.2 _).mono ?_
 rintro e w'⟨rfl,rfl⟩
 rw[ZS]
 go_wp2_with fail
 go_ret2
 exact⟨rfl,((h2.trans hn).trans hn2).trans hn3⟩
theorem val_40(rd rs1 rs2 im pc a b:Int)(aq rl:Bool)(qa:InU a)(qb:InU b)(qi:InU (IntKind.u64.wrap im))
  (HG:Hid (∀w,Cod w→Calls prog 37 #[.agg #[.int .i64 40,.int .i64 rd,.int .i64 rs1,.int .i64 rs2,.int .i64 im,.bool aq,.bool rl]] w fun e w'=>e=.returned (.bool true)∧Nb w w')) (w:World) (hC:Cod w):
  Calls prog 50 #[.agg #[.int .i64 40,.int .i64 rd,.int .i64 rs1,.int .i64 rs2,.int .i64 im,.bool aq,.bool rl],.int .u64 pc,.int .u64 a,.int .u64 b] w fun e w'=>e=.returned (.tuple #[.int .u64 (bits .and .u64 a b),.int .i64 0])∧Nb w w':=by
 have HI:=Lib.hid (ZD 40)
 rw[show Y6 40=false from rfl] at HI
 have HK:=Lib.hid (Z7t a b qa qb)
 have q0:InU a:=qa
 have q1:InU b:=qb
 have QV:InU (bits .and .u64 a b):=Z2M a b q0 q1
 have hef:=ZN
 unfold Z1 at HK
 go_enter func50,ntmps50
 repeat (first|(with_reducible first|refine tE ?_|refine iS ?_|refine iO ?_)|go_values|go_skip|go_guarded|go_step|go_upon|go_back)
 obtain⟨W1,hW⟩:∃W1,w.alloc (.cells #[.int .i64 40,.int .i64 rd,.int .i64 rs1,.int .i64 rs2,.int .i64 im,.bool aq,.bool rl] 50)=W1:=⟨_,rfl⟩
 have hb:=Z0 w _ hW rfl
 have h2:Nb w W1:=by rw[←hW];exact(Nb.refl _).alloc _
 rw[hW]
 clear hW
 refine(HG.out _ (hC.of_nb h2)).mono ?_
 rintro e w1⟨rfl,hn⟩
 have hb1:=Nb.block hn hb
 obtain⟨n1,c0,c1,c2,c3,c4,c5,c6⟩:=Z4 hb1
 clear hb
 simp only[]
 repeat (first|(with_reducible first|refine tE ?_|refine iS ?_|refine iO ?_)|go_values|go_skip|go_guarded|go_step|go_upon|go_back)
 refine(HI.out _).mono ?_
 rintro e w'⟨rfl,rfl⟩
 go_wp2_with fail
 refine(HK.out _).mono ?_
 rintro e w2⟨rfl,hn2⟩
 clear hb1 n1 c0 c1 c2 c3 c4 c5 c6
 go_wp2_with fail
 refine(Jt _ _ _ _).mono ?_
 rintro e w3⟨rfl,hn3⟩
 go_wp2_with fail
 refine(Zr _ _ QV.1 QV.2 _).mono ?_
 rintro e w'⟨rfl,rfl⟩
 rw[ZS]
 go_wp2_with fail
 go_ret2
 exact⟨rfl,((h2.trans hn).trans hn2).trans hn3⟩
theorem val_54(rd rs1 rs2 im pc a b:Int)(aq rl:Bool)(qa:InU a)(qb:InU b)(qi:InU (IntKind.u64.wrap im))
  (HG:Hid (∀w,Cod w→Calls prog 37 #[.agg #[.int .i64 54,.int .i64 rd,.int .i64 rs1,.int .i64 rs2,.int .i64 im,.bool aq,.bool rl]] w fun e w'=>e=.returned (.bool true)∧Nb w w')) (w:World) (hC:Cod w):
  Calls prog 50 #[.agg #[.int .i64 54,.int .i64 rd,.int .i64 rs1,.int .i64 rs2,.int .i64 im,.bool aq,.bool rl],.int .u64 pc,.int .u64 a,.int .u64 b] w fun e w'=>e=.returned (.tuple #[.int .u64 (Hgh a b true true),.int .i64 0])∧Nb w w':=by
 have HI:=Lib.hid (ZD 54)
 rw[show Y6 54=false from rfl] at HI
 have HK:=Lib.hid (Z7x a b qa qb)
 have q0:InU a:=qa
 have q1:InU b:=qb
 have QV:InU (Hgh a b true true):=JS a b q0 q1
 have hef:=ZN
 unfold Z1 at HK
 go_enter func50,ntmps50
 repeat (first|(with_reducible first|refine tE ?_|refine iS ?_|refine iO ?_)|go_values|go_skip|go_guarded|go_step|go_upon|go_back)
 obtain⟨W1,hW⟩:∃W1,w.alloc (.cells #[.int .i64 54,.int .i64 rd,.int .i64 rs1,.int .i64 rs2,.int .i64 im,.bool aq,.bool rl] 50)=W1:=⟨_,rfl⟩
 have hb:=Z0 w _ hW rfl
 have h2:Nb w W1:=by rw[←hW];exact(Nb.refl _).alloc _
 rw[hW]
 clear hW
 refine(HG.out _ (hC.of_nb h2)).mono ?_
 rintro e w1⟨rfl,hn⟩
 have hb1:=Nb.block hn hb
 obtain⟨n1,c0,c1,c2,c3,c4,c5,c6⟩:=Z4 hb1
 clear hb
 simp only[]
 repeat (first|(with_reducible first|refine tE ?_|refine iS ?_|refine iO ?_)|go_values|go_skip|go_guarded|go_step|go_upon|go_back)
 refine(HI.out _).mono ?_
 rintro e w'⟨rfl,rfl⟩
 go_wp2_with fail
 refine(HK.out _).mono ?_
 rintro e w2⟨rfl,hn2⟩
 clear hb1 n1 c0 c1 c2 c3 c4 c5 c6
 go_wp2_with fail
 refine(Z3d _ _ _ q0.1 q0.2 q1.1 q1.2 _).mono ?_
 rintro e w3⟨rfl,hn3⟩
 go_wp2_with fail
 refine(Zr _ _ QV.1 QV.2 _).mono ?_
 rintro e w'⟨rfl,rfl⟩
 rw[ZS]
 go_wp2_with fail
 go_ret2
 exact⟨rfl,((h2.trans hn).trans hn2).trans hn3⟩
theorem val_57(rd rs1 rs2 im pc a b:Int)(aq rl:Bool)(qa:InU a)(qb:InU b)(qi:InU (IntKind.u64.wrap im))
  (HG:Hid (∀w,Cod w→Calls prog 37 #[.agg #[.int .i64 57,.int .i64 rd,.int .i64 rs1,.int .i64 rs2,.int .i64 im,.bool aq,.bool rl]] w fun e w'=>e=.returned (.bool true)∧Nb w w')) (w:World) (hC:Cod w):
  Calls prog 50 #[.agg #[.int .i64 57,.int .i64 rd,.int .i64 rs1,.int .i64 rs2,.int .i64 im,.bool aq,.bool rl],.int .u64 pc,.int .u64 a,.int .u64 b] w fun e w'=>e=.returned (.tuple #[.int .u64 (_root_.Go.Proofs.YtgpdpaljbiclkaaGreatDoor.Quo a b true),.int .i64 0])∧Nb w w':=by
 have HI:=Lib.hid (ZD 57)
 rw[show Y6 57=false from rfl] at HI
 have HK:=Lib.hid (Z7B a b qa qb)
 have q0:InU a:=qa
 have q1:InU b:=qb
 have QV:InU (_root_.Go.Proofs.YtgpdpaljbiclkaaGreatDoor.Quo a b true):=YR a b q0 q1
 have hef:=ZN
 unfold Z1 at HK
 go_enter func50,ntmps50
 repeat (first|(with_reducible first|refine tE ?_|refine iS ?_|refine iO ?_)|go_values|go_skip|go_guarded|go_step|go_upon|go_back)
 obtain⟨W1,hW⟩:∃W1,w.alloc (.cells #[.int .i64 57,.int .i64 rd,.int .i64 rs1,.int .i64 rs2,.int .i64 im,.bool aq,.bool rl] 50)=W1:=⟨_,rfl⟩
 have hb:=Z0 w _ hW rfl
 have h2:Nb w W1:=by rw[←hW];exact(Nb.refl _).alloc _
 rw[hW]
 clear hW
 refine(HG.out _ (hC.of_nb h2)).mono ?_
 rintro e w1⟨rfl,hn⟩
 have hb1:=Nb.block hn hb
 obtain⟨n1,c0,c1,c2,c3,c4,c5,c6⟩:=Z4 hb1
 clear hb
 simp only[]
 repeat (first|(with_reducible first|refine tE ?_|refine iS ?_|refine iO ?_)|go_values|go_skip|go_guarded|go_step|go_upon|go_back)
 refine(HI.out _).mono ?_
 rintro e w'⟨rfl,rfl⟩
 go_wp2_with fail
 refine(HK.out _).mono ?_
 rintro e w2⟨rfl,hn2⟩
 clear hb1 n1 c0 c1 c2 c3 c4 c5 c6
 go_wp2_with fail
 refine(Z1r _ _ _ q0.1 q0.2 q1.1 q1.2 _).mono ?_
 rintro e w3⟨rfl,hn3⟩
 go_wp2_with fail
 refine(Zr _ _ QV.1 QV.2 _).mono ?_
 rintro e w'⟨rfl,rfl⟩
 rw[ZS]
 go_wp2_with fail
 go_ret2
 exact⟨rfl,((h2.trans hn).trans hn2).trans hn3⟩
theorem val_59(rd rs1 rs2 im pc a b:Int)(aq rl:Bool)(qa:InU a)(qb:InU b)(qi:InU (IntKind.u64.wrap im))
  (HG:Hid (∀w,Cod w→Calls prog 37 #[.agg #[.int .i64 59,.int .i64 rd,.int .i64 rs1,.int .i64 rs2,.int .i64 im,.bool aq,.bool rl]] w fun e w'=>e=.returned (.bool true)∧Nb w w')) (w:World) (hC:Cod w):
  Calls prog 50 #[.agg #[.int .i64 59,.int .i64 rd,.int .i64 rs1,.int .i64 rs2,.int .i64 im,.bool aq,.bool rl],.int .u64 pc,.int .u64 a,.int .u64 b] w fun e w'=>e=.returned (.tuple #[.int .u64 (_root_.Go.Proofs.YtgpdpaljbiclkaaGreatDoor.Rem a b true),.int .i64 0])∧Nb w w':=by
 have HI:=Lib.hid (ZD 59)
 rw[show Y6 59=false from rfl] at HI
 have HK:=Lib.hid (Z7F a b qa qb)
 have q0:InU a:=qa
 have q1:InU b:=qb
 have QV:InU (_root_.Go.Proofs.YtgpdpaljbiclkaaGreatDoor.Rem a b true):=YS a b q0 q1
 have hef:=ZN
 unfold Z1 at HK
 go_enter func50,ntmps50
 repeat (first|(with_reducible first|refine tE ?_|refine iS ?_|refine iO ?_)|go_values|go_skip|go_guarded|go_step|go_upon|go_back)
 obtain⟨W1,hW⟩:∃W1,w.alloc (.cells #[.int .i64 59,.int .i64 rd,.int .i64 rs1,.int .i64 rs2,.int .i64 im,.bool aq,.bool rl] 50)=W1:=⟨_,rfl⟩
 have hb:=Z0 w _ hW rfl
 have h2:Nb w W1:=by rw[←hW];exact(Nb.refl _).alloc _
 rw[hW]
 clear hW
 refine(HG.out _ (hC.of_nb h2)).mono ?_
 rintro e w1⟨rfl,hn⟩
 have hb1:=Nb.block hn hb
 obtain⟨n1,c0,c1,c2,c3,c4,c5,c6⟩:=Z4 hb1
 clear hb
 simp only[]
 repeat (first|(with_reducible first|refine tE ?_|refine iS ?_|refine iO ?_)|go_values|go_skip|go_guarded|go_step|go_upon|go_back)
 refine(HI.out _).mono ?_
 rintro e w'⟨rfl,rfl⟩
 go_wp2_with fail
 refine(HK.out _).mono ?_
 rintro e w2⟨rfl,hn2⟩
 clear hb1 n1 c0 c1 c2 c3 c4 c5 c6
 go_wp2_with fail
 refine(Z1t _ _ _ q0.1 q0.2 q1.1 q1.2 _).mono ?_
 rintro e w3⟨rfl,hn3⟩
 go_wp2_with fail
 refine(Zr _ _ QV.1 QV.2 _).mono ?_
 rintro e w'⟨rfl,rfl⟩
 rw[ZS]
 go_wp2_with fail
 go_ret2
 exact⟨rfl,((h2.trans hn).trans hn2).trans hn3⟩
end Go.Proofs.YtgpdpaljbiclkaaGreatDoor

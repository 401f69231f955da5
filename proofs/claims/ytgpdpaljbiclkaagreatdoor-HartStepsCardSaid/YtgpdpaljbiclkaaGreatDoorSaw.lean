/-
  Proved here: what alu.Value of the code gives, operation by operation, a part. Conditions: the numbers are words; the table of codes holds what its text lays.
-/
import Derived.Test.YtgpdpaljbiclkaaGreatDoorSzz
import Derived.Test.YtgpdpaljbiclkaaGreatDoorSat
set_option maxHeartbeats 1000000
set_option maxRecDepth 100000
namespace Go.Proofs.YtgpdpaljbiclkaaGreatDoor
open _root_.Go.Proofs.Tryz
open Go.RowKit
set_option linter.unusedVariables false
theorem val_22(rd rs1 rs2 im pc a b:Int)(aq rl:Bool)(qa:InU a)(qb:InU b)(qi:InU (IntKind.u64.wrap im))
  (HG:Hid (∀w,Cod w→Calls prog 37 #[.agg #[.int .i64 22,.int .i64 rd,.int .i64 rs1,.int .i64 rs2,.int .i64 im,.bool aq,.bool rl]] w fun e w'=>e=.returned (.bool true)∧Nb w w')) (w:World) (hC:Cod w):
  Calls prog 50 #[.agg #[.int .i64 22,.int .i64 rd,.int .i64 rs1,.int .i64 rs2,.int .i64 im,.bool aq,.bool rl],.int .u64 pc,.int .u64 a,.int .u64 b] w fun e w'=>e=.returned (.tuple #[.int .u64 (IntKind.u64.wrap (a+(IntKind.u64.wrap im))),.int .i64 0])∧Nb w w':=by
 have HI:=Lib.hid (ZD 22)
 rw[show Y6 22=true from rfl] at HI
 have HK:=Lib.hid (Z76 a (IntKind.u64.wrap im) qa qi)
 have q0:InU a:=qa
 have q1:InU (IntKind.u64.wrap im):=qi
 have QV:InU (IntKind.u64.wrap (a+(IntKind.u64.wrap im))):=Ju a (IntKind.u64.wrap im) q0 q1
 have hef:=ZN
 unfold Z1 at HK
 go_enter func50,ntmps50
 repeat (first|(with_reducible first|refine tE ?_|refine iS ?_|refine iO ?_)|go_values|go_skip|go_guarded|go_step|go_upon|go_back)
 obtain⟨W1,hW⟩:∃W1,w.alloc (.cells #[.int .i64 22,.int .i64 rd,.int .i64 rs1,.int .i64 rs2,.int .i64 im,.bool aq,.bool rl] 50)=W1:=⟨_,rfl⟩
 have hb:=Z0 w _ hW rfl
 have h2:Nb w W1:=by rw[←hW];exact(Nb.refl _).alloc _
 rw[hW]
 clear hW
 refine(HG.out _ (hC.of_nb h2)).mono ?_
 rintro e w1⟨rfl,hn⟩
 have hb1:=Nb.block hn hb
 obtain⟨n1,c0,c1,c2,c3,c4,c5,c6⟩:=Z4 hb1
 clear hb
 simp only[]
 repeat (first|(with_reducible first|refine tE ?_|refine iS ?_|refine iO ?_)|go_values|go_skip|go_guarded|go_step|go_upon|go_back)
 refine(HI.out _).mono ?_
 rintro e w'⟨rfl,rfl⟩
 go_wp2_with fail
 refine(HK.out _).mono ?_
 rintro e w2⟨rfl,hn2⟩
 clear hb1 n1 c0 c1 c2 c3 c4 c5 c6
 go_wp2_with fail
 refine(Km _ _ _ _).mono ?_
 rintro e w3⟨rfl,hn3⟩
 go_wp2_with fail
 refine(Zr _ _ QV.1 QV.2 _).mono ?_
 rintro e w'⟨rfl,rfl⟩
 rw[ZS]
 go_wp2_with fail
 go_ret2
 exact⟨rfl,((h2.trans hn).trans hn2).trans hn3⟩
theorem val_42(rd rs1 rs2 im pc a b:Int)(aq rl:Bool)(qa:InU a)(qb:InU b)(qi:InU (IntKind.u64.wrap im))
  (HG:Hid (∀w,Cod w→Calls prog 37 #[.agg #[.int .i64 42,.int .i64 rd,.int .i64 rs1,.int .i64 rs2,.int .i64 im,.bool aq,.bool rl]] w fun e w'=>e=.returned (.bool true)∧Nb w w')) (w:World) (hC:Cod w):
  Calls prog 50 #[.agg #[.int .i64 42,.int .i64 rd,.int .i64 rs1,.int .i64 rs2,.int .i64 im,.bool aq,.bool rl],.int .u64 pc,.int .u64 a,.int .u64 b] w fun e w'=>e=.returned (.tuple #[.int .u64 (Sgn (IntKind.u64.wrap ((Fld a 0 32)*2 ^ ((Fld (IntKind.u64.wrap im) 0 32) % 32).toNat)) 32),.int .i64 0])∧Nb w w':=by
 have HI:=Lib.hid (ZD 42)
 rw[show Y6 42=true from rfl] at HI
 have HK:=Lib.hid (Z7a a (IntKind.u64.wrap im) qa qi)
 have q0:InU (Fld a 0 32):=ZL _ 0 32 qa
 have q1:InU (Fld (IntKind.u64.wrap im) 0 32):=ZL _ 0 32 qi
 have QV:InU (IntKind.u64.wrap ((Fld a 0 32)*2 ^ ((Fld (IntKind.u64.wrap im) 0 32) % 32).toNat)):=Jv (Fld a 0 32) (Fld (IntKind.u64.wrap im) 0 32) 32 q0 q1
 have hef:=ZN
 unfold Z1 at HK
 go_enter func50,ntmps50
 repeat (first|(with_reducible first|refine tE ?_|refine iS ?_|refine iO ?_)|go_values|go_skip|go_guarded|go_step|go_upon|go_back)
 obtain⟨W1,hW⟩:∃W1,w.alloc (.cells #[.int .i64 42,.int .i64 rd,.int .i64 rs1,.int .i64 rs2,.int .i64 im,.bool aq,.bool rl] 50)=W1:=⟨_,rfl⟩
 have hb:=Z0 w _ hW rfl
 have h2:Nb w W1:=by rw[←hW];exact(Nb.refl _).alloc _
 rw[hW]
 clear hW
 refine(HG.out _ (hC.of_nb h2)).mono ?_
 rintro e w1⟨rfl,hn⟩
 have hb1:=Nb.block hn hb
 obtain⟨n1,c0,c1,c2,c3,c4,c5,c6⟩:=Z4 hb1
 clear hb
 simp only[]
 repeat (first|(with_reducible first|refine tE ?_|refine iS ?_|refine iO ?_)|go_values|go_skip|go_guarded|go_step|go_upon|go_back)
 refine(HI.out _).mono ?_
 rintro e w'⟨rfl,rfl⟩
 go_wp2_with fail
 refine(HK.out _).mono ?_
 rintro e w2⟨B,rfl,hn2,hB⟩
 have HB:=Lib.hid hB
 clear hB hb1 n1 c0 c1 c2 c3 c4 c5 c6
 go_wp2_with fail
 refine(shl32 _ _ _ q0.1 q0.2 q1.1 q1.2 _ HB.out).mono ?_
 rintro e w3⟨rfl,hn3⟩
 go_wp2_with fail
 refine(Zr _ _ QV.1 QV.2 _).mono ?_
 rintro e w'⟨rfl,rfl⟩
 go_wp2_with fail
 go_ret2
 exact⟨rfl,((h2.trans hn).trans hn2).trans hn3⟩
theorem val_43(rd rs1 rs2 im pc a b:Int)(aq rl:Bool)(qa:InU a)(qb:InU b)(qi:InU (IntKind.u64.wrap im))
  (HG:Hid (∀w,Cod w→Calls prog 37 #[.agg #[.int .i64 43,.int .i64 rd,.int .i64 rs1,.int .i64 rs2,.int .i64 im,.bool aq,.bool rl]] w fun e w'=>e=.returned (.bool true)∧Nb w w')) (w:World) (hC:Cod w):
  Calls prog 50 #[.agg #[.int .i64 43,.int .i64 rd,.int .i64 rs1,.int .i64 rs2,.int .i64 im,.bool aq,.bool rl],.int .u64 pc,.int .u64 a,.int .u64 b] w fun e w'=>e=.returned (.tuple #[.int .u64 (Sgn ((Fld a 0 32) / 2 ^ ((Fld (IntKind.u64.wrap im) 0 32) % 32).toNat) 32),.int .i64 0])∧Nb w w':=by
 have HI:=Lib.hid (ZD 43)
 rw[show Y6 43=true from rfl] at HI
 have HK:=Lib.hid (Z7e a (IntKind.u64.wrap im) qa qi)
 have q0:InU (Fld a 0 32):=ZL _ 0 32 qa
 have q1:InU (Fld (IntKind.u64.wrap im) 0 32):=ZL _ 0 32 qi
 have QV:InU ((Fld a 0 32) / 2 ^ ((Fld (IntKind.u64.wrap im) 0 32) % 32).toNat):=Ko (Fld a 0 32) (Fld (IntKind.u64.wrap im) 0 32) 32 q0 q1
 have hef:=ZN
 unfold Z1 at HK
 go_enter func50,ntmps50
 repeat (first|(with_reducible first|refine tE ?_|refine iS ?_|refine iO ?_)|go_values|go_skip|go_guarded|go_step|go_upon|go_back)
 obtain⟨W1,hW⟩:∃W1,w.alloc (.cells #[.int .i64 43,.int .i64 rd,.int .i64 rs1,.int .i64 rs2,.int .i64 im,.bool aq,.bool rl] 50)=W1:=⟨_,rfl⟩
 have hb:=Z0 w _ hW rfl
 have h2:Nb w W1:=by rw[←hW];exact(Nb.refl _).alloc _
 rw[hW]
 clear hW
 refine(HG.out _ (hC.of_nb h2)).mono ?_
 rintro e w1⟨rfl,hn⟩
 have hb1:=Nb.block hn hb
 obtain⟨n1,c0,c1,c2,c3,c4,c5,c6⟩:=Z4 hb1
 clear hb
 simp only[]
 repeat (first|(with_reducible first|refine tE ?_|refine iS ?_|refine iO ?_)|go_values|go_skip|go_guarded|go_step|go_upon|go_back)
 refine(HI.out _).mono ?_
 rintro e w'⟨rfl,rfl⟩
 go_wp2_with fail
 refine(HK.out _).mono ?_
 rintro e w2⟨B,rfl,hn2,hB⟩
 have HB:=Lib.hid hB
 clear hB hb1 n1 c0 c1 c2 c3 c4 c5 c6
 go_wp2_with fail
 refine(shr32 _ _ _ q0.1 q0.2 q1.1 q1.2 _ HB.out).mono ?_
 rintro e w3⟨rfl,hn3⟩
 go_wp2_with fail
 refine(Zr _ _ QV.1 QV.2 _).mono ?_
 rintro e w'⟨rfl,rfl⟩
 go_wp2_with fail
 go_ret2
 exact⟨rfl,((h2.trans hn).trans hn2).trans hn3⟩
theorem val_44(rd rs1 rs2 im pc a b:Int)(aq rl:Bool)(qa:InU a)(qb:InU b)(qi:InU (IntKind.u64.wrap im))
  (HG:Hid (∀w,Cod w→Calls prog 37 #[.agg #[.int .i64 44,.int .i64 rd,.int .i64 rs1,.int .i64 rs2,.int .i64 im,.bool aq,.bool rl]] w fun e w'=>e=.returned (.bool true)∧Nb w w')) (w:World) (hC:Cod w):
  Calls prog 50 #[.agg #[.int .i64 44,.int .i64 rd,.int .i64 rs1,.int .i64 rs2,.int .i64 im,.bool aq,.bool rl],.int .u64 pc,.int .u64 a,.int .u64 b] w fun e w'=>e=.returned (.tuple #[.int .u64 (Sgn (Sar (Sgn a 32) (Sgn (IntKind.u64.wrap im) 32) 32) 32),.int .i64 0])∧Nb w w':=by
 have HI:=Lib.hid (ZD 44)
 rw[show Y6 44=true from rfl] at HI
 have HK:=Lib.hid (Z7i a (IntKind.u64.wrap im) qa qi)
 have q0:InU (Sgn a 32):=Zn _ 32 qa
 have q1:InU (Sgn (IntKind.u64.wrap im) 32):=Zn _ 32 qi
 have QV:InU (Sar (Sgn a 32) (Sgn (IntKind.u64.wrap im) 32) 32):=Kn (Sgn a 32) (Sgn (IntKind.u64.wrap im) 32) 32 q0 q1
 have hef:=ZN
 unfold Z1 at HK
 go_enter func50,ntmps50
 repeat (first|(with_reducible first|refine tE ?_|refine iS ?_|refine iO ?_)|go_values|go_skip|go_guarded|go_step|go_upon|go_back)
 obtain⟨W1,hW⟩:∃W1,w.alloc (.cells #[.int .i64 44,.int .i64 rd,.int .i64 rs1,.int .i64 rs2,.int .i64 im,.bool aq,.bool rl] 50)=W1:=⟨_,rfl⟩
 have hb:=Z0 w _ hW rfl
 have h2:Nb w W1:=by rw[←hW];exact(Nb.refl _).alloc _
 rw[hW]
 clear hW
 refine(HG.out _ (hC.of_nb h2)).mono ?_
 rintro e w1⟨rfl,hn⟩
 have hb1:=Nb.block hn hb
 obtain⟨n1,c0,c1,c2,c3,c4,c5,c6⟩:=Z4 hb1
 clear hb
 simp only[]
 repeat (first|(with_reducible first|refine tE ?_|refine iS ?_|refine iO ?_)|go_values|go_skip|go_guarded|go_step|go_upon|go_back)
 refine(HI.out _).mono ?_
 rintro e w'⟨rfl,rfl⟩
 go_wp2_with fail
 refine(HK.out _).mono ?_
 rintro e w2⟨B,rfl,hn2,hB⟩
 have HB:=Lib.hid hB
 clear hB hb1 n1 c0 c1 c2 c3 c4 c5 c6
 go_wp2_with fail
 refine(Z4D _ _ _ q0.1 q0.2 q1.1 q1.2 _ HB.out).mono ?_
 rintro e w3⟨rfl,hn3⟩
 go_wp2_with fail
 refine(Zr _ _ QV.1 QV.2 _).mono ?_
 rintro e w'⟨rfl,rfl⟩
 go_wp2_with fail
 go_ret2
 exact⟨rfl,((h2.trans hn).trans hn2).trans hn3⟩
theorem val_23(rd rs1 rs2 im pc a b:Int)(aq rl:Bool)(qa:InU a)(qb:InU b)(qi:InU (IntKind.u64.wrap im))
  (HG:Hid (∀w,Cod w→Calls prog 37 #[.agg #[.int .i64 23,.int .i64 rd,.int .i64 rs1,.int .i64 rs2,.int .i64 im,.bool aq,.bool rl]] w fun e w'=>e=.returned (.bool true)∧Nb w w')) (w:World) (hC:Cod w):
  Calls prog 50 #[.agg #[.int .i64 23,.int .i64 rd,.int .i64 rs1,.int .i64 rs2,.int .i64 im,.bool aq,.bool rl],.int .u64 pc,.int .u64 a,.int .u64 b] w fun e w'=>e=.returned (.tuple #[.int .u64 (Xv (LtS a (IntKind.u64.wrap im))),.int .i64 0])∧Nb w w':=by
 have HI:=Lib.hid (ZD 23)
 rw[show Y6 23=true from rfl] at HI
 have HK:=Lib.hid (Z7m a (IntKind.u64.wrap im) qa qi)
 have q0:InU a:=qa
 have q1:InU (IntKind.u64.wrap im):=qi
 have QV:InU (Xv (LtS a (IntKind.u64.wrap im))):=Jl a (IntKind.u64.wrap im) q0 q1
 have hef:=ZN
 unfold Z1 at HK
 go_enter func50,ntmps50
 repeat (first|(with_reducible first|refine tE ?_|refine iS ?_|refine iO ?_)|go_values|go_skip|go_guarded|go_step|go_upon|go_back)
 obtain⟨W1,hW⟩:∃W1,w.alloc (.cells #[.int .i64 23,.int .i64 rd,.int .i64 rs1,.int .i64 rs2,.int .i64 im,.bool aq,.bool rl] 50)=W1:=⟨_,rfl⟩
 have hb:=Z0 w _ hW rfl
 have h2:Nb w W1:=by rw[←hW];exact(Nb.refl _).alloc _
 rw[hW]
 clear hW
 refine(HG.out _ (hC.of_nb h2)).mono ?_
 rintro e w1⟨rfl,hn⟩
 have hb1:=Nb.block hn hb
 obtain⟨n1,c0,c1,c2,c3,c4,c5,c6⟩:=Z4 hb1
 clear hb
 simp only[]
 repeat (first|(with_reducible first|refine tE ?_|refine iS ?_|refine iO ?_)|go_values|go_skip|go_guarded|go_step|go_upon|go_back)
 refine(HI.out _).mono ?_
 rintro e w'⟨rfl,rfl⟩
 go_wp2_with fail
 refine(HK.out _).mono ?_
 rintro e w2⟨rfl,hn2⟩
 clear hb1 n1 c0 c1 c2 c3 c4 c5 c6
 go_wp2_with fail
 refine(Z1w _ _ _ _).mono ?_
 rintro e w3⟨rfl,hn3⟩
 go_wp2_with fail
 refine(Zr _ _ QV.1 QV.2 _).mono ?_
 rintro e w'⟨rfl,rfl⟩
 rw[ZS]
 go_wp2_with fail
 go_ret2
 exact⟨rfl,((h2.trans hn).trans hn2).trans hn3⟩
theorem val_25(rd rs1 rs2 im pc a b:Int)(aq rl:Bool)(qa:InU a)(qb:InU b)(qi:InU (IntKind.u64.wrap im))
  (HG:Hid (∀w,Cod w→Calls prog 37 #[.agg #[.int .i64 25,.int .i64 rd,.int .i64 rs1,.int .i64 rs2,.int .i64 im,.bool aq,.bool rl]] w fun e w'=>e=.returned (.bool true)∧Nb w w')) (w:World) (hC:Cod w):
  Calls prog 50 #[.agg #[.int .i64 25,.int .i64 rd,.int .i64 rs1,.int .i64 rs2,.int .i64 im,.bool aq,.bool rl],.int .u64 pc,.int .u64 a,.int .u64 b] w fun e w'=>e=.returned (.tuple #[.int .u64 (bits .xor .u64 a (IntKind.u64.wrap im)),.int .i64 0])∧Nb w w':=by
 have HI:=Lib.hid (ZD 25)
 rw[show Y6 25=true from rfl] at HI
 have HK:=Lib.hid (Z7q a (IntKind.u64.wrap im) qa qi)
 have q0:InU a:=qa
 have q1:InU (IntKind.u64.wrap im):=qi
 have QV:InU (bits .xor .u64 a (IntKind.u64.wrap im)):=Z2N a (IntKind.u64.wrap im) q0 q1
 have hef:=ZN
 unfold Z1 at HK
 go_enter func50,ntmps50
 repeat (first|(with_reducible first|refine tE ?_|refine iS ?_|refine iO ?_)|go_values|go_skip|go_guarded|go_step|go_upon|go_back)
 obtain⟨W1,hW⟩:∃W1,w.alloc (.cells #[.int .i64 25,.int .i64 rd,.int .i64 rs1,.int .i64 rs2,.int .i64 im,.bool aq,.bool rl] 50)=W1:=⟨_,rfl⟩
 have hb:=Z0 w _ hW rfl
 have h2:Nb w W1:=by rw[←hW];exact(Nb.refl _).alloc _
 rw[hW]
 clear hW
 refine(HG.out _ (hC.of_nb h2)).mono ?_
 rintro e w1⟨rfl,hn⟩
 have hb1:=Nb.block hn hb
 obtain⟨n1,c0,c1,c2,c3,c4,c5,c6⟩:=Z4 hb1
 clear hb
 simp only[]
 repeat (first|(with_reducible first|refine tE ?_|refine iS ?_|refine iO ?_)|go_values|go_skip|go_guarded|go_step|go_upon|go_back)
 refine(HI.out _).mono ?_
 rintro e w'⟨rfl,rfl⟩
 go_wp2_with fail
 refine(HK.out _).mono ?_
 rintro e w2⟨rfl,hn2⟩
 clear hb1 n1 c0 c1 c2 c3 c4 c5 c6
 go_wp2_with fail
 refine(Js _ _ _ _).mono ?_
 rintro e w3⟨rfl,hn3⟩
 go_wp2_with fail
 refine(Zr _ _ QV.1 QV.2 _).mono ?_
 rintro e w'⟨rfl,rfl⟩
 rw[ZS]
 go_wp2_with fail
 go_ret2
 exact⟨rfl,((h2.trans hn).trans hn2).trans hn3⟩
theorem val_27(rd rs1 rs2 im pc a b:Int)(aq rl:Bool)(qa:InU a)(qb:InU b)(qi:InU (IntKind.u64.wrap im))
  (HG:Hid (∀w,Cod w→Calls prog 37 #[.agg #[.int .i64 27,.int .i64 rd,.int .i64 rs1,.int .i64 rs2,.int .i64 im,.bool aq,.bool rl]] w fun e w'=>e=.returned (.bool true)∧Nb w w')) (w:World) (hC:Cod w):
  Calls prog 50 #[.agg #[.int .i64 27,.int .i64 rd,.int .i64 rs1,.int .i64 rs2,.int .i64 im,.bool aq,.bool rl],.int .u64 pc,.int .u64 a,.int .u64 b] w fun e w'=>e=.returned (.tuple #[.int .u64 (bits .and .u64 a (IntKind.u64.wrap im)),.int .i64 0])∧Nb w w':=by
 have HI:=Lib.hid (ZD 27)
 rw[show Y6 27=true from rfl] at HI
 have HK:=Lib.hid (Z7u a (IntKind.u64.wrap im) qa qi)
 have q0:InU a:=qa
 have q1:InU (IntKind.u64.wrap im):=qi
 have QV:InU (bits .and .u64 a (IntKind.u64.wrap im)):=Z2M a (IntKind.u64.wrap im) q0 q1
 have hef:=ZN
 unfold Z1 at HK
 go_enter func50,ntmps50
 repeat (first|(with_reducible first|refine tE ?_|refine iS ?_|refine iO ?_)|go_values|go_skip|go_guarded|go_step|go_upon|go_back)
 obtain⟨W1,hW⟩:∃W1,w.alloc (.cells #[.int .i64 27,.int .i64 rd,.int .i64 rs1,.int .i64 rs2,.int .i64 im,.bool aq,.bool rl] 50)=W1:=⟨_,rfl⟩
 have hb:=Z0 w _ hW rfl
 have h2:Nb w W1:=by rw[←hW];exact(Nb.refl _).alloc _
 rw[hW]
 clear hW
 refine(HG.out _ (hC.of_nb h2)).mono ?_
 rintro e w1⟨rfl,hn⟩
 have hb1:=Nb.block hn hb
 obtain⟨n1,c0,c1,c2,c3,c4,c5,c6⟩:=Z4 hb1
 clear hb
 simp only[]
 repeat (first|(with_reducible first|refine tE ?_|refine iS ?_|refine iO ?_)|go_values|go_skip|go_guarded|go_step|go_upon|go_back)
 refine(HI.out _).mono ?_
 rintro e w'⟨rfl,rfl⟩
 go_wp2_with fail
 refine(HK.out _).mono ?_
 rintro e w2⟨rfl,hn2⟩
 clear hb1 n1 c0 c1 c2 c3 c4 c5 c6
 go_wp2_with fail
 refine(Jt _ _ _ _).mono ?_
 rintro e w3⟨rfl,hn3⟩
 go_wp2_with fail
 refine(Zr _ _ QV.1 QV.2 _).mono ?_
 rintro e w'⟨rfl,rfl⟩
 rw[ZS]
 go_wp2_with fail
 go_ret2
 exact⟨rfl,((h2.trans hn).trans hn2).trans hn3⟩
theorem val_55(rd rs1 rs2 im pc a b:Int)(aq rl:Bool)(qa:InU a)(qb:InU b)(qi:InU (IntKind.u64.wrap im))
  (HG:Hid (∀w,Cod w→Calls prog 37 #[.agg #[.int .i64 55,.int .i64 rd,.int .i64 rs1,.int .i64 rs2,.int .i64 im,.bool aq,.bool rl]] w fun e w'=>e=.returned (.bool true)∧Nb w w')) (w:World) (hC:Cod w):
  Calls prog 50 #[.agg #[.int .i64 55,.int .i64 rd,.int .i64 rs1,.int .i64 rs2,.int .i64 im,.bool aq,.bool rl],.int .u64 pc,.int .u64 a,.int .u64 b] w fun e w'=>e=.returned (.tuple #[.int .u64 (Hgh a b true false),.int .i64 0])∧Nb w w':=by
 have HI:=Lib.hid (ZD 55)
 rw[show Y6 55=false from rfl] at HI
 have HK:=Lib.hid (Z7y a b qa qb)
 have q0:InU a:=qa
 have q1:InU b:=qb
 have QV:InU (Hgh a b true false):=Z07 a b q0 q1
 have hef:=ZN
 unfold Z1 at HK
 go_enter func50,ntmps50
 repeat (first|(with_reducible first|refine tE ?_|refine iS ?_|refine iO ?_)|go_values|go_skip|go_guarded|go_step|go_upon|go_back)
 obtain⟨W1,hW⟩:∃W1,w.alloc (.cells #[.int .i64 55,.int .i64 rd,.int .i64 rs1,.int .i64 rs2,.int .i64 im,.bool aq,.bool rl] 50)=W1:=⟨_,rfl⟩
 have hb:=Z0 w _ hW rfl
 have h2:Nb w W1:=by rw[←hW];exact(Nb.refl _).alloc _
 rw[hW]
 clear hW
 refine(HG.out _ (hC.of_nb h2)).mono ?_
 rintro e w1⟨rfl,hn⟩
 have hb1:=Nb.block hn hb
 obtain⟨n1,c0,c1,c2,c3,c4,c5,c6⟩:=Z4 hb1
 clear hb
 simp only[]
 repeat (first|(with_reducible first|refine tE ?_|refine iS ?_|refine iO ?_)|go_values|go_skip|go_guarded|go_step|go_upon|go_back)
 refine(HI.out _).mono ?_
 rintro e w'⟨rfl,rfl⟩
 go_wp2_with fail
 refine(HK.out _).mono ?_
 rintro e w2⟨rfl,hn2⟩
 clear hb1 n1 c0 c1 c2 c3 c4 c5 c6
 go_wp2_with fail
 refine(Z3e _ _ _ q0.1 q0.2 q1.1 q1.2 _).mono ?_
 rintro e w3⟨rfl,hn3⟩
 go_wp2_with fail
 refine(Zr _ _ QV.1 QV.2 _).mono ?_
 rintro e w'⟨rfl,rfl⟩
 rw[ZS]
 go_wp2_with fail
 go_ret2
 exact⟨rfl,((h2.trans hn).trans hn2).trans hn3⟩
theorem val_63(rd rs1 rs2 im pc a b:Int)(aq rl:Bool)(qa:InU a)(qb:InU b)(qi:InU (IntKind.u64.wrap im))
  (HG:Hid (∀w,Cod w→Calls prog 37 #[.agg #[.int .i64 63,.int .i64 rd,.int .i64 rs1,.int .i64 rs2,.int .i64 im,.bool aq,.bool rl]] w fun e w'=>e=.returned (.bool true)∧Nb w w')) (w:World) (hC:Cod w):
  Calls prog 50 #[.agg #[.int .i64 63,.int .i64 rd,.int .i64 rs1,.int .i64 rs2,.int .i64 im,.bool aq,.bool rl],.int .u64 pc,.int .u64 a,.int .u64 b] w fun e w'=>e=.returned (.tuple #[.int .u64 (Sgn (_root_.Go.Proofs.YtgpdpaljbiclkaaGreatDoor.Quo (Fld a 0 32) (Fld b 0 32) false) 32),.int .i64 0])∧Nb w w':=by
 have HI:=Lib.hid (ZD 63)
 rw[show Y6 63=false from rfl] at HI
 have HK:=Lib.hid (Z7C a b qa qb)
 have q0:InU (Fld a 0 32):=ZL _ 0 32 qa
 have q1:InU (Fld b 0 32):=ZL _ 0 32 qb
 have QV:InU (_root_.Go.Proofs.YtgpdpaljbiclkaaGreatDoor.Quo (Fld a 0 32) (Fld b 0 32) false):=KM (Fld a 0 32) (Fld b 0 32) q0 q1
 have hef:=ZN
 unfold Z1 at HK
 go_enter func50,ntmps50
 repeat (first|(with_reducible first|refine tE ?_|refine iS ?_|refine iO ?_)|go_values|go_skip|go_guarded|go_step|go_upon|go_back)
 obtain⟨W1,hW⟩:∃W1,w.alloc (.cells #[.int .i64 63,.int .i64 rd,.int .i64 rs1,.int .i64 rs2,.int .i64 im,.bool aq,.bool rl] 50)=W1:=⟨_,rfl⟩
 have hb:=Z0 w _ hW rfl
 have h2:Nb w W1:=by rw[←hW];exact(Nb.refl _).alloc _
 rw[hW]
 clear hW
 refine(HG.out _ (hC.of_nb h2)).mono ?_
 rintro e w1⟨rfl,hn⟩
 have hb1:=Nb.block hn hb
 obtain⟨n1,c0,c1,c2,c3,c4,c5,c6⟩:=Z4 hb1
 clear hb
 simp only[]
 repeat (first|(with_reducible first|refine tE ?_|refine iS ?_|refine iO ?_)|go_values|go_skip|go_guarded|go_step|go_upon|go_back)
 refine(HI.out _).mono ?_
 rintro e w'⟨rfl,rfl⟩
 go_wp2_with fail
 refine(HK.out _).mono ?_
 rintro e w2⟨rfl,hn2⟩
 clear hb1 n1 c0 c1 c2 c3 c4 c5 c6
 go_wp2_with fail
 refine(Z1s _ _ _ q0.1 q0.2 q1.1 q1.2 _).mono ?_
 rintro e w3⟨rfl,hn3⟩
 go_wp2_with fail
 refine(Zr _ _ QV.1 QV.2 _).mono ?_
 rintro e w'⟨rfl,rfl⟩
 go_wp2_with fail
 go_ret2
 exact⟨rfl,((h2.trans hn).trans hn2).trans hn3⟩
theorem val_65(rd rs1 rs2 im pc a b:Int)(aq rl:Bool)(qa:InU a)(qb:InU b)(qi:InU (IntKind.u64.wrap im))
  (HG:Hid (∀w,Cod w→Calls prog 37 #[.agg #[.int .i64 65,.int .i64 rd,.int .i64 rs1,.int .i64 rs2,.int .i64 im,.bool aq,.bool rl]] w fun e w'=>e=.returned (.bool true)∧Nb w w')) (w:World) (hC:Cod w):
  Calls prog 50 #[.agg #[.int .i64 65,.int .i64 rd,.int .i64 rs1,.int .i64 rs2,.int .i64 im,.bool aq,.bool rl],.int .u64 pc,.int .u64 a,.int .u64 b] w fun e w'=>e=.returned (.tuple #[.int .u64 (Sgn (_root_.Go.Proofs.YtgpdpaljbiclkaaGreatDoor.Rem (Fld a 0 32) (Fld b 0 32) false) 32),.int .i64 0])∧Nb w w':=by
 have HI:=Lib.hid (ZD 65)
 rw[show Y6 65=false from rfl] at HI
 have HK:=Lib.hid (Z7G a b qa qb)
 have q0:InU (Fld a 0 32):=ZL _ 0 32 qa
 have q1:InU (Fld b 0 32):=ZL _ 0 32 qb
 have QV:InU (_root_.Go.Proofs.YtgpdpaljbiclkaaGreatDoor.Rem (Fld a 0 32) (Fld b 0 32) false):=KN (Fld a 0 32) (Fld b 0 32) q0 q1
 have hef:=ZN
 unfold Z1 at HK
 go_enter func50,ntmps50
 repeat (first|(with_reducible first|refine tE ?_|refine iS ?_|refine iO ?_)|go_values|go_skip|go_guarded|go_step|go_upon|go_back)
 obtain⟨W1,hW⟩:∃W1,w.alloc (.cells #[.int .i64 65,.int .i64 rd,.int .i64 rs1,.int .i64 rs2,.int .i64 im,.bool aq,.bool rl] 50)=W1:=⟨_,rfl⟩
 have hb:=Z0 w _ hW rfl
 have h2:Nb w W1:=by rw[←hW];exact(Nb.refl _).alloc _
 rw[hW]
 clear hW
 refine(HG.out _ (hC.of_nb h2)).mono ?_
 rintro e w1⟨rfl,hn⟩
 have hb1:=Nb.block hn hb
 obtain⟨n1,c0,c1,c2,c3,c4,c5,c6⟩:=Z4 hb1
 clear hb
 simp only[]
 repeat (first|(with_reducible first|refine tE ?_|refine iS ?_|refine iO ?_)|go_values|go_skip|go_guarded|go_step|go_upon|go_back)
 refine(HI.out _).mono ?_
 rintro e w'⟨rfl,rfl⟩
 go_wp2_with fail
 refine(HK.out _).mono ?_
 rintro e w2⟨rfl,hn2⟩
 clear hb1 n1 c0 c1 c2 c3 c4 c5 c6
 go_wp2_with fail
 refine(Z1u _ _ _ q0.1 q0.2 q1.1 q1.2 _).mono ?_
 rintro e w3⟨rfl,hn3⟩
 go_wp2_with fail
 refine(Zr _ _ QV.1 QV.2 _).mono ?_
 rintro e w'⟨rfl,rfl⟩
 go_wp2_with fail
 go_ret2
 exact⟨rfl,((h2.trans hn).trans hn2).trans hn3⟩
end Go.Proofs.YtgpdpaljbiclkaaGreatDoor

/-
  Proved here: what alu.Value of the code gives, operation by operation. Conditions: the numbers are words; the table of codes holds what its text lays. ¦ what alu.Value of the code gives, operation by operation, a part. Conditions: the numbers are words; the table of codes holds what its text lays.
-/
import Derived.Test.YtgpdpaljbiclkaaGreatDoorSzz
import Derived.Test.YtgpdpaljbiclkaaGreatDoorSas
set_option maxHeartbeats 1000000
set_option maxRecDepth 100000
section
namespace Go.Proofs.YtgpdpaljbiclkaaGreatDoor
open _root_.Go.Proofs.Tryz
open Go.RowKit
set_option linter.unusedVariables false
theorem ZS(x:Int):Sgn x 64=x:=Xu x 64 (by decide)
theorem ZD(op:Int)(w:World):Calls prog 86 #[.int .i64 op] w fun e w'=>e=.returned (.bool (Y6 op))∧w=w':=by
 by_cases a1:22≤op
 ·by_cases a2:op≤30
  ·have H:Hid (Y6 op=true):=Lib.hid (by unfold Y6;simp;omega)
   go_enter func86,ntmps86
   go_wp2
   go_ret
   exact⟨bret H.out.symm,rfl⟩
  ·by_cases a3:41≤op
   ·by_cases a4:op≤44
    ·have H:Hid (Y6 op=true):=Lib.hid (by unfold Y6;simp;omega)
     go_enter func86,ntmps86
     go_wp2
     go_ret
     exact⟨bret H.out.symm,rfl⟩
    ·have H:Hid (Y6 op=false):=Lib.hid (by unfold Y6;simp;omega)
     go_enter func86,ntmps86
     go_wp2
     go_ret
     exact⟨bret H.out.symm,rfl⟩
   ·have H:Hid (Y6 op=false):=Lib.hid (by unfold Y6;simp;omega)
    go_enter func86,ntmps86
    go_wp2
    go_ret
    exact⟨bret H.out.symm,rfl⟩
 ·have H:Hid (Y6 op=false):=Lib.hid (by unfold Y6;simp;omega)
  have a3:¬41≤op:=by omega
  go_enter func86,ntmps86
  go_wp2
  go_ret
  exact⟨bret H.out.symm,rfl⟩
theorem ZF(x:Int):InU (IntKind.u64.wrap x):=by unfold InU;rw[IntKind.wrap_u64];omega
theorem Ju(x y:Int)(q0:InU x)(q1:InU y):InU (IntKind.u64.wrap (x+y)):=ZF _
theorem K4(x y:Int)(q0:InU x)(q1:InU y):InU (IntKind.u64.wrap (x-y)):=ZF _
theorem Jk(x y:Int)(q0:InU x)(q1:InU y):InU (IntKind.u64.wrap (x*y)):=ZF _
theorem Z1w(a b n:Int)(w:World):Calls prog 132 #[Z1 a b n] w fun e w'=>e=.returned (.int .u64 (Xv (LtS a b)))∧Nb w w':=Z1q a b n w
theorem Z0i(a b n:Int)(w:World):Calls prog 133 #[Z1 a b n] w fun e w'=>e=.returned (.int .u64 (Xv (LtU a b)))∧Nb w w':=Z0K a b n w
theorem Z4C(a b:Int)(B:Nat)(h0:0≤a)(h1:a<18446744073709551616)(g0:0≤b)(g1:b<18446744073709551616)(w:World)(hb:w.heap[B]? =some (.cells #[.int .u64 a,.int .u64 b,.int .i64 64] 127 (0,0))):
  Calls prog 131 #[.pointer (some ⟨B,0,none⟩)] w fun e w'=>e=.returned (.int .u64 (Sar a b 64))∧Nb w w':=sar64 a b B h0 h1 g0 g1 w hb
theorem Z4D(a b:Int)(B:Nat)(h0:0≤a)(h1:a<18446744073709551616)(g0:0≤b)(g1:b<18446744073709551616)(w:World)(hb:w.heap[B]? =some (.cells #[.int .u64 a,.int .u64 b,.int .i64 32] 127 (0,0))):
  Calls prog 131 #[.pointer (some ⟨B,0,none⟩)] w fun e w'=>e=.returned (.int .u64 (Sar a b 32))∧Nb w w':=sar32 a b B h0 h1 g0 g1 w hb
theorem XM(x y:Int)(q0:InU x)(q1:InU y):InU (bits .and .u64 x y):=by
 obtain⟨a,b⟩:=q0;obtain⟨c,d⟩:=q1
 rw[u64_and x y a b c d]
 exact⟨by omega,by have:=Nat.and_lt_two_pow (n:=64) x.toNat (y:=y.toNat) (by omega);omega⟩
theorem KK(x y:Int)(q0:InU x)(q1:InU y):InU (bits .or .u64 x y):=by
 obtain⟨a,b⟩:=q0;obtain⟨c,d⟩:=q1
 rw[u64_or x y a b c d]
 exact⟨by omega,by have:=Nat.or_lt_two_pow (n:=64) (x:=x.toNat) (y:=y.toNat) (by omega) (by omega);omega⟩
theorem XN(x y:Int)(q0:InU x)(q1:InU y):InU (bits .xor .u64 x y):=by
 obtain⟨a,b⟩:=q0;obtain⟨c,d⟩:=q1
 rw[u64_xor x y a b c d]
 exact⟨by omega,by have:=Nat.xor_lt_two_pow (n:=64) (x:=x.toNat) (y:=y.toNat) (by omega) (by omega);omega⟩
theorem Z2M(x y:Int)(q0:InU x)(q1:InU y):InU (bits .and .u64 x y):=XM x y q0 q1
theorem Z4E(x y:Int)(q0:InU x)(q1:InU y):InU (bits .or .u64 x y):=KK x y q0 q1
theorem Z2N(x y:Int)(q0:InU x)(q1:InU y):InU (bits .xor .u64 x y):=XN x y q0 q1
theorem Z2a(c:Bool):InU (if c=true then 1 else 0):=by cases c<;>exact⟨by decide,by decide⟩
theorem Jl(x y:Int)(q0:InU x)(q1:InU y):InU (Xv (LtS x y)):=Z2a _
theorem KL(x y:Int)(q0:InU x)(q1:InU y):InU (Xv (LtU x y)):=Z2a _
theorem JS(x y:Int)(q0:InU x)(q1:InU y):InU (Hgh x y true true):=KJ _ _ _ _ q0.1 q0.2 q1.1 q1.2
theorem Z07(x y:Int)(q0:InU x)(q1:InU y):InU (Hgh x y true false):=KJ _ _ _ _ q0.1 q0.2 q1.1 q1.2
theorem Z4F(x y:Int)(q0:InU x)(q1:InU y):InU (Hgh x y false false):=KJ _ _ _ _ q0.1 q0.2 q1.1 q1.2
theorem YR(x y:Int)(q0:InU x)(q1:InU y):InU (_root_.Go.Proofs.YtgpdpaljbiclkaaGreatDoor.Quo x y true):=Z1l _ _ _ q0.1 q0.2 q1.1 q1.2
theorem KM(x y:Int)(q0:InU x)(q1:InU y):InU (_root_.Go.Proofs.YtgpdpaljbiclkaaGreatDoor.Quo x y false):=Z1l _ _ _ q0.1 q0.2 q1.1 q1.2
theorem YS(x y:Int)(q0:InU x)(q1:InU y):InU (_root_.Go.Proofs.YtgpdpaljbiclkaaGreatDoor.Rem x y true):=ZF _
theorem KN(x y:Int)(q0:InU x)(q1:InU y):InU (_root_.Go.Proofs.YtgpdpaljbiclkaaGreatDoor.Rem x y false):=ZF _
theorem Jv(x y n:Int)(q0:InU x)(q1:InU y):InU (IntKind.u64.wrap (x*2 ^ (y % n).toNat)):=ZF _
theorem Kn(x y n:Int)(q0:InU x)(q1:InU y):InU (Sar x y n):=ZF _
theorem Ko(x y n:Int)(q0:InU x)(q1:InU y):InU (x / 2 ^ (y % n).toNat):=by
 obtain⟨a,b⟩:=q0
 have h:(0:Int)<2 ^ (y % n).toNat:=Int.pow_pos (by decide)
 exact⟨Int.ediv_nonneg a (Int.le_of_lt h),Int.lt_of_le_of_lt (Int.ediv_le_self _ a) b⟩
end Go.Proofs.YtgpdpaljbiclkaaGreatDoor
end
section
namespace Go.Proofs.YtgpdpaljbiclkaaGreatDoor
open _root_.Go.Proofs.Tryz
open Go.RowKit
set_option linter.unusedVariables false
theorem val_45(rd rs1 rs2 im pc a b:Int)(aq rl:Bool)(qa:InU a)(qb:InU b)(qi:InU (IntKind.u64.wrap im))
  (HG:Hid (∀w,Cod w→Calls prog 37 #[.agg #[.int .i64 45,.int .i64 rd,.int .i64 rs1,.int .i64 rs2,.int .i64 im,.bool aq,.bool rl]] w fun e w'=>e=.returned (.bool true)∧Nb w w')) (w:World) (hC:Cod w):
  Calls prog 50 #[.agg #[.int .i64 45,.int .i64 rd,.int .i64 rs1,.int .i64 rs2,.int .i64 im,.bool aq,.bool rl],.int .u64 pc,.int .u64 a,.int .u64 b] w fun e w'=>e=.returned (.tuple #[.int .u64 (Sgn (IntKind.u64.wrap ((Sgn a 32)+(Sgn b 32))) 32),.int .i64 0])∧Nb w w':=by
 have HI:=Lib.hid (ZD 45)
 rw[show Y6 45=false from rfl] at HI
 have HK:=Lib.hid (Z73 a b qa qb)
 have q0:InU (Sgn a 32):=Zn _ 32 qa
 have q1:InU (Sgn b 32):=Zn _ 32 qb
 have QV:InU (IntKind.u64.wrap ((Sgn a 32)+(Sgn b 32))):=Ju (Sgn a 32) (Sgn b 32) q0 q1
 have hef:=ZN
 unfold Z1 at HK
 go_enter func50,ntmps50
 repeat (first|(with_reducible first|refine tE ?_|refine iS ?_|refine iO ?_)|go_values|go_skip|go_guarded|go_step|go_upon|go_back)
 obtain⟨W1,hW⟩:∃W1,w.alloc (.cells #[.int .i64 45,.int .i64 rd,.int .i64 rs1,.int .i64 rs2,.int .i64 im,.bool aq,.bool rl] 50)=W1:=⟨_,rfl⟩
 have hb:=Z0 w _ hW rfl
 have h2:Nb w W1:=by rw[←hW];exact(Nb.refl _).alloc _
 rw[hW]
 clear hW
 refine(HG.out _ (hC.of_nb h2)).mono ?_
 rintro e w1⟨rfl,hn⟩
 have hb1:=Nb.block hn hb
 obtain⟨n1,c0,c1,c2,c3,c4,c5,c6⟩:=Z4 hb1
 clear hb
 simp only[]
 repeat (first|(with_reducible first|refine tE ?_|refine iS ?_|refine iO ?_)|go_values|go_skip|go_guarded|go_step|go_upon|go_back)
 refine(HI.out _).mono ?_
 rintro e w'⟨rfl,rfl⟩
 go_wp2_with fail
 refine(HK.out _).mono ?_
 rintro e w2⟨rfl,hn2⟩
 clear hb1 n1 c0 c1 c2 c3 c4 c5 c6
 go_wp2_with fail
 refine(Km _ _ _ _).mono ?_
 rintro e w3⟨rfl,hn3⟩
 go_wp2_with fail
 refine(Zr _ _ QV.1 QV.2 _).mono ?_
 rintro e w'⟨rfl,rfl⟩
 go_wp2_with fail
 go_ret2
 exact⟨rfl,((h2.trans hn).trans hn2).trans hn3⟩
theorem val_46(rd rs1 rs2 im pc a b:Int)(aq rl:Bool)(qa:InU a)(qb:InU b)(qi:InU (IntKind.u64.wrap im))
  (HG:Hid (∀w,Cod w→Calls prog 37 #[.agg #[.int .i64 46,.int .i64 rd,.int .i64 rs1,.int .i64 rs2,.int .i64 im,.bool aq,.bool rl]] w fun e w'=>e=.returned (.bool true)∧Nb w w')) (w:World) (hC:Cod w):
  Calls prog 50 #[.agg #[.int .i64 46,.int .i64 rd,.int .i64 rs1,.int .i64 rs2,.int .i64 im,.bool aq,.bool rl],.int .u64 pc,.int .u64 a,.int .u64 b] w fun e w'=>e=.returned (.tuple #[.int .u64 (Sgn (IntKind.u64.wrap ((Sgn a 32)-(Sgn b 32))) 32),.int .i64 0])∧Nb w w':=by
 have HI:=Lib.hid (ZD 46)
 rw[show Y6 46=false from rfl] at HI
 have HK:=Lib.hid (Z77 a b qa qb)
 have q0:InU (Sgn a 32):=Zn _ 32 qa
 have q1:InU (Sgn b 32):=Zn _ 32 qb
 have QV:InU (IntKind.u64.wrap ((Sgn a 32)-(Sgn b 32))):=K4 (Sgn a 32) (Sgn b 32) q0 q1
 have hef:=ZN
 unfold Z1 at HK
 go_enter func50,ntmps50
 repeat (first|(with_reducible first|refine tE ?_|refine iS ?_|refine iO ?_)|go_values|go_skip|go_guarded|go_step|go_upon|go_back)
 obtain⟨W1,hW⟩:∃W1,w.alloc (.cells #[.int .i64 46,.int .i64 rd,.int .i64 rs1,.int .i64 rs2,.int .i64 im,.bool aq,.bool rl] 50)=W1:=⟨_,rfl⟩
 have hb:=Z0 w _ hW rfl
 have h2:Nb w W1:=by rw[←hW];exact(Nb.refl _).alloc _
 rw[hW]
 clear hW
 refine(HG.out _ (hC.of_nb h2)).mono ?_
 rintro e w1⟨rfl,hn⟩
 have hb1:=Nb.block hn hb
 obtain⟨n1,c0,c1,c2,c3,c4,c5,c6⟩:=Z4 hb1
 clear hb
 simp only[]
 repeat (first|(with_reducible first|refine tE ?_|refine iS ?_|refine iO ?_)|go_values|go_skip|go_guarded|go_step|go_upon|go_back)
 refine(HI.out _).mono ?_
 rintro e w'⟨rfl,rfl⟩
 go_wp2_with fail
 refine(HK.out _).mono ?_
 rintro e w2⟨rfl,hn2⟩
 clear hb1 n1 c0 c1 c2 c3 c4 c5 c6
 go_wp2_with fail
 refine(Z1o _ _ _ _).mono ?_
 rintro e w3⟨rfl,hn3⟩
 go_wp2_with fail
 refine(Zr _ _ QV.1 QV.2 _).mono ?_
 rintro e w'⟨rfl,rfl⟩
 go_wp2_with fail
 go_ret2
 exact⟨rfl,((h2.trans hn).trans hn2).trans hn3⟩
theorem val_33(rd rs1 rs2 im pc a b:Int)(aq rl:Bool)(qa:InU a)(qb:InU b)(qi:InU (IntKind.u64.wrap im))
  (HG:Hid (∀w,Cod w→Calls prog 37 #[.agg #[.int .i64 33,.int .i64 rd,.int .i64 rs1,.int .i64 rs2,.int .i64 im,.bool aq,.bool rl]] w fun e w'=>e=.returned (.bool true)∧Nb w w')) (w:World) (hC:Cod w):
  Calls prog 50 #[.agg #[.int .i64 33,.int .i64 rd,.int .i64 rs1,.int .i64 rs2,.int .i64 im,.bool aq,.bool rl],.int .u64 pc,.int .u64 a,.int .u64 b] w fun e w'=>e=.returned (.tuple #[.int .u64 (IntKind.u64.wrap (a*2 ^ (b % 64).toNat)),.int .i64 0])∧Nb w w':=by
 have HI:=Lib.hid (ZD 33)
 rw[show Y6 33=false from rfl] at HI
 have HK:=Lib.hid (Z7b a b qa qb)
 have q0:InU a:=qa
 have q1:InU b:=qb
 have QV:InU (IntKind.u64.wrap (a*2 ^ (b % 64).toNat)):=Jv a b 64 q0 q1
 have hef:=ZN
 unfold Z1 at HK
 go_enter func50,ntmps50
 repeat (first|(with_reducible first|refine tE ?_|refine iS ?_|refine iO ?_)|go_values|go_skip|go_guarded|go_step|go_upon|go_back)
 obtain⟨W1,hW⟩:∃W1,w.alloc (.cells #[.int .i64 33,.int .i64 rd,.int .i64 rs1,.int .i64 rs2,.int .i64 im,.bool aq,.bool rl] 50)=W1:=⟨_,rfl⟩
 have hb:=Z0 w _ hW rfl
 have h2:Nb w W1:=by rw[←hW];exact(Nb.refl _).alloc _
 rw[hW]
 clear hW
 refine(HG.out _ (hC.of_nb h2)).mono ?_
 rintro e w1⟨rfl,hn⟩
 have hb1:=Nb.block hn hb
 obtain⟨n1,c0,c1,c2,c3,c4,c5,c6⟩:=Z4 hb1
 clear hb
 simp only[]
 repeat (first|(with_reducible first|refine tE ?_|refine iS ?_|refine iO ?_)|go_values|go_skip|go_guarded|go_step|go_upon|go_back)
 refine(HI.out _).mono ?_
 rintro e w'⟨rfl,rfl⟩
 go_wp2_with fail
 refine(HK.out _).mono ?_
 rintro e w2⟨B,rfl,hn2,hB⟩
 have HB:=Lib.hid hB
 clear hB hb1 n1 c0 c1 c2 c3 c4 c5 c6
 go_wp2_with fail
 refine(shl64 _ _ _ q0.1 q0.2 q1.1 q1.2 _ HB.out).mono ?_
 rintro e w3⟨rfl,hn3⟩
 go_wp2_with fail
 refine(Zr _ _ QV.1 QV.2 _).mono ?_
 rintro e w'⟨rfl,rfl⟩
 rw[ZS]
 go_wp2_with fail
 go_ret2
 exact⟨rfl,((h2.trans hn).trans hn2).trans hn3⟩
theorem val_37(rd rs1 rs2 im pc a b:Int)(aq rl:Bool)(qa:InU a)(qb:InU b)(qi:InU (IntKind.u64.wrap im))
  (HG:Hid (∀w,Cod w→Calls prog 37 #[.agg #[.int .i64 37,.int .i64 rd,.int .i64 rs1,.int .i64 rs2,.int .i64 im,.bool aq,.bool rl]] w fun e w'=>e=.returned (.bool true)∧Nb w w')) (w:World) (hC:Cod w):
  Calls prog 50 #[.agg #[.int .i64 37,.int .i64 rd,.int .i64 rs1,.int .i64 rs2,.int .i64 im,.bool aq,.bool rl],.int .u64 pc,.int .u64 a,.int .u64 b] w fun e w'=>e=.returned (.tuple #[.int .u64 (a / 2 ^ (b % 64).toNat),.int .i64 0])∧Nb w w':=by
 have HI:=Lib.hid (ZD 37)
 rw[show Y6 37=false from rfl] at HI
 have HK:=Lib.hid (Z7f a b qa qb)
 have q0:InU a:=qa
 have q1:InU b:=qb
 have QV:InU (a / 2 ^ (b % 64).toNat):=Ko a b 64 q0 q1
 have hef:=ZN
 unfold Z1 at HK
 go_enter func50,ntmps50
 repeat (first|(with_reducible first|refine tE ?_|refine iS ?_|refine iO ?_)|go_values|go_skip|go_guarded|go_step|go_upon|go_back)
 obtain⟨W1,hW⟩:∃W1,w.alloc (.cells #[.int .i64 37,.int .i64 rd,.int .i64 rs1,.int .i64 rs2,.int .i64 im,.bool aq,.bool rl] 50)=W1:=⟨_,rfl⟩
 have hb:=Z0 w _ hW rfl
 have h2:Nb w W1:=by rw[←hW];exact(Nb.refl _).alloc _
 rw[hW]
 clear hW
 refine(HG.out _ (hC.of_nb h2)).mono ?_
 rintro e w1⟨rfl,hn⟩
 have hb1:=Nb.block hn hb
 obtain⟨n1,c0,c1,c2,c3,c4,c5,c6⟩:=Z4 hb1
 clear hb
 simp only[]
 repeat (first|(with_reducible first|refine tE ?_|refine iS ?_|refine iO ?_)|go_values|go_skip|go_guarded|go_step|go_upon|go_back)
 refine(HI.out _).mono ?_
 rintro e w'⟨rfl,rfl⟩
 go_wp2_with fail
 refine(HK.out _).mono ?_
 rintro e w2⟨B,rfl,hn2,hB⟩
 have HB:=Lib.hid hB
 clear hB hb1 n1 c0 c1 c2 c3 c4 c5 c6
 go_wp2_with fail
 refine(shr64 _ _ _ q0.1 q0.2 q1.1 q1.2 _ HB.out).mono ?_
 rintro e w3⟨rfl,hn3⟩
 go_wp2_with fail
 refine(Zr _ _ QV.1 QV.2 _).mono ?_
 rintro e w'⟨rfl,rfl⟩
 rw[ZS]
 go_wp2_with fail
 go_ret2
 exact⟨rfl,((h2.trans hn).trans hn2).trans hn3⟩
theorem val_38(rd rs1 rs2 im pc a b:Int)(aq rl:Bool)(qa:InU a)(qb:InU b)(qi:InU (IntKind.u64.wrap im))
  (HG:Hid (∀w,Cod w→Calls prog 37 #[.agg #[.int .i64 38,.int .i64 rd,.int .i64 rs1,.int .i64 rs2,.int .i64 im,.bool aq,.bool rl]] w fun e w'=>e=.returned (.bool true)∧Nb w w')) (w:World) (hC:Cod w):
  Calls prog 50 #[.agg #[.int .i64 38,.int .i64 rd,.int .i64 rs1,.int .i64 rs2,.int .i64 im,.bool aq,.bool rl],.int .u64 pc,.int .u64 a,.int .u64 b] w fun e w'=>e=.returned (.tuple #[.int .u64 (Sar a b 64),.int .i64 0])∧Nb w w':=by
 have HI:=Lib.hid (ZD 38)
 rw[show Y6 38=false from rfl] at HI
 have HK:=Lib.hid (Z7j a b qa qb)
 have q0:InU a:=qa
 have q1:InU b:=qb
 have QV:InU (Sar a b 64):=Kn a b 64 q0 q1
 have hef:=ZN
 unfold Z1 at HK
 go_enter func50,ntmps50
 repeat (first|(with_reducible first|refine tE ?_|refine iS ?_|refine iO ?_)|go_values|go_skip|go_guarded|go_step|go_upon|go_back)
 obtain⟨W1,hW⟩:∃W1,w.alloc (.cells #[.int .i64 38,.int .i64 rd,.int .i64 rs1,.int .i64 rs2,.int .i64 im,.bool aq,.bool rl] 50)=W1:=⟨_,rfl⟩
 have hb:=Z0 w _ hW rfl
 have h2:Nb w W1:=by rw[←hW];exact(Nb.refl _).alloc _
 rw[hW]
 clear hW
 refine(HG.out _ (hC.of_nb h2)).mono ?_
 rintro e w1⟨rfl,hn⟩
 have hb1:=Nb.block hn hb
 obtain⟨n1,c0,c1,c2,c3,c4,c5,c6⟩:=Z4 hb1
 clear hb
 simp only[]
 repeat (first|(with_reducible first|refine tE ?_|refine iS ?_|refine iO ?_)|go_values|go_skip|go_guarded|go_step|go_upon|go_back)
 refine(HI.out _).mono ?_
 rintro e w'⟨rfl,rfl⟩
 go_wp2_with fail
 refine(HK.out _).mono ?_
 rintro e w2⟨B,rfl,hn2,hB⟩
 have HB:=Lib.hid hB
 clear hB hb1 n1 c0 c1 c2 c3 c4 c5 c6
 go_wp2_with fail
 refine(Z4C _ _ _ q0.1 q0.2 q1.1 q1.2 _ HB.out).mono ?_
 rintro e w3⟨rfl,hn3⟩
 go_wp2_with fail
 refine(Zr _ _ QV.1 QV.2 _).mono ?_
 rintro e w'⟨rfl,rfl⟩
 rw[ZS]
 go_wp2_with fail
 go_ret2
 exact⟨rfl,((h2.trans hn).trans hn2).trans hn3⟩
theorem val_35(rd rs1 rs2 im pc a b:Int)(aq rl:Bool)(qa:InU a)(qb:InU b)(qi:InU (IntKind.u64.wrap im))
  (HG:Hid (∀w,Cod w→Calls prog 37 #[.agg #[.int .i64 35,.int .i64 rd,.int .i64 rs1,.int .i64 rs2,.int .i64 im,.bool aq,.bool rl]] w fun e w'=>e=.returned (.bool true)∧Nb w w')) (w:World) (hC:Cod w):
  Calls prog 50 #[.agg #[.int .i64 35,.int .i64 rd,.int .i64 rs1,.int .i64 rs2,.int .i64 im,.bool aq,.bool rl],.int .u64 pc,.int .u64 a,.int .u64 b] w fun e w'=>e=.returned (.tuple #[.int .u64 (Xv (LtU a b)),.int .i64 0])∧Nb w w':=by
 have HI:=Lib.hid (ZD 35)
 rw[show Y6 35=false from rfl] at HI
 have HK:=Lib.hid (Z7n a b qa qb)
 have q0:InU a:=qa
 have q1:InU b:=qb
 have QV:InU (Xv (LtU a b)):=KL a b q0 q1
 have hef:=ZN
 unfold Z1 at HK
 go_enter func50,ntmps50
 repeat (first|(with_reducible first|refine tE ?_|refine iS ?_|refine iO ?_)|go_values|go_skip|go_guarded|go_step|go_upon|go_back)
 obtain⟨W1,hW⟩:∃W1,w.alloc (.cells #[.int .i64 35,.int .i64 rd,.int .i64 rs1,.int .i64 rs2,.int .i64 im,.bool aq,.bool rl] 50)=W1:=⟨_,rfl⟩
 have hb:=Z0 w _ hW rfl
 have h2:Nb w W1:=by rw[←hW];exact(Nb.refl _).alloc _
 rw[hW]
 clear hW
 refine(HG.out _ (hC.of_nb h2)).mono ?_
 rintro e w1⟨rfl,hn⟩
 have hb1:=Nb.block hn hb
 obtain⟨n1,c0,c1,c2,c3,c4,c5,c6⟩:=Z4 hb1
 clear hb
 simp only[]
 repeat (first|(with_reducible first|refine tE ?_|refine iS ?_|refine iO ?_)|go_values|go_skip|go_guarded|go_step|go_upon|go_back)
 refine(HI.out _).mono ?_
 rintro e w'⟨rfl,rfl⟩
 go_wp2_with fail
 refine(HK.out _).mono ?_
 rintro e w2⟨rfl,hn2⟩
 clear hb1 n1 c0 c1 c2 c3 c4 c5 c6
 go_wp2_with fail
 refine(Z0i _ _ _ _).mono ?_
 rintro e w3⟨rfl,hn3⟩
 go_wp2_with fail
 refine(Zr _ _ QV.1 QV.2 _).mono ?_
 rintro e w'⟨rfl,rfl⟩
 rw[ZS]
 go_wp2_with fail
 go_ret2
 exact⟨rfl,((h2.trans hn).trans hn2).trans hn3⟩
theorem val_39(rd rs1 rs2 im pc a b:Int)(aq rl:Bool)(qa:InU a)(qb:InU b)(qi:InU (IntKind.u64.wrap im))
  (HG:Hid (∀w,Cod w→Calls prog 37 #[.agg #[.int .i64 39,.int .i64 rd,.int .i64 rs1,.int .i64 rs2,.int .i64 im,.bool aq,.bool rl]] w fun e w'=>e=.returned (.bool true)∧Nb w w')) (w:World) (hC:Cod w):
  Calls prog 50 #[.agg #[.int .i64 39,.int .i64 rd,.int .i64 rs1,.int .i64 rs2,.int .i64 im,.bool aq,.bool rl],.int .u64 pc,.int .u64 a,.int .u64 b] w fun e w'=>e=.returned (.tuple #[.int .u64 (bits .or .u64 a b),.int .i64 0])∧Nb w w':=by
 have HI:=Lib.hid (ZD 39)
 rw[show Y6 39=false from rfl] at HI
 have HK:=Lib.hid (Z7r a b qa qb)
 have q0:InU a:=qa
 have q1:InU b:=qb
 have QV:InU (bits .or .u64 a b):=Z4E a b q0 q1
 have hef:=ZN
 unfold Z1 at HK
 go_enter func50,ntmps50
 repeat (first|(with_reducible first|refine tE ?_|refine iS ?_|refine iO ?_)|go_values|go_skip|go_guarded|go_step|go_upon|go_back)
 obtain⟨W1,hW⟩:∃W1,w.alloc (.cells #[.int .i64 39,.int .i64 rd,.int .i64 rs1,.int .i64 rs2,.int .i64 im,.bool aq,.bool rl] 50)=W1:=⟨_,rfl⟩
 have hb:=Z0 w _ hW rfl
 have h2:Nb w W1:=by rw[←hW];exact(Nb.refl _).alloc _
 rw[hW]
 clear hW
 refine(HG.out _ (hC.of_nb h2)).mono ?_
 rintro e w1⟨rfl,hn⟩
 have hb1:=Nb.block hn hb
 obtain⟨n1,c0,c1,c2,c3,c4,c5,c6⟩:=Z4 hb1
 clear hb
 simp only[]
 repeat (first|(with_reducible first|refine tE ?_|refine iS ?_|refine iO ?_)|go_values|go_skip|go_guarded|go_step|go_upon|go_back)
 refine(HI.out _).mono ?_
 rintro e w'⟨rfl,rfl⟩
 go_wp2_with fail
 refine(HK.out _).mono ?_
 rintro e w2⟨rfl,hn2⟩
 clear hb1 n1 c0 c1 c2 c3 c4 c5 c6
 go_wp2_with fail
 refine(Z0J _ _ _ _).mono ?_
 rintro e w3⟨rfl,hn3⟩
 go_wp2_with fail
 refine(Zr _ _ QV.1 QV.2 _).mono ?_
 rintro e w'⟨rfl,rfl⟩
 rw[ZS]
 go_wp2_with fail
 go_ret2
 exact⟨rfl,((h2.trans hn).trans hn2).trans hn3⟩
theorem val_61(rd rs1 rs2 im pc a b:Int)(aq rl:Bool)(qa:InU a)(qb:InU b)(qi:InU (IntKind.u64.wrap im))
  (HG:Hid (∀w,Cod w→Calls prog 37 #[.agg #[.int .i64 61,.int .i64 rd,.int .i64 rs1,.int .i64 rs2,.int .i64 im,.bool aq,.bool rl]] w fun e w'=>e=.returned (.bool true)∧Nb w w')) (w:World) (hC:Cod w):
  Calls prog 50 #[.agg #[.int .i64 61,.int .i64 rd,.int .i64 rs1,.int .i64 rs2,.int .i64 im,.bool aq,.bool rl],.int .u64 pc,.int .u64 a,.int .u64 b] w fun e w'=>e=.returned (.tuple #[.int .u64 (Sgn (IntKind.u64.wrap ((Sgn a 32)*(Sgn b 32))) 32),.int .i64 0])∧Nb w w':=by
 have HI:=Lib.hid (ZD 61)
 rw[show Y6 61=false from rfl] at HI
 have HK:=Lib.hid (Z7v a b qa qb)
 have q0:InU (Sgn a 32):=Zn _ 32 qa
 have q1:InU (Sgn b 32):=Zn _ 32 qb
 have QV:InU (IntKind.u64.wrap ((Sgn a 32)*(Sgn b 32))):=Jk (Sgn a 32) (Sgn b 32) q0 q1
 have hef:=ZN
 unfold Z1 at HK
 go_enter func50,ntmps50
 repeat (first|(with_reducible first|refine tE ?_|refine iS ?_|refine iO ?_)|go_values|go_skip|go_guarded|go_step|go_upon|go_back)
 obtain⟨W1,hW⟩:∃W1,w.alloc (.cells #[.int .i64 61,.int .i64 rd,.int .i64 rs1,.int .i64 rs2,.int .i64 im,.bool aq,.bool rl] 50)=W1:=⟨_,rfl⟩
 have hb:=Z0 w _ hW rfl
 have h2:Nb w W1:=by rw[←hW];exact(Nb.refl _).alloc _
 rw[hW]
 clear hW
 refine(HG.out _ (hC.of_nb h2)).mono ?_
 rintro e w1⟨rfl,hn⟩
 have hb1:=Nb.block hn hb
 obtain⟨n1,c0,c1,c2,c3,c4,c5,c6⟩:=Z4 hb1
 clear hb
 simp only[]
 repeat (first|(with_reducible first|refine tE ?_|refine iS ?_|refine iO ?_)|go_values|go_skip|go_guarded|go_step|go_upon|go_back)
 refine(HI.out _).mono ?_
 rintro e w'⟨rfl,rfl⟩
 go_wp2_with fail
 refine(HK.out _).mono ?_
 rintro e w2⟨rfl,hn2⟩
 clear hb1 n1 c0 c1 c2 c3 c4 c5 c6
 go_wp2_with fail
 refine(Z2L _ _ _ _).mono ?_
 rintro e w3⟨rfl,hn3⟩
 go_wp2_with fail
 refine(Zr _ _ QV.1 QV.2 _).mono ?_
 rintro e w'⟨rfl,rfl⟩
 go_wp2_with fail
 go_ret2
 exact⟨rfl,((h2.trans hn).trans hn2).trans hn3⟩
theorem val_56(rd rs1 rs2 im pc a b:Int)(aq rl:Bool)(qa:InU a)(qb:InU b)(qi:InU (IntKind.u64.wrap im))
  (HG:Hid (∀w,Cod w→Calls prog 37 #[.agg #[.int .i64 56,.int .i64 rd,.int .i64 rs1,.int .i64 rs2,.int .i64 im,.bool aq,.bool rl]] w fun e w'=>e=.returned (.bool true)∧Nb w w')) (w:World) (hC:Cod w):
  Calls prog 50 #[.agg #[.int .i64 56,.int .i64 rd,.int .i64 rs1,.int .i64 rs2,.int .i64 im,.bool aq,.bool rl],.int .u64 pc,.int .u64 a,.int .u64 b] w fun e w'=>e=.returned (.tuple #[.int .u64 (Hgh a b false false),.int .i64 0])∧Nb w w':=by
 have HI:=Lib.hid (ZD 56)
 rw[show Y6 56=false from rfl] at HI
 have HK:=Lib.hid (Z7z a b qa qb)
 have q0:InU a:=qa
 have q1:InU b:=qb
 have QV:InU (Hgh a b false false):=Z4F a b q0 q1
 have hef:=ZN
 unfold Z1 at HK
 go_enter func50,ntmps50
 repeat (first|(with_reducible first|refine tE ?_|refine iS ?_|refine iO ?_)|go_values|go_skip|go_guarded|go_step|go_upon|go_back)
 obtain⟨W1,hW⟩:∃W1,w.alloc (.cells #[.int .i64 56,.int .i64 rd,.int .i64 rs1,.int .i64 rs2,.int .i64 im,.bool aq,.bool rl] 50)=W1:=⟨_,rfl⟩
 have hb:=Z0 w _ hW rfl
 have h2:Nb w W1:=by rw[←hW];exact(Nb.refl _).alloc _
 rw[hW]
 clear hW
 refine(HG.out _ (hC.of_nb h2)).mono ?_
 rintro e w1⟨rfl,hn⟩
 have hb1:=Nb.block hn hb
 obtain⟨n1,c0,c1,c2,c3,c4,c5,c6⟩:=Z4 hb1
 clear hb
 simp only[]
 repeat (first|(with_reducible first|refine tE ?_|refine iS ?_|refine iO ?_)|go_values|go_skip|go_guarded|go_step|go_upon|go_back)
 refine(HI.out _).mono ?_
 rintro e w'⟨rfl,rfl⟩
 go_wp2_with fail
 refine(HK.out _).mono ?_
 rintro e w2⟨rfl,hn2⟩
 clear hb1 n1 c0 c1 c2 c3 c4 c5 c6
 go_wp2_with fail
 refine(Z3f _ _ _ q0.1 q0.2 q1.1 q1.2 _).mono ?_
 rintro e w3⟨rfl,hn3⟩
 go_wp2_with fail
 refine(Zr _ _ QV.1 QV.2 _).mono ?_
 rintro e w'⟨rfl,rfl⟩
 rw[ZS]
 go_wp2_with fail
 go_ret2
 exact⟨rfl,((h2.trans hn).trans hn2).trans hn3⟩
theorem val_58(rd rs1 rs2 im pc a b:Int)(aq rl:Bool)(qa:InU a)(qb:InU b)(qi:InU (IntKind.u64.wrap im))
  (HG:Hid (∀w,Cod w→Calls prog 37 #[.agg #[.int .i64 58,.int .i64 rd,.int .i64 rs1,.int .i64 rs2,.int .i64 im,.bool aq,.bool rl]] w fun e w'=>e=.returned (.bool true)∧Nb w w')) (w:World) (hC:Cod w):
  Calls prog 50 #[.agg #[.int .i64 58,.int .i64 rd,.int .i64 rs1,.int .i64 rs2,.int .i64 im,.bool aq,.bool rl],.int .u64 pc,.int .u64 a,.int .u64 b] w fun e w'=>e=.returned (.tuple #[.int .u64 (_root_.Go.Proofs.YtgpdpaljbiclkaaGreatDoor.Quo a b false),.int .i64 0])∧Nb w w':=by
 have HI:=Lib.hid (ZD 58)
 rw[show Y6 58=false from rfl] at HI
 have HK:=Lib.hid (Z7D a b qa qb)
 have q0:InU a:=qa
 have q1:InU b:=qb
 have QV:InU (_root_.Go.Proofs.YtgpdpaljbiclkaaGreatDoor.Quo a b false):=KM a b q0 q1
 have hef:=ZN
 unfold Z1 at HK
 go_enter func50,ntmps50
 repeat (first|(with_reducible first|refine tE ?_|refine iS ?_|refine iO ?_)|go_values|go_skip|go_guarded|go_step|go_upon|go_back)
 obtain⟨W1,hW⟩:∃W1,w.alloc (.cells #[.int .i64 58,.int .i64 rd,.int .i64 rs1,.int .i64 rs2,.int .i64 im,.bool aq,.bool rl] 50)=W1:=⟨_,rfl⟩
 have hb:=Z0 w _ hW rfl
 have h2:Nb w W1:=by rw[←hW];exact(Nb.refl _).alloc _
 rw[hW]
 clear hW
 refine(HG.out _ (hC.of_nb h2)).mono ?_
 rintro e w1⟨rfl,hn⟩
 have hb1:=Nb.block hn hb
 obtain⟨n1,c0,c1,c2,c3,c4,c5,c6⟩:=Z4 hb1
 clear hb
 simp only[]
 repeat (first|(with_reducible first|refine tE ?_|refine iS ?_|refine iO ?_)|go_values|go_skip|go_guarded|go_step|go_upon|go_back)
 refine(HI.out _).mono ?_
 rintro e w'⟨rfl,rfl⟩
 go_wp2_with fail
 refine(HK.out _).mono ?_
 rintro e w2⟨rfl,hn2⟩
 clear hb1 n1 c0 c1 c2 c3 c4 c5 c6
 go_wp2_with fail
 refine(Z1s _ _ _ q0.1 q0.2 q1.1 q1.2 _).mono ?_
 rintro e w3⟨rfl,hn3⟩
 go_wp2_with fail
 refine(Zr _ _ QV.1 QV.2 _).mono ?_
 rintro e w'⟨rfl,rfl⟩
 rw[ZS]
 go_wp2_with fail
 go_ret2
 exact⟨rfl,((h2.trans hn).trans hn2).trans hn3⟩
theorem val_60(rd rs1 rs2 im pc a b:Int)(aq rl:Bool)(qa:InU a)(qb:InU b)(qi:InU (IntKind.u64.wrap im))
  (HG:Hid (∀w,Cod w→Calls prog 37 #[.agg #[.int .i64 60,.int .i64 rd,.int .i64 rs1,.int .i64 rs2,.int .i64 im,.bool aq,.bool rl]] w fun e w'=>e=.returned (.bool true)∧Nb w w')) (w:World) (hC:Cod w):
  Calls prog 50 #[.agg #[.int .i64 60,.int .i64 rd,.int .i64 rs1,.int .i64 rs2,.int .i64 im,.bool aq,.bool rl],.int .u64 pc,.int .u64 a,.int .u64 b] w fun e w'=>e=.returned (.tuple #[.int .u64 (_root_.Go.Proofs.YtgpdpaljbiclkaaGreatDoor.Rem a b false),.int .i64 0])∧Nb w w':=by
 have HI:=Lib.hid (ZD 60)
 rw[show Y6 60=false from rfl] at HI
 have HK:=Lib.hid (Z7H a b qa qb)
 have q0:InU a:=qa
 have q1:InU b:=qb
 have QV:InU (_root_.Go.Proofs.YtgpdpaljbiclkaaGreatDoor.Rem a b false):=KN a b q0 q1
 have hef:=ZN
 unfold Z1 at HK
 go_enter func50,ntmps50
 repeat (first|(with_reducible first|refine tE ?_|refine iS ?_|refine iO ?_)|go_values|go_skip|go_guarded|go_step|go_upon|go_back)
 obtain⟨W1,hW⟩:∃W1,w.alloc (.cells #[.int .i64 60,.int .i64 rd,.int .i64 rs1,.int .i64 rs2,.int .i64 im,.bool aq,.bool rl] 50)=W1:=⟨_,rfl⟩
 have hb:=Z0 w _ hW rfl
 have h2:Nb w W1:=by rw[←hW];exact(Nb.refl _).alloc _
 rw[hW]
 clear hW
 refine(HG.out _ (hC.of_nb h2)).mono ?_
 rintro e w1⟨rfl,hn⟩
 have hb1:=Nb.block hn hb
 obtain⟨n1,c0,c1,c2,c3,c4,c5,c6⟩:=Z4 hb1
 clear hb
 simp only[]
 repeat (first|(with_reducible first|refine tE ?_|refine iS ?_|refine iO ?_)|go_values|go_skip|go_guarded|go_step|go_upon|go_back)
 refine(HI.out _).mono ?_
 rintro e w'⟨rfl,rfl⟩
 go_wp2_with fail
 refine(HK.out _).mono ?_
 rintro e w2⟨rfl,hn2⟩
 clear hb1 n1 c0 c1 c2 c3 c4 c5 c6
 go_wp2_with fail
 refine(Z1u _ _ _ q0.1 q0.2 q1.1 q1.2 _).mono ?_
 rintro e w3⟨rfl,hn3⟩
 go_wp2_with fail
 refine(Zr _ _ QV.1 QV.2 _).mono ?_
 rintro e w'⟨rfl,rfl⟩
 rw[ZS]
 go_wp2_with fail
 go_ret2
 exact⟨rfl,((h2.trans hn).trans hn2).trans hn3⟩
end Go.Proofs.YtgpdpaljbiclkaaGreatDoor
end

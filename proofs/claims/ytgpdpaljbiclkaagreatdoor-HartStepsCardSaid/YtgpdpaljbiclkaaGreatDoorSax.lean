/-
  Proved here: what alu.Value of the code gives, all operations. Conditions: the numbers are words; the table of codes holds what its text lays. ¦ plain facts on words of 32 and 64 bits: signs, shifts, sums and products. Conditions: the ranges that each theorem names. ¦ what the reference's small functions on words answer. Conditions: the numbers are words.
-/
import Derived.Test.YtgpdpaljbiclkaaGreatDoorSzz
import Derived.Test.YtgpdpaljbiclkaaGreatDoorSat
set_option maxHeartbeats 1000000
set_option maxRecDepth 100000
section
namespace Go.Proofs.YtgpdpaljbiclkaaGreatDoor
open _root_.Go.Proofs.Tryz
open Go.RowKit
set_option linter.unusedVariables false
theorem val_1(rd rs1 rs2 im pc a b:Int)(aq rl:Bool)(qa:InU a)(qb:InU b)(qi:InU (IntKind.u64.wrap im))
  (HG:Hid (∀w,Cod w→Calls prog 37 #[.agg #[.int .i64 1,.int .i64 rd,.int .i64 rs1,.int .i64 rs2,.int .i64 im,.bool aq,.bool rl]] w fun e w'=>e=.returned (.bool true)∧Nb w w')) (w:World) (hC:Cod w):
  Calls prog 50 #[.agg #[.int .i64 1,.int .i64 rd,.int .i64 rs1,.int .i64 rs2,.int .i64 im,.bool aq,.bool rl],.int .u64 pc,.int .u64 a,.int .u64 b] w fun e w'=>e=.returned (.tuple #[.int .u64 (IntKind.u64.wrap im),.int .i64 0])∧Nb w w':=by
 go_enter func50,ntmps50
 repeat (first|(with_reducible first|refine tE ?_|refine iS ?_|refine iO ?_)|go_values|go_skip|go_guarded|go_step|go_upon|go_back)
 obtain⟨W1,hW⟩:∃W1,w.alloc (.cells #[.int .i64 1,.int .i64 rd,.int .i64 rs1,.int .i64 rs2,.int .i64 im,.bool aq,.bool rl] 50)=W1:=⟨_,rfl⟩
 have hb:=Z0 w _ hW rfl
 have h2:Nb w W1:=by rw[←hW];exact(Nb.refl _).alloc _
 rw[hW]
 clear hW
 refine(HG.out _ (hC.of_nb h2)).mono ?_
 rintro e w1⟨rfl,hn⟩
 have hb1:=Nb.block hn hb
 obtain⟨n1,c0,c1,c2,c3,c4,c5,c6⟩:=Z4 hb1
 clear hb
 simp only[]
 repeat (first|(with_reducible first|refine tE ?_|refine iS ?_|refine iO ?_)|go_values|go_skip|go_guarded|go_step|go_upon|go_back)
 go_ret2
 exact⟨rfl,h2.trans hn⟩
theorem val_2(rd rs1 rs2 im pc a b:Int)(aq rl:Bool)(qa:InU a)(qb:InU b)(qi:InU (IntKind.u64.wrap im))
  (HG:Hid (∀w,Cod w→Calls prog 37 #[.agg #[.int .i64 2,.int .i64 rd,.int .i64 rs1,.int .i64 rs2,.int .i64 im,.bool aq,.bool rl]] w fun e w'=>e=.returned (.bool true)∧Nb w w')) (w:World) (hC:Cod w):
  Calls prog 50 #[.agg #[.int .i64 2,.int .i64 rd,.int .i64 rs1,.int .i64 rs2,.int .i64 im,.bool aq,.bool rl],.int .u64 pc,.int .u64 a,.int .u64 b] w fun e w'=>e=.returned (.tuple #[.int .u64 (IntKind.u64.wrap (pc+IntKind.u64.wrap im)),.int .i64 0])∧Nb w w':=by
 go_enter func50,ntmps50
 repeat (first|(with_reducible first|refine tE ?_|refine iS ?_|refine iO ?_)|go_values|go_skip|go_guarded|go_step|go_upon|go_back)
 obtain⟨W1,hW⟩:∃W1,w.alloc (.cells #[.int .i64 2,.int .i64 rd,.int .i64 rs1,.int .i64 rs2,.int .i64 im,.bool aq,.bool rl] 50)=W1:=⟨_,rfl⟩
 have hb:=Z0 w _ hW rfl
 have h2:Nb w W1:=by rw[←hW];exact(Nb.refl _).alloc _
 rw[hW]
 clear hW
 refine(HG.out _ (hC.of_nb h2)).mono ?_
 rintro e w1⟨rfl,hn⟩
 have hb1:=Nb.block hn hb
 obtain⟨n1,c0,c1,c2,c3,c4,c5,c6⟩:=Z4 hb1
 clear hb
 simp only[]
 repeat (first|(with_reducible first|refine tE ?_|refine iS ?_|refine iO ?_)|go_values|go_skip|go_guarded|go_step|go_upon|go_back)
 go_ret2
 exact⟨rfl,h2.trans hn⟩
theorem val_3(rd rs1 rs2 im pc a b:Int)(aq rl:Bool)(qa:InU a)(qb:InU b)(qi:InU (IntKind.u64.wrap im))
  (HG:Hid (∀w,Cod w→Calls prog 37 #[.agg #[.int .i64 3,.int .i64 rd,.int .i64 rs1,.int .i64 rs2,.int .i64 im,.bool aq,.bool rl]] w fun e w'=>e=.returned (.bool true)∧Nb w w')) (w:World) (hC:Cod w):
  Calls prog 50 #[.agg #[.int .i64 3,.int .i64 rd,.int .i64 rs1,.int .i64 rs2,.int .i64 im,.bool aq,.bool rl],.int .u64 pc,.int .u64 a,.int .u64 b] w fun e w'=>e=.returned (.tuple #[.int .u64 (IntKind.u64.wrap (pc+4)),.int .i64 0])∧Nb w w':=by
 go_enter func50,ntmps50
 repeat (first|(with_reducible first|refine tE ?_|refine iS ?_|refine iO ?_)|go_values|go_skip|go_guarded|go_step|go_upon|go_back)
 obtain⟨W1,hW⟩:∃W1,w.alloc (.cells #[.int .i64 3,.int .i64 rd,.int .i64 rs1,.int .i64 rs2,.int .i64 im,.bool aq,.bool rl] 50)=W1:=⟨_,rfl⟩
 have hb:=Z0 w _ hW rfl
 have h2:Nb w W1:=by rw[←hW];exact(Nb.refl _).alloc _
 rw[hW]
 clear hW
 refine(HG.out _ (hC.of_nb h2)).mono ?_
 rintro e w1⟨rfl,hn⟩
 have hb1:=Nb.block hn hb
 obtain⟨n1,c0,c1,c2,c3,c4,c5,c6⟩:=Z4 hb1
 clear hb
 simp only[]
 repeat (first|(with_reducible first|refine tE ?_|refine iS ?_|refine iO ?_)|go_values|go_skip|go_guarded|go_step|go_upon|go_back)
 go_ret2
 exact⟨rfl,h2.trans hn⟩
theorem val_4(rd rs1 rs2 im pc a b:Int)(aq rl:Bool)(qa:InU a)(qb:InU b)(qi:InU (IntKind.u64.wrap im))
  (HG:Hid (∀w,Cod w→Calls prog 37 #[.agg #[.int .i64 4,.int .i64 rd,.int .i64 rs1,.int .i64 rs2,.int .i64 im,.bool aq,.bool rl]] w fun e w'=>e=.returned (.bool true)∧Nb w w')) (w:World) (hC:Cod w):
  Calls prog 50 #[.agg #[.int .i64 4,.int .i64 rd,.int .i64 rs1,.int .i64 rs2,.int .i64 im,.bool aq,.bool rl],.int .u64 pc,.int .u64 a,.int .u64 b] w fun e w'=>e=.returned (.tuple #[.int .u64 (IntKind.u64.wrap (pc+4)),.int .i64 0])∧Nb w w':=by
 go_enter func50,ntmps50
 repeat (first|(with_reducible first|refine tE ?_|refine iS ?_|refine iO ?_)|go_values|go_skip|go_guarded|go_step|go_upon|go_back)
 obtain⟨W1,hW⟩:∃W1,w.alloc (.cells #[.int .i64 4,.int .i64 rd,.int .i64 rs1,.int .i64 rs2,.int .i64 im,.bool aq,.bool rl] 50)=W1:=⟨_,rfl⟩
 have hb:=Z0 w _ hW rfl
 have h2:Nb w W1:=by rw[←hW];exact(Nb.refl _).alloc _
 rw[hW]
 clear hW
 refine(HG.out _ (hC.of_nb h2)).mono ?_
 rintro e w1⟨rfl,hn⟩
 have hb1:=Nb.block hn hb
 obtain⟨n1,c0,c1,c2,c3,c4,c5,c6⟩:=Z4 hb1
 clear hb
 simp only[]
 repeat (first|(with_reducible first|refine tE ?_|refine iS ?_|refine iO ?_)|go_values|go_skip|go_guarded|go_step|go_upon|go_back)
 go_ret2
 exact⟨rfl,h2.trans hn⟩
theorem Z7I(op rd rs1 rs2 im pc a b:Int)(aq rl:Bool)(qa:InU a)(qb:InU b)(qi:InU (IntKind.u64.wrap im))
  (HG:Hid (∀w,Cod w→Calls prog 37 #[.agg #[.int .i64 op,.int .i64 rd,.int .i64 rs1,.int .i64 rs2,.int .i64 im,.bool aq,.bool rl]] w fun e w'=>e=.returned (.bool false)∧Nb w w')) (w:World) (hC:Cod w):
  Calls prog 50 #[.agg #[.int .i64 op,.int .i64 rd,.int .i64 rs1,.int .i64 rs2,.int .i64 im,.bool aq,.bool rl],.int .u64 pc,.int .u64 a,.int .u64 b] w fun e w'=>e=.returned (.tuple #[.int .u64 (0),.int .i64 20])∧Nb w w':=by
 go_enter func50,ntmps50
 repeat (first|(with_reducible first|refine tE ?_|refine iS ?_|refine iO ?_)|go_values|go_skip|go_guarded|go_step|go_upon|go_back)
 obtain⟨W1,hW⟩:∃W1,w.alloc (.cells #[.int .i64 op,.int .i64 rd,.int .i64 rs1,.int .i64 rs2,.int .i64 im,.bool aq,.bool rl] 50)=W1:=⟨_,rfl⟩
 have hb:=Z0 w _ hW rfl
 have h2:Nb w W1:=by rw[←hW];exact(Nb.refl _).alloc _
 rw[hW]
 clear hW
 refine(HG.out _ (hC.of_nb h2)).mono ?_
 rintro e w1⟨rfl,hn⟩
 clear hb
 simp only[]
 repeat (first|(with_reducible first|refine tE ?_|refine iS ?_|refine iO ?_)|go_values|go_skip|go_guarded|go_step|go_upon|go_back)
 go_ret2
 exact⟨rfl,h2.trans hn⟩
theorem Z4G(op rd rs1 rs2 im pc a b:Int)(aq rl:Bool)(hno:Ks op=false)(qa:InU a)(qb:InU b)(qi:InU (IntKind.u64.wrap im))
  (HG:Hid (∀w,Cod w→Calls prog 37 #[.agg #[.int .i64 op,.int .i64 rd,.int .i64 rs1,.int .i64 rs2,.int .i64 im,.bool aq,.bool rl]] w fun e w'=>e=.returned (.bool true)∧Nb w w')) (w:World) (hC:Cod w):
  Calls prog 50 #[.agg #[.int .i64 op,.int .i64 rd,.int .i64 rs1,.int .i64 rs2,.int .i64 im,.bool aq,.bool rl],.int .u64 pc,.int .u64 a,.int .u64 b] w fun e w'=>e=.returned (.tuple #[.int .u64 (0),.int .i64 80])∧Nb w w':=by
 have hop:=hno
 unfold Ks at hop
 simp at hop
 have e1:(op==1)=false:=nB (by omega)
 have e2:(op==2)=false:=nB (by omega)
 have e3:(op==3)=false:=nB (by omega)
 have e4:(op==4)=false:=nB (by omega)
 have hi:Y6 op=false:=by unfold Y6;simp;omega
 have HI:=Lib.hid (ZD op)
 rw[hi] at HI
 have HK:=Lib.hid (Z3i op a b hno)
 clear hop hno hi
 have hnn:=eql_nn
 unfold Z1 at HK
 go_enter func50,ntmps50
 repeat (first|(with_reducible first|refine tE ?_|refine iS ?_|refine iO ?_)|go_values|go_skip|go_guarded|go_step|go_upon|go_back)
 obtain⟨W1,hW⟩:∃W1,w.alloc (.cells #[.int .i64 op,.int .i64 rd,.int .i64 rs1,.int .i64 rs2,.int .i64 im,.bool aq,.bool rl] 50)=W1:=⟨_,rfl⟩
 have hb:=Z0 w _ hW rfl
 have h2:Nb w W1:=by rw[←hW];exact(Nb.refl _).alloc _
 rw[hW]
 clear hW
 refine(HG.out _ (hC.of_nb h2)).mono ?_
 rintro e w1⟨rfl,hn⟩
 have hb1:=Nb.block hn hb
 obtain⟨n1,c0,c1,c2,c3,c4,c5,c6⟩:=Z4 hb1
 clear hb
 simp only[]
 repeat (first|(with_reducible first|refine tE ?_|refine iS ?_|refine iO ?_)|go_values|go_skip|go_guarded|go_step|go_upon|go_back)
 refine(HI.out _).mono ?_
 rintro e w'⟨rfl,rfl⟩
 go_wp2_with fail
 refine(HK.out _).mono ?_
 rintro e w2⟨rfl,hn2⟩
 clear hb1 n1 c0 c1 c2 c3 c4 c5 c6
 go_wp2_with fail
 go_ret2
 exact⟨rfl,(h2.trans hn).trans hn2⟩
end Go.Proofs.YtgpdpaljbiclkaaGreatDoor
end
section
namespace Go.Proofs.YtgpdpaljbiclkaaGreatDoor
open _root_.Go.Proofs.Tryz
open Go.RowKit
set_option linter.unusedVariables false
theorem wU(x:Int):IntKind.u64.wrap x=x % 18446744073709551616:=IntKind.wrap_u64 x
theorem wI(x:Int)(h:InU x):IntKind.i64.wrap x=if x<9223372036854775808 then x else x-18446744073709551616:=by
 obtain⟨a,b⟩:=h
 have h1:IntKind.i64.wrap x=(x+9223372036854775808) % 18446744073709551616-9223372036854775808:=by
  have:=IntKind.wrap_i64 x;omega
 rw[h1];split<;>omega
theorem Z2O(x:Int)(h0:0≤x):Sgn x 32=if x % 4294967296<2147483648 then x % 4294967296 else x % 4294967296+18446744069414584320:=by
 obtain⟨n,rfl⟩:=Int.eq_ofNat_of_zero_le h0
 rw[←YH _ 32 (by decide) (by decide)]
 have e:(2:Nat) ^ ((32:Int).toNat-1)=2147483648:=by decide
 rw[e,Int.toNat_natCast]
 unfold sgh
 split<;>split<;>omega
theorem KO(x y:Int)(h0:0≤x)(g0:0≤y)(h:x % 4294967296=y % 4294967296):Sgn x 32=Sgn y 32:=by
 rw[Z2O x h0,Z2O y g0,h]
theorem K5(x:Int)(h0:0≤x):Sgn x 32 % 4294967296=x % 4294967296:=by
 rw[Z2O x h0];split<;>omega
theorem Z1x(x n:Int)(h0:0≤x)(n1:1≤n)(n2:n≤64):Fld x 0 n=x % ((2 ^ n.toNat:Nat):Int):=by
 obtain⟨m,rfl⟩:=Int.eq_ofNat_of_zero_le h0
 unfold Fld
 have hw:wid 0 n=n.toNat:=by have:=Ke 0 n (by decide) (by decide) n1;omega
 rw[hw]
 simp[fld]
theorem XD(x:Int)(h0:0≤x):Fld x 0 32=x % 4294967296:=Z1x x 32 h0 (by decide) (by decide)
theorem XE(x:Int)(h0:0≤x):Fld x 0 6=x % 64:=Z1x x 6 h0 (by decide) (by decide)
theorem Xo(x:Int)(h0:0≤x):Fld x 0 5=x % 32:=Z1x x 5 h0 (by decide) (by decide)
theorem w_add(a c:Int)(qa:InU a)(qc:InU c):Sgn (IntKind.u64.wrap (a+c)) 32=Sgn (IntKind.u64.wrap (Sgn a 32+Sgn c 32)) 32:=by
 have h1:=K5 a qa.1
 have h2:=K5 c qc.1
 exact KO _ _ (ZF _).1 (ZF _).1 (by rw[wU,wU];omega)
theorem w_sub(a c:Int)(qa:InU a)(qc:InU c):Sgn (IntKind.u64.wrap (a-c)) 32=Sgn (IntKind.u64.wrap (Sgn a 32-Sgn c 32)) 32:=by
 have h1:=K5 a qa.1
 have h2:=K5 c qc.1
 exact KO _ _ (ZF _).1 (ZF _).1 (by rw[wU,wU];omega)
theorem Jw(x:Int):x % 18446744073709551616 % 4294967296=x % 4294967296:=by omega
theorem w_mul(a c:Int)(qa:InU a)(qc:InU c):Sgn (IntKind.u64.wrap (a*c)) 32=Sgn (IntKind.u64.wrap (Sgn a 32*Sgn c 32)) 32:=by
 have h1:=K5 a qa.1
 have h2:=K5 c qc.1
 refine KO _ _ (ZF _).1 (ZF _).1 ?_
 rw[wU,wU,Jw,Jw,Int.mul_emod (Sgn a 32),h1,h2,←Int.mul_emod]
theorem w_shl(a c:Int)(qa:InU a)(qc:InU c):Sgn (IntKind.u64.wrap (a*2 ^ (c % 32).toNat)) 32=Sgn (IntKind.u64.wrap (Fld a 0 32*2 ^ (Fld c 0 32 % 32).toNat)) 32:=by
 have e:Fld c 0 32 % 32=c % 32:=by rw[XD c qc.1];omega
 refine KO _ _ (ZF _).1 (ZF _).1 ?_
 rw[wU,wU,Jw,Jw,e,XD a qa.1,Int.mul_emod (a % 4294967296),Int.emod_emod_of_dvd _ (Int.dvd_refl _),←Int.mul_emod]
theorem w_shr(a c:Int)(qa:InU a)(qc:InU c):Sgn (Fld a 0 32 / 2 ^ (c % 32).toNat) 32=Sgn (Fld a 0 32 / 2 ^ (Fld c 0 32 % 32).toNat) 32:=by
 have e:Fld c 0 32 % 32=c % 32:=by rw[XD c qc.1];omega
 rw[e]
theorem w_sar(a c:Int)(qa:InU a)(qc:InU c):Sgn (IntKind.u64.wrap (IntKind.i64.wrap (Sgn a 32) / 2 ^ (c % 32).toNat)) 32=Sgn (IntKind.u64.wrap (IntKind.i64.wrap (Sgn a 32) / 2 ^ (Sgn c 32 % 32).toNat)) 32:=by
 have e:Sgn c 32 % 32=c % 32:=by have:=K5 c qc.1;omega
 rw[e]
theorem Z0M(y t:Int)(y0:0≤y)(y1:y<9223372036854775808)(t0:0≤t)(t1:t≤1):Plc y 63 1 t=y+9223372036854775808*t:=by
 obtain⟨n,rfl⟩:=Int.eq_ofNat_of_zero_le y0
 obtain⟨m,rfl⟩:=Int.eq_ofNat_of_zero_le t0
 unfold Plc
 have hw:wid 63 1=1:=by decide
 rw[hw]
 simp only[plc,Int.toNat_natCast,show((63:Int).toNat)=63 from rfl,show(2:Nat) ^ 63=9223372036854775808 by decide,show(2:Nat) ^ (63+1)=18446744073709551616 by decide,Nat.pow_one]
 omega
theorem Z7J(x:Int)(k:Nat)(h:InU x):Plc (x / 2 ^ k / 2) 63 1 0=x / 2 ^ (k+1):=by
 have h1:x / 2 ^ k / 2=x / 2 ^ (k+1):=by rw[Int.pow_succ,Int.ediv_ediv_of_nonneg (Int.pow_nonneg (by decide))]
 have p:(0:Int)<2 ^ k:=Int.pow_pos (by decide)
 have a0:0≤x / 2 ^ k:=Int.ediv_nonneg h.1 (Int.le_of_lt p)
 have a1:x / 2 ^ k≤x:=Int.ediv_le_self _ h.1
 have:=h.2
 rw[Z0M _ _ (by omega) (by omega) (by decide) (by decide),h1];omega
def Asr (x:Int) (k:Nat):Int:=IntKind.u64.wrap (IntKind.i64.wrap x / 2 ^ k)
theorem JT(x:Int)(k:Nat):InU (Asr x k):=ZF _
theorem Z4H(x:Int)(h:InU x):Asr x 0=x:=by
 have:=h.1;have:=h.2
 unfold Asr;rw[wI x h,wU];simp;split<;>omega
theorem Z0j(x:Int)(h:InU x): -9223372036854775808≤IntKind.i64.wrap x∧IntKind.i64.wrap x<9223372036854775808:=by
 have:=h.1;have:=h.2
 rw[wI x h];split<;>omega
theorem Z4I(z:Int)(h0: -9223372036854775808≤z)(h1:z<9223372036854775808):IntKind.i64.wrap (IntKind.u64.wrap z)=z:=by
 rw[wI _ (ZF z),wU];split<;>omega
theorem Z0k(z:Int)(k:Nat)(h0: -9223372036854775808≤z)(h1:z<9223372036854775808): -9223372036854775808≤z / 2 ^ k∧z / 2 ^ k<9223372036854775808∧(z<0↔z / 2 ^ k<0):=by
 have p:(0:Int)<2 ^ k:=Int.pow_pos (by decide)
 by_cases hz:0≤z
 ·have a0:0≤z / 2 ^ k:=Int.ediv_nonneg hz (Int.le_of_lt p)
  have a1:z / 2 ^ k≤z:=Int.ediv_le_self _ hz
  omega
 ·have a0:z / 2 ^ k<0:=Int.ediv_neg_of_neg_of_pos (by omega) p
  have a1:z≤z / 2 ^ k:=by
   refine Int.le_ediv_of_mul_le p ?_
   have:z*2 ^ k≤z*1:=Int.mul_le_mul_of_nonpos_left (by omega) (by omega)
   omega
  omega
theorem Z2P(x:Int)(k:Nat)(h:InU x):IntKind.i64.wrap (Asr x k)=IntKind.i64.wrap x / 2 ^ k:=by
 obtain⟨a,b⟩:=Z0j x h
 obtain⟨c,d,_⟩:=Z0k _ k a b
 exact Z4I _ c d
theorem JU(x:Int)(h:InU x):Bt x 63=if x<9223372036854775808 then 0 else 1:=by
 rw[Z28 x h.1 h.2]
 cases hn:Y5 x
 ·have h':=(JN x h.1 h.2).1 hn
  simp[h']
 ·have h':=(Kl x h.1 h.2).1 hn
  have h2:¬x<9223372036854775808:=by omega
  simp[h2]
theorem bt_asr(x:Int)(k:Nat)(h:InU x):Bt (Asr x k) 63=Bt x 63:=by
 obtain⟨a,b⟩:=Z0j x h
 obtain⟨c,d,e⟩:=Z0k _ k a b
 have h1:=Z2P x k h
 have h2:=JT x k
 rw[JU _ h2,JU _ h]
 rw[wI _ h2] at h1
 rw[wI _ h] at h1 e
 have:=h.1;have:=h.2;have:=h2.1;have:=h2.2
 split at h1<;>split at h1<;>split at e<;>simp_all<;>omega
theorem Z7K(x:Int)(k:Nat)(h:InU x):Plc (Asr x k / 2) 63 1 (Bt x 63)=Asr x (k+1):=by
 have q:=JT x k
 have hb:=bt_asr x k h
 have h1:Asr x (k+1)=IntKind.u64.wrap (IntKind.i64.wrap (Asr x k) / 2):=by
  rw[Z2P x k h]
  unfold Asr
  rw[Int.pow_succ,Int.ediv_ediv_of_nonneg (Int.pow_nonneg (by decide))]
 rw[h1,←hb]
 generalize Asr x k=y at*
 have:=q.1;have:=q.2
 rw[JU y q,wI y q,wU]
 split
 ·rw[Z0M _ _ (by omega) (by omega) (by decide) (by decide)];omega
 ·rw[Z0M _ _ (by omega) (by omega) (by decide) (by decide)];omega
def Shl (x:Int) (k:Nat):Int:=IntKind.u64.wrap (x*2 ^ k)
theorem Z4J(x:Int)(h:InU x):Shl x 0=x:=by have:=h.1;have:=h.2;unfold Shl;rw[wU];simp;omega
theorem Z4K(x:Int)(k:Nat):IntKind.u64.wrap (Shl x k+Shl x k)=Shl x (k+1):=by
 unfold Shl;rw[Int.pow_succ,←Int.mul_assoc,wU,wU,wU];omega
theorem Z7L(a b:Int)(qa:InU a)(qb:InU b):LtS a b=if Y5 a !=Y5 b then Y5 a else decide (a<b):=by
 have ha:=Kl a qa.1 qa.2
 have hb:=Kl b qb.1 qb.2
 have:=qa.1;have:=qa.2;have:=qb.1;have:=qb.2
 unfold LtS S64 wrap64
 cases h1:Y5 a<;>cases h2:Y5 b<;>rw[h1] at ha<;>rw[h2] at hb<;>simp at ha hb<;>rw[Bool.eq_iff_iff]<;>simp<;>omega
end Go.Proofs.YtgpdpaljbiclkaaGreatDoor
end
section
namespace Go.Proofs.YtgpdpaljbiclkaaGreatDoor
open _root_.Go.Proofs.Tryz
open Go.RowKit
set_option linter.unusedVariables false
theorem Z1y(x:Int)(q:InU x)(w:World):Calls prog 110 #[.int .u64 x] w fun e w'=>e=.returned (.bool (Y5 x))∧w=w':=by
 obtain⟨h0,h1⟩:=q
 cases hn:Y5 x
 ·have H:=Lib.hid (Z4r x h0 h1 hn)
  clear hn
  go_enter func110,ntmps110
  go_wp2_with fail
  refine(Y2 _ _ h0 h1 (by decide) (by decide) _).mono ?_
  rintro e w'⟨rfl,rfl⟩
  rw[H.out]
  go_wp2_with fail
  go_ret
  exact⟨rfl,rfl⟩
 ·have H:=Lib.hid (Z4s x h0 h1 hn)
  clear hn
  go_enter func110,ntmps110
  go_wp2_with fail
  refine(Y2 _ _ h0 h1 (by decide) (by decide) _).mono ?_
  rintro e w'⟨rfl,rfl⟩
  rw[H.out]
  go_wp2_with fail
  go_ret
  exact⟨rfl,rfl⟩
theorem YZ(a b:Int)(qa:InU a)(qb:InU b)(w:World):Calls prog 71 #[.int .u64 a,.int .u64 b] w fun e w'=>e=.returned (.bool (LtS a b))∧w=w':=by
 have H:=Z7L a b qa qb
 have HA:=Lib.hid (Z1y a qa)
 have HB:=Lib.hid (Z1y b qb)
 cases h1:Y5 a<;>cases h2:Y5 b<;>rw[h1] at HA H<;>rw[h2] at HB H<;>have HH:=Lib.hid H<;>clear H h1 h2
 all_goals
  go_enter func71,ntmps71
  go_wp2_with fail
  refine(HA.out _).mono ?_
  rintro e w'⟨rfl,rfl⟩
  go_wp2_with fail
  refine(HB.out _).mono ?_
  rintro e w'⟨rfl,rfl⟩
  go_wp2_with fail
  try (refine(HA.out _).mono ?_;rintro e w'⟨rfl,rfl⟩;go_wp2_with fail)
  go_ret
  exact⟨Zw HH.out.symm,rfl⟩
theorem Z4L(b:Bool)(w:World):Calls prog 104 #[.bool b] w fun e w'=>e=.returned (.int .u64 (if b=true then 1 else 0))∧w=w':=by
 cases b
 all_goals
  go_enter func104,ntmps104
  go_wp2
  go_ret
  exact⟨rfl,rfl⟩
theorem ZT(x:Int)(q:InU x)(w:World):Calls prog 105 #[.int .u64 x] w fun e w'=>e=.returned (.int .u64 (Sgn x 32))∧w=w':=by
 go_enter func105,ntmps105
 go_wp2_with fail
 refine(Zi _ _ q.1 q.2 _).mono ?_
 rintro e w'⟨rfl,rfl⟩
 go_wp2_with fail
 go_ret
 exact⟨rfl,rfl⟩
theorem XF(x:Int)(q:InU x)(w:World):Calls prog 106 #[.int .u64 x] w fun e w'=>e=.returned (.int .u64 (Fld x 0 32))∧w=w':=by
 go_enter func106,ntmps106
 go_wp2_with fail
 refine(Z3 _ _ _ q.1 q.2 _).mono ?_
 rintro e w'⟨rfl,rfl⟩
 go_wp2_with fail
 go_ret
 exact⟨rfl,rfl⟩
theorem Kp(x n:Int)(q:InU x)(n0:0≤n)(n1:n≤63)(w:World):Calls prog 101 #[.int .u64 x,.int .i64 n] w fun e w'=>e=.returned (.int .u64 (Shl x n.toNat))∧w=w':=by
 go_enter func101,ntmps101
 go_wp2
 go_loop [0,5] (fun y j=>∃k:Nat,(k:Int)≤n∧y=.int .u64 (Shl x k)∧j=.int .i64 k) (fun _ j=>(n-intOf j).toNat)
 case atStart=>exact⟨0,by omega,ZU (by rw[Z4J x q]),rfl⟩
 case round=>
  obtain⟨k,hk,rfl,rfl⟩:=hrel
  by_cases hlt:(k:Int)<n
  ·clear hk
   go_wp2
   go_round
   case rel=>exact⟨k+1,by omega,ZU (Z4K x k),by go_num⟩
   case measure=>simp[intOf];omega
  ·have e:Hid (n.toNat=k):=Lib.hid (by omega)
   go_wp2
   go_ret
   exact⟨Zm (by rw[e.out]),rfl⟩
theorem Xr(x n:Int)(q:InU x)(n0:0≤n)(n1:n≤63)(w:World):Calls prog 102 #[.int .u64 x,.int .i64 n,.int .u64 0] w fun e w'=>e=.returned (.int .u64 (x / 2 ^ n.toNat))∧w=w':=by
 go_enter func102,ntmps102
 go_wp2
 go_loop [0,7] (fun y j=>∃k:Nat,(k:Int)≤n∧y=.int .u64 (x / 2 ^ k)∧j=.int .i64 k) (fun _ j=>(n-intOf j).toNat)
 case atStart=>exact⟨0,by omega,ZU (by simp),rfl⟩
 case round=>
  obtain⟨k,hk,rfl,rfl⟩:=hrel
  have hs:=Lib.hid (Z7J x k q)
  have p:(0:Int)<2 ^ k:=Int.pow_pos (by decide)
  have y0:0≤x / 2 ^ k:=Int.ediv_nonneg q.1 (Int.le_of_lt p)
  have y1:x / 2 ^ k<18446744073709551616:=Int.lt_of_le_of_lt (Int.ediv_le_self _ q.1) q.2
  clear p
  have HY:Hid (∃y,x / 2 ^ k=y):=Lib.hid ⟨_,rfl⟩
  obtain⟨y,hy⟩:=HY.out
  rw[hy] at hs y0 y1 ⊢
  have Hy:=Lib.hid hy
  clear hy HY
  by_cases hlt:(k:Int)<n
  ·clear hk
   go_wp2_with fail
   refine(XH _ _ _ _ (by omega) (by omega) (by decide) (by decide) _).mono ?_
   rintro e w'⟨rfl,rfl⟩
   go_wp2_with fail
   go_round
   case rel=>exact⟨k+1,by omega,ZU hs.out,by go_num⟩
   case measure=>simp[intOf];omega
  ·have e:Hid (n.toNat=k):=Lib.hid (by omega)
   go_wp2
   go_ret
   exact⟨Zm (by rw[e.out,Hy.out]),rfl⟩
theorem Xs(x n t:Int)(q:InU x)(ht:Hid (t=Bt x 63))(t0:0≤t)(t1:t≤1)(n0:0≤n)(n1:n≤63)(w:World):Calls prog 102 #[.int .u64 x,.int .i64 n,.int .u64 t] w fun e w'=>e=.returned (.int .u64 (Asr x n.toNat))∧w=w':=by
 go_enter func102,ntmps102
 go_wp2
 go_loop [0,7] (fun y j=>∃k:Nat,(k:Int)≤n∧y=.int .u64 (Asr x k)∧j=.int .i64 k) (fun _ j=>(n-intOf j).toNat)
 case atStart=>exact⟨0,by omega,ZU (by rw[Z4H x q]),rfl⟩
 case round=>
  obtain⟨k,hk,rfl,rfl⟩:=hrel
  have hs:=Lib.hid (Z7K x k q)
  obtain⟨y0,y1⟩:=JT x k
  by_cases hlt:(k:Int)<n
  ·clear hk
   go_wp2_with fail
   refine(XH _ _ _ _ (by omega) (by omega) (by omega) (by omega) _).mono ?_
   rintro e w'⟨rfl,rfl⟩
   go_wp2_with fail
   go_round
   case rel=>exact⟨k+1,by omega,ZU (by rw[←hs.out,ht.out]),by go_num⟩
   case measure=>simp[intOf];omega
  ·have e:Hid (n.toNat=k):=Lib.hid (by omega)
   go_wp2
   go_ret
   exact⟨Zm (by rw[e.out]),rfl⟩
end Go.Proofs.YtgpdpaljbiclkaaGreatDoor
end

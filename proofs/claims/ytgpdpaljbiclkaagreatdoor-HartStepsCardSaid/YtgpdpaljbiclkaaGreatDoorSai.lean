/-
  Proved here: plain facts on words put together out of parts that do not meet. Conditions: the ranges that each theorem names.
-/
import Derived.Test.YtgpdpaljbiclkaaGreatDoorSag
namespace Go.Proofs.YtgpdpaljbiclkaaGreatDoor
open _root_.Go.Proofs.Tryz
set_option linter.unusedVariables false
theorem Z2(x low w v:Nat)(h:x / 2 ^ low % 2 ^ w=0):plc x low w v=x+2 ^ low*(v % 2 ^ w):=by
 unfold plc
 have h1:=Nat.mod_add_div x (2 ^ low)
 have h2:=Nat.mod_add_div (x / 2 ^ low) (2 ^ w)
 rw[h,Nat.zero_add,Nat.div_div_eq_div_mul,←Nat.pow_add] at h2
 rw[←h2,←Nat.mul_assoc,←Nat.pow_add] at h1
 omega
theorem ZP(a x low w v:Nat)(h:a / 2 ^ low % 2 ^ w=0):a|||plc x low w v=plc (a|||x) low w v:=by
 apply Nat.eq_of_testBit_eq
 intro j
 rw[Nat.testBit_or,Xe,Xe]
 by_cases h1:j<low
 ·rw[if_pos h1,if_pos h1,Nat.testBit_or]
 ·by_cases h2:j<low+w
  ·rw[if_neg h1,if_pos h2,if_neg h1,if_pos h2]
   have:(a / 2 ^ low % 2 ^ w).testBit (j-low)=false:=by rw[h];simp
   rw[Nat.testBit_mod_two_pow,Nat.testBit_div_two_pow,show j-low+low=j by omega] at this
   have hd:decide (j-low<w)=true:=by simp;omega
   rw[hd,Bool.true_and] at this
   rw[this,Bool.false_or]
  ·rw[if_neg h1,if_neg h2,if_neg h1,if_neg h2,Nat.testBit_or]
theorem Z4d(o a3 a7 rd rs1 rs2 aq rl X:Nat)(ho:o<128)(h3:a3<8)(h7:a7<128)(hrd:rd<32)(hr1:rs1<32)(hr2:rs2<32)(hq:aq<2)(hl:rl<2):
  ((plc 0 0 7 o)|||(plc (plc (plc (plc (plc 0 7 5 rd) 15 5 0) 20 5 0) 25 1 0) 26 1 0))|||(plc 0 12 20 (fld X 12 20))=0+2 ^ 0*(o % 2 ^ 7)+2 ^ 7*(rd % 2 ^ 5)+2 ^ 12*((fld X 12 20) % 2 ^ 20):=by
 have f3:fld a3 0 3<8:=Z5 a3 0 3
 have a0:plc (0) 0 7 o=0+2 ^ 0*(o % 2 ^ 7):=Z2 _ _ _ _ (by omega)
 have b0:plc (0) 7 5 rd=0+2 ^ 7*(rd % 2 ^ 5):=Z2 _ _ _ _ (by omega)
 have c0:plc (0) 7 5 rd=0+2 ^ 7*(rd % 2 ^ 5):=Z2 _ _ _ _ (by omega)
 have c1:plc (0+2 ^ 7*(rd % 2 ^ 5)) 15 5 0=0+2 ^ 7*(rd % 2 ^ 5)+2 ^ 15*(0 % 2 ^ 5):=Z2 _ _ _ _ (by omega)
 have c2:plc (0+2 ^ 7*(rd % 2 ^ 5)+2 ^ 15*(0 % 2 ^ 5)) 20 5 0=0+2 ^ 7*(rd % 2 ^ 5)+2 ^ 15*(0 % 2 ^ 5)+2 ^ 20*(0 % 2 ^ 5):=Z2 _ _ _ _ (by omega)
 have c3:plc (0+2 ^ 7*(rd % 2 ^ 5)+2 ^ 15*(0 % 2 ^ 5)+2 ^ 20*(0 % 2 ^ 5)) 25 1 0=0+2 ^ 7*(rd % 2 ^ 5)+2 ^ 15*(0 % 2 ^ 5)+2 ^ 20*(0 % 2 ^ 5)+2 ^ 25*(0 % 2 ^ 1):=Z2 _ _ _ _ (by omega)
 have c4:plc (0+2 ^ 7*(rd % 2 ^ 5)+2 ^ 15*(0 % 2 ^ 5)+2 ^ 20*(0 % 2 ^ 5)+2 ^ 25*(0 % 2 ^ 1)) 26 1 0=0+2 ^ 7*(rd % 2 ^ 5)+2 ^ 15*(0 % 2 ^ 5)+2 ^ 20*(0 % 2 ^ 5)+2 ^ 25*(0 % 2 ^ 1)+2 ^ 26*(0 % 2 ^ 1):=Z2 _ _ _ _ (by omega)
 have d0:plc (0) 12 20 (fld X 12 20)=0+2 ^ 12*((fld X 12 20) % 2 ^ 20):=Z2 _ _ _ _ (by omega)
 have hA:(plc 0 0 7 o)=0+2 ^ 0*(o % 2 ^ 7):=by rw[a0]
 have hB:(plc (plc (plc (plc (plc 0 7 5 rd) 15 5 0) 20 5 0) 25 1 0) 26 1 0)=(plc 0 7 5 rd):=by
  have l:(plc (plc (plc (plc (plc 0 7 5 rd) 15 5 0) 20 5 0) 25 1 0) 26 1 0)=0+2 ^ 7*(rd % 2 ^ 5)+2 ^ 15*(0 % 2 ^ 5)+2 ^ 20*(0 % 2 ^ 5)+2 ^ 25*(0 % 2 ^ 1)+2 ^ 26*(0 % 2 ^ 1):=by rw[c0,c1,c2,c3,c4]
  have r:(plc 0 7 5 rd)=0+2 ^ 7*(rd % 2 ^ 5):=by rw[b0]
  first|rfl|(rw[l,r];omega)
 rw[hA,hB]
 clear a0 b0 c0 c1 c2 c3 c4 d0 hA hB
 rw[ZP (0+2 ^ 0*(o % 2 ^ 7)) _ 7 5 _ (by omega)]
 rw[Nat.or_zero]
 have e0:plc (0+2 ^ 0*(o % 2 ^ 7)) 7 5 rd=0+2 ^ 0*(o % 2 ^ 7)+2 ^ 7*(rd % 2 ^ 5):=Z2 _ _ _ _ (by omega)
 rw[e0]
 clear e0
 rw[ZP (0+2 ^ 0*(o % 2 ^ 7)+2 ^ 7*(rd % 2 ^ 5)) _ 12 20 _ (by omega)]
 rw[Nat.or_zero]
 have g0:plc (0+2 ^ 0*(o % 2 ^ 7)+2 ^ 7*(rd % 2 ^ 5)) 12 20 (fld X 12 20)=0+2 ^ 0*(o % 2 ^ 7)+2 ^ 7*(rd % 2 ^ 5)+2 ^ 12*((fld X 12 20) % 2 ^ 20):=Z2 _ _ _ _ (by omega)
 rw[g0]
theorem Z4e(o a3 a7 rd rs1 rs2 aq rl X:Nat)(ho:o<128)(h3:a3<8)(h7:a7<128)(hrd:rd<32)(hr1:rs1<32)(hr2:rs2<32)(hq:aq<2)(hl:rl<2):
  ((plc 0 0 7 o)|||(plc (plc (plc (plc (plc 0 7 5 rd) 15 5 0) 20 5 0) 25 1 0) 26 1 0))|||(plc (plc (plc (plc 0 31 1 (fld X 20 1)) 21 10 (fld X 1 10)) 20 1 (fld X 11 1)) 12 8 (fld X 12 8))=0+2 ^ 0*(o % 2 ^ 7)+2 ^ 7*(rd % 2 ^ 5)+2 ^ 31*((fld X 20 1) % 2 ^ 1)+2 ^ 21*((fld X 1 10) % 2 ^ 10)+2 ^ 20*((fld X 11 1) % 2 ^ 1)+2 ^ 12*((fld X 12 8) % 2 ^ 8):=by
 have f3:fld a3 0 3<8:=Z5 a3 0 3
 have a0:plc (0) 0 7 o=0+2 ^ 0*(o % 2 ^ 7):=Z2 _ _ _ _ (by omega)
 have b0:plc (0) 7 5 rd=0+2 ^ 7*(rd % 2 ^ 5):=Z2 _ _ _ _ (by omega)
 have c0:plc (0) 7 5 rd=0+2 ^ 7*(rd % 2 ^ 5):=Z2 _ _ _ _ (by omega)
 have c1:plc (0+2 ^ 7*(rd % 2 ^ 5)) 15 5 0=0+2 ^ 7*(rd % 2 ^ 5)+2 ^ 15*(0 % 2 ^ 5):=Z2 _ _ _ _ (by omega)
 have c2:plc (0+2 ^ 7*(rd % 2 ^ 5)+2 ^ 15*(0 % 2 ^ 5)) 20 5 0=0+2 ^ 7*(rd % 2 ^ 5)+2 ^ 15*(0 % 2 ^ 5)+2 ^ 20*(0 % 2 ^ 5):=Z2 _ _ _ _ (by omega)
 have c3:plc (0+2 ^ 7*(rd % 2 ^ 5)+2 ^ 15*(0 % 2 ^ 5)+2 ^ 20*(0 % 2 ^ 5)) 25 1 0=0+2 ^ 7*(rd % 2 ^ 5)+2 ^ 15*(0 % 2 ^ 5)+2 ^ 20*(0 % 2 ^ 5)+2 ^ 25*(0 % 2 ^ 1):=Z2 _ _ _ _ (by omega)
 have c4:plc (0+2 ^ 7*(rd % 2 ^ 5)+2 ^ 15*(0 % 2 ^ 5)+2 ^ 20*(0 % 2 ^ 5)+2 ^ 25*(0 % 2 ^ 1)) 26 1 0=0+2 ^ 7*(rd % 2 ^ 5)+2 ^ 15*(0 % 2 ^ 5)+2 ^ 20*(0 % 2 ^ 5)+2 ^ 25*(0 % 2 ^ 1)+2 ^ 26*(0 % 2 ^ 1):=Z2 _ _ _ _ (by omega)
 have d0:plc (0) 31 1 (fld X 20 1)=0+2 ^ 31*((fld X 20 1) % 2 ^ 1):=Z2 _ _ _ _ (by omega)
 have d1:plc (0+2 ^ 31*((fld X 20 1) % 2 ^ 1)) 21 10 (fld X 1 10)=0+2 ^ 31*((fld X 20 1) % 2 ^ 1)+2 ^ 21*((fld X 1 10) % 2 ^ 10):=Z2 _ _ _ _ (by omega)
 have d2:plc (0+2 ^ 31*((fld X 20 1) % 2 ^ 1)+2 ^ 21*((fld X 1 10) % 2 ^ 10)) 20 1 (fld X 11 1)=0+2 ^ 31*((fld X 20 1) % 2 ^ 1)+2 ^ 21*((fld X 1 10) % 2 ^ 10)+2 ^ 20*((fld X 11 1) % 2 ^ 1):=Z2 _ _ _ _ (by omega)
 have d3:plc (0+2 ^ 31*((fld X 20 1) % 2 ^ 1)+2 ^ 21*((fld X 1 10) % 2 ^ 10)+2 ^ 20*((fld X 11 1) % 2 ^ 1)) 12 8 (fld X 12 8)=0+2 ^ 31*((fld X 20 1) % 2 ^ 1)+2 ^ 21*((fld X 1 10) % 2 ^ 10)+2 ^ 20*((fld X 11 1) % 2 ^ 1)+2 ^ 12*((fld X 12 8) % 2 ^ 8):=Z2 _ _ _ _ (by omega)
 have hA:(plc 0 0 7 o)=0+2 ^ 0*(o % 2 ^ 7):=by rw[a0]
 have hB:(plc (plc (plc (plc (plc 0 7 5 rd) 15 5 0) 20 5 0) 25 1 0) 26 1 0)=(plc 0 7 5 rd):=by
  have l:(plc (plc (plc (plc (plc 0 7 5 rd) 15 5 0) 20 5 0) 25 1 0) 26 1 0)=0+2 ^ 7*(rd % 2 ^ 5)+2 ^ 15*(0 % 2 ^ 5)+2 ^ 20*(0 % 2 ^ 5)+2 ^ 25*(0 % 2 ^ 1)+2 ^ 26*(0 % 2 ^ 1):=by rw[c0,c1,c2,c3,c4]
  have r:(plc 0 7 5 rd)=0+2 ^ 7*(rd % 2 ^ 5):=by rw[b0]
  first|rfl|(rw[l,r];omega)
 rw[hA,hB]
 clear a0 b0 c0 c1 c2 c3 c4 d0 d1 d2 d3 hA hB
 rw[ZP (0+2 ^ 0*(o % 2 ^ 7)) _ 7 5 _ (by omega)]
 rw[Nat.or_zero]
 have e0:plc (0+2 ^ 0*(o % 2 ^ 7)) 7 5 rd=0+2 ^ 0*(o % 2 ^ 7)+2 ^ 7*(rd % 2 ^ 5):=Z2 _ _ _ _ (by omega)
 rw[e0]
 clear e0
 rw[ZP (0+2 ^ 0*(o % 2 ^ 7)+2 ^ 7*(rd % 2 ^ 5)) _ 12 8 _ (by omega)]
 rw[ZP (0+2 ^ 0*(o % 2 ^ 7)+2 ^ 7*(rd % 2 ^ 5)) _ 20 1 _ (by omega)]
 rw[ZP (0+2 ^ 0*(o % 2 ^ 7)+2 ^ 7*(rd % 2 ^ 5)) _ 21 10 _ (by omega)]
 rw[ZP (0+2 ^ 0*(o % 2 ^ 7)+2 ^ 7*(rd % 2 ^ 5)) _ 31 1 _ (by omega)]
 rw[Nat.or_zero]
 have g0:plc (0+2 ^ 0*(o % 2 ^ 7)+2 ^ 7*(rd % 2 ^ 5)) 31 1 (fld X 20 1)=0+2 ^ 0*(o % 2 ^ 7)+2 ^ 7*(rd % 2 ^ 5)+2 ^ 31*((fld X 20 1) % 2 ^ 1):=Z2 _ _ _ _ (by omega)
 have g1:plc (0+2 ^ 0*(o % 2 ^ 7)+2 ^ 7*(rd % 2 ^ 5)+2 ^ 31*((fld X 20 1) % 2 ^ 1)) 21 10 (fld X 1 10)=0+2 ^ 0*(o % 2 ^ 7)+2 ^ 7*(rd % 2 ^ 5)+2 ^ 31*((fld X 20 1) % 2 ^ 1)+2 ^ 21*((fld X 1 10) % 2 ^ 10):=Z2 _ _ _ _ (by omega)
 have g2:plc (0+2 ^ 0*(o % 2 ^ 7)+2 ^ 7*(rd % 2 ^ 5)+2 ^ 31*((fld X 20 1) % 2 ^ 1)+2 ^ 21*((fld X 1 10) % 2 ^ 10)) 20 1 (fld X 11 1)=0+2 ^ 0*(o % 2 ^ 7)+2 ^ 7*(rd % 2 ^ 5)+2 ^ 31*((fld X 20 1) % 2 ^ 1)+2 ^ 21*((fld X 1 10) % 2 ^ 10)+2 ^ 20*((fld X 11 1) % 2 ^ 1):=Z2 _ _ _ _ (by omega)
 have g3:plc (0+2 ^ 0*(o % 2 ^ 7)+2 ^ 7*(rd % 2 ^ 5)+2 ^ 31*((fld X 20 1) % 2 ^ 1)+2 ^ 21*((fld X 1 10) % 2 ^ 10)+2 ^ 20*((fld X 11 1) % 2 ^ 1)) 12 8 (fld X 12 8)=0+2 ^ 0*(o % 2 ^ 7)+2 ^ 7*(rd % 2 ^ 5)+2 ^ 31*((fld X 20 1) % 2 ^ 1)+2 ^ 21*((fld X 1 10) % 2 ^ 10)+2 ^ 20*((fld X 11 1) % 2 ^ 1)+2 ^ 12*((fld X 12 8) % 2 ^ 8):=Z2 _ _ _ _ (by omega)
 rw[g0,g1,g2,g3]
theorem Z4f(o a3 a7 rd rs1 rs2 aq rl X:Nat)(ho:o<128)(h3:a3<8)(h7:a7<128)(hrd:rd<32)(hr1:rs1<32)(hr2:rs2<32)(hq:aq<2)(hl:rl<2):
  ((plc (plc 0 0 7 o) 12 3 (fld a3 0 3))|||(plc (plc (plc (plc (plc 0 7 5 rd) 15 5 rs1) 20 5 0) 25 1 0) 26 1 0))|||(plc 0 20 12 (fld X 0 12))=0+2 ^ 0*(o % 2 ^ 7)+2 ^ 12*((fld a3 0 3) % 2 ^ 3)+2 ^ 7*(rd % 2 ^ 5)+2 ^ 15*(rs1 % 2 ^ 5)+2 ^ 20*((fld X 0 12) % 2 ^ 12):=by
 have f3:fld a3 0 3<8:=Z5 a3 0 3
 have a0:plc (0) 0 7 o=0+2 ^ 0*(o % 2 ^ 7):=Z2 _ _ _ _ (by omega)
 have a1:plc (0+2 ^ 0*(o % 2 ^ 7)) 12 3 (fld a3 0 3)=0+2 ^ 0*(o % 2 ^ 7)+2 ^ 12*((fld a3 0 3) % 2 ^ 3):=Z2 _ _ _ _ (by omega)
 have b0:plc (0) 7 5 rd=0+2 ^ 7*(rd % 2 ^ 5):=Z2 _ _ _ _ (by omega)
 have b1:plc (0+2 ^ 7*(rd % 2 ^ 5)) 15 5 rs1=0+2 ^ 7*(rd % 2 ^ 5)+2 ^ 15*(rs1 % 2 ^ 5):=Z2 _ _ _ _ (by omega)
 have c0:plc (0) 7 5 rd=0+2 ^ 7*(rd % 2 ^ 5):=Z2 _ _ _ _ (by omega)
 have c1:plc (0+2 ^ 7*(rd % 2 ^ 5)) 15 5 rs1=0+2 ^ 7*(rd % 2 ^ 5)+2 ^ 15*(rs1 % 2 ^ 5):=Z2 _ _ _ _ (by omega)
 have c2:plc (0+2 ^ 7*(rd % 2 ^ 5)+2 ^ 15*(rs1 % 2 ^ 5)) 20 5 0=0+2 ^ 7*(rd % 2 ^ 5)+2 ^ 15*(rs1 % 2 ^ 5)+2 ^ 20*(0 % 2 ^ 5):=Z2 _ _ _ _ (by omega)
 have c3:plc (0+2 ^ 7*(rd % 2 ^ 5)+2 ^ 15*(rs1 % 2 ^ 5)+2 ^ 20*(0 % 2 ^ 5)) 25 1 0=0+2 ^ 7*(rd % 2 ^ 5)+2 ^ 15*(rs1 % 2 ^ 5)+2 ^ 20*(0 % 2 ^ 5)+2 ^ 25*(0 % 2 ^ 1):=Z2 _ _ _ _ (by omega)
 have c4:plc (0+2 ^ 7*(rd % 2 ^ 5)+2 ^ 15*(rs1 % 2 ^ 5)+2 ^ 20*(0 % 2 ^ 5)+2 ^ 25*(0 % 2 ^ 1)) 26 1 0=0+2 ^ 7*(rd % 2 ^ 5)+2 ^ 15*(rs1 % 2 ^ 5)+2 ^ 20*(0 % 2 ^ 5)+2 ^ 25*(0 % 2 ^ 1)+2 ^ 26*(0 % 2 ^ 1):=Z2 _ _ _ _ (by omega)
 have d0:plc (0) 20 12 (fld X 0 12)=0+2 ^ 20*((fld X 0 12) % 2 ^ 12):=Z2 _ _ _ _ (by omega)
 have hA:(plc (plc 0 0 7 o) 12 3 (fld a3 0 3))=0+2 ^ 0*(o % 2 ^ 7)+2 ^ 12*((fld a3 0 3) % 2 ^ 3):=by rw[a0,a1]
 have hB:(plc (plc (plc (plc (plc 0 7 5 rd) 15 5 rs1) 20 5 0) 25 1 0) 26 1 0)=(plc (plc 0 7 5 rd) 15 5 rs1):=by
  have l:(plc (plc (plc (plc (plc 0 7 5 rd) 15 5 rs1) 20 5 0) 25 1 0) 26 1 0)=0+2 ^ 7*(rd % 2 ^ 5)+2 ^ 15*(rs1 % 2 ^ 5)+2 ^ 20*(0 % 2 ^ 5)+2 ^ 25*(0 % 2 ^ 1)+2 ^ 26*(0 % 2 ^ 1):=by rw[c0,c1,c2,c3,c4]
  have r:(plc (plc 0 7 5 rd) 15 5 rs1)=0+2 ^ 7*(rd % 2 ^ 5)+2 ^ 15*(rs1 % 2 ^ 5):=by rw[b0,b1]
  first|rfl|(rw[l,r];omega)
 rw[hA,hB]
 clear a0 a1 b0 b1 c0 c1 c2 c3 c4 d0 hA hB
 rw[ZP (0+2 ^ 0*(o % 2 ^ 7)+2 ^ 12*((fld a3 0 3) % 2 ^ 3)) _ 15 5 _ (by omega)]
 rw[ZP (0+2 ^ 0*(o % 2 ^ 7)+2 ^ 12*((fld a3 0 3) % 2 ^ 3)) _ 7 5 _ (by omega)]
 rw[Nat.or_zero]
 have e0:plc (0+2 ^ 0*(o % 2 ^ 7)+2 ^ 12*((fld a3 0 3) % 2 ^ 3)) 7 5 rd=0+2 ^ 0*(o % 2 ^ 7)+2 ^ 12*((fld a3 0 3) % 2 ^ 3)+2 ^ 7*(rd % 2 ^ 5):=Z2 _ _ _ _ (by omega)
 have e1:plc (0+2 ^ 0*(o % 2 ^ 7)+2 ^ 12*((fld a3 0 3) % 2 ^ 3)+2 ^ 7*(rd % 2 ^ 5)) 15 5 rs1=0+2 ^ 0*(o % 2 ^ 7)+2 ^ 12*((fld a3 0 3) % 2 ^ 3)+2 ^ 7*(rd % 2 ^ 5)+2 ^ 15*(rs1 % 2 ^ 5):=Z2 _ _ _ _ (by omega)
 rw[e0,e1]
 clear e0 e1
 rw[ZP (0+2 ^ 0*(o % 2 ^ 7)+2 ^ 12*((fld a3 0 3) % 2 ^ 3)+2 ^ 7*(rd % 2 ^ 5)+2 ^ 15*(rs1 % 2 ^ 5)) _ 20 12 _ (by omega)]
 rw[Nat.or_zero]
 have g0:plc (0+2 ^ 0*(o % 2 ^ 7)+2 ^ 12*((fld a3 0 3) % 2 ^ 3)+2 ^ 7*(rd % 2 ^ 5)+2 ^ 15*(rs1 % 2 ^ 5)) 20 12 (fld X 0 12)=0+2 ^ 0*(o % 2 ^ 7)+2 ^ 12*((fld a3 0 3) % 2 ^ 3)+2 ^ 7*(rd % 2 ^ 5)+2 ^ 15*(rs1 % 2 ^ 5)+2 ^ 20*((fld X 0 12) % 2 ^ 12):=Z2 _ _ _ _ (by omega)
 rw[g0]
theorem Z4g(o a3 a7 rd rs1 rs2 aq rl X:Nat)(ho:o<128)(h3:a3<8)(h7:a7<128)(hrd:rd<32)(hr1:rs1<32)(hr2:rs2<32)(hq:aq<2)(hl:rl<2):
  ((plc (plc 0 0 7 o) 12 3 (fld a3 0 3))|||(plc (plc (plc (plc (plc 0 7 5 0) 15 5 rs1) 20 5 rs2) 25 1 0) 26 1 0))|||(plc (plc (plc (plc 0 31 1 (fld X 12 1)) 25 6 (fld X 5 6)) 8 4 (fld X 1 4)) 7 1 (fld X 11 1))=0+2 ^ 0*(o % 2 ^ 7)+2 ^ 12*((fld a3 0 3) % 2 ^ 3)+2 ^ 15*(rs1 % 2 ^ 5)+2 ^ 20*(rs2 % 2 ^ 5)+2 ^ 31*((fld X 12 1) % 2 ^ 1)+2 ^ 25*((fld X 5 6) % 2 ^ 6)+2 ^ 8*((fld X 1 4) % 2 ^ 4)+2 ^ 7*((fld X 11 1) % 2 ^ 1):=by
 have f3:fld a3 0 3<8:=Z5 a3 0 3
 have a0:plc (0) 0 7 o=0+2 ^ 0*(o % 2 ^ 7):=Z2 _ _ _ _ (by omega)
 have a1:plc (0+2 ^ 0*(o % 2 ^ 7)) 12 3 (fld a3 0 3)=0+2 ^ 0*(o % 2 ^ 7)+2 ^ 12*((fld a3 0 3) % 2 ^ 3):=Z2 _ _ _ _ (by omega)
 have b0:plc (0) 15 5 rs1=0+2 ^ 15*(rs1 % 2 ^ 5):=Z2 _ _ _ _ (by omega)
 have b1:plc (0+2 ^ 15*(rs1 % 2 ^ 5)) 20 5 rs2=0+2 ^ 15*(rs1 % 2 ^ 5)+2 ^ 20*(rs2 % 2 ^ 5):=Z2 _ _ _ _ (by omega)
 have c0:plc (0) 7 5 0=0+2 ^ 7*(0 % 2 ^ 5):=Z2 _ _ _ _ (by omega)
 have c1:plc (0+2 ^ 7*(0 % 2 ^ 5)) 15 5 rs1=0+2 ^ 7*(0 % 2 ^ 5)+2 ^ 15*(rs1 % 2 ^ 5):=Z2 _ _ _ _ (by omega)
 have c2:plc (0+2 ^ 7*(0 % 2 ^ 5)+2 ^ 15*(rs1 % 2 ^ 5)) 20 5 rs2=0+2 ^ 7*(0 % 2 ^ 5)+2 ^ 15*(rs1 % 2 ^ 5)+2 ^ 20*(rs2 % 2 ^ 5):=Z2 _ _ _ _ (by omega)
 have c3:plc (0+2 ^ 7*(0 % 2 ^ 5)+2 ^ 15*(rs1 % 2 ^ 5)+2 ^ 20*(rs2 % 2 ^ 5)) 25 1 0=0+2 ^ 7*(0 % 2 ^ 5)+2 ^ 15*(rs1 % 2 ^ 5)+2 ^ 20*(rs2 % 2 ^ 5)+2 ^ 25*(0 % 2 ^ 1):=Z2 _ _ _ _ (by omega)
 have c4:plc (0+2 ^ 7*(0 % 2 ^ 5)+2 ^ 15*(rs1 % 2 ^ 5)+2 ^ 20*(rs2 % 2 ^ 5)+2 ^ 25*(0 % 2 ^ 1)) 26 1 0=0+2 ^ 7*(0 % 2 ^ 5)+2 ^ 15*(rs1 % 2 ^ 5)+2 ^ 20*(rs2 % 2 ^ 5)+2 ^ 25*(0 % 2 ^ 1)+2 ^ 26*(0 % 2 ^ 1):=Z2 _ _ _ _ (by omega)
 have d0:plc (0) 31 1 (fld X 12 1)=0+2 ^ 31*((fld X 12 1) % 2 ^ 1):=Z2 _ _ _ _ (by omega)
 have d1:plc (0+2 ^ 31*((fld X 12 1) % 2 ^ 1)) 25 6 (fld X 5 6)=0+2 ^ 31*((fld X 12 1) % 2 ^ 1)+2 ^ 25*((fld X 5 6) % 2 ^ 6):=Z2 _ _ _ _ (by omega)
 have d2:plc (0+2 ^ 31*((fld X 12 1) % 2 ^ 1)+2 ^ 25*((fld X 5 6) % 2 ^ 6)) 8 4 (fld X 1 4)=0+2 ^ 31*((fld X 12 1) % 2 ^ 1)+2 ^ 25*((fld X 5 6) % 2 ^ 6)+2 ^ 8*((fld X 1 4) % 2 ^ 4):=Z2 _ _ _ _ (by omega)
 have d3:plc (0+2 ^ 31*((fld X 12 1) % 2 ^ 1)+2 ^ 25*((fld X 5 6) % 2 ^ 6)+2 ^ 8*((fld X 1 4) % 2 ^ 4)) 7 1 (fld X 11 1)=0+2 ^ 31*((fld X 12 1) % 2 ^ 1)+2 ^ 25*((fld X 5 6) % 2 ^ 6)+2 ^ 8*((fld X 1 4) % 2 ^ 4)+2 ^ 7*((fld X 11 1) % 2 ^ 1):=Z2 _ _ _ _ (by omega)
 have hA:(plc (plc 0 0 7 o) 12 3 (fld a3 0 3))=0+2 ^ 0*(o % 2 ^ 7)+2 ^ 12*((fld a3 0 3) % 2 ^ 3):=by rw[a0,a1]
 have hB:(plc (plc (plc (plc (plc 0 7 5 0) 15 5 rs1) 20 5 rs2) 25 1 0) 26 1 0)=(plc (plc 0 15 5 rs1) 20 5 rs2):=by
  have l:(plc (plc (plc (plc (plc 0 7 5 0) 15 5 rs1) 20 5 rs2) 25 1 0) 26 1 0)=0+2 ^ 7*(0 % 2 ^ 5)+2 ^ 15*(rs1 % 2 ^ 5)+2 ^ 20*(rs2 % 2 ^ 5)+2 ^ 25*(0 % 2 ^ 1)+2 ^ 26*(0 % 2 ^ 1):=by rw[c0,c1,c2,c3,c4]
  have r:(plc (plc 0 15 5 rs1) 20 5 rs2)=0+2 ^ 15*(rs1 % 2 ^ 5)+2 ^ 20*(rs2 % 2 ^ 5):=by rw[b0,b1]
  first|rfl|(rw[l,r];omega)
 rw[hA,hB]
 clear a0 a1 b0 b1 c0 c1 c2 c3 c4 d0 d1 d2 d3 hA hB
 rw[ZP (0+2 ^ 0*(o % 2 ^ 7)+2 ^ 12*((fld a3 0 3) % 2 ^ 3)) _ 20 5 _ (by omega)]
 rw[ZP (0+2 ^ 0*(o % 2 ^ 7)+2 ^ 12*((fld a3 0 3) % 2 ^ 3)) _ 15 5 _ (by omega)]
 rw[Nat.or_zero]
 have e0:plc (0+2 ^ 0*(o % 2 ^ 7)+2 ^ 12*((fld a3 0 3) % 2 ^ 3)) 15 5 rs1=0+2 ^ 0*(o % 2 ^ 7)+2 ^ 12*((fld a3 0 3) % 2 ^ 3)+2 ^ 15*(rs1 % 2 ^ 5):=Z2 _ _ _ _ (by omega)
 have e1:plc (0+2 ^ 0*(o % 2 ^ 7)+2 ^ 12*((fld a3 0 3) % 2 ^ 3)+2 ^ 15*(rs1 % 2 ^ 5)) 20 5 rs2=0+2 ^ 0*(o % 2 ^ 7)+2 ^ 12*((fld a3 0 3) % 2 ^ 3)+2 ^ 15*(rs1 % 2 ^ 5)+2 ^ 20*(rs2 % 2 ^ 5):=Z2 _ _ _ _ (by omega)
 rw[e0,e1]
 clear e0 e1
 rw[ZP (0+2 ^ 0*(o % 2 ^ 7)+2 ^ 12*((fld a3 0 3) % 2 ^ 3)+2 ^ 15*(rs1 % 2 ^ 5)+2 ^ 20*(rs2 % 2 ^ 5)) _ 7 1 _ (by omega)]
 rw[ZP (0+2 ^ 0*(o % 2 ^ 7)+2 ^ 12*((fld a3 0 3) % 2 ^ 3)+2 ^ 15*(rs1 % 2 ^ 5)+2 ^ 20*(rs2 % 2 ^ 5)) _ 8 4 _ (by omega)]
 rw[ZP (0+2 ^ 0*(o % 2 ^ 7)+2 ^ 12*((fld a3 0 3) % 2 ^ 3)+2 ^ 15*(rs1 % 2 ^ 5)+2 ^ 20*(rs2 % 2 ^ 5)) _ 25 6 _ (by omega)]
 rw[ZP (0+2 ^ 0*(o % 2 ^ 7)+2 ^ 12*((fld a3 0 3) % 2 ^ 3)+2 ^ 15*(rs1 % 2 ^ 5)+2 ^ 20*(rs2 % 2 ^ 5)) _ 31 1 _ (by omega)]
 rw[Nat.or_zero]
 have g0:plc (0+2 ^ 0*(o % 2 ^ 7)+2 ^ 12*((fld a3 0 3) % 2 ^ 3)+2 ^ 15*(rs1 % 2 ^ 5)+2 ^ 20*(rs2 % 2 ^ 5)) 31 1 (fld X 12 1)=0+2 ^ 0*(o % 2 ^ 7)+2 ^ 12*((fld a3 0 3) % 2 ^ 3)+2 ^ 15*(rs1 % 2 ^ 5)+2 ^ 20*(rs2 % 2 ^ 5)+2 ^ 31*((fld X 12 1) % 2 ^ 1):=Z2 _ _ _ _ (by omega)
 have g1:plc (0+2 ^ 0*(o % 2 ^ 7)+2 ^ 12*((fld a3 0 3) % 2 ^ 3)+2 ^ 15*(rs1 % 2 ^ 5)+2 ^ 20*(rs2 % 2 ^ 5)+2 ^ 31*((fld X 12 1) % 2 ^ 1)) 25 6 (fld X 5 6)=0+2 ^ 0*(o % 2 ^ 7)+2 ^ 12*((fld a3 0 3) % 2 ^ 3)+2 ^ 15*(rs1 % 2 ^ 5)+2 ^ 20*(rs2 % 2 ^ 5)+2 ^ 31*((fld X 12 1) % 2 ^ 1)+2 ^ 25*((fld X 5 6) % 2 ^ 6):=Z2 _ _ _ _ (by omega)
 have g2:plc (0+2 ^ 0*(o % 2 ^ 7)+2 ^ 12*((fld a3 0 3) % 2 ^ 3)+2 ^ 15*(rs1 % 2 ^ 5)+2 ^ 20*(rs2 % 2 ^ 5)+2 ^ 31*((fld X 12 1) % 2 ^ 1)+2 ^ 25*((fld X 5 6) % 2 ^ 6)) 8 4 (fld X 1 4)=0+2 ^ 0*(o % 2 ^ 7)+2 ^ 12*((fld a3 0 3) % 2 ^ 3)+2 ^ 15*(rs1 % 2 ^ 5)+2 ^ 20*(rs2 % 2 ^ 5)+2 ^ 31*((fld X 12 1) % 2 ^ 1)+2 ^ 25*((fld X 5 6) % 2 ^ 6)+2 ^ 8*((fld X 1 4) % 2 ^ 4):=Z2 _ _ _ _ (by omega)
 have g3:plc (0+2 ^ 0*(o % 2 ^ 7)+2 ^ 12*((fld a3 0 3) % 2 ^ 3)+2 ^ 15*(rs1 % 2 ^ 5)+2 ^ 20*(rs2 % 2 ^ 5)+2 ^ 31*((fld X 12 1) % 2 ^ 1)+2 ^ 25*((fld X 5 6) % 2 ^ 6)+2 ^ 8*((fld X 1 4) % 2 ^ 4)) 7 1 (fld X 11 1)=0+2 ^ 0*(o % 2 ^ 7)+2 ^ 12*((fld a3 0 3) % 2 ^ 3)+2 ^ 15*(rs1 % 2 ^ 5)+2 ^ 20*(rs2 % 2 ^ 5)+2 ^ 31*((fld X 12 1) % 2 ^ 1)+2 ^ 25*((fld X 5 6) % 2 ^ 6)+2 ^ 8*((fld X 1 4) % 2 ^ 4)+2 ^ 7*((fld X 11 1) % 2 ^ 1):=Z2 _ _ _ _ (by omega)
 rw[g0,g1,g2,g3]
theorem Z4h(o a3 a7 rd rs1 rs2 aq rl X:Nat)(ho:o<128)(h3:a3<8)(h7:a7<128)(hrd:rd<32)(hr1:rs1<32)(hr2:rs2<32)(hq:aq<2)(hl:rl<2):
  ((plc (plc 0 0 7 o) 12 3 (fld a3 0 3))|||(plc (plc (plc (plc (plc 0 7 5 0) 15 5 rs1) 20 5 rs2) 25 1 0) 26 1 0))|||(plc (plc 0 25 7 (fld X 5 7)) 7 5 (fld X 0 5))=0+2 ^ 0*(o % 2 ^ 7)+2 ^ 12*((fld a3 0 3) % 2 ^ 3)+2 ^ 15*(rs1 % 2 ^ 5)+2 ^ 20*(rs2 % 2 ^ 5)+2 ^ 25*((fld X 5 7) % 2 ^ 7)+2 ^ 7*((fld X 0 5) % 2 ^ 5):=by
 have f3:fld a3 0 3<8:=Z5 a3 0 3
 have a0:plc (0) 0 7 o=0+2 ^ 0*(o % 2 ^ 7):=Z2 _ _ _ _ (by omega)
 have a1:plc (0+2 ^ 0*(o % 2 ^ 7)) 12 3 (fld a3 0 3)=0+2 ^ 0*(o % 2 ^ 7)+2 ^ 12*((fld a3 0 3) % 2 ^ 3):=Z2 _ _ _ _ (by omega)
 have b0:plc (0) 15 5 rs1=0+2 ^ 15*(rs1 % 2 ^ 5):=Z2 _ _ _ _ (by omega)
 have b1:plc (0+2 ^ 15*(rs1 % 2 ^ 5)) 20 5 rs2=0+2 ^ 15*(rs1 % 2 ^ 5)+2 ^ 20*(rs2 % 2 ^ 5):=Z2 _ _ _ _ (by omega)
 have c0:plc (0) 7 5 0=0+2 ^ 7*(0 % 2 ^ 5):=Z2 _ _ _ _ (by omega)
 have c1:plc (0+2 ^ 7*(0 % 2 ^ 5)) 15 5 rs1=0+2 ^ 7*(0 % 2 ^ 5)+2 ^ 15*(rs1 % 2 ^ 5):=Z2 _ _ _ _ (by omega)
 have c2:plc (0+2 ^ 7*(0 % 2 ^ 5)+2 ^ 15*(rs1 % 2 ^ 5)) 20 5 rs2=0+2 ^ 7*(0 % 2 ^ 5)+2 ^ 15*(rs1 % 2 ^ 5)+2 ^ 20*(rs2 % 2 ^ 5):=Z2 _ _ _ _ (by omega)
 have c3:plc (0+2 ^ 7*(0 % 2 ^ 5)+2 ^ 15*(rs1 % 2 ^ 5)+2 ^ 20*(rs2 % 2 ^ 5)) 25 1 0=0+2 ^ 7*(0 % 2 ^ 5)+2 ^ 15*(rs1 % 2 ^ 5)+2 ^ 20*(rs2 % 2 ^ 5)+2 ^ 25*(0 % 2 ^ 1):=Z2 _ _ _ _ (by omega)
 have c4:plc (0+2 ^ 7*(0 % 2 ^ 5)+2 ^ 15*(rs1 % 2 ^ 5)+2 ^ 20*(rs2 % 2 ^ 5)+2 ^ 25*(0 % 2 ^ 1)) 26 1 0=0+2 ^ 7*(0 % 2 ^ 5)+2 ^ 15*(rs1 % 2 ^ 5)+2 ^ 20*(rs2 % 2 ^ 5)+2 ^ 25*(0 % 2 ^ 1)+2 ^ 26*(0 % 2 ^ 1):=Z2 _ _ _ _ (by omega)
 have d0:plc (0) 25 7 (fld X 5 7)=0+2 ^ 25*((fld X 5 7) % 2 ^ 7):=Z2 _ _ _ _ (by omega)
 have d1:plc (0+2 ^ 25*((fld X 5 7) % 2 ^ 7)) 7 5 (fld X 0 5)=0+2 ^ 25*((fld X 5 7) % 2 ^ 7)+2 ^ 7*((fld X 0 5) % 2 ^ 5):=Z2 _ _ _ _ (by omega)
 have hA:(plc (plc 0 0 7 o) 12 3 (fld a3 0 3))=0+2 ^ 0*(o % 2 ^ 7)+2 ^ 12*((fld a3 0 3) % 2 ^ 3):=by rw[a0,a1]
 have hB:(plc (plc (plc (plc (plc 0 7 5 0) 15 5 rs1) 20 5 rs2) 25 1 0) 26 1 0)=(plc (plc 0 15 5 rs1) 20 5 rs2):=by
  have l:(plc (plc (plc (plc (plc 0 7 5 0) 15 5 rs1) 20 5 rs2) 25 1 0) 26 1 0)=0+2 ^ 7*(0 % 2 ^ 5)+2 ^ 15*(rs1 % 2 ^ 5)+2 ^ 20*(rs2 % 2 ^ 5)+2 ^ 25*(0 % 2 ^ 1)+2 ^ 26*(0 % 2 ^ 1):=by rw[c0,c1,c2,c3,c4]
  have r:(plc (plc 0 15 5 rs1) 20 5 rs2)=0+2 ^ 15*(rs1 % 2 ^ 5)+2 ^ 20*(rs2 % 2 ^ 5):=by rw[b0,b1]
  first|rfl|(rw[l,r];omega)
 rw[hA,hB]
 clear a0 a1 b0 b1 c0 c1 c2 c3 c4 d0 d1 hA hB
 rw[ZP (0+2 ^ 0*(o % 2 ^ 7)+2 ^ 12*((fld a3 0 3) % 2 ^ 3)) _ 20 5 _ (by omega)]
 rw[ZP (0+2 ^ 0*(o % 2 ^ 7)+2 ^ 12*((fld a3 0 3) % 2 ^ 3)) _ 15 5 _ (by omega)]
 rw[Nat.or_zero]
 have e0:plc (0+2 ^ 0*(o % 2 ^ 7)+2 ^ 12*((fld a3 0 3) % 2 ^ 3)) 15 5 rs1=0+2 ^ 0*(o % 2 ^ 7)+2 ^ 12*((fld a3 0 3) % 2 ^ 3)+2 ^ 15*(rs1 % 2 ^ 5):=Z2 _ _ _ _ (by omega)
 have e1:plc (0+2 ^ 0*(o % 2 ^ 7)+2 ^ 12*((fld a3 0 3) % 2 ^ 3)+2 ^ 15*(rs1 % 2 ^ 5)) 20 5 rs2=0+2 ^ 0*(o % 2 ^ 7)+2 ^ 12*((fld a3 0 3) % 2 ^ 3)+2 ^ 15*(rs1 % 2 ^ 5)+2 ^ 20*(rs2 % 2 ^ 5):=Z2 _ _ _ _ (by omega)
 rw[e0,e1]
 clear e0 e1
 rw[ZP (0+2 ^ 0*(o % 2 ^ 7)+2 ^ 12*((fld a3 0 3) % 2 ^ 3)+2 ^ 15*(rs1 % 2 ^ 5)+2 ^ 20*(rs2 % 2 ^ 5)) _ 7 5 _ (by omega)]
 rw[ZP (0+2 ^ 0*(o % 2 ^ 7)+2 ^ 12*((fld a3 0 3) % 2 ^ 3)+2 ^ 15*(rs1 % 2 ^ 5)+2 ^ 20*(rs2 % 2 ^ 5)) _ 25 7 _ (by omega)]
 rw[Nat.or_zero]
 have g0:plc (0+2 ^ 0*(o % 2 ^ 7)+2 ^ 12*((fld a3 0 3) % 2 ^ 3)+2 ^ 15*(rs1 % 2 ^ 5)+2 ^ 20*(rs2 % 2 ^ 5)) 25 7 (fld X 5 7)=0+2 ^ 0*(o % 2 ^ 7)+2 ^ 12*((fld a3 0 3) % 2 ^ 3)+2 ^ 15*(rs1 % 2 ^ 5)+2 ^ 20*(rs2 % 2 ^ 5)+2 ^ 25*((fld X 5 7) % 2 ^ 7):=Z2 _ _ _ _ (by omega)
 have g1:plc (0+2 ^ 0*(o % 2 ^ 7)+2 ^ 12*((fld a3 0 3) % 2 ^ 3)+2 ^ 15*(rs1 % 2 ^ 5)+2 ^ 20*(rs2 % 2 ^ 5)+2 ^ 25*((fld X 5 7) % 2 ^ 7)) 7 5 (fld X 0 5)=0+2 ^ 0*(o % 2 ^ 7)+2 ^ 12*((fld a3 0 3) % 2 ^ 3)+2 ^ 15*(rs1 % 2 ^ 5)+2 ^ 20*(rs2 % 2 ^ 5)+2 ^ 25*((fld X 5 7) % 2 ^ 7)+2 ^ 7*((fld X 0 5) % 2 ^ 5):=Z2 _ _ _ _ (by omega)
 rw[g0,g1]
theorem Z4i(o a3 a7 rd rs1 rs2 aq rl X:Nat)(ho:o<128)(h3:a3<8)(h7:a7<128)(hrd:rd<32)(hr1:rs1<32)(hr2:rs2<32)(hq:aq<2)(hl:rl<2):
  ((plc (plc (plc 0 0 7 o) 12 3 (fld a3 0 3)) 26 6 (fld a7 1 6))|||(plc (plc (plc (plc (plc 0 7 5 rd) 15 5 rs1) 20 5 0) 25 1 0) 26 1 0))|||(plc 0 20 6 (fld X 0 6))=0+2 ^ 0*(o % 2 ^ 7)+2 ^ 12*((fld a3 0 3) % 2 ^ 3)+2 ^ 26*((fld a7 1 6) % 2 ^ 6)+2 ^ 7*(rd % 2 ^ 5)+2 ^ 15*(rs1 % 2 ^ 5)+2 ^ 20*((fld X 0 6) % 2 ^ 6):=by
 have f3:fld a3 0 3<8:=Z5 a3 0 3
 have f7:fld a7 1 6<2 ^ 6:=Z5 a7 1 6
 have a0:plc (0) 0 7 o=0+2 ^ 0*(o % 2 ^ 7):=Z2 _ _ _ _ (by omega)
 have a1:plc (0+2 ^ 0*(o % 2 ^ 7)) 12 3 (fld a3 0 3)=0+2 ^ 0*(o % 2 ^ 7)+2 ^ 12*((fld a3 0 3) % 2 ^ 3):=Z2 _ _ _ _ (by omega)
 have a2:plc (0+2 ^ 0*(o % 2 ^ 7)+2 ^ 12*((fld a3 0 3) % 2 ^ 3)) 26 6 (fld a7 1 6)=0+2 ^ 0*(o % 2 ^ 7)+2 ^ 12*((fld a3 0 3) % 2 ^ 3)+2 ^ 26*((fld a7 1 6) % 2 ^ 6):=Z2 _ _ _ _ (by omega)
 have b0:plc (0) 7 5 rd=0+2 ^ 7*(rd % 2 ^ 5):=Z2 _ _ _ _ (by omega)
 have b1:plc (0+2 ^ 7*(rd % 2 ^ 5)) 15 5 rs1=0+2 ^ 7*(rd % 2 ^ 5)+2 ^ 15*(rs1 % 2 ^ 5):=Z2 _ _ _ _ (by omega)
 have c0:plc (0) 7 5 rd=0+2 ^ 7*(rd % 2 ^ 5):=Z2 _ _ _ _ (by omega)
 have c1:plc (0+2 ^ 7*(rd % 2 ^ 5)) 15 5 rs1=0+2 ^ 7*(rd % 2 ^ 5)+2 ^ 15*(rs1 % 2 ^ 5):=Z2 _ _ _ _ (by omega)
 have c2:plc (0+2 ^ 7*(rd % 2 ^ 5)+2 ^ 15*(rs1 % 2 ^ 5)) 20 5 0=0+2 ^ 7*(rd % 2 ^ 5)+2 ^ 15*(rs1 % 2 ^ 5)+2 ^ 20*(0 % 2 ^ 5):=Z2 _ _ _ _ (by omega)
 have c3:plc (0+2 ^ 7*(rd % 2 ^ 5)+2 ^ 15*(rs1 % 2 ^ 5)+2 ^ 20*(0 % 2 ^ 5)) 25 1 0=0+2 ^ 7*(rd % 2 ^ 5)+2 ^ 15*(rs1 % 2 ^ 5)+2 ^ 20*(0 % 2 ^ 5)+2 ^ 25*(0 % 2 ^ 1):=Z2 _ _ _ _ (by omega)
 have c4:plc (0+2 ^ 7*(rd % 2 ^ 5)+2 ^ 15*(rs1 % 2 ^ 5)+2 ^ 20*(0 % 2 ^ 5)+2 ^ 25*(0 % 2 ^ 1)) 26 1 0=0+2 ^ 7*(rd % 2 ^ 5)+2 ^ 15*(rs1 % 2 ^ 5)+2 ^ 20*(0 % 2 ^ 5)+2 ^ 25*(0 % 2 ^ 1)+2 ^ 26*(0 % 2 ^ 1):=Z2 _ _ _ _ (by omega)
 have d0:plc (0) 20 6 (fld X 0 6)=0+2 ^ 20*((fld X 0 6) % 2 ^ 6):=Z2 _ _ _ _ (by omega)
 have hA:(plc (plc (plc 0 0 7 o) 12 3 (fld a3 0 3)) 26 6 (fld a7 1 6))=0+2 ^ 0*(o % 2 ^ 7)+2 ^ 12*((fld a3 0 3) % 2 ^ 3)+2 ^ 26*((fld a7 1 6) % 2 ^ 6):=by rw[a0,a1,a2]
 have hB:(plc (plc (plc (plc (plc 0 7 5 rd) 15 5 rs1) 20 5 0) 25 1 0) 26 1 0)=(plc (plc 0 7 5 rd) 15 5 rs1):=by
  have l:(plc (plc (plc (plc (plc 0 7 5 rd) 15 5 rs1) 20 5 0) 25 1 0) 26 1 0)=0+2 ^ 7*(rd % 2 ^ 5)+2 ^ 15*(rs1 % 2 ^ 5)+2 ^ 20*(0 % 2 ^ 5)+2 ^ 25*(0 % 2 ^ 1)+2 ^ 26*(0 % 2 ^ 1):=by rw[c0,c1,c2,c3,c4]
  have r:(plc (plc 0 7 5 rd) 15 5 rs1)=0+2 ^ 7*(rd % 2 ^ 5)+2 ^ 15*(rs1 % 2 ^ 5):=by rw[b0,b1]
  first|rfl|(rw[l,r];omega)
 rw[hA,hB]
 clear a0 a1 a2 b0 b1 c0 c1 c2 c3 c4 d0 hA hB
 rw[ZP (0+2 ^ 0*(o % 2 ^ 7)+2 ^ 12*((fld a3 0 3) % 2 ^ 3)+2 ^ 26*((fld a7 1 6) % 2 ^ 6)) _ 15 5 _ (by omega)]
 rw[ZP (0+2 ^ 0*(o % 2 ^ 7)+2 ^ 12*((fld a3 0 3) % 2 ^ 3)+2 ^ 26*((fld a7 1 6) % 2 ^ 6)) _ 7 5 _ (by omega)]
 rw[Nat.or_zero]
 have e0:plc (0+2 ^ 0*(o % 2 ^ 7)+2 ^ 12*((fld a3 0 3) % 2 ^ 3)+2 ^ 26*((fld a7 1 6) % 2 ^ 6)) 7 5 rd=0+2 ^ 0*(o % 2 ^ 7)+2 ^ 12*((fld a3 0 3) % 2 ^ 3)+2 ^ 26*((fld a7 1 6) % 2 ^ 6)+2 ^ 7*(rd % 2 ^ 5):=Z2 _ _ _ _ (by omega)
 have e1:plc (0+2 ^ 0*(o % 2 ^ 7)+2 ^ 12*((fld a3 0 3) % 2 ^ 3)+2 ^ 26*((fld a7 1 6) % 2 ^ 6)+2 ^ 7*(rd % 2 ^ 5)) 15 5 rs1=0+2 ^ 0*(o % 2 ^ 7)+2 ^ 12*((fld a3 0 3) % 2 ^ 3)+2 ^ 26*((fld a7 1 6) % 2 ^ 6)+2 ^ 7*(rd % 2 ^ 5)+2 ^ 15*(rs1 % 2 ^ 5):=Z2 _ _ _ _ (by omega)
 rw[e0,e1]
 clear e0 e1
 rw[ZP (0+2 ^ 0*(o % 2 ^ 7)+2 ^ 12*((fld a3 0 3) % 2 ^ 3)+2 ^ 26*((fld a7 1 6) % 2 ^ 6)+2 ^ 7*(rd % 2 ^ 5)+2 ^ 15*(rs1 % 2 ^ 5)) _ 20 6 _ (by omega)]
 rw[Nat.or_zero]
 have g0:plc (0+2 ^ 0*(o % 2 ^ 7)+2 ^ 12*((fld a3 0 3) % 2 ^ 3)+2 ^ 26*((fld a7 1 6) % 2 ^ 6)+2 ^ 7*(rd % 2 ^ 5)+2 ^ 15*(rs1 % 2 ^ 5)) 20 6 (fld X 0 6)=0+2 ^ 0*(o % 2 ^ 7)+2 ^ 12*((fld a3 0 3) % 2 ^ 3)+2 ^ 26*((fld a7 1 6) % 2 ^ 6)+2 ^ 7*(rd % 2 ^ 5)+2 ^ 15*(rs1 % 2 ^ 5)+2 ^ 20*((fld X 0 6) % 2 ^ 6):=Z2 _ _ _ _ (by omega)
 rw[g0]
theorem Z4j(o a3 a7 rd rs1 rs2 aq rl X:Nat)(ho:o<128)(h3:a3<8)(h7:a7<128)(hrd:rd<32)(hr1:rs1<32)(hr2:rs2<32)(hq:aq<2)(hl:rl<2):
  ((plc (plc (plc 0 0 7 o) 12 3 (fld a3 0 3)) 25 7 (fld a7 0 7))|||(plc (plc (plc (plc (plc 0 7 5 rd) 15 5 rs1) 20 5 0) 25 1 0) 26 1 0))|||(plc 0 20 5 (fld X 0 5))=0+2 ^ 0*(o % 2 ^ 7)+2 ^ 12*((fld a3 0 3) % 2 ^ 3)+2 ^ 25*((fld a7 0 7) % 2 ^ 7)+2 ^ 7*(rd % 2 ^ 5)+2 ^ 15*(rs1 % 2 ^ 5)+2 ^ 20*((fld X 0 5) % 2 ^ 5):=by
 have f3:fld a3 0 3<8:=Z5 a3 0 3
 have f7:fld a7 0 7<2 ^ 7:=Z5 a7 0 7
 have a0:plc (0) 0 7 o=0+2 ^ 0*(o % 2 ^ 7):=Z2 _ _ _ _ (by omega)
 have a1:plc (0+2 ^ 0*(o % 2 ^ 7)) 12 3 (fld a3 0 3)=0+2 ^ 0*(o % 2 ^ 7)+2 ^ 12*((fld a3 0 3) % 2 ^ 3):=Z2 _ _ _ _ (by omega)
 have a2:plc (0+2 ^ 0*(o % 2 ^ 7)+2 ^ 12*((fld a3 0 3) % 2 ^ 3)) 25 7 (fld a7 0 7)=0+2 ^ 0*(o % 2 ^ 7)+2 ^ 12*((fld a3 0 3) % 2 ^ 3)+2 ^ 25*((fld a7 0 7) % 2 ^ 7):=Z2 _ _ _ _ (by omega)
 have b0:plc (0) 7 5 rd=0+2 ^ 7*(rd % 2 ^ 5):=Z2 _ _ _ _ (by omega)
 have b1:plc (0+2 ^ 7*(rd % 2 ^ 5)) 15 5 rs1=0+2 ^ 7*(rd % 2 ^ 5)+2 ^ 15*(rs1 % 2 ^ 5):=Z2 _ _ _ _ (by omega)
 have c0:plc (0) 7 5 rd=0+2 ^ 7*(rd % 2 ^ 5):=Z2 _ _ _ _ (by omega)
 have c1:plc (0+2 ^ 7*(rd % 2 ^ 5)) 15 5 rs1=0+2 ^ 7*(rd % 2 ^ 5)+2 ^ 15*(rs1 % 2 ^ 5):=Z2 _ _ _ _ (by omega)
 have c2:plc (0+2 ^ 7*(rd % 2 ^ 5)+2 ^ 15*(rs1 % 2 ^ 5)) 20 5 0=0+2 ^ 7*(rd % 2 ^ 5)+2 ^ 15*(rs1 % 2 ^ 5)+2 ^ 20*(0 % 2 ^ 5):=Z2 _ _ _ _ (by omega)
 have c3:plc (0+2 ^ 7*(rd % 2 ^ 5)+2 ^ 15*(rs1 % 2 ^ 5)+2 ^ 20*(0 % 2 ^ 5)) 25 1 0=0+2 ^ 7*(rd % 2 ^ 5)+2 ^ 15*(rs1 % 2 ^ 5)+2 ^ 20*(0 % 2 ^ 5)+2 ^ 25*(0 % 2 ^ 1):=Z2 _ _ _ _ (by omega)
 have c4:plc (0+2 ^ 7*(rd % 2 ^ 5)+2 ^ 15*(rs1 % 2 ^ 5)+2 ^ 20*(0 % 2 ^ 5)+2 ^ 25*(0 % 2 ^ 1)) 26 1 0=0+2 ^ 7*(rd % 2 ^ 5)+2 ^ 15*(rs1 % 2 ^ 5)+2 ^ 20*(0 % 2 ^ 5)+2 ^ 25*(0 % 2 ^ 1)+2 ^ 26*(0 % 2 ^ 1):=Z2 _ _ _ _ (by omega)
 have d0:plc (0) 20 5 (fld X 0 5)=0+2 ^ 20*((fld X 0 5) % 2 ^ 5):=Z2 _ _ _ _ (by omega)
 have hA:(plc (plc (plc 0 0 7 o) 12 3 (fld a3 0 3)) 25 7 (fld a7 0 7))=0+2 ^ 0*(o % 2 ^ 7)+2 ^ 12*((fld a3 0 3) % 2 ^ 3)+2 ^ 25*((fld a7 0 7) % 2 ^ 7):=by rw[a0,a1,a2]
 have hB:(plc (plc (plc (plc (plc 0 7 5 rd) 15 5 rs1) 20 5 0) 25 1 0) 26 1 0)=(plc (plc 0 7 5 rd) 15 5 rs1):=by
  have l:(plc (plc (plc (plc (plc 0 7 5 rd) 15 5 rs1) 20 5 0) 25 1 0) 26 1 0)=0+2 ^ 7*(rd % 2 ^ 5)+2 ^ 15*(rs1 % 2 ^ 5)+2 ^ 20*(0 % 2 ^ 5)+2 ^ 25*(0 % 2 ^ 1)+2 ^ 26*(0 % 2 ^ 1):=by rw[c0,c1,c2,c3,c4]
  have r:(plc (plc 0 7 5 rd) 15 5 rs1)=0+2 ^ 7*(rd % 2 ^ 5)+2 ^ 15*(rs1 % 2 ^ 5):=by rw[b0,b1]
  first|rfl|(rw[l,r];omega)
 rw[hA,hB]
 clear a0 a1 a2 b0 b1 c0 c1 c2 c3 c4 d0 hA hB
 rw[ZP (0+2 ^ 0*(o % 2 ^ 7)+2 ^ 12*((fld a3 0 3) % 2 ^ 3)+2 ^ 25*((fld a7 0 7) % 2 ^ 7)) _ 15 5 _ (by omega)]
 rw[ZP (0+2 ^ 0*(o % 2 ^ 7)+2 ^ 12*((fld a3 0 3) % 2 ^ 3)+2 ^ 25*((fld a7 0 7) % 2 ^ 7)) _ 7 5 _ (by omega)]
 rw[Nat.or_zero]
 have e0:plc (0+2 ^ 0*(o % 2 ^ 7)+2 ^ 12*((fld a3 0 3) % 2 ^ 3)+2 ^ 25*((fld a7 0 7) % 2 ^ 7)) 7 5 rd=0+2 ^ 0*(o % 2 ^ 7)+2 ^ 12*((fld a3 0 3) % 2 ^ 3)+2 ^ 25*((fld a7 0 7) % 2 ^ 7)+2 ^ 7*(rd % 2 ^ 5):=Z2 _ _ _ _ (by omega)
 have e1:plc (0+2 ^ 0*(o % 2 ^ 7)+2 ^ 12*((fld a3 0 3) % 2 ^ 3)+2 ^ 25*((fld a7 0 7) % 2 ^ 7)+2 ^ 7*(rd % 2 ^ 5)) 15 5 rs1=0+2 ^ 0*(o % 2 ^ 7)+2 ^ 12*((fld a3 0 3) % 2 ^ 3)+2 ^ 25*((fld a7 0 7) % 2 ^ 7)+2 ^ 7*(rd % 2 ^ 5)+2 ^ 15*(rs1 % 2 ^ 5):=Z2 _ _ _ _ (by omega)
 rw[e0,e1]
 clear e0 e1
 rw[ZP (0+2 ^ 0*(o % 2 ^ 7)+2 ^ 12*((fld a3 0 3) % 2 ^ 3)+2 ^ 25*((fld a7 0 7) % 2 ^ 7)+2 ^ 7*(rd % 2 ^ 5)+2 ^ 15*(rs1 % 2 ^ 5)) _ 20 5 _ (by omega)]
 rw[Nat.or_zero]
 have g0:plc (0+2 ^ 0*(o % 2 ^ 7)+2 ^ 12*((fld a3 0 3) % 2 ^ 3)+2 ^ 25*((fld a7 0 7) % 2 ^ 7)+2 ^ 7*(rd % 2 ^ 5)+2 ^ 15*(rs1 % 2 ^ 5)) 20 5 (fld X 0 5)=0+2 ^ 0*(o % 2 ^ 7)+2 ^ 12*((fld a3 0 3) % 2 ^ 3)+2 ^ 25*((fld a7 0 7) % 2 ^ 7)+2 ^ 7*(rd % 2 ^ 5)+2 ^ 15*(rs1 % 2 ^ 5)+2 ^ 20*((fld X 0 5) % 2 ^ 5):=Z2 _ _ _ _ (by omega)
 rw[g0]
theorem Z4k(o a3 a7 rd rs1 rs2 aq rl X:Nat)(ho:o<128)(h3:a3<8)(h7:a7<128)(hrd:rd<32)(hr1:rs1<32)(hr2:rs2<32)(hq:aq<2)(hl:rl<2):
  ((plc (plc (plc 0 0 7 o) 12 3 (fld a3 0 3)) 25 7 (fld a7 0 7))|||(plc (plc (plc (plc (plc 0 7 5 rd) 15 5 rs1) 20 5 rs2) 25 1 0) 26 1 0))|||0=0+2 ^ 0*(o % 2 ^ 7)+2 ^ 12*((fld a3 0 3) % 2 ^ 3)+2 ^ 25*((fld a7 0 7) % 2 ^ 7)+2 ^ 7*(rd % 2 ^ 5)+2 ^ 15*(rs1 % 2 ^ 5)+2 ^ 20*(rs2 % 2 ^ 5):=by
 have f3:fld a3 0 3<8:=Z5 a3 0 3
 have f7:fld a7 0 7<2 ^ 7:=Z5 a7 0 7
 have a0:plc (0) 0 7 o=0+2 ^ 0*(o % 2 ^ 7):=Z2 _ _ _ _ (by omega)
 have a1:plc (0+2 ^ 0*(o % 2 ^ 7)) 12 3 (fld a3 0 3)=0+2 ^ 0*(o % 2 ^ 7)+2 ^ 12*((fld a3 0 3) % 2 ^ 3):=Z2 _ _ _ _ (by omega)
 have a2:plc (0+2 ^ 0*(o % 2 ^ 7)+2 ^ 12*((fld a3 0 3) % 2 ^ 3)) 25 7 (fld a7 0 7)=0+2 ^ 0*(o % 2 ^ 7)+2 ^ 12*((fld a3 0 3) % 2 ^ 3)+2 ^ 25*((fld a7 0 7) % 2 ^ 7):=Z2 _ _ _ _ (by omega)
 have b0:plc (0) 7 5 rd=0+2 ^ 7*(rd % 2 ^ 5):=Z2 _ _ _ _ (by omega)
 have b1:plc (0+2 ^ 7*(rd % 2 ^ 5)) 15 5 rs1=0+2 ^ 7*(rd % 2 ^ 5)+2 ^ 15*(rs1 % 2 ^ 5):=Z2 _ _ _ _ (by omega)
 have b2:plc (0+2 ^ 7*(rd % 2 ^ 5)+2 ^ 15*(rs1 % 2 ^ 5)) 20 5 rs2=0+2 ^ 7*(rd % 2 ^ 5)+2 ^ 15*(rs1 % 2 ^ 5)+2 ^ 20*(rs2 % 2 ^ 5):=Z2 _ _ _ _ (by omega)
 have c0:plc (0) 7 5 rd=0+2 ^ 7*(rd % 2 ^ 5):=Z2 _ _ _ _ (by omega)
 have c1:plc (0+2 ^ 7*(rd % 2 ^ 5)) 15 5 rs1=0+2 ^ 7*(rd % 2 ^ 5)+2 ^ 15*(rs1 % 2 ^ 5):=Z2 _ _ _ _ (by omega)
 have c2:plc (0+2 ^ 7*(rd % 2 ^ 5)+2 ^ 15*(rs1 % 2 ^ 5)) 20 5 rs2=0+2 ^ 7*(rd % 2 ^ 5)+2 ^ 15*(rs1 % 2 ^ 5)+2 ^ 20*(rs2 % 2 ^ 5):=Z2 _ _ _ _ (by omega)
 have c3:plc (0+2 ^ 7*(rd % 2 ^ 5)+2 ^ 15*(rs1 % 2 ^ 5)+2 ^ 20*(rs2 % 2 ^ 5)) 25 1 0=0+2 ^ 7*(rd % 2 ^ 5)+2 ^ 15*(rs1 % 2 ^ 5)+2 ^ 20*(rs2 % 2 ^ 5)+2 ^ 25*(0 % 2 ^ 1):=Z2 _ _ _ _ (by omega)
 have c4:plc (0+2 ^ 7*(rd % 2 ^ 5)+2 ^ 15*(rs1 % 2 ^ 5)+2 ^ 20*(rs2 % 2 ^ 5)+2 ^ 25*(0 % 2 ^ 1)) 26 1 0=0+2 ^ 7*(rd % 2 ^ 5)+2 ^ 15*(rs1 % 2 ^ 5)+2 ^ 20*(rs2 % 2 ^ 5)+2 ^ 25*(0 % 2 ^ 1)+2 ^ 26*(0 % 2 ^ 1):=Z2 _ _ _ _ (by omega)
 have hA:(plc (plc (plc 0 0 7 o) 12 3 (fld a3 0 3)) 25 7 (fld a7 0 7))=0+2 ^ 0*(o % 2 ^ 7)+2 ^ 12*((fld a3 0 3) % 2 ^ 3)+2 ^ 25*((fld a7 0 7) % 2 ^ 7):=by rw[a0,a1,a2]
 have hB:(plc (plc (plc (plc (plc 0 7 5 rd) 15 5 rs1) 20 5 rs2) 25 1 0) 26 1 0)=(plc (plc (plc 0 7 5 rd) 15 5 rs1) 20 5 rs2):=by
  have l:(plc (plc (plc (plc (plc 0 7 5 rd) 15 5 rs1) 20 5 rs2) 25 1 0) 26 1 0)=0+2 ^ 7*(rd % 2 ^ 5)+2 ^ 15*(rs1 % 2 ^ 5)+2 ^ 20*(rs2 % 2 ^ 5)+2 ^ 25*(0 % 2 ^ 1)+2 ^ 26*(0 % 2 ^ 1):=by rw[c0,c1,c2,c3,c4]
  have r:(plc (plc (plc 0 7 5 rd) 15 5 rs1) 20 5 rs2)=0+2 ^ 7*(rd % 2 ^ 5)+2 ^ 15*(rs1 % 2 ^ 5)+2 ^ 20*(rs2 % 2 ^ 5):=by rw[b0,b1,b2]
  first|rfl|(rw[l,r];omega)
 rw[hA,hB]
 rw[Nat.or_zero]
 clear a0 a1 a2 b0 b1 b2 c0 c1 c2 c3 c4 hA hB
 rw[ZP (0+2 ^ 0*(o % 2 ^ 7)+2 ^ 12*((fld a3 0 3) % 2 ^ 3)+2 ^ 25*((fld a7 0 7) % 2 ^ 7)) _ 20 5 _ (by omega)]
 rw[ZP (0+2 ^ 0*(o % 2 ^ 7)+2 ^ 12*((fld a3 0 3) % 2 ^ 3)+2 ^ 25*((fld a7 0 7) % 2 ^ 7)) _ 15 5 _ (by omega)]
 rw[ZP (0+2 ^ 0*(o % 2 ^ 7)+2 ^ 12*((fld a3 0 3) % 2 ^ 3)+2 ^ 25*((fld a7 0 7) % 2 ^ 7)) _ 7 5 _ (by omega)]
 rw[Nat.or_zero]
 have e0:plc (0+2 ^ 0*(o % 2 ^ 7)+2 ^ 12*((fld a3 0 3) % 2 ^ 3)+2 ^ 25*((fld a7 0 7) % 2 ^ 7)) 7 5 rd=0+2 ^ 0*(o % 2 ^ 7)+2 ^ 12*((fld a3 0 3) % 2 ^ 3)+2 ^ 25*((fld a7 0 7) % 2 ^ 7)+2 ^ 7*(rd % 2 ^ 5):=Z2 _ _ _ _ (by omega)
 have e1:plc (0+2 ^ 0*(o % 2 ^ 7)+2 ^ 12*((fld a3 0 3) % 2 ^ 3)+2 ^ 25*((fld a7 0 7) % 2 ^ 7)+2 ^ 7*(rd % 2 ^ 5)) 15 5 rs1=0+2 ^ 0*(o % 2 ^ 7)+2 ^ 12*((fld a3 0 3) % 2 ^ 3)+2 ^ 25*((fld a7 0 7) % 2 ^ 7)+2 ^ 7*(rd % 2 ^ 5)+2 ^ 15*(rs1 % 2 ^ 5):=Z2 _ _ _ _ (by omega)
 have e2:plc (0+2 ^ 0*(o % 2 ^ 7)+2 ^ 12*((fld a3 0 3) % 2 ^ 3)+2 ^ 25*((fld a7 0 7) % 2 ^ 7)+2 ^ 7*(rd % 2 ^ 5)+2 ^ 15*(rs1 % 2 ^ 5)) 20 5 rs2=0+2 ^ 0*(o % 2 ^ 7)+2 ^ 12*((fld a3 0 3) % 2 ^ 3)+2 ^ 25*((fld a7 0 7) % 2 ^ 7)+2 ^ 7*(rd % 2 ^ 5)+2 ^ 15*(rs1 % 2 ^ 5)+2 ^ 20*(rs2 % 2 ^ 5):=Z2 _ _ _ _ (by omega)
 rw[e0,e1,e2]
theorem Z4l(o a3 a7 rd rs1 rs2 aq rl X:Nat)(ho:o<128)(h3:a3<8)(h7:a7<128)(hrd:rd<32)(hr1:rs1<32)(hr2:rs2<32)(hq:aq<2)(hl:rl<2):
  ((plc 0 0 7 o)|||(plc (plc (plc (plc (plc 0 7 5 0) 15 5 0) 20 5 0) 25 1 0) 26 1 0))|||(plc 0 20 8 (fld X 0 8))=0+2 ^ 0*(o % 2 ^ 7)+2 ^ 20*((fld X 0 8) % 2 ^ 8):=by
 have f3:fld a3 0 3<8:=Z5 a3 0 3
 have a0:plc (0) 0 7 o=0+2 ^ 0*(o % 2 ^ 7):=Z2 _ _ _ _ (by omega)
 have c0:plc (0) 7 5 0=0+2 ^ 7*(0 % 2 ^ 5):=Z2 _ _ _ _ (by omega)
 have c1:plc (0+2 ^ 7*(0 % 2 ^ 5)) 15 5 0=0+2 ^ 7*(0 % 2 ^ 5)+2 ^ 15*(0 % 2 ^ 5):=Z2 _ _ _ _ (by omega)
 have c2:plc (0+2 ^ 7*(0 % 2 ^ 5)+2 ^ 15*(0 % 2 ^ 5)) 20 5 0=0+2 ^ 7*(0 % 2 ^ 5)+2 ^ 15*(0 % 2 ^ 5)+2 ^ 20*(0 % 2 ^ 5):=Z2 _ _ _ _ (by omega)
 have c3:plc (0+2 ^ 7*(0 % 2 ^ 5)+2 ^ 15*(0 % 2 ^ 5)+2 ^ 20*(0 % 2 ^ 5)) 25 1 0=0+2 ^ 7*(0 % 2 ^ 5)+2 ^ 15*(0 % 2 ^ 5)+2 ^ 20*(0 % 2 ^ 5)+2 ^ 25*(0 % 2 ^ 1):=Z2 _ _ _ _ (by omega)
 have c4:plc (0+2 ^ 7*(0 % 2 ^ 5)+2 ^ 15*(0 % 2 ^ 5)+2 ^ 20*(0 % 2 ^ 5)+2 ^ 25*(0 % 2 ^ 1)) 26 1 0=0+2 ^ 7*(0 % 2 ^ 5)+2 ^ 15*(0 % 2 ^ 5)+2 ^ 20*(0 % 2 ^ 5)+2 ^ 25*(0 % 2 ^ 1)+2 ^ 26*(0 % 2 ^ 1):=Z2 _ _ _ _ (by omega)
 have d0:plc (0) 20 8 (fld X 0 8)=0+2 ^ 20*((fld X 0 8) % 2 ^ 8):=Z2 _ _ _ _ (by omega)
 have hA:(plc 0 0 7 o)=0+2 ^ 0*(o % 2 ^ 7):=by rw[a0]
 have hB:(plc (plc (plc (plc (plc 0 7 5 0) 15 5 0) 20 5 0) 25 1 0) 26 1 0)=0:=by rw[c0,c1,c2,c3,c4]
 rw[hA,hB]
 clear a0 c0 c1 c2 c3 c4 d0 hA hB
 rw[Nat.or_zero]
 rw[ZP (0+2 ^ 0*(o % 2 ^ 7)) _ 20 8 _ (by omega)]
 rw[Nat.or_zero]
 have g0:plc (0+2 ^ 0*(o % 2 ^ 7)) 20 8 (fld X 0 8)=0+2 ^ 0*(o % 2 ^ 7)+2 ^ 20*((fld X 0 8) % 2 ^ 8):=Z2 _ _ _ _ (by omega)
 rw[g0]
theorem Z2F(o a3 a7 rd rs1 rs2 aq rl X:Nat)(ho:o<128)(h3:a3<8)(h7:a7<128)(hrd:rd<32)(hr1:rs1<32)(hr2:rs2<32)(hq:aq<2)(hl:rl<2):
  ((plc (plc 0 0 7 o) 20 12 (fld a7 0 12))|||(plc (plc (plc (plc (plc 0 7 5 0) 15 5 0) 20 5 0) 25 1 0) 26 1 0))|||0=0+2 ^ 0*(o % 2 ^ 7)+2 ^ 20*((fld a7 0 12) % 2 ^ 12):=by
 have f3:fld a3 0 3<8:=Z5 a3 0 3
 have f7:fld a7 0 12<2 ^ 12:=Z5 a7 0 12
 have a0:plc (0) 0 7 o=0+2 ^ 0*(o % 2 ^ 7):=Z2 _ _ _ _ (by omega)
 have a1:plc (0+2 ^ 0*(o % 2 ^ 7)) 20 12 (fld a7 0 12)=0+2 ^ 0*(o % 2 ^ 7)+2 ^ 20*((fld a7 0 12) % 2 ^ 12):=Z2 _ _ _ _ (by omega)
 have c0:plc (0) 7 5 0=0+2 ^ 7*(0 % 2 ^ 5):=Z2 _ _ _ _ (by omega)
 have c1:plc (0+2 ^ 7*(0 % 2 ^ 5)) 15 5 0=0+2 ^ 7*(0 % 2 ^ 5)+2 ^ 15*(0 % 2 ^ 5):=Z2 _ _ _ _ (by omega)
 have c2:plc (0+2 ^ 7*(0 % 2 ^ 5)+2 ^ 15*(0 % 2 ^ 5)) 20 5 0=0+2 ^ 7*(0 % 2 ^ 5)+2 ^ 15*(0 % 2 ^ 5)+2 ^ 20*(0 % 2 ^ 5):=Z2 _ _ _ _ (by omega)
 have c3:plc (0+2 ^ 7*(0 % 2 ^ 5)+2 ^ 15*(0 % 2 ^ 5)+2 ^ 20*(0 % 2 ^ 5)) 25 1 0=0+2 ^ 7*(0 % 2 ^ 5)+2 ^ 15*(0 % 2 ^ 5)+2 ^ 20*(0 % 2 ^ 5)+2 ^ 25*(0 % 2 ^ 1):=Z2 _ _ _ _ (by omega)
 have c4:plc (0+2 ^ 7*(0 % 2 ^ 5)+2 ^ 15*(0 % 2 ^ 5)+2 ^ 20*(0 % 2 ^ 5)+2 ^ 25*(0 % 2 ^ 1)) 26 1 0=0+2 ^ 7*(0 % 2 ^ 5)+2 ^ 15*(0 % 2 ^ 5)+2 ^ 20*(0 % 2 ^ 5)+2 ^ 25*(0 % 2 ^ 1)+2 ^ 26*(0 % 2 ^ 1):=Z2 _ _ _ _ (by omega)
 have hA:(plc (plc 0 0 7 o) 20 12 (fld a7 0 12))=0+2 ^ 0*(o % 2 ^ 7)+2 ^ 20*((fld a7 0 12) % 2 ^ 12):=by rw[a0,a1]
 have hB:(plc (plc (plc (plc (plc 0 7 5 0) 15 5 0) 20 5 0) 25 1 0) 26 1 0)=0:=by rw[c0,c1,c2,c3,c4]
 rw[hA,hB]
 rw[Nat.or_zero]
 clear a0 a1 c0 c1 c2 c3 c4 hA hB
 rw[Nat.or_zero]
theorem Z2G(o a3 a7 rd rs1 rs2 aq rl X:Nat)(ho:o<128)(h3:a3<8)(h7:a7<128)(hrd:rd<32)(hr1:rs1<32)(hr2:rs2<32)(hq:aq<2)(hl:rl<2):
  ((plc (plc (plc 0 0 7 o) 12 3 (fld a3 0 3)) 27 5 (fld a7 0 5))|||(plc (plc (plc (plc (plc 0 7 5 rd) 15 5 rs1) 20 5 0) 25 1 rl) 26 1 aq))|||0=0+2 ^ 0*(o % 2 ^ 7)+2 ^ 12*((fld a3 0 3) % 2 ^ 3)+2 ^ 27*((fld a7 0 5) % 2 ^ 5)+2 ^ 7*(rd % 2 ^ 5)+2 ^ 15*(rs1 % 2 ^ 5)+2 ^ 25*(rl % 2 ^ 1)+2 ^ 26*(aq % 2 ^ 1):=by
 have f3:fld a3 0 3<8:=Z5 a3 0 3
 have f7:fld a7 0 5<2 ^ 5:=Z5 a7 0 5
 have a0:plc (0) 0 7 o=0+2 ^ 0*(o % 2 ^ 7):=Z2 _ _ _ _ (by omega)
 have a1:plc (0+2 ^ 0*(o % 2 ^ 7)) 12 3 (fld a3 0 3)=0+2 ^ 0*(o % 2 ^ 7)+2 ^ 12*((fld a3 0 3) % 2 ^ 3):=Z2 _ _ _ _ (by omega)
 have a2:plc (0+2 ^ 0*(o % 2 ^ 7)+2 ^ 12*((fld a3 0 3) % 2 ^ 3)) 27 5 (fld a7 0 5)=0+2 ^ 0*(o % 2 ^ 7)+2 ^ 12*((fld a3 0 3) % 2 ^ 3)+2 ^ 27*((fld a7 0 5) % 2 ^ 5):=Z2 _ _ _ _ (by omega)
 have b0:plc (0) 7 5 rd=0+2 ^ 7*(rd % 2 ^ 5):=Z2 _ _ _ _ (by omega)
 have b1:plc (0+2 ^ 7*(rd % 2 ^ 5)) 15 5 rs1=0+2 ^ 7*(rd % 2 ^ 5)+2 ^ 15*(rs1 % 2 ^ 5):=Z2 _ _ _ _ (by omega)
 have b2:plc (0+2 ^ 7*(rd % 2 ^ 5)+2 ^ 15*(rs1 % 2 ^ 5)) 25 1 rl=0+2 ^ 7*(rd % 2 ^ 5)+2 ^ 15*(rs1 % 2 ^ 5)+2 ^ 25*(rl % 2 ^ 1):=Z2 _ _ _ _ (by omega)
 have b3:plc (0+2 ^ 7*(rd % 2 ^ 5)+2 ^ 15*(rs1 % 2 ^ 5)+2 ^ 25*(rl % 2 ^ 1)) 26 1 aq=0+2 ^ 7*(rd % 2 ^ 5)+2 ^ 15*(rs1 % 2 ^ 5)+2 ^ 25*(rl % 2 ^ 1)+2 ^ 26*(aq % 2 ^ 1):=Z2 _ _ _ _ (by omega)
 have c0:plc (0) 7 5 rd=0+2 ^ 7*(rd % 2 ^ 5):=Z2 _ _ _ _ (by omega)
 have c1:plc (0+2 ^ 7*(rd % 2 ^ 5)) 15 5 rs1=0+2 ^ 7*(rd % 2 ^ 5)+2 ^ 15*(rs1 % 2 ^ 5):=Z2 _ _ _ _ (by omega)
 have c2:plc (0+2 ^ 7*(rd % 2 ^ 5)+2 ^ 15*(rs1 % 2 ^ 5)) 20 5 0=0+2 ^ 7*(rd % 2 ^ 5)+2 ^ 15*(rs1 % 2 ^ 5)+2 ^ 20*(0 % 2 ^ 5):=Z2 _ _ _ _ (by omega)
 have c3:plc (0+2 ^ 7*(rd % 2 ^ 5)+2 ^ 15*(rs1 % 2 ^ 5)+2 ^ 20*(0 % 2 ^ 5)) 25 1 rl=0+2 ^ 7*(rd % 2 ^ 5)+2 ^ 15*(rs1 % 2 ^ 5)+2 ^ 20*(0 % 2 ^ 5)+2 ^ 25*(rl % 2 ^ 1):=Z2 _ _ _ _ (by omega)
 have c4:plc (0+2 ^ 7*(rd % 2 ^ 5)+2 ^ 15*(rs1 % 2 ^ 5)+2 ^ 20*(0 % 2 ^ 5)+2 ^ 25*(rl % 2 ^ 1)) 26 1 aq=0+2 ^ 7*(rd % 2 ^ 5)+2 ^ 15*(rs1 % 2 ^ 5)+2 ^ 20*(0 % 2 ^ 5)+2 ^ 25*(rl % 2 ^ 1)+2 ^ 26*(aq % 2 ^ 1):=Z2 _ _ _ _ (by omega)
 have hA:(plc (plc (plc 0 0 7 o) 12 3 (fld a3 0 3)) 27 5 (fld a7 0 5))=0+2 ^ 0*(o % 2 ^ 7)+2 ^ 12*((fld a3 0 3) % 2 ^ 3)+2 ^ 27*((fld a7 0 5) % 2 ^ 5):=by rw[a0,a1,a2]
 have hB:(plc (plc (plc (plc (plc 0 7 5 rd) 15 5 rs1) 20 5 0) 25 1 rl) 26 1 aq)=(plc (plc (plc (plc 0 7 5 rd) 15 5 rs1) 25 1 rl) 26 1 aq):=by
  have l:(plc (plc (plc (plc (plc 0 7 5 rd) 15 5 rs1) 20 5 0) 25 1 rl) 26 1 aq)=0+2 ^ 7*(rd % 2 ^ 5)+2 ^ 15*(rs1 % 2 ^ 5)+2 ^ 20*(0 % 2 ^ 5)+2 ^ 25*(rl % 2 ^ 1)+2 ^ 26*(aq % 2 ^ 1):=by rw[c0,c1,c2,c3,c4]
  have r:(plc (plc (plc (plc 0 7 5 rd) 15 5 rs1) 25 1 rl) 26 1 aq)=0+2 ^ 7*(rd % 2 ^ 5)+2 ^ 15*(rs1 % 2 ^ 5)+2 ^ 25*(rl % 2 ^ 1)+2 ^ 26*(aq % 2 ^ 1):=by rw[b0,b1,b2,b3]
  first|rfl|(rw[l,r];omega)
 rw[hA,hB]
 rw[Nat.or_zero]
 clear a0 a1 a2 b0 b1 b2 b3 c0 c1 c2 c3 c4 hA hB
 rw[ZP (0+2 ^ 0*(o % 2 ^ 7)+2 ^ 12*((fld a3 0 3) % 2 ^ 3)+2 ^ 27*((fld a7 0 5) % 2 ^ 5)) _ 26 1 _ (by omega)]
 rw[ZP (0+2 ^ 0*(o % 2 ^ 7)+2 ^ 12*((fld a3 0 3) % 2 ^ 3)+2 ^ 27*((fld a7 0 5) % 2 ^ 5)) _ 25 1 _ (by omega)]
 rw[ZP (0+2 ^ 0*(o % 2 ^ 7)+2 ^ 12*((fld a3 0 3) % 2 ^ 3)+2 ^ 27*((fld a7 0 5) % 2 ^ 5)) _ 15 5 _ (by omega)]
 rw[ZP (0+2 ^ 0*(o % 2 ^ 7)+2 ^ 12*((fld a3 0 3) % 2 ^ 3)+2 ^ 27*((fld a7 0 5) % 2 ^ 5)) _ 7 5 _ (by omega)]
 rw[Nat.or_zero]
 have e0:plc (0+2 ^ 0*(o % 2 ^ 7)+2 ^ 12*((fld a3 0 3) % 2 ^ 3)+2 ^ 27*((fld a7 0 5) % 2 ^ 5)) 7 5 rd=0+2 ^ 0*(o % 2 ^ 7)+2 ^ 12*((fld a3 0 3) % 2 ^ 3)+2 ^ 27*((fld a7 0 5) % 2 ^ 5)+2 ^ 7*(rd % 2 ^ 5):=Z2 _ _ _ _ (by omega)
 have e1:plc (0+2 ^ 0*(o % 2 ^ 7)+2 ^ 12*((fld a3 0 3) % 2 ^ 3)+2 ^ 27*((fld a7 0 5) % 2 ^ 5)+2 ^ 7*(rd % 2 ^ 5)) 15 5 rs1=0+2 ^ 0*(o % 2 ^ 7)+2 ^ 12*((fld a3 0 3) % 2 ^ 3)+2 ^ 27*((fld a7 0 5) % 2 ^ 5)+2 ^ 7*(rd % 2 ^ 5)+2 ^ 15*(rs1 % 2 ^ 5):=Z2 _ _ _ _ (by omega)
 have e2:plc (0+2 ^ 0*(o % 2 ^ 7)+2 ^ 12*((fld a3 0 3) % 2 ^ 3)+2 ^ 27*((fld a7 0 5) % 2 ^ 5)+2 ^ 7*(rd % 2 ^ 5)+2 ^ 15*(rs1 % 2 ^ 5)) 25 1 rl=0+2 ^ 0*(o % 2 ^ 7)+2 ^ 12*((fld a3 0 3) % 2 ^ 3)+2 ^ 27*((fld a7 0 5) % 2 ^ 5)+2 ^ 7*(rd % 2 ^ 5)+2 ^ 15*(rs1 % 2 ^ 5)+2 ^ 25*(rl % 2 ^ 1):=Z2 _ _ _ _ (by omega)
 have e3:plc (0+2 ^ 0*(o % 2 ^ 7)+2 ^ 12*((fld a3 0 3) % 2 ^ 3)+2 ^ 27*((fld a7 0 5) % 2 ^ 5)+2 ^ 7*(rd % 2 ^ 5)+2 ^ 15*(rs1 % 2 ^ 5)+2 ^ 25*(rl % 2 ^ 1)) 26 1 aq=0+2 ^ 0*(o % 2 ^ 7)+2 ^ 12*((fld a3 0 3) % 2 ^ 3)+2 ^ 27*((fld a7 0 5) % 2 ^ 5)+2 ^ 7*(rd % 2 ^ 5)+2 ^ 15*(rs1 % 2 ^ 5)+2 ^ 25*(rl % 2 ^ 1)+2 ^ 26*(aq % 2 ^ 1):=Z2 _ _ _ _ (by omega)
 rw[e0,e1,e2,e3]
theorem Z2H(o a3 a7 rd rs1 rs2 aq rl X:Nat)(ho:o<128)(h3:a3<8)(h7:a7<128)(hrd:rd<32)(hr1:rs1<32)(hr2:rs2<32)(hq:aq<2)(hl:rl<2):
  ((plc (plc (plc 0 0 7 o) 12 3 (fld a3 0 3)) 27 5 (fld a7 0 5))|||(plc (plc (plc (plc (plc 0 7 5 rd) 15 5 rs1) 20 5 rs2) 25 1 rl) 26 1 aq))|||0=0+2 ^ 0*(o % 2 ^ 7)+2 ^ 12*((fld a3 0 3) % 2 ^ 3)+2 ^ 27*((fld a7 0 5) % 2 ^ 5)+2 ^ 7*(rd % 2 ^ 5)+2 ^ 15*(rs1 % 2 ^ 5)+2 ^ 20*(rs2 % 2 ^ 5)+2 ^ 25*(rl % 2 ^ 1)+2 ^ 26*(aq % 2 ^ 1):=by
 have f3:fld a3 0 3<8:=Z5 a3 0 3
 have f7:fld a7 0 5<2 ^ 5:=Z5 a7 0 5
 have a0:plc (0) 0 7 o=0+2 ^ 0*(o % 2 ^ 7):=Z2 _ _ _ _ (by omega)
 have a1:plc (0+2 ^ 0*(o % 2 ^ 7)) 12 3 (fld a3 0 3)=0+2 ^ 0*(o % 2 ^ 7)+2 ^ 12*((fld a3 0 3) % 2 ^ 3):=Z2 _ _ _ _ (by omega)
 have a2:plc (0+2 ^ 0*(o % 2 ^ 7)+2 ^ 12*((fld a3 0 3) % 2 ^ 3)) 27 5 (fld a7 0 5)=0+2 ^ 0*(o % 2 ^ 7)+2 ^ 12*((fld a3 0 3) % 2 ^ 3)+2 ^ 27*((fld a7 0 5) % 2 ^ 5):=Z2 _ _ _ _ (by omega)
 have b0:plc (0) 7 5 rd=0+2 ^ 7*(rd % 2 ^ 5):=Z2 _ _ _ _ (by omega)
 have b1:plc (0+2 ^ 7*(rd % 2 ^ 5)) 15 5 rs1=0+2 ^ 7*(rd % 2 ^ 5)+2 ^ 15*(rs1 % 2 ^ 5):=Z2 _ _ _ _ (by omega)
 have b2:plc (0+2 ^ 7*(rd % 2 ^ 5)+2 ^ 15*(rs1 % 2 ^ 5)) 20 5 rs2=0+2 ^ 7*(rd % 2 ^ 5)+2 ^ 15*(rs1 % 2 ^ 5)+2 ^ 20*(rs2 % 2 ^ 5):=Z2 _ _ _ _ (by omega)
 have b3:plc (0+2 ^ 7*(rd % 2 ^ 5)+2 ^ 15*(rs1 % 2 ^ 5)+2 ^ 20*(rs2 % 2 ^ 5)) 25 1 rl=0+2 ^ 7*(rd % 2 ^ 5)+2 ^ 15*(rs1 % 2 ^ 5)+2 ^ 20*(rs2 % 2 ^ 5)+2 ^ 25*(rl % 2 ^ 1):=Z2 _ _ _ _ (by omega)
 have b4:plc (0+2 ^ 7*(rd % 2 ^ 5)+2 ^ 15*(rs1 % 2 ^ 5)+2 ^ 20*(rs2 % 2 ^ 5)+2 ^ 25*(rl % 2 ^ 1)) 26 1 aq=0+2 ^ 7*(rd % 2 ^ 5)+2 ^ 15*(rs1 % 2 ^ 5)+2 ^ 20*(rs2 % 2 ^ 5)+2 ^ 25*(rl % 2 ^ 1)+2 ^ 26*(aq % 2 ^ 1):=Z2 _ _ _ _ (by omega)
 have c0:plc (0) 7 5 rd=0+2 ^ 7*(rd % 2 ^ 5):=Z2 _ _ _ _ (by omega)
 have c1:plc (0+2 ^ 7*(rd % 2 ^ 5)) 15 5 rs1=0+2 ^ 7*(rd % 2 ^ 5)+2 ^ 15*(rs1 % 2 ^ 5):=Z2 _ _ _ _ (by omega)
 have c2:plc (0+2 ^ 7*(rd % 2 ^ 5)+2 ^ 15*(rs1 % 2 ^ 5)) 20 5 rs2=0+2 ^ 7*(rd % 2 ^ 5)+2 ^ 15*(rs1 % 2 ^ 5)+2 ^ 20*(rs2 % 2 ^ 5):=Z2 _ _ _ _ (by omega)
 have c3:plc (0+2 ^ 7*(rd % 2 ^ 5)+2 ^ 15*(rs1 % 2 ^ 5)+2 ^ 20*(rs2 % 2 ^ 5)) 25 1 rl=0+2 ^ 7*(rd % 2 ^ 5)+2 ^ 15*(rs1 % 2 ^ 5)+2 ^ 20*(rs2 % 2 ^ 5)+2 ^ 25*(rl % 2 ^ 1):=Z2 _ _ _ _ (by omega)
 have c4:plc (0+2 ^ 7*(rd % 2 ^ 5)+2 ^ 15*(rs1 % 2 ^ 5)+2 ^ 20*(rs2 % 2 ^ 5)+2 ^ 25*(rl % 2 ^ 1)) 26 1 aq=0+2 ^ 7*(rd % 2 ^ 5)+2 ^ 15*(rs1 % 2 ^ 5)+2 ^ 20*(rs2 % 2 ^ 5)+2 ^ 25*(rl % 2 ^ 1)+2 ^ 26*(aq % 2 ^ 1):=Z2 _ _ _ _ (by omega)
 have hA:(plc (plc (plc 0 0 7 o) 12 3 (fld a3 0 3)) 27 5 (fld a7 0 5))=0+2 ^ 0*(o % 2 ^ 7)+2 ^ 12*((fld a3 0 3) % 2 ^ 3)+2 ^ 27*((fld a7 0 5) % 2 ^ 5):=by rw[a0,a1,a2]
 have hB:(plc (plc (plc (plc (plc 0 7 5 rd) 15 5 rs1) 20 5 rs2) 25 1 rl) 26 1 aq)=(plc (plc (plc (plc (plc 0 7 5 rd) 15 5 rs1) 20 5 rs2) 25 1 rl) 26 1 aq):=by
  have l:(plc (plc (plc (plc (plc 0 7 5 rd) 15 5 rs1) 20 5 rs2) 25 1 rl) 26 1 aq)=0+2 ^ 7*(rd % 2 ^ 5)+2 ^ 15*(rs1 % 2 ^ 5)+2 ^ 20*(rs2 % 2 ^ 5)+2 ^ 25*(rl % 2 ^ 1)+2 ^ 26*(aq % 2 ^ 1):=by rw[c0,c1,c2,c3,c4]
  have r:(plc (plc (plc (plc (plc 0 7 5 rd) 15 5 rs1) 20 5 rs2) 25 1 rl) 26 1 aq)=0+2 ^ 7*(rd % 2 ^ 5)+2 ^ 15*(rs1 % 2 ^ 5)+2 ^ 20*(rs2 % 2 ^ 5)+2 ^ 25*(rl % 2 ^ 1)+2 ^ 26*(aq % 2 ^ 1):=by rw[b0,b1,b2,b3,b4]
  first|rfl|(rw[l,r];omega)
 rw[hA,hB]
 rw[Nat.or_zero]
 clear a0 a1 a2 b0 b1 b2 b3 b4 c0 c1 c2 c3 c4 hA hB
 rw[ZP (0+2 ^ 0*(o % 2 ^ 7)+2 ^ 12*((fld a3 0 3) % 2 ^ 3)+2 ^ 27*((fld a7 0 5) % 2 ^ 5)) _ 26 1 _ (by omega)]
 rw[ZP (0+2 ^ 0*(o % 2 ^ 7)+2 ^ 12*((fld a3 0 3) % 2 ^ 3)+2 ^ 27*((fld a7 0 5) % 2 ^ 5)) _ 25 1 _ (by omega)]
 rw[ZP (0+2 ^ 0*(o % 2 ^ 7)+2 ^ 12*((fld a3 0 3) % 2 ^ 3)+2 ^ 27*((fld a7 0 5) % 2 ^ 5)) _ 20 5 _ (by omega)]
 rw[ZP (0+2 ^ 0*(o % 2 ^ 7)+2 ^ 12*((fld a3 0 3) % 2 ^ 3)+2 ^ 27*((fld a7 0 5) % 2 ^ 5)) _ 15 5 _ (by omega)]
 rw[ZP (0+2 ^ 0*(o % 2 ^ 7)+2 ^ 12*((fld a3 0 3) % 2 ^ 3)+2 ^ 27*((fld a7 0 5) % 2 ^ 5)) _ 7 5 _ (by omega)]
 rw[Nat.or_zero]
 have e0:plc (0+2 ^ 0*(o % 2 ^ 7)+2 ^ 12*((fld a3 0 3) % 2 ^ 3)+2 ^ 27*((fld a7 0 5) % 2 ^ 5)) 7 5 rd=0+2 ^ 0*(o % 2 ^ 7)+2 ^ 12*((fld a3 0 3) % 2 ^ 3)+2 ^ 27*((fld a7 0 5) % 2 ^ 5)+2 ^ 7*(rd % 2 ^ 5):=Z2 _ _ _ _ (by omega)
 have e1:plc (0+2 ^ 0*(o % 2 ^ 7)+2 ^ 12*((fld a3 0 3) % 2 ^ 3)+2 ^ 27*((fld a7 0 5) % 2 ^ 5)+2 ^ 7*(rd % 2 ^ 5)) 15 5 rs1=0+2 ^ 0*(o % 2 ^ 7)+2 ^ 12*((fld a3 0 3) % 2 ^ 3)+2 ^ 27*((fld a7 0 5) % 2 ^ 5)+2 ^ 7*(rd % 2 ^ 5)+2 ^ 15*(rs1 % 2 ^ 5):=Z2 _ _ _ _ (by omega)
 have e2:plc (0+2 ^ 0*(o % 2 ^ 7)+2 ^ 12*((fld a3 0 3) % 2 ^ 3)+2 ^ 27*((fld a7 0 5) % 2 ^ 5)+2 ^ 7*(rd % 2 ^ 5)+2 ^ 15*(rs1 % 2 ^ 5)) 20 5 rs2=0+2 ^ 0*(o % 2 ^ 7)+2 ^ 12*((fld a3 0 3) % 2 ^ 3)+2 ^ 27*((fld a7 0 5) % 2 ^ 5)+2 ^ 7*(rd % 2 ^ 5)+2 ^ 15*(rs1 % 2 ^ 5)+2 ^ 20*(rs2 % 2 ^ 5):=Z2 _ _ _ _ (by omega)
 have e3:plc (0+2 ^ 0*(o % 2 ^ 7)+2 ^ 12*((fld a3 0 3) % 2 ^ 3)+2 ^ 27*((fld a7 0 5) % 2 ^ 5)+2 ^ 7*(rd % 2 ^ 5)+2 ^ 15*(rs1 % 2 ^ 5)+2 ^ 20*(rs2 % 2 ^ 5)) 25 1 rl=0+2 ^ 0*(o % 2 ^ 7)+2 ^ 12*((fld a3 0 3) % 2 ^ 3)+2 ^ 27*((fld a7 0 5) % 2 ^ 5)+2 ^ 7*(rd % 2 ^ 5)+2 ^ 15*(rs1 % 2 ^ 5)+2 ^ 20*(rs2 % 2 ^ 5)+2 ^ 25*(rl % 2 ^ 1):=Z2 _ _ _ _ (by omega)
 have e4:plc (0+2 ^ 0*(o % 2 ^ 7)+2 ^ 12*((fld a3 0 3) % 2 ^ 3)+2 ^ 27*((fld a7 0 5) % 2 ^ 5)+2 ^ 7*(rd % 2 ^ 5)+2 ^ 15*(rs1 % 2 ^ 5)+2 ^ 20*(rs2 % 2 ^ 5)+2 ^ 25*(rl % 2 ^ 1)) 26 1 aq=0+2 ^ 0*(o % 2 ^ 7)+2 ^ 12*((fld a3 0 3) % 2 ^ 3)+2 ^ 27*((fld a7 0 5) % 2 ^ 5)+2 ^ 7*(rd % 2 ^ 5)+2 ^ 15*(rs1 % 2 ^ 5)+2 ^ 20*(rs2 % 2 ^ 5)+2 ^ 25*(rl % 2 ^ 1)+2 ^ 26*(aq % 2 ^ 1):=Z2 _ _ _ _ (by omega)
 rw[e0,e1,e2,e3,e4]
end Go.Proofs.YtgpdpaljbiclkaaGreatDoor

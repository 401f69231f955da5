/-
  Proved here: the fields of an instruction that may be come back from its word, form by form. Conditions: the numbers are those of an instruction that may be.
-/
import Derived.Test.YtgpdpaljbiclkaaGreatDoorSah
import Derived.Test.YtgpdpaljbiclkaaGreatDoorSai
set_option maxRecDepth 20000
namespace Go.Proofs.YtgpdpaljbiclkaaGreatDoor
open _root_.Go.Proofs.Tryz
open Go.RowKit
set_option linter.unusedVariables false
def bin (b:Bool):Nat:=if b=true then 1 else 0
theorem Xg(b:Bool):Bi b=((bin b:Nat):Int):=by cases b<;>rfl
theorem Zl(b:Bool):bin b<2:=by cases b<;>decide
theorem Jp(b:Bool):((((bin b:Nat):Int))==1)=b:=by cases b<;>decide
def WW (f o a3 a7 rd rs1 rs2:Int) (aq rl:Bool) (X:Int):Int:=bits .or .u64 (bits .or .u64 (Wd f o a3 a7) (FW rd rs1 rs2 aq rl)) (IW f X)
def Fine (f a3 a7:Int):Bool:=
 (((f==1)||((f==2)||((f==9)||(f==10))))==false||(a3==0)) && (((f==1)||((f==2)||((f==3)||((f==4)||((f==5)||(f==9))))))==false||(a7==0)) &&
 ((f==6)==false||(a7 % 2==0)) && (((f==11)||(f==12))==false||(decide (a7<32)))
theorem Z0f:∀i:Nat,i<88→Fine (Z9 (i:Int)).1 (Z9 (i:Int)).2.2.1 (Z9 (i:Int)).2.2.2=true:=by decide+kernel
theorem Z2I{v:Int}(h:(v.tmod 2==0)=true):v % 2=0:=Int.emod_eq_zero_of_dvd (Int.dvd_of_tmod_eq_zero (beq_iff_eq.1 h))
theorem Z6k{v:Int}(h:(v.tmod 4096==0)=true):v % 4096=0:=Int.emod_eq_zero_of_dvd (Int.dvd_of_tmod_eq_zero (beq_iff_eq.1 h))
theorem JL{v:Int}(n:Int)(N:Nat)(h1:1≤n)(h2:n≤63)(hN:2 ^ (n.toNat-1)=N)(h:X7 v n=true): -(N:Int)≤v∧v<(N:Int):=by
 rw[Z0x v n h1 h2,hN] at h
 simpa using h
theorem may1{v:Int}(h:ZB 1 v=true):v % 4096=0∧-2147483648≤v∧v<2147483648:=by
 have h':((v.tmod 4096==0) && X7 v 32)=true:=h
 rw[Bool.and_eq_true] at h'
 exact⟨Z6k h'.1,JL 32 2147483648 (by decide) (by decide) (by decide) h'.2⟩
theorem may2{v:Int}(h:ZB 2 v=true):v % 2=0∧-1048576≤v∧v<1048576:=by
 have h':((v.tmod 2==0) && X7 v 21)=true:=h
 rw[Bool.and_eq_true] at h'
 exact⟨Z2I h'.1,JL 21 1048576 (by decide) (by decide) (by decide) h'.2⟩
theorem may4{v:Int}(h:ZB 4 v=true):v % 2=0∧-4096≤v∧v<4096:=by
 have h':((v.tmod 2==0) && X7 v 13)=true:=h
 rw[Bool.and_eq_true] at h'
 exact⟨Z2I h'.1,JL 13 4096 (by decide) (by decide) (by decide) h'.2⟩
theorem may3{v:Int}(h:ZB 3 v=true):True∧-2048≤v∧v<2048:=⟨trivial,JL 12 2048 (by decide) (by decide) (by decide) h⟩
theorem may5{v:Int}(h:ZB 5 v=true):True∧-2048≤v∧v<2048:=⟨trivial,JL 12 2048 (by decide) (by decide) (by decide) h⟩
theorem may6{v:Int}(h:ZB 6 v=true):True∧0≤v∧v<64:=by
 have h':(decide (0≤v) && decide (v≤63))=true:=h
 simp at h';exact⟨trivial,by omega,by omega⟩
theorem may7{v:Int}(h:ZB 7 v=true):True∧0≤v∧v<32:=by
 have h':(decide (0≤v) && decide (v≤31))=true:=h
 simp at h';exact⟨trivial,by omega,by omega⟩
theorem may9{v:Int}(h:ZB 9 v=true):True∧0≤v∧v<256:=by
 have h':(decide (0≤v) && decide (v≤255))=true:=h
 simp at h';exact⟨trivial,by omega,by omega⟩
theorem Y3(X a b:Nat):X % 2 ^ (a+b)=X % 2 ^ a+2 ^ a*fld X a b:=by unfold fld;rw[Nat.pow_add,Nat.mod_mul]
theorem mayz{v:Int}(h:(v==0)=true):v=0:=beq_iff_eq.1 h
theorem ww_1(o a3 a7 rd rs1 rs2 X:Nat)(aq rl:Bool):
  WW 1 o a3 a7 rd 0 0 false false X=(((((plc 0 0 7 o)|||(plc (plc (plc (plc (plc 0 7 5 rd) 15 5 0) 20 5 0) 25 1 0) 26 1 0))|||(plc 0 12 20 (fld X 12 20))):Nat):Int)∧(((plc 0 0 7 o)|||(plc (plc (plc (plc (plc 0 7 5 rd) 15 5 0) 20 5 0) 25 1 0) 26 1 0))|||(plc 0 12 20 (fld X 12 20)))<4294967296:=by
 have e1:Wd 1 o a3 a7=(((plc (plc (plc 0 0 7 o) 0 0 (fld a3 0 0)) 0 0 (fld a7 0 0)):Nat):Int):=rfl
 have e2:FW rd 0 0 false false=(((plc (plc (plc (plc (plc 0 7 5 rd) 15 5 0) 20 5 0) 25 1 0) 26 1 0):Nat):Int):=by
  unfold FW;simp only[Xg];rfl
 have e3:IW 1 X=(((plc (plc (plc (plc 0 12 20 (fld X 12 20)) 0 0 (fld X 0 0)) 0 0 (fld X 0 0)) 0 0 (fld X 0 0)):Nat):Int):=rfl
 simp only[Zs] at e1 e3
 have hA:(plc 0 0 7 o)<2 ^ 32:=(Ze _ _ _ _ 32 (by decide) (by decide))
 have hB:(plc (plc (plc (plc (plc 0 7 5 rd) 15 5 0) 20 5 0) 25 1 0) 26 1 0)<2 ^ 32:=(Ze _ _ _ _ 32 (Ze _ _ _ _ 32 (Ze _ _ _ _ 32 (Ze _ _ _ _ 32 (Ze _ _ _ _ 32 (by decide) (by decide)) (by decide)) (by decide)) (by decide)) (by decide))
 have hC:(plc 0 12 20 (fld X 12 20))<2 ^ 32:=(Ze _ _ _ _ 32 (by decide) (by decide))
 have hAB:=Nat.or_lt_two_pow hA hB
 have hABC:=Nat.or_lt_two_pow hAB hC
 unfold WW
 rw[e1,e2,e3,u64_or_nat _ _ (by omega) (by omega),u64_or_nat _ _ (by omega) (by omega)]
 exact⟨rfl,by omega⟩
theorem ext_1(o rd p0 U:Nat)(ho:o<128)(hrd:rd<32)(hp0:p0<1048576)(hU:o+128*rd+4096*p0=U):
  fld U 0 7=o∧fld U 7 5=rd∧fld U 12 20=p0:=by
 unfold fld
 subst hU
 refine⟨?_,?_,?_⟩<;>omega
theorem gs_1(im:Int)(X:Nat)(h0: -2147483648≤im)(h1:im<2147483648)(hX:im % 18446744073709551616=(X:Int)):wrap64 (Sgn ((X % 4294967296:Nat):Int) 32)=im:=by
 rw[←YH _ 32 (by decide) (by decide),Int.toNat_natCast,show(2:Nat) ^ (((32:Int)).toNat-1)=2147483648 by decide]
 unfold sgh wrap64
 split<;>omega
theorem gx_1(X:Nat)(hz:X % 4096=0):(plc 0 12 20 (fld X 12 20))=X % 4294967296:=by
 have s0:fld X 12 20<2 ^ 20:=Z5 _ _ _
 have g0:plc (0) 12 20 (fld X 12 20)=0+2 ^ 12*((fld X 12 20) % 2 ^ 20):=Z2 _ _ _ _ (by omega)
 rw[g0,Nat.mod_eq_of_lt s0]
 clear g0
 have t0:X % 4294967296=X % 4096+4096*fld X 12 20:=Y3 X 12 20
 clear s0
 generalize fld X 12 20=y0 at*
 omega
theorem ww_2(o a3 a7 rd rs1 rs2 X:Nat)(aq rl:Bool):
  WW 2 o a3 a7 rd 0 0 false false X=(((((plc 0 0 7 o)|||(plc (plc (plc (plc (plc 0 7 5 rd) 15 5 0) 20 5 0) 25 1 0) 26 1 0))|||(plc (plc (plc (plc 0 31 1 (fld X 20 1)) 21 10 (fld X 1 10)) 20 1 (fld X 11 1)) 12 8 (fld X 12 8))):Nat):Int)∧(((plc 0 0 7 o)|||(plc (plc (plc (plc (plc 0 7 5 rd) 15 5 0) 20 5 0) 25 1 0) 26 1 0))|||(plc (plc (plc (plc 0 31 1 (fld X 20 1)) 21 10 (fld X 1 10)) 20 1 (fld X 11 1)) 12 8 (fld X 12 8)))<4294967296:=by
 have e1:Wd 2 o a3 a7=(((plc (plc (plc 0 0 7 o) 0 0 (fld a3 0 0)) 0 0 (fld a7 0 0)):Nat):Int):=rfl
 have e2:FW rd 0 0 false false=(((plc (plc (plc (plc (plc 0 7 5 rd) 15 5 0) 20 5 0) 25 1 0) 26 1 0):Nat):Int):=by
  unfold FW;simp only[Xg];rfl
 have e3:IW 2 X=(((plc (plc (plc (plc 0 31 1 (fld X 20 1)) 21 10 (fld X 1 10)) 20 1 (fld X 11 1)) 12 8 (fld X 12 8)):Nat):Int):=rfl
 simp only[Zs] at e1 e3
 have hA:(plc 0 0 7 o)<2 ^ 32:=(Ze _ _ _ _ 32 (by decide) (by decide))
 have hB:(plc (plc (plc (plc (plc 0 7 5 rd) 15 5 0) 20 5 0) 25 1 0) 26 1 0)<2 ^ 32:=(Ze _ _ _ _ 32 (Ze _ _ _ _ 32 (Ze _ _ _ _ 32 (Ze _ _ _ _ 32 (Ze _ _ _ _ 32 (by decide) (by decide)) (by decide)) (by decide)) (by decide)) (by decide))
 have hC:(plc (plc (plc (plc 0 31 1 (fld X 20 1)) 21 10 (fld X 1 10)) 20 1 (fld X 11 1)) 12 8 (fld X 12 8))<2 ^ 32:=(Ze _ _ _ _ 32 (Ze _ _ _ _ 32 (Ze _ _ _ _ 32 (Ze _ _ _ _ 32 (by decide) (by decide)) (by decide)) (by decide)) (by decide))
 have hAB:=Nat.or_lt_two_pow hA hB
 have hABC:=Nat.or_lt_two_pow hAB hC
 unfold WW
 rw[e1,e2,e3,u64_or_nat _ _ (by omega) (by omega),u64_or_nat _ _ (by omega) (by omega)]
 exact⟨rfl,by omega⟩
theorem ext_2(o rd p0 p1 p2 p3 U:Nat)(ho:o<128)(hrd:rd<32)(hp0:p0<2)(hp1:p1<1024)(hp2:p2<2)(hp3:p3<256)(hU:o+128*rd+2147483648*p0+2097152*p1+1048576*p2+4096*p3=U):
  fld U 0 7=o∧fld U 7 5=rd∧fld U 31 1=p0∧fld U 21 10=p1∧fld U 20 1=p2∧fld U 12 8=p3:=by
 unfold fld
 subst hU
 refine⟨?_,?_,?_,?_,?_,?_⟩<;>omega
theorem gs_2(im:Int)(X:Nat)(h0: -1048576≤im)(h1:im<1048576)(hX:im % 18446744073709551616=(X:Int)):wrap64 (Sgn ((X % 2097152:Nat):Int) 21)=im:=by
 rw[←YH _ 21 (by decide) (by decide),Int.toNat_natCast,show(2:Nat) ^ (((21:Int)).toNat-1)=1048576 by decide]
 unfold sgh wrap64
 split<;>omega
theorem gx_2(X:Nat)(hz:X % 2=0):(plc (plc (plc (plc 0 20 1 (fld X 20 1)) 1 10 (fld X 1 10)) 11 1 (fld X 11 1)) 12 8 (fld X 12 8))=X % 2097152:=by
 have s0:fld X 20 1<2 ^ 1:=Z5 _ _ _
 have g0:plc (0) 20 1 (fld X 20 1)=0+2 ^ 20*((fld X 20 1) % 2 ^ 1):=Z2 _ _ _ _ (by omega)
 have s1:fld X 1 10<2 ^ 10:=Z5 _ _ _
 have g1:plc (0+2 ^ 20*((fld X 20 1) % 2 ^ 1)) 1 10 (fld X 1 10)=0+2 ^ 20*((fld X 20 1) % 2 ^ 1)+2 ^ 1*((fld X 1 10) % 2 ^ 10):=Z2 _ _ _ _ (by omega)
 have s2:fld X 11 1<2 ^ 1:=Z5 _ _ _
 have g2:plc (0+2 ^ 20*((fld X 20 1) % 2 ^ 1)+2 ^ 1*((fld X 1 10) % 2 ^ 10)) 11 1 (fld X 11 1)=0+2 ^ 20*((fld X 20 1) % 2 ^ 1)+2 ^ 1*((fld X 1 10) % 2 ^ 10)+2 ^ 11*((fld X 11 1) % 2 ^ 1):=Z2 _ _ _ _ (by omega)
 have s3:fld X 12 8<2 ^ 8:=Z5 _ _ _
 have g3:plc (0+2 ^ 20*((fld X 20 1) % 2 ^ 1)+2 ^ 1*((fld X 1 10) % 2 ^ 10)+2 ^ 11*((fld X 11 1) % 2 ^ 1)) 12 8 (fld X 12 8)=0+2 ^ 20*((fld X 20 1) % 2 ^ 1)+2 ^ 1*((fld X 1 10) % 2 ^ 10)+2 ^ 11*((fld X 11 1) % 2 ^ 1)+2 ^ 12*((fld X 12 8) % 2 ^ 8):=Z2 _ _ _ _ (by omega)
 rw[g0,g1,g2,g3,Nat.mod_eq_of_lt s0,Nat.mod_eq_of_lt s1,Nat.mod_eq_of_lt s2,Nat.mod_eq_of_lt s3]
 clear g0 g1 g2 g3
 have t0:X % 2048=X % 2+2*fld X 1 10:=Y3 X 1 10
 have t1:X % 4096=X % 2048+2048*fld X 11 1:=Y3 X 11 1
 have t2:X % 1048576=X % 4096+4096*fld X 12 8:=Y3 X 12 8
 have t3:X % 2097152=X % 1048576+1048576*fld X 20 1:=Y3 X 20 1
 clear s0 s1 s2 s3
 generalize fld X 1 10=y0 at*
 generalize fld X 11 1=y1 at*
 generalize fld X 12 8=y2 at*
 generalize fld X 20 1=y3 at*
 omega
theorem ww_3(o a3 a7 rd rs1 rs2 X:Nat)(aq rl:Bool):
  WW 3 o a3 a7 rd rs1 0 false false X=(((((plc (plc 0 0 7 o) 12 3 (fld a3 0 3))|||(plc (plc (plc (plc (plc 0 7 5 rd) 15 5 rs1) 20 5 0) 25 1 0) 26 1 0))|||(plc 0 20 12 (fld X 0 12))):Nat):Int)∧(((plc (plc 0 0 7 o) 12 3 (fld a3 0 3))|||(plc (plc (plc (plc (plc 0 7 5 rd) 15 5 rs1) 20 5 0) 25 1 0) 26 1 0))|||(plc 0 20 12 (fld X 0 12)))<4294967296:=by
 have e1:Wd 3 o a3 a7=(((plc (plc (plc 0 0 7 o) 12 3 (fld a3 0 3)) 0 0 (fld a7 0 0)):Nat):Int):=rfl
 have e2:FW rd rs1 0 false false=(((plc (plc (plc (plc (plc 0 7 5 rd) 15 5 rs1) 20 5 0) 25 1 0) 26 1 0):Nat):Int):=by
  unfold FW;simp only[Xg];rfl
 have e3:IW 3 X=(((plc (plc (plc (plc 0 20 12 (fld X 0 12)) 0 0 (fld X 0 0)) 0 0 (fld X 0 0)) 0 0 (fld X 0 0)):Nat):Int):=rfl
 simp only[Zs] at e1 e3
 have hA:(plc (plc 0 0 7 o) 12 3 (fld a3 0 3))<2 ^ 32:=(Ze _ _ _ _ 32 (Ze _ _ _ _ 32 (by decide) (by decide)) (by decide))
 have hB:(plc (plc (plc (plc (plc 0 7 5 rd) 15 5 rs1) 20 5 0) 25 1 0) 26 1 0)<2 ^ 32:=(Ze _ _ _ _ 32 (Ze _ _ _ _ 32 (Ze _ _ _ _ 32 (Ze _ _ _ _ 32 (Ze _ _ _ _ 32 (by decide) (by decide)) (by decide)) (by decide)) (by decide)) (by decide))
 have hC:(plc 0 20 12 (fld X 0 12))<2 ^ 32:=(Ze _ _ _ _ 32 (by decide) (by decide))
 have hAB:=Nat.or_lt_two_pow hA hB
 have hABC:=Nat.or_lt_two_pow hAB hC
 unfold WW
 rw[e1,e2,e3,u64_or_nat _ _ (by omega) (by omega),u64_or_nat _ _ (by omega) (by omega)]
 exact⟨rfl,by omega⟩
theorem ext_3(o a3 rd rs1 p0 U:Nat)(ho:o<128)(ha3:a3<8)(hrd:rd<32)(hrs1:rs1<32)(hp0:p0<4096)(hU:o+4096*a3+128*rd+32768*rs1+1048576*p0=U):
  fld U 0 7=o∧fld U 12 3=a3∧fld U 7 5=rd∧fld U 15 5=rs1∧fld U 20 12=p0:=by
 unfold fld
 subst hU
 refine⟨?_,?_,?_,?_,?_⟩<;>omega
theorem gs_3(im:Int)(X:Nat)(h0: -2048≤im)(h1:im<2048)(hX:im % 18446744073709551616=(X:Int)):wrap64 (Sgn ((X % 4096:Nat):Int) 12)=im:=by
 rw[←YH _ 12 (by decide) (by decide),Int.toNat_natCast,show(2:Nat) ^ (((12:Int)).toNat-1)=2048 by decide]
 unfold sgh wrap64
 split<;>omega
theorem gx_3(X:Nat)(hz:X % 1=0):(plc 0 0 12 (fld X 0 12))=X % 4096:=by
 have s0:fld X 0 12<2 ^ 12:=Z5 _ _ _
 have g0:plc (0) 0 12 (fld X 0 12)=0+2 ^ 0*((fld X 0 12) % 2 ^ 12):=Z2 _ _ _ _ (by omega)
 rw[g0,Nat.mod_eq_of_lt s0]
 clear g0
 have t0:X % 4096=X % 1+1*fld X 0 12:=Y3 X 0 12
 clear s0
 generalize fld X 0 12=y0 at*
 omega
theorem ww_4(o a3 a7 rd rs1 rs2 X:Nat)(aq rl:Bool):
  WW 4 o a3 a7 0 rs1 rs2 false false X=(((((plc (plc 0 0 7 o) 12 3 (fld a3 0 3))|||(plc (plc (plc (plc (plc 0 7 5 0) 15 5 rs1) 20 5 rs2) 25 1 0) 26 1 0))|||(plc (plc (plc (plc 0 31 1 (fld X 12 1)) 25 6 (fld X 5 6)) 8 4 (fld X 1 4)) 7 1 (fld X 11 1))):Nat):Int)∧(((plc (plc 0 0 7 o) 12 3 (fld a3 0 3))|||(plc (plc (plc (plc (plc 0 7 5 0) 15 5 rs1) 20 5 rs2) 25 1 0) 26 1 0))|||(plc (plc (plc (plc 0 31 1 (fld X 12 1)) 25 6 (fld X 5 6)) 8 4 (fld X 1 4)) 7 1 (fld X 11 1)))<4294967296:=by
 have e1:Wd 4 o a3 a7=(((plc (plc (plc 0 0 7 o) 12 3 (fld a3 0 3)) 0 0 (fld a7 0 0)):Nat):Int):=rfl
 have e2:FW 0 rs1 rs2 false false=(((plc (plc (plc (plc (plc 0 7 5 0) 15 5 rs1) 20 5 rs2) 25 1 0) 26 1 0):Nat):Int):=by
  unfold FW;simp only[Xg];rfl
 have e3:IW 4 X=(((plc (plc (plc (plc 0 31 1 (fld X 12 1)) 25 6 (fld X 5 6)) 8 4 (fld X 1 4)) 7 1 (fld X 11 1)):Nat):Int):=rfl
 simp only[Zs] at e1 e3
 have hA:(plc (plc 0 0 7 o) 12 3 (fld a3 0 3))<2 ^ 32:=(Ze _ _ _ _ 32 (Ze _ _ _ _ 32 (by decide) (by decide)) (by decide))
 have hB:(plc (plc (plc (plc (plc 0 7 5 0) 15 5 rs1) 20 5 rs2) 25 1 0) 26 1 0)<2 ^ 32:=(Ze _ _ _ _ 32 (Ze _ _ _ _ 32 (Ze _ _ _ _ 32 (Ze _ _ _ _ 32 (Ze _ _ _ _ 32 (by decide) (by decide)) (by decide)) (by decide)) (by decide)) (by decide))
 have hC:(plc (plc (plc (plc 0 31 1 (fld X 12 1)) 25 6 (fld X 5 6)) 8 4 (fld X 1 4)) 7 1 (fld X 11 1))<2 ^ 32:=(Ze _ _ _ _ 32 (Ze _ _ _ _ 32 (Ze _ _ _ _ 32 (Ze _ _ _ _ 32 (by decide) (by decide)) (by decide)) (by decide)) (by decide))
 have hAB:=Nat.or_lt_two_pow hA hB
 have hABC:=Nat.or_lt_two_pow hAB hC
 unfold WW
 rw[e1,e2,e3,u64_or_nat _ _ (by omega) (by omega),u64_or_nat _ _ (by omega) (by omega)]
 exact⟨rfl,by omega⟩
theorem ext_4(o a3 rs1 rs2 p0 p1 p2 p3 U:Nat)(ho:o<128)(ha3:a3<8)(hrs1:rs1<32)(hrs2:rs2<32)(hp0:p0<2)(hp1:p1<64)(hp2:p2<16)(hp3:p3<2)(hU:o+4096*a3+32768*rs1+1048576*rs2+2147483648*p0+33554432*p1+256*p2+128*p3=U):
  fld U 0 7=o∧fld U 12 3=a3∧fld U 15 5=rs1∧fld U 20 5=rs2∧fld U 31 1=p0∧fld U 25 6=p1∧fld U 8 4=p2∧fld U 7 1=p3:=by
 unfold fld
 subst hU
 refine⟨?_,?_,?_,?_,?_,?_,?_,?_⟩<;>omega
theorem gs_4(im:Int)(X:Nat)(h0: -4096≤im)(h1:im<4096)(hX:im % 18446744073709551616=(X:Int)):wrap64 (Sgn ((X % 8192:Nat):Int) 13)=im:=by
 rw[←YH _ 13 (by decide) (by decide),Int.toNat_natCast,show(2:Nat) ^ (((13:Int)).toNat-1)=4096 by decide]
 unfold sgh wrap64
 split<;>omega
theorem gx_4(X:Nat)(hz:X % 2=0):(plc (plc (plc (plc 0 12 1 (fld X 12 1)) 5 6 (fld X 5 6)) 1 4 (fld X 1 4)) 11 1 (fld X 11 1))=X % 8192:=by
 have s0:fld X 12 1<2 ^ 1:=Z5 _ _ _
 have g0:plc (0) 12 1 (fld X 12 1)=0+2 ^ 12*((fld X 12 1) % 2 ^ 1):=Z2 _ _ _ _ (by omega)
 have s1:fld X 5 6<2 ^ 6:=Z5 _ _ _
 have g1:plc (0+2 ^ 12*((fld X 12 1) % 2 ^ 1)) 5 6 (fld X 5 6)=0+2 ^ 12*((fld X 12 1) % 2 ^ 1)+2 ^ 5*((fld X 5 6) % 2 ^ 6):=Z2 _ _ _ _ (by omega)
 have s2:fld X 1 4<2 ^ 4:=Z5 _ _ _
 have g2:plc (0+2 ^ 12*((fld X 12 1) % 2 ^ 1)+2 ^ 5*((fld X 5 6) % 2 ^ 6)) 1 4 (fld X 1 4)=0+2 ^ 12*((fld X 12 1) % 2 ^ 1)+2 ^ 5*((fld X 5 6) % 2 ^ 6)+2 ^ 1*((fld X 1 4) % 2 ^ 4):=Z2 _ _ _ _ (by omega)
 have s3:fld X 11 1<2 ^ 1:=Z5 _ _ _
 have g3:plc (0+2 ^ 12*((fld X 12 1) % 2 ^ 1)+2 ^ 5*((fld X 5 6) % 2 ^ 6)+2 ^ 1*((fld X 1 4) % 2 ^ 4)) 11 1 (fld X 11 1)=0+2 ^ 12*((fld X 12 1) % 2 ^ 1)+2 ^ 5*((fld X 5 6) % 2 ^ 6)+2 ^ 1*((fld X 1 4) % 2 ^ 4)+2 ^ 11*((fld X 11 1) % 2 ^ 1):=Z2 _ _ _ _ (by omega)
 rw[g0,g1,g2,g3,Nat.mod_eq_of_lt s0,Nat.mod_eq_of_lt s1,Nat.mod_eq_of_lt s2,Nat.mod_eq_of_lt s3]
 clear g0 g1 g2 g3
 have t0:X % 32=X % 2+2*fld X 1 4:=Y3 X 1 4
 have t1:X % 2048=X % 32+32*fld X 5 6:=Y3 X 5 6
 have t2:X % 4096=X % 2048+2048*fld X 11 1:=Y3 X 11 1
 have t3:X % 8192=X % 4096+4096*fld X 12 1:=Y3 X 12 1
 clear s0 s1 s2 s3
 generalize fld X 1 4=y0 at*
 generalize fld X 5 6=y1 at*
 generalize fld X 11 1=y2 at*
 generalize fld X 12 1=y3 at*
 omega
theorem ww_5(o a3 a7 rd rs1 rs2 X:Nat)(aq rl:Bool):
  WW 5 o a3 a7 0 rs1 rs2 false false X=(((((plc (plc 0 0 7 o) 12 3 (fld a3 0 3))|||(plc (plc (plc (plc (plc 0 7 5 0) 15 5 rs1) 20 5 rs2) 25 1 0) 26 1 0))|||(plc (plc 0 25 7 (fld X 5 7)) 7 5 (fld X 0 5))):Nat):Int)∧(((plc (plc 0 0 7 o) 12 3 (fld a3 0 3))|||(plc (plc (plc (plc (plc 0 7 5 0) 15 5 rs1) 20 5 rs2) 25 1 0) 26 1 0))|||(plc (plc 0 25 7 (fld X 5 7)) 7 5 (fld X 0 5)))<4294967296:=by
 have e1:Wd 5 o a3 a7=(((plc (plc (plc 0 0 7 o) 12 3 (fld a3 0 3)) 0 0 (fld a7 0 0)):Nat):Int):=rfl
 have e2:FW 0 rs1 rs2 false false=(((plc (plc (plc (plc (plc 0 7 5 0) 15 5 rs1) 20 5 rs2) 25 1 0) 26 1 0):Nat):Int):=by
  unfold FW;simp only[Xg];rfl
 have e3:IW 5 X=(((plc (plc (plc (plc 0 25 7 (fld X 5 7)) 7 5 (fld X 0 5)) 0 0 (fld X 0 0)) 0 0 (fld X 0 0)):Nat):Int):=rfl
 simp only[Zs] at e1 e3
 have hA:(plc (plc 0 0 7 o) 12 3 (fld a3 0 3))<2 ^ 32:=(Ze _ _ _ _ 32 (Ze _ _ _ _ 32 (by decide) (by decide)) (by decide))
 have hB:(plc (plc (plc (plc (plc 0 7 5 0) 15 5 rs1) 20 5 rs2) 25 1 0) 26 1 0)<2 ^ 32:=(Ze _ _ _ _ 32 (Ze _ _ _ _ 32 (Ze _ _ _ _ 32 (Ze _ _ _ _ 32 (Ze _ _ _ _ 32 (by decide) (by decide)) (by decide)) (by decide)) (by decide)) (by decide))
 have hC:(plc (plc 0 25 7 (fld X 5 7)) 7 5 (fld X 0 5))<2 ^ 32:=(Ze _ _ _ _ 32 (Ze _ _ _ _ 32 (by decide) (by decide)) (by decide))
 have hAB:=Nat.or_lt_two_pow hA hB
 have hABC:=Nat.or_lt_two_pow hAB hC
 unfold WW
 rw[e1,e2,e3,u64_or_nat _ _ (by omega) (by omega),u64_or_nat _ _ (by omega) (by omega)]
 exact⟨rfl,by omega⟩
theorem ext_5(o a3 rs1 rs2 p0 p1 U:Nat)(ho:o<128)(ha3:a3<8)(hrs1:rs1<32)(hrs2:rs2<32)(hp0:p0<128)(hp1:p1<32)(hU:o+4096*a3+32768*rs1+1048576*rs2+33554432*p0+128*p1=U):
  fld U 0 7=o∧fld U 12 3=a3∧fld U 15 5=rs1∧fld U 20 5=rs2∧fld U 25 7=p0∧fld U 7 5=p1:=by
 unfold fld
 subst hU
 refine⟨?_,?_,?_,?_,?_,?_⟩<;>omega
theorem gs_5(im:Int)(X:Nat)(h0: -2048≤im)(h1:im<2048)(hX:im % 18446744073709551616=(X:Int)):wrap64 (Sgn ((X % 4096:Nat):Int) 12)=im:=by
 rw[←YH _ 12 (by decide) (by decide),Int.toNat_natCast,show(2:Nat) ^ (((12:Int)).toNat-1)=2048 by decide]
 unfold sgh wrap64
 split<;>omega
theorem gx_5(X:Nat)(hz:X % 1=0):(plc (plc 0 5 7 (fld X 5 7)) 0 5 (fld X 0 5))=X % 4096:=by
 have s0:fld X 5 7<2 ^ 7:=Z5 _ _ _
 have g0:plc (0) 5 7 (fld X 5 7)=0+2 ^ 5*((fld X 5 7) % 2 ^ 7):=Z2 _ _ _ _ (by omega)
 have s1:fld X 0 5<2 ^ 5:=Z5 _ _ _
 have g1:plc (0+2 ^ 5*((fld X 5 7) % 2 ^ 7)) 0 5 (fld X 0 5)=0+2 ^ 5*((fld X 5 7) % 2 ^ 7)+2 ^ 0*((fld X 0 5) % 2 ^ 5):=Z2 _ _ _ _ (by omega)
 rw[g0,g1,Nat.mod_eq_of_lt s0,Nat.mod_eq_of_lt s1]
 clear g0 g1
 have t0:X % 32=X % 1+1*fld X 0 5:=Y3 X 0 5
 have t1:X % 4096=X % 32+32*fld X 5 7:=Y3 X 5 7
 clear s0 s1
 generalize fld X 0 5=y0 at*
 generalize fld X 5 7=y1 at*
 omega
theorem ww_6(o a3 a7 rd rs1 rs2 X:Nat)(aq rl:Bool):
  WW 6 o a3 a7 rd rs1 0 false false X=(((((plc (plc (plc 0 0 7 o) 12 3 (fld a3 0 3)) 26 6 (fld a7 1 6))|||(plc (plc (plc (plc (plc 0 7 5 rd) 15 5 rs1) 20 5 0) 25 1 0) 26 1 0))|||(plc 0 20 6 (fld X 0 6))):Nat):Int)∧(((plc (plc (plc 0 0 7 o) 12 3 (fld a3 0 3)) 26 6 (fld a7 1 6))|||(plc (plc (plc (plc (plc 0 7 5 rd) 15 5 rs1) 20 5 0) 25 1 0) 26 1 0))|||(plc 0 20 6 (fld X 0 6)))<4294967296:=by
 have e1:Wd 6 o a3 a7=(((plc (plc (plc 0 0 7 o) 12 3 (fld a3 0 3)) 26 6 (fld a7 1 6)):Nat):Int):=rfl
 have e2:FW rd rs1 0 false false=(((plc (plc (plc (plc (plc 0 7 5 rd) 15 5 rs1) 20 5 0) 25 1 0) 26 1 0):Nat):Int):=by
  unfold FW;simp only[Xg];rfl
 have e3:IW 6 X=(((plc (plc (plc (plc 0 20 6 (fld X 0 6)) 0 0 (fld X 0 0)) 0 0 (fld X 0 0)) 0 0 (fld X 0 0)):Nat):Int):=rfl
 simp only[Zs] at e1 e3
 have hA:(plc (plc (plc 0 0 7 o) 12 3 (fld a3 0 3)) 26 6 (fld a7 1 6))<2 ^ 32:=(Ze _ _ _ _ 32 (Ze _ _ _ _ 32 (Ze _ _ _ _ 32 (by decide) (by decide)) (by decide)) (by decide))
 have hB:(plc (plc (plc (plc (plc 0 7 5 rd) 15 5 rs1) 20 5 0) 25 1 0) 26 1 0)<2 ^ 32:=(Ze _ _ _ _ 32 (Ze _ _ _ _ 32 (Ze _ _ _ _ 32 (Ze _ _ _ _ 32 (Ze _ _ _ _ 32 (by decide) (by decide)) (by decide)) (by decide)) (by decide)) (by decide))
 have hC:(plc 0 20 6 (fld X 0 6))<2 ^ 32:=(Ze _ _ _ _ 32 (by decide) (by decide))
 have hAB:=Nat.or_lt_two_pow hA hB
 have hABC:=Nat.or_lt_two_pow hAB hC
 unfold WW
 rw[e1,e2,e3,u64_or_nat _ _ (by omega) (by omega),u64_or_nat _ _ (by omega) (by omega)]
 exact⟨rfl,by omega⟩
theorem ext_6(o a3 c7 rd rs1 p0 U:Nat)(ho:o<128)(ha3:a3<8)(hc7:c7<64)(hrd:rd<32)(hrs1:rs1<32)(hp0:p0<64)(hU:o+4096*a3+67108864*c7+128*rd+32768*rs1+1048576*p0=U):
  fld U 0 7=o∧fld U 12 3=a3∧fld U 26 6=c7∧fld U 7 5=rd∧fld U 15 5=rs1∧fld U 20 6=p0:=by
 unfold fld
 subst hU
 refine⟨?_,?_,?_,?_,?_,?_⟩<;>omega
theorem f7b_6(a:Nat)(h:a<128)(z:a % 2=0):plc 0 1 6 (fld a 1 6)=a:=by
 rw[Z2 _ _ _ _ (by decide)];unfold fld;omega
theorem gs_6(im:Int)(X:Nat)(h0:0≤im)(h1:im<64)(hX:im % 18446744073709551616=(X:Int)):wrap64 (Sgn ((X % 64:Nat):Int) 0)=im:=by
 rw[←Xu _ 0 (by decide)]
 unfold wrap64
 omega
theorem gx_6(X:Nat)(hz:X % 1=0):(plc 0 0 6 (fld X 0 6))=X % 64:=by
 have s0:fld X 0 6<2 ^ 6:=Z5 _ _ _
 have g0:plc (0) 0 6 (fld X 0 6)=0+2 ^ 0*((fld X 0 6) % 2 ^ 6):=Z2 _ _ _ _ (by omega)
 rw[g0,Nat.mod_eq_of_lt s0]
 clear g0
 have t0:X % 64=X % 1+1*fld X 0 6:=Y3 X 0 6
 clear s0
 generalize fld X 0 6=y0 at*
 omega
theorem ww_7(o a3 a7 rd rs1 rs2 X:Nat)(aq rl:Bool):
  WW 7 o a3 a7 rd rs1 0 false false X=(((((plc (plc (plc 0 0 7 o) 12 3 (fld a3 0 3)) 25 7 (fld a7 0 7))|||(plc (plc (plc (plc (plc 0 7 5 rd) 15 5 rs1) 20 5 0) 25 1 0) 26 1 0))|||(plc 0 20 5 (fld X 0 5))):Nat):Int)∧(((plc (plc (plc 0 0 7 o) 12 3 (fld a3 0 3)) 25 7 (fld a7 0 7))|||(plc (plc (plc (plc (plc 0 7 5 rd) 15 5 rs1) 20 5 0) 25 1 0) 26 1 0))|||(plc 0 20 5 (fld X 0 5)))<4294967296:=by
 have e1:Wd 7 o a3 a7=(((plc (plc (plc 0 0 7 o) 12 3 (fld a3 0 3)) 25 7 (fld a7 0 7)):Nat):Int):=rfl
 have e2:FW rd rs1 0 false false=(((plc (plc (plc (plc (plc 0 7 5 rd) 15 5 rs1) 20 5 0) 25 1 0) 26 1 0):Nat):Int):=by
  unfold FW;simp only[Xg];rfl
 have e3:IW 7 X=(((plc (plc (plc (plc 0 20 5 (fld X 0 5)) 0 0 (fld X 0 0)) 0 0 (fld X 0 0)) 0 0 (fld X 0 0)):Nat):Int):=rfl
 simp only[Zs] at e1 e3
 have hA:(plc (plc (plc 0 0 7 o) 12 3 (fld a3 0 3)) 25 7 (fld a7 0 7))<2 ^ 32:=(Ze _ _ _ _ 32 (Ze _ _ _ _ 32 (Ze _ _ _ _ 32 (by decide) (by decide)) (by decide)) (by decide))
 have hB:(plc (plc (plc (plc (plc 0 7 5 rd) 15 5 rs1) 20 5 0) 25 1 0) 26 1 0)<2 ^ 32:=(Ze _ _ _ _ 32 (Ze _ _ _ _ 32 (Ze _ _ _ _ 32 (Ze _ _ _ _ 32 (Ze _ _ _ _ 32 (by decide) (by decide)) (by decide)) (by decide)) (by decide)) (by decide))
 have hC:(plc 0 20 5 (fld X 0 5))<2 ^ 32:=(Ze _ _ _ _ 32 (by decide) (by decide))
 have hAB:=Nat.or_lt_two_pow hA hB
 have hABC:=Nat.or_lt_two_pow hAB hC
 unfold WW
 rw[e1,e2,e3,u64_or_nat _ _ (by omega) (by omega),u64_or_nat _ _ (by omega) (by omega)]
 exact⟨rfl,by omega⟩
theorem ext_7(o a3 c7 rd rs1 p0 U:Nat)(ho:o<128)(ha3:a3<8)(hc7:c7<128)(hrd:rd<32)(hrs1:rs1<32)(hp0:p0<32)(hU:o+4096*a3+33554432*c7+128*rd+32768*rs1+1048576*p0=U):
  fld U 0 7=o∧fld U 12 3=a3∧fld U 25 7=c7∧fld U 7 5=rd∧fld U 15 5=rs1∧fld U 20 5=p0:=by
 unfold fld
 subst hU
 refine⟨?_,?_,?_,?_,?_,?_⟩<;>omega
theorem f7b_7(a:Nat)(h:a<128):plc 0 0 7 (fld a 0 7)=a:=by
 rw[Z2 _ _ _ _ (by decide)];unfold fld;omega
theorem gs_7(im:Int)(X:Nat)(h0:0≤im)(h1:im<32)(hX:im % 18446744073709551616=(X:Int)):wrap64 (Sgn ((X % 32:Nat):Int) 0)=im:=by
 rw[←Xu _ 0 (by decide)]
 unfold wrap64
 omega
theorem gx_7(X:Nat)(hz:X % 1=0):(plc 0 0 5 (fld X 0 5))=X % 32:=by
 have s0:fld X 0 5<2 ^ 5:=Z5 _ _ _
 have g0:plc (0) 0 5 (fld X 0 5)=0+2 ^ 0*((fld X 0 5) % 2 ^ 5):=Z2 _ _ _ _ (by omega)
 rw[g0,Nat.mod_eq_of_lt s0]
 clear g0
 have t0:X % 32=X % 1+1*fld X 0 5:=Y3 X 0 5
 clear s0
 generalize fld X 0 5=y0 at*
 omega
theorem ww_8(o a3 a7 rd rs1 rs2 X:Nat)(aq rl:Bool):
  WW 8 o a3 a7 rd rs1 rs2 false false X=(((((plc (plc (plc 0 0 7 o) 12 3 (fld a3 0 3)) 25 7 (fld a7 0 7))|||(plc (plc (plc (plc (plc 0 7 5 rd) 15 5 rs1) 20 5 rs2) 25 1 0) 26 1 0))|||0):Nat):Int)∧(((plc (plc (plc 0 0 7 o) 12 3 (fld a3 0 3)) 25 7 (fld a7 0 7))|||(plc (plc (plc (plc (plc 0 7 5 rd) 15 5 rs1) 20 5 rs2) 25 1 0) 26 1 0))|||0)<4294967296:=by
 have e1:Wd 8 o a3 a7=(((plc (plc (plc 0 0 7 o) 12 3 (fld a3 0 3)) 25 7 (fld a7 0 7)):Nat):Int):=rfl
 have e2:FW rd rs1 rs2 false false=(((plc (plc (plc (plc (plc 0 7 5 rd) 15 5 rs1) 20 5 rs2) 25 1 0) 26 1 0):Nat):Int):=by
  unfold FW;simp only[Xg];rfl
 have e3:IW 8 X=(((plc (plc (plc (plc 0 0 0 (fld X 0 0)) 0 0 (fld X 0 0)) 0 0 (fld X 0 0)) 0 0 (fld X 0 0)):Nat):Int):=rfl
 simp only[Zs] at e1 e3
 have hA:(plc (plc (plc 0 0 7 o) 12 3 (fld a3 0 3)) 25 7 (fld a7 0 7))<2 ^ 32:=(Ze _ _ _ _ 32 (Ze _ _ _ _ 32 (Ze _ _ _ _ 32 (by decide) (by decide)) (by decide)) (by decide))
 have hB:(plc (plc (plc (plc (plc 0 7 5 rd) 15 5 rs1) 20 5 rs2) 25 1 0) 26 1 0)<2 ^ 32:=(Ze _ _ _ _ 32 (Ze _ _ _ _ 32 (Ze _ _ _ _ 32 (Ze _ _ _ _ 32 (Ze _ _ _ _ 32 (by decide) (by decide)) (by decide)) (by decide)) (by decide)) (by decide))
 have hC:0<2 ^ 32:=(by decide)
 have hAB:=Nat.or_lt_two_pow hA hB
 have hABC:=Nat.or_lt_two_pow hAB hC
 unfold WW
 rw[e1,e2,e3,u64_or_nat _ _ (by omega) (by omega),u64_or_nat _ _ (by omega) (by omega)]
 exact⟨rfl,by omega⟩
theorem ext_8(o a3 c7 rd rs1 rs2 U:Nat)(ho:o<128)(ha3:a3<8)(hc7:c7<128)(hrd:rd<32)(hrs1:rs1<32)(hrs2:rs2<32)(hU:o+4096*a3+33554432*c7+128*rd+32768*rs1+1048576*rs2=U):
  fld U 0 7=o∧fld U 12 3=a3∧fld U 25 7=c7∧fld U 7 5=rd∧fld U 15 5=rs1∧fld U 20 5=rs2:=by
 unfold fld
 subst hU
 refine⟨?_,?_,?_,?_,?_,?_⟩<;>omega
theorem f7b_8(a:Nat)(h:a<128):plc 0 0 7 (fld a 0 7)=a:=by
 rw[Z2 _ _ _ _ (by decide)];unfold fld;omega
theorem ww_9(o a3 a7 rd rs1 rs2 X:Nat)(aq rl:Bool):
  WW 9 o a3 a7 0 0 0 false false X=(((((plc 0 0 7 o)|||(plc (plc (plc (plc (plc 0 7 5 0) 15 5 0) 20 5 0) 25 1 0) 26 1 0))|||(plc 0 20 8 (fld X 0 8))):Nat):Int)∧(((plc 0 0 7 o)|||(plc (plc (plc (plc (plc 0 7 5 0) 15 5 0) 20 5 0) 25 1 0) 26 1 0))|||(plc 0 20 8 (fld X 0 8)))<4294967296:=by
 have e1:Wd 9 o a3 a7=(((plc (plc (plc 0 0 7 o) 0 0 (fld a3 0 0)) 0 0 (fld a7 0 0)):Nat):Int):=rfl
 have e2:FW 0 0 0 false false=(((plc (plc (plc (plc (plc 0 7 5 0) 15 5 0) 20 5 0) 25 1 0) 26 1 0):Nat):Int):=by
  unfold FW;simp only[Xg];rfl
 have e3:IW 9 X=(((plc (plc (plc (plc 0 20 8 (fld X 0 8)) 0 0 (fld X 0 0)) 0 0 (fld X 0 0)) 0 0 (fld X 0 0)):Nat):Int):=rfl
 simp only[Zs] at e1 e3
 have hA:(plc 0 0 7 o)<2 ^ 32:=(Ze _ _ _ _ 32 (by decide) (by decide))
 have hB:(plc (plc (plc (plc (plc 0 7 5 0) 15 5 0) 20 5 0) 25 1 0) 26 1 0)<2 ^ 32:=(Ze _ _ _ _ 32 (Ze _ _ _ _ 32 (Ze _ _ _ _ 32 (Ze _ _ _ _ 32 (Ze _ _ _ _ 32 (by decide) (by decide)) (by decide)) (by decide)) (by decide)) (by decide))
 have hC:(plc 0 20 8 (fld X 0 8))<2 ^ 32:=(Ze _ _ _ _ 32 (by decide) (by decide))
 have hAB:=Nat.or_lt_two_pow hA hB
 have hABC:=Nat.or_lt_two_pow hAB hC
 unfold WW
 rw[e1,e2,e3,u64_or_nat _ _ (by omega) (by omega),u64_or_nat _ _ (by omega) (by omega)]
 exact⟨rfl,by omega⟩
theorem ext_9(o p0 U:Nat)(ho:o<128)(hp0:p0<256)(hU:o+1048576*p0=U):
  fld U 0 7=o∧fld U 20 8=p0:=by
 unfold fld
 subst hU
 refine⟨?_,?_⟩<;>omega
theorem gs_9(im:Int)(X:Nat)(h0:0≤im)(h1:im<256)(hX:im % 18446744073709551616=(X:Int)):wrap64 (Sgn ((X % 256:Nat):Int) 0)=im:=by
 rw[←Xu _ 0 (by decide)]
 unfold wrap64
 omega
theorem gx_9(X:Nat)(hz:X % 1=0):(plc 0 0 8 (fld X 0 8))=X % 256:=by
 have s0:fld X 0 8<2 ^ 8:=Z5 _ _ _
 have g0:plc (0) 0 8 (fld X 0 8)=0+2 ^ 0*((fld X 0 8) % 2 ^ 8):=Z2 _ _ _ _ (by omega)
 rw[g0,Nat.mod_eq_of_lt s0]
 clear g0
 have t0:X % 256=X % 1+1*fld X 0 8:=Y3 X 0 8
 clear s0
 generalize fld X 0 8=y0 at*
 omega
theorem ww_10(o a3 a7 rd rs1 rs2 X:Nat)(aq rl:Bool):
  WW 10 o a3 a7 0 0 0 false false X=(((((plc (plc 0 0 7 o) 20 12 (fld a7 0 12))|||(plc (plc (plc (plc (plc 0 7 5 0) 15 5 0) 20 5 0) 25 1 0) 26 1 0))|||0):Nat):Int)∧(((plc (plc 0 0 7 o) 20 12 (fld a7 0 12))|||(plc (plc (plc (plc (plc 0 7 5 0) 15 5 0) 20 5 0) 25 1 0) 26 1 0))|||0)<4294967296:=by
 have e1:Wd 10 o a3 a7=(((plc (plc (plc 0 0 7 o) 0 0 (fld a3 0 0)) 20 12 (fld a7 0 12)):Nat):Int):=rfl
 have e2:FW 0 0 0 false false=(((plc (plc (plc (plc (plc 0 7 5 0) 15 5 0) 20 5 0) 25 1 0) 26 1 0):Nat):Int):=by
  unfold FW;simp only[Xg];rfl
 have e3:IW 10 X=(((plc (plc (plc (plc 0 0 0 (fld X 0 0)) 0 0 (fld X 0 0)) 0 0 (fld X 0 0)) 0 0 (fld X 0 0)):Nat):Int):=rfl
 simp only[Zs] at e1 e3
 have hA:(plc (plc 0 0 7 o) 20 12 (fld a7 0 12))<2 ^ 32:=(Ze _ _ _ _ 32 (Ze _ _ _ _ 32 (by decide) (by decide)) (by decide))
 have hB:(plc (plc (plc (plc (plc 0 7 5 0) 15 5 0) 20 5 0) 25 1 0) 26 1 0)<2 ^ 32:=(Ze _ _ _ _ 32 (Ze _ _ _ _ 32 (Ze _ _ _ _ 32 (Ze _ _ _ _ 32 (Ze _ _ _ _ 32 (by decide) (by decide)) (by decide)) (by decide)) (by decide)) (by decide))
 have hC:0<2 ^ 32:=(by decide)
 have hAB:=Nat.or_lt_two_pow hA hB
 have hABC:=Nat.or_lt_two_pow hAB hC
 unfold WW
 rw[e1,e2,e3,u64_or_nat _ _ (by omega) (by omega),u64_or_nat _ _ (by omega) (by omega)]
 exact⟨rfl,by omega⟩
theorem ext_10(o c7 U:Nat)(ho:o<128)(hc7:c7<4096)(hU:o+1048576*c7=U):
  fld U 0 7=o∧fld U 20 12=c7:=by
 unfold fld
 subst hU
 refine⟨?_,?_⟩<;>omega
theorem f7b_10(a:Nat)(h:a<128):plc 0 0 12 (fld a 0 12)=a:=by
 rw[Z2 _ _ _ _ (by decide)];unfold fld;omega
theorem ww_11(o a3 a7 rd rs1 rs2 X:Nat)(aq rl:Bool):
  WW 11 o a3 a7 rd rs1 0 aq rl X=(((((plc (plc (plc 0 0 7 o) 12 3 (fld a3 0 3)) 27 5 (fld a7 0 5))|||(plc (plc (plc (plc (plc 0 7 5 rd) 15 5 rs1) 20 5 0) 25 1 (bin rl)) 26 1 (bin aq)))|||0):Nat):Int)∧(((plc (plc (plc 0 0 7 o) 12 3 (fld a3 0 3)) 27 5 (fld a7 0 5))|||(plc (plc (plc (plc (plc 0 7 5 rd) 15 5 rs1) 20 5 0) 25 1 (bin rl)) 26 1 (bin aq)))|||0)<4294967296:=by
 have e1:Wd 11 o a3 a7=(((plc (plc (plc 0 0 7 o) 12 3 (fld a3 0 3)) 27 5 (fld a7 0 5)):Nat):Int):=rfl
 have e2:FW rd rs1 0 aq rl=(((plc (plc (plc (plc (plc 0 7 5 rd) 15 5 rs1) 20 5 0) 25 1 (bin rl)) 26 1 (bin aq)):Nat):Int):=by
  unfold FW;simp only[Xg];rfl
 have e3:IW 11 X=(((plc (plc (plc (plc 0 0 0 (fld X 0 0)) 0 0 (fld X 0 0)) 0 0 (fld X 0 0)) 0 0 (fld X 0 0)):Nat):Int):=rfl
 simp only[Zs] at e1 e3
 have hA:(plc (plc (plc 0 0 7 o) 12 3 (fld a3 0 3)) 27 5 (fld a7 0 5))<2 ^ 32:=(Ze _ _ _ _ 32 (Ze _ _ _ _ 32 (Ze _ _ _ _ 32 (by decide) (by decide)) (by decide)) (by decide))
 have hB:(plc (plc (plc (plc (plc 0 7 5 rd) 15 5 rs1) 20 5 0) 25 1 (bin rl)) 26 1 (bin aq))<2 ^ 32:=(Ze _ _ _ _ 32 (Ze _ _ _ _ 32 (Ze _ _ _ _ 32 (Ze _ _ _ _ 32 (Ze _ _ _ _ 32 (by decide) (by decide)) (by decide)) (by decide)) (by decide)) (by decide))
 have hC:0<2 ^ 32:=(by decide)
 have hAB:=Nat.or_lt_two_pow hA hB
 have hABC:=Nat.or_lt_two_pow hAB hC
 unfold WW
 rw[e1,e2,e3,u64_or_nat _ _ (by omega) (by omega),u64_or_nat _ _ (by omega) (by omega)]
 exact⟨rfl,by omega⟩
theorem ext_11(o a3 c7 rd rs1 rl aq U:Nat)(ho:o<128)(ha3:a3<8)(hc7:c7<32)(hrd:rd<32)(hrs1:rs1<32)(hrl:rl<2)(haq:aq<2)(hU:o+4096*a3+134217728*c7+128*rd+32768*rs1+33554432*rl+67108864*aq=U):
  fld U 0 7=o∧fld U 12 3=a3∧fld U 27 5=c7∧fld U 7 5=rd∧fld U 15 5=rs1∧fld U 25 1=rl∧fld U 26 1=aq:=by
 unfold fld
 subst hU
 refine⟨?_,?_,?_,?_,?_,?_,?_⟩<;>omega
theorem f7b_11(a:Nat)(z:a<32):plc 0 0 5 (fld a 0 5)=a:=by
 rw[Z2 _ _ _ _ (by decide)];unfold fld;omega
theorem ww_12(o a3 a7 rd rs1 rs2 X:Nat)(aq rl:Bool):
  WW 12 o a3 a7 rd rs1 rs2 aq rl X=(((((plc (plc (plc 0 0 7 o) 12 3 (fld a3 0 3)) 27 5 (fld a7 0 5))|||(plc (plc (plc (plc (plc 0 7 5 rd) 15 5 rs1) 20 5 rs2) 25 1 (bin rl)) 26 1 (bin aq)))|||0):Nat):Int)∧(((plc (plc (plc 0 0 7 o) 12 3 (fld a3 0 3)) 27 5 (fld a7 0 5))|||(plc (plc (plc (plc (plc 0 7 5 rd) 15 5 rs1) 20 5 rs2) 25 1 (bin rl)) 26 1 (bin aq)))|||0)<4294967296:=by
 have e1:Wd 12 o a3 a7=(((plc (plc (plc 0 0 7 o) 12 3 (fld a3 0 3)) 27 5 (fld a7 0 5)):Nat):Int):=rfl
 have e2:FW rd rs1 rs2 aq rl=(((plc (plc (plc (plc (plc 0 7 5 rd) 15 5 rs1) 20 5 rs2) 25 1 (bin rl)) 26 1 (bin aq)):Nat):Int):=by
  unfold FW;simp only[Xg];rfl
 have e3:IW 12 X=(((plc (plc (plc (plc 0 0 0 (fld X 0 0)) 0 0 (fld X 0 0)) 0 0 (fld X 0 0)) 0 0 (fld X 0 0)):Nat):Int):=rfl
 simp only[Zs] at e1 e3
 have hA:(plc (plc (plc 0 0 7 o) 12 3 (fld a3 0 3)) 27 5 (fld a7 0 5))<2 ^ 32:=(Ze _ _ _ _ 32 (Ze _ _ _ _ 32 (Ze _ _ _ _ 32 (by decide) (by decide)) (by decide)) (by decide))
 have hB:(plc (plc (plc (plc (plc 0 7 5 rd) 15 5 rs1) 20 5 rs2) 25 1 (bin rl)) 26 1 (bin aq))<2 ^ 32:=(Ze _ _ _ _ 32 (Ze _ _ _ _ 32 (Ze _ _ _ _ 32 (Ze _ _ _ _ 32 (Ze _ _ _ _ 32 (by decide) (by decide)) (by decide)) (by decide)) (by decide)) (by decide))
 have hC:0<2 ^ 32:=(by decide)
 have hAB:=Nat.or_lt_two_pow hA hB
 have hABC:=Nat.or_lt_two_pow hAB hC
 unfold WW
 rw[e1,e2,e3,u64_or_nat _ _ (by omega) (by omega),u64_or_nat _ _ (by omega) (by omega)]
 exact⟨rfl,by omega⟩
theorem ext_12(o a3 c7 rd rs1 rs2 rl aq U:Nat)(ho:o<128)(ha3:a3<8)(hc7:c7<32)(hrd:rd<32)(hrs1:rs1<32)(hrs2:rs2<32)(hrl:rl<2)(haq:aq<2)(hU:o+4096*a3+134217728*c7+128*rd+32768*rs1+1048576*rs2+33554432*rl+67108864*aq=U):
  fld U 0 7=o∧fld U 12 3=a3∧fld U 27 5=c7∧fld U 7 5=rd∧fld U 15 5=rs1∧fld U 20 5=rs2∧fld U 25 1=rl∧fld U 26 1=aq:=by
 unfold fld
 subst hU
 refine⟨?_,?_,?_,?_,?_,?_,?_,?_⟩<;>omega
theorem f7b_12(a:Nat)(z:a<32):plc 0 0 5 (fld a 0 5)=a:=by
 rw[Z2 _ _ _ _ (by decide)];unfold fld;omega
end Go.Proofs.YtgpdpaljbiclkaaGreatDoor

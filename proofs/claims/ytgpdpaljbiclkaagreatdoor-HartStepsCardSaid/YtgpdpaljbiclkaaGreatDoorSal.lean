/-
  Proved here: the sum by which the reference spells a word is the code's word. Conditions: the numbers are those of an instruction that may be.
-/
import Derived.Test.YtgpdpaljbiclkaaGreatDoorSah
import Derived.Test.YtgpdpaljbiclkaaGreatDoorSak
namespace Go.Proofs.YtgpdpaljbiclkaaGreatDoor
open _root_.Go.Proofs.Tryz
open Go.RowKit
set_option linter.unusedVariables false
theorem Z4n(x low n v:Nat)(hl:low≤63)(hn:1≤n)(hs:low+n≤64):Plc (x:Int) (low:Int) (n:Int) (v:Int)=((plc x low n v:Nat):Int):=by
 unfold Plc
 have:wid (low:Int) (n:Int)=n:=by unfold wid;rw[if_neg (by omega)];omega
 rw[this];simp
theorem Yf(x low n:Nat)(hl:low≤63)(hn:1≤n)(hs:low+n≤64):Fld (x:Int) (low:Int) (n:Int)=((fld x low n:Nat):Int):=by
 unfold Fld
 have:wid (low:Int) (n:Int)=n:=by unfold wid;rw[if_neg (by omega)];omega
 rw[this];simp
theorem Zb(X:Nat)(v:Int)(low n at_:Nat)(hX:IntKind.u64.wrap v=(X:Int))(hl:low≤63)(hn:1≤n)(hs:low+n≤64)(ha:at_≤63)(ht:at_+n≤64):Z7 v (low:Int) (n:Int) (at_:Int)=((2 ^ at_*fld X low n:Nat):Int):=by
 unfold Z7
 rw[hX,Yf X low n hl hn hs,show(0:Int)=((0:Nat):Int) from rfl,Z4n 0 at_ n _ ha hn ht,Z2 _ _ _ _ (by simp),Nat.mod_eq_of_lt (Z5 X low n),Nat.zero_add]
theorem Zj(x:Nat)(h:x<18446744073709551616):IntKind.u64.wrap (x:Int)=(x:Int):=by rw[IntKind.wrap_u64];omega
theorem wadd(a b:Nat)(h:a+b<18446744073709551616):IntKind.u64.wrap ((a:Int)+(b:Int))=((a+b:Nat):Int):=by rw[IntKind.wrap_u64];omega
theorem wsame{a b:Nat}(h:a=b):IntKind.u32.wrap (a:Int)=IntKind.u32.wrap (b:Int):=by rw[h]
theorem Kk(b:Bool)(at_:Nat)(ha:at_≤63):Xf b (at_:Int)=((2 ^ at_*bin b:Nat):Int):=by
 cases b
 ·rfl
 ·have:=Zb 1 1 0 1 at_ rfl (by decide) (by decide) (by decide) ha (by omega)
  exact this
theorem rs_1(o a3 a7 rd rs1 rs2:Nat)(im:Int)(aq rl:Bool)(ho:o<128)(h3:a3<8)(h7:a7<128)(z3:a3=0)(z7:a7=0)(hrd:rd<32)(hr1:rs1<32)(hr2:rs2<32)(hm:ZB 1 im=true):
  IntKind.u32.wrap (IntKind.u64.wrap (IntKind.u64.wrap (IntKind.u64.wrap (IntKind.u64.wrap (IntKind.u64.wrap (IntKind.u64.wrap o+Z7 a3 0 3 12)+Z7 rd 0 5 7)+Z7 0 0 5 15)+Z7 0 0 5 20)+Z7 im 12 20 12))=IntKind.u32.wrap (WW 1 o a3 a7 rd 0 0 false false (IntKind.u64.wrap im)):=by
 obtain⟨m0,m1,m2⟩:=may1 hm
 obtain⟨X,hX⟩:∃X:Nat,IntKind.u64.wrap im=(X:Int):=Int.eq_ofNat_of_zero_le (by rw[IntKind.wrap_u64];omega)
 have t0:Z7 a3 0 3 12=((2 ^ 12*fld a3 0 3:Nat):Int):=Zb a3 a3 0 3 12 (Zj _ (by omega)) (by decide) (by decide) (by decide) (by decide) (by decide)
 have t1:Z7 rd 0 5 7=((2 ^ 7*fld rd 0 5:Nat):Int):=Zb rd rd 0 5 7 (Zj _ (by omega)) (by decide) (by decide) (by decide) (by decide) (by decide)
 have t2:Z7 0 0 5 15=((2 ^ 15*fld 0 0 5:Nat):Int):=Zb 0 0 0 5 15 rfl (by decide) (by decide) (by decide) (by decide) (by decide)
 have t3:Z7 0 0 5 20=((2 ^ 20*fld 0 0 5:Nat):Int):=Zb 0 0 0 5 20 rfl (by decide) (by decide) (by decide) (by decide) (by decide)
 have t4:Z7 im 12 20 12=((2 ^ 12*fld X 12 20:Nat):Int):=Zb X im 12 20 12 hX (by decide) (by decide) (by decide) (by decide) (by decide)
 rw[hX,t0,t1,t2,t3,t4,Zj o (by omega)]
 rw[IntKind.wrap_u64] at hX
 obtain⟨hw,hl⟩:=ww_1 o a3 a7 rd rs1 rs2 X aq rl
 have hs:=Z4d o a3 a7 rd rs1 rs2 (bin aq) (bin rl) X ho h3 h7 hrd hr1 hr2 (Zl _) (Zl _)
 rw[hs] at hw
 clear hs hl
 rw[hw]
 rw[Nat.mod_eq_of_lt (show o<2 ^ 7 from ho),Nat.mod_eq_of_lt (show rd<2 ^ 5 from hrd),Nat.mod_eq_of_lt (Z5 X 12 20)]
 clear hw t0 t1 t2 t3 t4
 have q1:=Zl aq
 have q2:=Zl rl
 have b0:fld a3 0 3<2 ^ 3:=Z5 _ _ _
 have b1:fld rd 0 5<2 ^ 5:=Z5 _ _ _
 have b2:fld 0 0 5<2 ^ 5:=Z5 _ _ _
 have b3:fld X 12 20<2 ^ 20:=Z5 _ _ _
 have e0:fld a3 0 3=a3:=by unfold fld;omega
 have e1:fld rd 0 5=rd:=by unfold fld;omega
 have e2:fld 0 0 5=0:=by unfold fld;omega
 clear hX
 clear m0 m1 m2
 clear hm
 generalize fld a3 0 3=y0 at*
 generalize fld rd 0 5=y1 at*
 generalize fld 0 0 5=y2 at*
 generalize fld X 12 20=y3 at*
 clear q1 q2
 rw[wadd _ _ (by omega),wadd _ _ (by omega),wadd _ _ (by omega),wadd _ _ (by omega),wadd _ _ (by omega)]
 exact wsame (by omega)
theorem rs_2(o a3 a7 rd rs1 rs2:Nat)(im:Int)(aq rl:Bool)(ho:o<128)(h3:a3<8)(h7:a7<128)(z3:a3=0)(z7:a7=0)(hrd:rd<32)(hr1:rs1<32)(hr2:rs2<32)(hm:ZB 2 im=true):
  IntKind.u32.wrap (IntKind.u64.wrap (IntKind.u64.wrap (IntKind.u64.wrap (IntKind.u64.wrap (IntKind.u64.wrap (IntKind.u64.wrap (IntKind.u64.wrap (IntKind.u64.wrap (IntKind.u64.wrap o+Z7 a3 0 3 12)+Z7 rd 0 5 7)+Z7 0 0 5 15)+Z7 0 0 5 20)+Z7 im 20 1 31)+Z7 im 1 10 21)+Z7 im 11 1 20)+Z7 im 12 8 12))=IntKind.u32.wrap (WW 2 o a3 a7 rd 0 0 false false (IntKind.u64.wrap im)):=by
 obtain⟨m0,m1,m2⟩:=may2 hm
 obtain⟨X,hX⟩:∃X:Nat,IntKind.u64.wrap im=(X:Int):=Int.eq_ofNat_of_zero_le (by rw[IntKind.wrap_u64];omega)
 have t0:Z7 a3 0 3 12=((2 ^ 12*fld a3 0 3:Nat):Int):=Zb a3 a3 0 3 12 (Zj _ (by omega)) (by decide) (by decide) (by decide) (by decide) (by decide)
 have t1:Z7 rd 0 5 7=((2 ^ 7*fld rd 0 5:Nat):Int):=Zb rd rd 0 5 7 (Zj _ (by omega)) (by decide) (by decide) (by decide) (by decide) (by decide)
 have t2:Z7 0 0 5 15=((2 ^ 15*fld 0 0 5:Nat):Int):=Zb 0 0 0 5 15 rfl (by decide) (by decide) (by decide) (by decide) (by decide)
 have t3:Z7 0 0 5 20=((2 ^ 20*fld 0 0 5:Nat):Int):=Zb 0 0 0 5 20 rfl (by decide) (by decide) (by decide) (by decide) (by decide)
 have t4:Z7 im 20 1 31=((2 ^ 31*fld X 20 1:Nat):Int):=Zb X im 20 1 31 hX (by decide) (by decide) (by decide) (by decide) (by decide)
 have t5:Z7 im 1 10 21=((2 ^ 21*fld X 1 10:Nat):Int):=Zb X im 1 10 21 hX (by decide) (by decide) (by decide) (by decide) (by decide)
 have t6:Z7 im 11 1 20=((2 ^ 20*fld X 11 1:Nat):Int):=Zb X im 11 1 20 hX (by decide) (by decide) (by decide) (by decide) (by decide)
 have t7:Z7 im 12 8 12=((2 ^ 12*fld X 12 8:Nat):Int):=Zb X im 12 8 12 hX (by decide) (by decide) (by decide) (by decide) (by decide)
 rw[hX,t0,t1,t2,t3,t4,t5,t6,t7,Zj o (by omega)]
 rw[IntKind.wrap_u64] at hX
 obtain⟨hw,hl⟩:=ww_2 o a3 a7 rd rs1 rs2 X aq rl
 have hs:=Z4e o a3 a7 rd rs1 rs2 (bin aq) (bin rl) X ho h3 h7 hrd hr1 hr2 (Zl _) (Zl _)
 rw[hs] at hw
 clear hs hl
 rw[hw]
 rw[Nat.mod_eq_of_lt (show o<2 ^ 7 from ho),Nat.mod_eq_of_lt (show rd<2 ^ 5 from hrd),Nat.mod_eq_of_lt (Z5 X 20 1),Nat.mod_eq_of_lt (Z5 X 1 10),Nat.mod_eq_of_lt (Z5 X 11 1),Nat.mod_eq_of_lt (Z5 X 12 8)]
 clear hw t0 t1 t2 t3 t4 t5 t6 t7
 have q1:=Zl aq
 have q2:=Zl rl
 have b0:fld a3 0 3<2 ^ 3:=Z5 _ _ _
 have b1:fld rd 0 5<2 ^ 5:=Z5 _ _ _
 have b2:fld 0 0 5<2 ^ 5:=Z5 _ _ _
 have b3:fld X 20 1<2 ^ 1:=Z5 _ _ _
 have b4:fld X 1 10<2 ^ 10:=Z5 _ _ _
 have b5:fld X 11 1<2 ^ 1:=Z5 _ _ _
 have b6:fld X 12 8<2 ^ 8:=Z5 _ _ _
 have e0:fld a3 0 3=a3:=by unfold fld;omega
 have e1:fld rd 0 5=rd:=by unfold fld;omega
 have e2:fld 0 0 5=0:=by unfold fld;omega
 clear hX
 clear m0 m1 m2
 clear hm
 generalize fld a3 0 3=y0 at*
 generalize fld rd 0 5=y1 at*
 generalize fld 0 0 5=y2 at*
 generalize fld X 20 1=y3 at*
 generalize fld X 1 10=y4 at*
 generalize fld X 11 1=y5 at*
 generalize fld X 12 8=y6 at*
 clear q1 q2
 rw[wadd _ _ (by omega),wadd _ _ (by omega),wadd _ _ (by omega),wadd _ _ (by omega),wadd _ _ (by omega),wadd _ _ (by omega),wadd _ _ (by omega),wadd _ _ (by omega)]
 exact wsame (by omega)
theorem rs_3(o a3 a7 rd rs1 rs2:Nat)(im:Int)(aq rl:Bool)(ho:o<128)(h3:a3<8)(h7:a7<128)(z7:a7=0)(hrd:rd<32)(hr1:rs1<32)(hr2:rs2<32)(hm:ZB 3 im=true):
  IntKind.u32.wrap (IntKind.u64.wrap (IntKind.u64.wrap (IntKind.u64.wrap (IntKind.u64.wrap (IntKind.u64.wrap (IntKind.u64.wrap o+Z7 a3 0 3 12)+Z7 rd 0 5 7)+Z7 rs1 0 5 15)+Z7 0 0 5 20)+Z7 im 0 12 20))=IntKind.u32.wrap (WW 3 o a3 a7 rd rs1 0 false false (IntKind.u64.wrap im)):=by
 obtain⟨m0,m1,m2⟩:=may3 hm
 obtain⟨X,hX⟩:∃X:Nat,IntKind.u64.wrap im=(X:Int):=Int.eq_ofNat_of_zero_le (by rw[IntKind.wrap_u64];omega)
 have t0:Z7 a3 0 3 12=((2 ^ 12*fld a3 0 3:Nat):Int):=Zb a3 a3 0 3 12 (Zj _ (by omega)) (by decide) (by decide) (by decide) (by decide) (by decide)
 have t1:Z7 rd 0 5 7=((2 ^ 7*fld rd 0 5:Nat):Int):=Zb rd rd 0 5 7 (Zj _ (by omega)) (by decide) (by decide) (by decide) (by decide) (by decide)
 have t2:Z7 rs1 0 5 15=((2 ^ 15*fld rs1 0 5:Nat):Int):=Zb rs1 rs1 0 5 15 (Zj _ (by omega)) (by decide) (by decide) (by decide) (by decide) (by decide)
 have t3:Z7 0 0 5 20=((2 ^ 20*fld 0 0 5:Nat):Int):=Zb 0 0 0 5 20 rfl (by decide) (by decide) (by decide) (by decide) (by decide)
 have t4:Z7 im 0 12 20=((2 ^ 20*fld X 0 12:Nat):Int):=Zb X im 0 12 20 hX (by decide) (by decide) (by decide) (by decide) (by decide)
 rw[hX,t0,t1,t2,t3,t4,Zj o (by omega)]
 rw[IntKind.wrap_u64] at hX
 obtain⟨hw,hl⟩:=ww_3 o a3 a7 rd rs1 rs2 X aq rl
 have hs:=Z4f o a3 a7 rd rs1 rs2 (bin aq) (bin rl) X ho h3 h7 hrd hr1 hr2 (Zl _) (Zl _)
 rw[hs] at hw
 clear hs hl
 rw[hw]
 rw[Nat.mod_eq_of_lt (show o<2 ^ 7 from ho),Nat.mod_eq_of_lt (Z5 a3 0 3),Nat.mod_eq_of_lt (show rd<2 ^ 5 from hrd),Nat.mod_eq_of_lt (show rs1<2 ^ 5 from hr1),Nat.mod_eq_of_lt (Z5 X 0 12)]
 clear hw t0 t1 t2 t3 t4
 have q1:=Zl aq
 have q2:=Zl rl
 have b0:fld a3 0 3<2 ^ 3:=Z5 _ _ _
 have b1:fld rd 0 5<2 ^ 5:=Z5 _ _ _
 have b2:fld rs1 0 5<2 ^ 5:=Z5 _ _ _
 have b3:fld 0 0 5<2 ^ 5:=Z5 _ _ _
 have b4:fld X 0 12<2 ^ 12:=Z5 _ _ _
 have e0:fld a3 0 3=a3:=by unfold fld;omega
 have e1:fld rd 0 5=rd:=by unfold fld;omega
 have e2:fld rs1 0 5=rs1:=by unfold fld;omega
 have e3:fld 0 0 5=0:=by unfold fld;omega
 clear hX
 clear m0 m1 m2
 clear hm
 generalize fld a3 0 3=y0 at*
 generalize fld rd 0 5=y1 at*
 generalize fld rs1 0 5=y2 at*
 generalize fld 0 0 5=y3 at*
 generalize fld X 0 12=y4 at*
 clear q1 q2
 rw[wadd _ _ (by omega),wadd _ _ (by omega),wadd _ _ (by omega),wadd _ _ (by omega),wadd _ _ (by omega)]
 exact wsame (by omega)
theorem rs_4(o a3 a7 rd rs1 rs2:Nat)(im:Int)(aq rl:Bool)(ho:o<128)(h3:a3<8)(h7:a7<128)(z7:a7=0)(hrd:rd<32)(hr1:rs1<32)(hr2:rs2<32)(hm:ZB 4 im=true):
  IntKind.u32.wrap (IntKind.u64.wrap (IntKind.u64.wrap (IntKind.u64.wrap (IntKind.u64.wrap (IntKind.u64.wrap (IntKind.u64.wrap (IntKind.u64.wrap (IntKind.u64.wrap (IntKind.u64.wrap o+Z7 a3 0 3 12)+Z7 0 0 5 7)+Z7 rs1 0 5 15)+Z7 rs2 0 5 20)+Z7 im 12 1 31)+Z7 im 5 6 25)+Z7 im 1 4 8)+Z7 im 11 1 7))=IntKind.u32.wrap (WW 4 o a3 a7 0 rs1 rs2 false false (IntKind.u64.wrap im)):=by
 obtain⟨m0,m1,m2⟩:=may4 hm
 obtain⟨X,hX⟩:∃X:Nat,IntKind.u64.wrap im=(X:Int):=Int.eq_ofNat_of_zero_le (by rw[IntKind.wrap_u64];omega)
 have t0:Z7 a3 0 3 12=((2 ^ 12*fld a3 0 3:Nat):Int):=Zb a3 a3 0 3 12 (Zj _ (by omega)) (by decide) (by decide) (by decide) (by decide) (by decide)
 have t1:Z7 0 0 5 7=((2 ^ 7*fld 0 0 5:Nat):Int):=Zb 0 0 0 5 7 rfl (by decide) (by decide) (by decide) (by decide) (by decide)
 have t2:Z7 rs1 0 5 15=((2 ^ 15*fld rs1 0 5:Nat):Int):=Zb rs1 rs1 0 5 15 (Zj _ (by omega)) (by decide) (by decide) (by decide) (by decide) (by decide)
 have t3:Z7 rs2 0 5 20=((2 ^ 20*fld rs2 0 5:Nat):Int):=Zb rs2 rs2 0 5 20 (Zj _ (by omega)) (by decide) (by decide) (by decide) (by decide) (by decide)
 have t4:Z7 im 12 1 31=((2 ^ 31*fld X 12 1:Nat):Int):=Zb X im 12 1 31 hX (by decide) (by decide) (by decide) (by decide) (by decide)
 have t5:Z7 im 5 6 25=((2 ^ 25*fld X 5 6:Nat):Int):=Zb X im 5 6 25 hX (by decide) (by decide) (by decide) (by decide) (by decide)
 have t6:Z7 im 1 4 8=((2 ^ 8*fld X 1 4:Nat):Int):=Zb X im 1 4 8 hX (by decide) (by decide) (by decide) (by decide) (by decide)
 have t7:Z7 im 11 1 7=((2 ^ 7*fld X 11 1:Nat):Int):=Zb X im 11 1 7 hX (by decide) (by decide) (by decide) (by decide) (by decide)
 rw[hX,t0,t1,t2,t3,t4,t5,t6,t7,Zj o (by omega)]
 rw[IntKind.wrap_u64] at hX
 obtain⟨hw,hl⟩:=ww_4 o a3 a7 rd rs1 rs2 X aq rl
 have hs:=Z4g o a3 a7 rd rs1 rs2 (bin aq) (bin rl) X ho h3 h7 hrd hr1 hr2 (Zl _) (Zl _)
 rw[hs] at hw
 clear hs hl
 rw[hw]
 rw[Nat.mod_eq_of_lt (show o<2 ^ 7 from ho),Nat.mod_eq_of_lt (Z5 a3 0 3),Nat.mod_eq_of_lt (show rs1<2 ^ 5 from hr1),Nat.mod_eq_of_lt (show rs2<2 ^ 5 from hr2),Nat.mod_eq_of_lt (Z5 X 12 1),Nat.mod_eq_of_lt (Z5 X 5 6),Nat.mod_eq_of_lt (Z5 X 1 4),Nat.mod_eq_of_lt (Z5 X 11 1)]
 clear hw t0 t1 t2 t3 t4 t5 t6 t7
 have q1:=Zl aq
 have q2:=Zl rl
 have b0:fld a3 0 3<2 ^ 3:=Z5 _ _ _
 have b1:fld 0 0 5<2 ^ 5:=Z5 _ _ _
 have b2:fld rs1 0 5<2 ^ 5:=Z5 _ _ _
 have b3:fld rs2 0 5<2 ^ 5:=Z5 _ _ _
 have b4:fld X 12 1<2 ^ 1:=Z5 _ _ _
 have b5:fld X 5 6<2 ^ 6:=Z5 _ _ _
 have b6:fld X 1 4<2 ^ 4:=Z5 _ _ _
 have b7:fld X 11 1<2 ^ 1:=Z5 _ _ _
 have e0:fld a3 0 3=a3:=by unfold fld;omega
 have e1:fld 0 0 5=0:=by unfold fld;omega
 have e2:fld rs1 0 5=rs1:=by unfold fld;omega
 have e3:fld rs2 0 5=rs2:=by unfold fld;omega
 clear hX
 clear m0 m1 m2
 clear hm
 generalize fld a3 0 3=y0 at*
 generalize fld 0 0 5=y1 at*
 generalize fld rs1 0 5=y2 at*
 generalize fld rs2 0 5=y3 at*
 generalize fld X 12 1=y4 at*
 generalize fld X 5 6=y5 at*
 generalize fld X 1 4=y6 at*
 generalize fld X 11 1=y7 at*
 clear q1 q2
 rw[wadd _ _ (by omega),wadd _ _ (by omega),wadd _ _ (by omega),wadd _ _ (by omega),wadd _ _ (by omega),wadd _ _ (by omega),wadd _ _ (by omega),wadd _ _ (by omega)]
 exact wsame (by omega)
theorem rs_5(o a3 a7 rd rs1 rs2:Nat)(im:Int)(aq rl:Bool)(ho:o<128)(h3:a3<8)(h7:a7<128)(z7:a7=0)(hrd:rd<32)(hr1:rs1<32)(hr2:rs2<32)(hm:ZB 5 im=true):
  IntKind.u32.wrap (IntKind.u64.wrap (IntKind.u64.wrap (IntKind.u64.wrap (IntKind.u64.wrap (IntKind.u64.wrap (IntKind.u64.wrap (IntKind.u64.wrap o+Z7 a3 0 3 12)+Z7 0 0 5 7)+Z7 rs1 0 5 15)+Z7 rs2 0 5 20)+Z7 im 5 7 25)+Z7 im 0 5 7))=IntKind.u32.wrap (WW 5 o a3 a7 0 rs1 rs2 false false (IntKind.u64.wrap im)):=by
 obtain⟨m0,m1,m2⟩:=may5 hm
 obtain⟨X,hX⟩:∃X:Nat,IntKind.u64.wrap im=(X:Int):=Int.eq_ofNat_of_zero_le (by rw[IntKind.wrap_u64];omega)
 have t0:Z7 a3 0 3 12=((2 ^ 12*fld a3 0 3:Nat):Int):=Zb a3 a3 0 3 12 (Zj _ (by omega)) (by decide) (by decide) (by decide) (by decide) (by decide)
 have t1:Z7 0 0 5 7=((2 ^ 7*fld 0 0 5:Nat):Int):=Zb 0 0 0 5 7 rfl (by decide) (by decide) (by decide) (by decide) (by decide)
 have t2:Z7 rs1 0 5 15=((2 ^ 15*fld rs1 0 5:Nat):Int):=Zb rs1 rs1 0 5 15 (Zj _ (by omega)) (by decide) (by decide) (by decide) (by decide) (by decide)
 have t3:Z7 rs2 0 5 20=((2 ^ 20*fld rs2 0 5:Nat):Int):=Zb rs2 rs2 0 5 20 (Zj _ (by omega)) (by decide) (by decide) (by decide) (by decide) (by decide)
 have t4:Z7 im 5 7 25=((2 ^ 25*fld X 5 7:Nat):Int):=Zb X im 5 7 25 hX (by decide) (by decide) (by decide) (by decide) (by decide)
 have t5:Z7 im 0 5 7=((2 ^ 7*fld X 0 5:Nat):Int):=Zb X im 0 5 7 hX (by decide) (by decide) (by decide) (by decide) (by decide)
 rw[hX,t0,t1,t2,t3,t4,t5,Zj o (by omega)]
 rw[IntKind.wrap_u64] at hX
 obtain⟨hw,hl⟩:=ww_5 o a3 a7 rd rs1 rs2 X aq rl
 have hs:=Z4h o a3 a7 rd rs1 rs2 (bin aq) (bin rl) X ho h3 h7 hrd hr1 hr2 (Zl _) (Zl _)
 rw[hs] at hw
 clear hs hl
 rw[hw]
 rw[Nat.mod_eq_of_lt (show o<2 ^ 7 from ho),Nat.mod_eq_of_lt (Z5 a3 0 3),Nat.mod_eq_of_lt (show rs1<2 ^ 5 from hr1),Nat.mod_eq_of_lt (show rs2<2 ^ 5 from hr2),Nat.mod_eq_of_lt (Z5 X 5 7),Nat.mod_eq_of_lt (Z5 X 0 5)]
 clear hw t0 t1 t2 t3 t4 t5
 have q1:=Zl aq
 have q2:=Zl rl
 have b0:fld a3 0 3<2 ^ 3:=Z5 _ _ _
 have b1:fld 0 0 5<2 ^ 5:=Z5 _ _ _
 have b2:fld rs1 0 5<2 ^ 5:=Z5 _ _ _
 have b3:fld rs2 0 5<2 ^ 5:=Z5 _ _ _
 have b4:fld X 5 7<2 ^ 7:=Z5 _ _ _
 have b5:fld X 0 5<2 ^ 5:=Z5 _ _ _
 have e0:fld a3 0 3=a3:=by unfold fld;omega
 have e1:fld 0 0 5=0:=by unfold fld;omega
 have e2:fld rs1 0 5=rs1:=by unfold fld;omega
 have e3:fld rs2 0 5=rs2:=by unfold fld;omega
 clear hX
 clear m0 m1 m2
 clear hm
 generalize fld a3 0 3=y0 at*
 generalize fld 0 0 5=y1 at*
 generalize fld rs1 0 5=y2 at*
 generalize fld rs2 0 5=y3 at*
 generalize fld X 5 7=y4 at*
 generalize fld X 0 5=y5 at*
 clear q1 q2
 rw[wadd _ _ (by omega),wadd _ _ (by omega),wadd _ _ (by omega),wadd _ _ (by omega),wadd _ _ (by omega),wadd _ _ (by omega)]
 exact wsame (by omega)
theorem rs_6(o a3 a7 rd rs1 rs2:Nat)(im:Int)(aq rl:Bool)(ho:o<128)(h3:a3<8)(h7:a7<128)(z7:a7 % 2=0)(hrd:rd<32)(hr1:rs1<32)(hr2:rs2<32)(hm:ZB 6 im=true):
  IntKind.u32.wrap (IntKind.u64.wrap (IntKind.u64.wrap (IntKind.u64.wrap (IntKind.u64.wrap (IntKind.u64.wrap (IntKind.u64.wrap (IntKind.u64.wrap o+Z7 a3 0 3 12)+Z7 rd 0 5 7)+Z7 rs1 0 5 15)+Z7 0 0 5 20)+Z7 a7 0 7 25)+Z7 im 0 6 20))=IntKind.u32.wrap (WW 6 o a3 a7 rd rs1 0 false false (IntKind.u64.wrap im)):=by
 obtain⟨m0,m1,m2⟩:=may6 hm
 obtain⟨X,hX⟩:∃X:Nat,IntKind.u64.wrap im=(X:Int):=Int.eq_ofNat_of_zero_le (by rw[IntKind.wrap_u64];omega)
 have t0:Z7 a3 0 3 12=((2 ^ 12*fld a3 0 3:Nat):Int):=Zb a3 a3 0 3 12 (Zj _ (by omega)) (by decide) (by decide) (by decide) (by decide) (by decide)
 have t1:Z7 rd 0 5 7=((2 ^ 7*fld rd 0 5:Nat):Int):=Zb rd rd 0 5 7 (Zj _ (by omega)) (by decide) (by decide) (by decide) (by decide) (by decide)
 have t2:Z7 rs1 0 5 15=((2 ^ 15*fld rs1 0 5:Nat):Int):=Zb rs1 rs1 0 5 15 (Zj _ (by omega)) (by decide) (by decide) (by decide) (by decide) (by decide)
 have t3:Z7 0 0 5 20=((2 ^ 20*fld 0 0 5:Nat):Int):=Zb 0 0 0 5 20 rfl (by decide) (by decide) (by decide) (by decide) (by decide)
 have t4:Z7 a7 0 7 25=((2 ^ 25*fld a7 0 7:Nat):Int):=Zb a7 a7 0 7 25 (Zj _ (by omega)) (by decide) (by decide) (by decide) (by decide) (by decide)
 have t5:Z7 im 0 6 20=((2 ^ 20*fld X 0 6:Nat):Int):=Zb X im 0 6 20 hX (by decide) (by decide) (by decide) (by decide) (by decide)
 rw[hX,t0,t1,t2,t3,t4,t5,Zj o (by omega)]
 rw[IntKind.wrap_u64] at hX
 obtain⟨hw,hl⟩:=ww_6 o a3 a7 rd rs1 rs2 X aq rl
 have hs:=Z4i o a3 a7 rd rs1 rs2 (bin aq) (bin rl) X ho h3 h7 hrd hr1 hr2 (Zl _) (Zl _)
 rw[hs] at hw
 clear hs hl
 rw[hw]
 rw[Nat.mod_eq_of_lt (show o<2 ^ 7 from ho),Nat.mod_eq_of_lt (Z5 a3 0 3),Nat.mod_eq_of_lt (Z5 a7 1 6),Nat.mod_eq_of_lt (show rd<2 ^ 5 from hrd),Nat.mod_eq_of_lt (show rs1<2 ^ 5 from hr1),Nat.mod_eq_of_lt (Z5 X 0 6)]
 clear hw t0 t1 t2 t3 t4 t5
 have q1:=Zl aq
 have q2:=Zl rl
 have b0:fld a3 0 3<2 ^ 3:=Z5 _ _ _
 have b1:fld rd 0 5<2 ^ 5:=Z5 _ _ _
 have b2:fld rs1 0 5<2 ^ 5:=Z5 _ _ _
 have b3:fld 0 0 5<2 ^ 5:=Z5 _ _ _
 have b4:fld a7 0 7<2 ^ 7:=Z5 _ _ _
 have b5:fld X 0 6<2 ^ 6:=Z5 _ _ _
 have b6:fld a7 1 6<2 ^ 6:=Z5 _ _ _
 have e0:fld a3 0 3=a3:=by unfold fld;omega
 have e1:fld rd 0 5=rd:=by unfold fld;omega
 have e2:fld rs1 0 5=rs1:=by unfold fld;omega
 have e3:fld 0 0 5=0:=by unfold fld;omega
 have e4:fld a7 0 7=a7 / 2 ^ 0:=by unfold fld;omega
 have e5:fld X 0 6=X:=by unfold fld;omega
 have e6:fld a7 1 6=a7 / 2 ^ 1:=by unfold fld;omega
 clear hX
 clear m0 m1 m2
 clear hm
 generalize fld a3 0 3=y0 at*
 generalize fld rd 0 5=y1 at*
 generalize fld rs1 0 5=y2 at*
 generalize fld 0 0 5=y3 at*
 generalize fld a7 0 7=y4 at*
 generalize fld X 0 6=y5 at*
 generalize fld a7 1 6=y6 at*
 clear q1 q2
 rw[wadd _ _ (by omega),wadd _ _ (by omega),wadd _ _ (by omega),wadd _ _ (by omega),wadd _ _ (by omega),wadd _ _ (by omega)]
 exact wsame (by omega)
theorem rs_7(o a3 a7 rd rs1 rs2:Nat)(im:Int)(aq rl:Bool)(ho:o<128)(h3:a3<8)(h7:a7<128)(hrd:rd<32)(hr1:rs1<32)(hr2:rs2<32)(hm:ZB 7 im=true):
  IntKind.u32.wrap (IntKind.u64.wrap (IntKind.u64.wrap (IntKind.u64.wrap (IntKind.u64.wrap (IntKind.u64.wrap (IntKind.u64.wrap (IntKind.u64.wrap o+Z7 a3 0 3 12)+Z7 rd 0 5 7)+Z7 rs1 0 5 15)+Z7 0 0 5 20)+Z7 a7 0 7 25)+Z7 im 0 6 20))=IntKind.u32.wrap (WW 7 o a3 a7 rd rs1 0 false false (IntKind.u64.wrap im)):=by
 obtain⟨m0,m1,m2⟩:=may7 hm
 obtain⟨X,hX⟩:∃X:Nat,IntKind.u64.wrap im=(X:Int):=Int.eq_ofNat_of_zero_le (by rw[IntKind.wrap_u64];omega)
 have t0:Z7 a3 0 3 12=((2 ^ 12*fld a3 0 3:Nat):Int):=Zb a3 a3 0 3 12 (Zj _ (by omega)) (by decide) (by decide) (by decide) (by decide) (by decide)
 have t1:Z7 rd 0 5 7=((2 ^ 7*fld rd 0 5:Nat):Int):=Zb rd rd 0 5 7 (Zj _ (by omega)) (by decide) (by decide) (by decide) (by decide) (by decide)
 have t2:Z7 rs1 0 5 15=((2 ^ 15*fld rs1 0 5:Nat):Int):=Zb rs1 rs1 0 5 15 (Zj _ (by omega)) (by decide) (by decide) (by decide) (by decide) (by decide)
 have t3:Z7 0 0 5 20=((2 ^ 20*fld 0 0 5:Nat):Int):=Zb 0 0 0 5 20 rfl (by decide) (by decide) (by decide) (by decide) (by decide)
 have t4:Z7 a7 0 7 25=((2 ^ 25*fld a7 0 7:Nat):Int):=Zb a7 a7 0 7 25 (Zj _ (by omega)) (by decide) (by decide) (by decide) (by decide) (by decide)
 have t5:Z7 im 0 6 20=((2 ^ 20*fld X 0 6:Nat):Int):=Zb X im 0 6 20 hX (by decide) (by decide) (by decide) (by decide) (by decide)
 rw[hX,t0,t1,t2,t3,t4,t5,Zj o (by omega)]
 rw[IntKind.wrap_u64] at hX
 obtain⟨hw,hl⟩:=ww_7 o a3 a7 rd rs1 rs2 X aq rl
 have hs:=Z4j o a3 a7 rd rs1 rs2 (bin aq) (bin rl) X ho h3 h7 hrd hr1 hr2 (Zl _) (Zl _)
 rw[hs] at hw
 clear hs hl
 rw[hw]
 rw[Nat.mod_eq_of_lt (show o<2 ^ 7 from ho),Nat.mod_eq_of_lt (Z5 a3 0 3),Nat.mod_eq_of_lt (Z5 a7 0 7),Nat.mod_eq_of_lt (show rd<2 ^ 5 from hrd),Nat.mod_eq_of_lt (show rs1<2 ^ 5 from hr1),Nat.mod_eq_of_lt (Z5 X 0 5)]
 clear hw t0 t1 t2 t3 t4 t5
 have q1:=Zl aq
 have q2:=Zl rl
 have b0:fld a3 0 3<2 ^ 3:=Z5 _ _ _
 have b1:fld rd 0 5<2 ^ 5:=Z5 _ _ _
 have b2:fld rs1 0 5<2 ^ 5:=Z5 _ _ _
 have b3:fld 0 0 5<2 ^ 5:=Z5 _ _ _
 have b4:fld a7 0 7<2 ^ 7:=Z5 _ _ _
 have b5:fld X 0 6<2 ^ 6:=Z5 _ _ _
 have b6:fld X 0 5<2 ^ 5:=Z5 _ _ _
 have e0:fld a3 0 3=a3:=by unfold fld;omega
 have e1:fld rd 0 5=rd:=by unfold fld;omega
 have e2:fld rs1 0 5=rs1:=by unfold fld;omega
 have e3:fld 0 0 5=0:=by unfold fld;omega
 have e4:fld a7 0 7=a7 / 2 ^ 0:=by unfold fld;omega
 have e5:fld X 0 6=X:=by unfold fld;omega
 have e6:fld X 0 5=X:=by unfold fld;omega
 clear hX
 clear m0 m1 m2
 clear hm
 generalize fld a3 0 3=y0 at*
 generalize fld rd 0 5=y1 at*
 generalize fld rs1 0 5=y2 at*
 generalize fld 0 0 5=y3 at*
 generalize fld a7 0 7=y4 at*
 generalize fld X 0 6=y5 at*
 generalize fld X 0 5=y6 at*
 clear q1 q2
 rw[wadd _ _ (by omega),wadd _ _ (by omega),wadd _ _ (by omega),wadd _ _ (by omega),wadd _ _ (by omega),wadd _ _ (by omega)]
 exact wsame (by omega)
theorem rs_8(o a3 a7 rd rs1 rs2:Nat)(im:Int)(aq rl:Bool)(ho:o<128)(h3:a3<8)(h7:a7<128)(hrd:rd<32)(hr1:rs1<32)(hr2:rs2<32)(hm:ZB 8 im=true):
  IntKind.u32.wrap (IntKind.u64.wrap (IntKind.u64.wrap (IntKind.u64.wrap (IntKind.u64.wrap (IntKind.u64.wrap (IntKind.u64.wrap o+Z7 a3 0 3 12)+Z7 rd 0 5 7)+Z7 rs1 0 5 15)+Z7 rs2 0 5 20)+Z7 a7 0 7 25))=IntKind.u32.wrap (WW 8 o a3 a7 rd rs1 rs2 false false (IntKind.u64.wrap im)):=by
 obtain rfl:=mayz (show(im==0)=true from hm)
 obtain⟨X,hX⟩:∃X:Nat,IntKind.u64.wrap 0=(X:Int):=⟨0,rfl⟩
 have t0:Z7 a3 0 3 12=((2 ^ 12*fld a3 0 3:Nat):Int):=Zb a3 a3 0 3 12 (Zj _ (by omega)) (by decide) (by decide) (by decide) (by decide) (by decide)
 have t1:Z7 rd 0 5 7=((2 ^ 7*fld rd 0 5:Nat):Int):=Zb rd rd 0 5 7 (Zj _ (by omega)) (by decide) (by decide) (by decide) (by decide) (by decide)
 have t2:Z7 rs1 0 5 15=((2 ^ 15*fld rs1 0 5:Nat):Int):=Zb rs1 rs1 0 5 15 (Zj _ (by omega)) (by decide) (by decide) (by decide) (by decide) (by decide)
 have t3:Z7 rs2 0 5 20=((2 ^ 20*fld rs2 0 5:Nat):Int):=Zb rs2 rs2 0 5 20 (Zj _ (by omega)) (by decide) (by decide) (by decide) (by decide) (by decide)
 have t4:Z7 a7 0 7 25=((2 ^ 25*fld a7 0 7:Nat):Int):=Zb a7 a7 0 7 25 (Zj _ (by omega)) (by decide) (by decide) (by decide) (by decide) (by decide)
 rw[hX,t0,t1,t2,t3,t4,Zj o (by omega)]
 rw[IntKind.wrap_u64] at hX
 obtain⟨hw,hl⟩:=ww_8 o a3 a7 rd rs1 rs2 X aq rl
 have hs:=Z4k o a3 a7 rd rs1 rs2 (bin aq) (bin rl) X ho h3 h7 hrd hr1 hr2 (Zl _) (Zl _)
 rw[hs] at hw
 clear hs hl
 rw[hw]
 rw[Nat.mod_eq_of_lt (show o<2 ^ 7 from ho),Nat.mod_eq_of_lt (Z5 a3 0 3),Nat.mod_eq_of_lt (Z5 a7 0 7),Nat.mod_eq_of_lt (show rd<2 ^ 5 from hrd),Nat.mod_eq_of_lt (show rs1<2 ^ 5 from hr1),Nat.mod_eq_of_lt (show rs2<2 ^ 5 from hr2)]
 clear hw t0 t1 t2 t3 t4
 have q1:=Zl aq
 have q2:=Zl rl
 have b0:fld a3 0 3<2 ^ 3:=Z5 _ _ _
 have b1:fld rd 0 5<2 ^ 5:=Z5 _ _ _
 have b2:fld rs1 0 5<2 ^ 5:=Z5 _ _ _
 have b3:fld rs2 0 5<2 ^ 5:=Z5 _ _ _
 have b4:fld a7 0 7<2 ^ 7:=Z5 _ _ _
 have e0:fld a3 0 3=a3:=by unfold fld;omega
 have e1:fld rd 0 5=rd:=by unfold fld;omega
 have e2:fld rs1 0 5=rs1:=by unfold fld;omega
 have e3:fld rs2 0 5=rs2:=by unfold fld;omega
 have e4:fld a7 0 7=a7 / 2 ^ 0:=by unfold fld;omega
 clear hX
 generalize fld a3 0 3=y0 at*
 generalize fld rd 0 5=y1 at*
 generalize fld rs1 0 5=y2 at*
 generalize fld rs2 0 5=y3 at*
 generalize fld a7 0 7=y4 at*
 clear q1 q2
 rw[wadd _ _ (by omega),wadd _ _ (by omega),wadd _ _ (by omega),wadd _ _ (by omega),wadd _ _ (by omega)]
 exact wsame (by omega)
theorem rs_9(o a3 a7 rd rs1 rs2:Nat)(im:Int)(aq rl:Bool)(ho:o<128)(h3:a3<8)(h7:a7<128)(z3:a3=0)(z7:a7=0)(hrd:rd<32)(hr1:rs1<32)(hr2:rs2<32)(hm:ZB 9 im=true):
  IntKind.u32.wrap (IntKind.u64.wrap (IntKind.u64.wrap (IntKind.u64.wrap (IntKind.u64.wrap (IntKind.u64.wrap (IntKind.u64.wrap o+Z7 a3 0 3 12)+Z7 0 0 5 7)+Z7 0 0 5 15)+Z7 0 0 5 20)+Z7 im 0 8 20))=IntKind.u32.wrap (WW 9 o a3 a7 0 0 0 false false (IntKind.u64.wrap im)):=by
 obtain⟨m0,m1,m2⟩:=may9 hm
 obtain⟨X,hX⟩:∃X:Nat,IntKind.u64.wrap im=(X:Int):=Int.eq_ofNat_of_zero_le (by rw[IntKind.wrap_u64];omega)
 have t0:Z7 a3 0 3 12=((2 ^ 12*fld a3 0 3:Nat):Int):=Zb a3 a3 0 3 12 (Zj _ (by omega)) (by decide) (by decide) (by decide) (by decide) (by decide)
 have t1:Z7 0 0 5 7=((2 ^ 7*fld 0 0 5:Nat):Int):=Zb 0 0 0 5 7 rfl (by decide) (by decide) (by decide) (by decide) (by decide)
 have t2:Z7 0 0 5 15=((2 ^ 15*fld 0 0 5:Nat):Int):=Zb 0 0 0 5 15 rfl (by decide) (by decide) (by decide) (by decide) (by decide)
 have t3:Z7 0 0 5 20=((2 ^ 20*fld 0 0 5:Nat):Int):=Zb 0 0 0 5 20 rfl (by decide) (by decide) (by decide) (by decide) (by decide)
 have t4:Z7 im 0 8 20=((2 ^ 20*fld X 0 8:Nat):Int):=Zb X im 0 8 20 hX (by decide) (by decide) (by decide) (by decide) (by decide)
 rw[hX,t0,t1,t2,t3,t4,Zj o (by omega)]
 rw[IntKind.wrap_u64] at hX
 obtain⟨hw,hl⟩:=ww_9 o a3 a7 rd rs1 rs2 X aq rl
 have hs:=Z4l o a3 a7 rd rs1 rs2 (bin aq) (bin rl) X ho h3 h7 hrd hr1 hr2 (Zl _) (Zl _)
 rw[hs] at hw
 clear hs hl
 rw[hw]
 rw[Nat.mod_eq_of_lt (show o<2 ^ 7 from ho),Nat.mod_eq_of_lt (Z5 X 0 8)]
 clear hw t0 t1 t2 t3 t4
 have q1:=Zl aq
 have q2:=Zl rl
 have b0:fld a3 0 3<2 ^ 3:=Z5 _ _ _
 have b1:fld 0 0 5<2 ^ 5:=Z5 _ _ _
 have b2:fld X 0 8<2 ^ 8:=Z5 _ _ _
 have e0:fld a3 0 3=a3:=by unfold fld;omega
 have e1:fld 0 0 5=0:=by unfold fld;omega
 have e2:fld X 0 8=X:=by unfold fld;omega
 clear hX
 clear m0 m1 m2
 clear hm
 generalize fld a3 0 3=y0 at*
 generalize fld 0 0 5=y1 at*
 generalize fld X 0 8=y2 at*
 clear q1 q2
 rw[wadd _ _ (by omega),wadd _ _ (by omega),wadd _ _ (by omega),wadd _ _ (by omega),wadd _ _ (by omega)]
 exact wsame (by omega)
theorem rs_10(o a3 a7 rd rs1 rs2:Nat)(im:Int)(aq rl:Bool)(ho:o<128)(h3:a3<8)(h7:a7<128)(z3:a3=0)(hrd:rd<32)(hr1:rs1<32)(hr2:rs2<32)(hm:ZB 10 im=true):
  IntKind.u32.wrap (IntKind.u64.wrap (IntKind.u64.wrap (IntKind.u64.wrap (IntKind.u64.wrap (IntKind.u64.wrap (IntKind.u64.wrap o+Z7 a3 0 3 12)+Z7 0 0 5 7)+Z7 0 0 5 15)+Z7 0 0 5 20)+Z7 a7 0 12 20))=IntKind.u32.wrap (WW 10 o a3 a7 0 0 0 false false (IntKind.u64.wrap im)):=by
 obtain rfl:=mayz (show(im==0)=true from hm)
 obtain⟨X,hX⟩:∃X:Nat,IntKind.u64.wrap 0=(X:Int):=⟨0,rfl⟩
 have t0:Z7 a3 0 3 12=((2 ^ 12*fld a3 0 3:Nat):Int):=Zb a3 a3 0 3 12 (Zj _ (by omega)) (by decide) (by decide) (by decide) (by decide) (by decide)
 have t1:Z7 0 0 5 7=((2 ^ 7*fld 0 0 5:Nat):Int):=Zb 0 0 0 5 7 rfl (by decide) (by decide) (by decide) (by decide) (by decide)
 have t2:Z7 0 0 5 15=((2 ^ 15*fld 0 0 5:Nat):Int):=Zb 0 0 0 5 15 rfl (by decide) (by decide) (by decide) (by decide) (by decide)
 have t3:Z7 0 0 5 20=((2 ^ 20*fld 0 0 5:Nat):Int):=Zb 0 0 0 5 20 rfl (by decide) (by decide) (by decide) (by decide) (by decide)
 have t4:Z7 a7 0 12 20=((2 ^ 20*fld a7 0 12:Nat):Int):=Zb a7 a7 0 12 20 (Zj _ (by omega)) (by decide) (by decide) (by decide) (by decide) (by decide)
 rw[hX,t0,t1,t2,t3,t4,Zj o (by omega)]
 rw[IntKind.wrap_u64] at hX
 obtain⟨hw,hl⟩:=ww_10 o a3 a7 rd rs1 rs2 X aq rl
 have hs:=Z2F o a3 a7 rd rs1 rs2 (bin aq) (bin rl) X ho h3 h7 hrd hr1 hr2 (Zl _) (Zl _)
 rw[hs] at hw
 clear hs hl
 rw[hw]
 rw[Nat.mod_eq_of_lt (show o<2 ^ 7 from ho),Nat.mod_eq_of_lt (Z5 a7 0 12)]
 clear hw t0 t1 t2 t3 t4
 have q1:=Zl aq
 have q2:=Zl rl
 have b0:fld a3 0 3<2 ^ 3:=Z5 _ _ _
 have b1:fld 0 0 5<2 ^ 5:=Z5 _ _ _
 have b2:fld a7 0 12<2 ^ 12:=Z5 _ _ _
 have e0:fld a3 0 3=a3:=by unfold fld;omega
 have e1:fld 0 0 5=0:=by unfold fld;omega
 have e2:fld a7 0 12=a7 / 2 ^ 0:=by unfold fld;omega
 clear hX
 generalize fld a3 0 3=y0 at*
 generalize fld 0 0 5=y1 at*
 generalize fld a7 0 12=y2 at*
 clear q1 q2
 rw[wadd _ _ (by omega),wadd _ _ (by omega),wadd _ _ (by omega),wadd _ _ (by omega),wadd _ _ (by omega)]
 exact wsame (by omega)
theorem rs_11(o a3 a7 rd rs1 rs2:Nat)(im:Int)(aq rl:Bool)(ho:o<128)(h3:a3<8)(h7:a7<128)(z7:a7<32)(hrd:rd<32)(hr1:rs1<32)(hr2:rs2<32)(hm:ZB 11 im=true):
  IntKind.u32.wrap (IntKind.u64.wrap (IntKind.u64.wrap (IntKind.u64.wrap (IntKind.u64.wrap (IntKind.u64.wrap (IntKind.u64.wrap (IntKind.u64.wrap (IntKind.u64.wrap o+Z7 a3 0 3 12)+Z7 rd 0 5 7)+Z7 rs1 0 5 15)+Z7 0 0 5 20)+Z7 a7 0 5 27)+Xf aq 26)+Xf rl 25))=IntKind.u32.wrap (WW 11 o a3 a7 rd rs1 0 aq rl (IntKind.u64.wrap im)):=by
 obtain rfl:=mayz (show(im==0)=true from hm)
 obtain⟨X,hX⟩:∃X:Nat,IntKind.u64.wrap 0=(X:Int):=⟨0,rfl⟩
 have t0:Z7 a3 0 3 12=((2 ^ 12*fld a3 0 3:Nat):Int):=Zb a3 a3 0 3 12 (Zj _ (by omega)) (by decide) (by decide) (by decide) (by decide) (by decide)
 have t1:Z7 rd 0 5 7=((2 ^ 7*fld rd 0 5:Nat):Int):=Zb rd rd 0 5 7 (Zj _ (by omega)) (by decide) (by decide) (by decide) (by decide) (by decide)
 have t2:Z7 rs1 0 5 15=((2 ^ 15*fld rs1 0 5:Nat):Int):=Zb rs1 rs1 0 5 15 (Zj _ (by omega)) (by decide) (by decide) (by decide) (by decide) (by decide)
 have t3:Z7 0 0 5 20=((2 ^ 20*fld 0 0 5:Nat):Int):=Zb 0 0 0 5 20 rfl (by decide) (by decide) (by decide) (by decide) (by decide)
 have t4:Z7 a7 0 5 27=((2 ^ 27*fld a7 0 5:Nat):Int):=Zb a7 a7 0 5 27 (Zj _ (by omega)) (by decide) (by decide) (by decide) (by decide) (by decide)
 have t5:Xf aq 26=((2 ^ 26*bin aq:Nat):Int):=Kk aq 26 (by decide)
 have t6:Xf rl 25=((2 ^ 25*bin rl:Nat):Int):=Kk rl 25 (by decide)
 rw[hX,t0,t1,t2,t3,t4,t5,t6,Zj o (by omega)]
 rw[IntKind.wrap_u64] at hX
 obtain⟨hw,hl⟩:=ww_11 o a3 a7 rd rs1 rs2 X aq rl
 have hs:=Z2G o a3 a7 rd rs1 rs2 (bin aq) (bin rl) X ho h3 h7 hrd hr1 hr2 (Zl _) (Zl _)
 rw[hs] at hw
 clear hs hl
 rw[hw]
 rw[Nat.mod_eq_of_lt (show o<2 ^ 7 from ho),Nat.mod_eq_of_lt (Z5 a3 0 3),Nat.mod_eq_of_lt (Z5 a7 0 5),Nat.mod_eq_of_lt (show rd<2 ^ 5 from hrd),Nat.mod_eq_of_lt (show rs1<2 ^ 5 from hr1),Nat.mod_eq_of_lt (show bin rl<2 ^ 1 from Zl rl),Nat.mod_eq_of_lt (show bin aq<2 ^ 1 from Zl aq)]
 clear hw t0 t1 t2 t3 t4 t5 t6
 have q1:=Zl aq
 have q2:=Zl rl
 have b0:fld a3 0 3<2 ^ 3:=Z5 _ _ _
 have b1:fld rd 0 5<2 ^ 5:=Z5 _ _ _
 have b2:fld rs1 0 5<2 ^ 5:=Z5 _ _ _
 have b3:fld 0 0 5<2 ^ 5:=Z5 _ _ _
 have b4:fld a7 0 5<2 ^ 5:=Z5 _ _ _
 have e0:fld a3 0 3=a3:=by unfold fld;omega
 have e1:fld rd 0 5=rd:=by unfold fld;omega
 have e2:fld rs1 0 5=rs1:=by unfold fld;omega
 have e3:fld 0 0 5=0:=by unfold fld;omega
 have e4:fld a7 0 5=a7 / 2 ^ 0:=by unfold fld;omega
 clear hX
 generalize fld a3 0 3=y0 at*
 generalize fld rd 0 5=y1 at*
 generalize fld rs1 0 5=y2 at*
 generalize fld 0 0 5=y3 at*
 generalize fld a7 0 5=y4 at*
 generalize bin aq=qa at*
 generalize bin rl=ql at*
 rw[wadd _ _ (by omega),wadd _ _ (by omega),wadd _ _ (by omega),wadd _ _ (by omega),wadd _ _ (by omega),wadd _ _ (by omega),wadd _ _ (by omega)]
 exact wsame (by omega)
theorem rs_12(o a3 a7 rd rs1 rs2:Nat)(im:Int)(aq rl:Bool)(ho:o<128)(h3:a3<8)(h7:a7<128)(z7:a7<32)(hrd:rd<32)(hr1:rs1<32)(hr2:rs2<32)(hm:ZB 12 im=true):
  IntKind.u32.wrap (IntKind.u64.wrap (IntKind.u64.wrap (IntKind.u64.wrap (IntKind.u64.wrap (IntKind.u64.wrap (IntKind.u64.wrap (IntKind.u64.wrap (IntKind.u64.wrap o+Z7 a3 0 3 12)+Z7 rd 0 5 7)+Z7 rs1 0 5 15)+Z7 rs2 0 5 20)+Z7 a7 0 5 27)+Xf aq 26)+Xf rl 25))=IntKind.u32.wrap (WW 12 o a3 a7 rd rs1 rs2 aq rl (IntKind.u64.wrap im)):=by
 obtain rfl:=mayz (show(im==0)=true from hm)
 obtain⟨X,hX⟩:∃X:Nat,IntKind.u64.wrap 0=(X:Int):=⟨0,rfl⟩
 have t0:Z7 a3 0 3 12=((2 ^ 12*fld a3 0 3:Nat):Int):=Zb a3 a3 0 3 12 (Zj _ (by omega)) (by decide) (by decide) (by decide) (by decide) (by decide)
 have t1:Z7 rd 0 5 7=((2 ^ 7*fld rd 0 5:Nat):Int):=Zb rd rd 0 5 7 (Zj _ (by omega)) (by decide) (by decide) (by decide) (by decide) (by decide)
 have t2:Z7 rs1 0 5 15=((2 ^ 15*fld rs1 0 5:Nat):Int):=Zb rs1 rs1 0 5 15 (Zj _ (by omega)) (by decide) (by decide) (by decide) (by decide) (by decide)
 have t3:Z7 rs2 0 5 20=((2 ^ 20*fld rs2 0 5:Nat):Int):=Zb rs2 rs2 0 5 20 (Zj _ (by omega)) (by decide) (by decide) (by decide) (by decide) (by decide)
 have t4:Z7 a7 0 5 27=((2 ^ 27*fld a7 0 5:Nat):Int):=Zb a7 a7 0 5 27 (Zj _ (by omega)) (by decide) (by decide) (by decide) (by decide) (by decide)
 have t5:Xf aq 26=((2 ^ 26*bin aq:Nat):Int):=Kk aq 26 (by decide)
 have t6:Xf rl 25=((2 ^ 25*bin rl:Nat):Int):=Kk rl 25 (by decide)
 rw[hX,t0,t1,t2,t3,t4,t5,t6,Zj o (by omega)]
 rw[IntKind.wrap_u64] at hX
 obtain⟨hw,hl⟩:=ww_12 o a3 a7 rd rs1 rs2 X aq rl
 have hs:=Z2H o a3 a7 rd rs1 rs2 (bin aq) (bin rl) X ho h3 h7 hrd hr1 hr2 (Zl _) (Zl _)
 rw[hs] at hw
 clear hs hl
 rw[hw]
 rw[Nat.mod_eq_of_lt (show o<2 ^ 7 from ho),Nat.mod_eq_of_lt (Z5 a3 0 3),Nat.mod_eq_of_lt (Z5 a7 0 5),Nat.mod_eq_of_lt (show rd<2 ^ 5 from hrd),Nat.mod_eq_of_lt (show rs1<2 ^ 5 from hr1),Nat.mod_eq_of_lt (show rs2<2 ^ 5 from hr2),Nat.mod_eq_of_lt (show bin rl<2 ^ 1 from Zl rl),Nat.mod_eq_of_lt (show bin aq<2 ^ 1 from Zl aq)]
 clear hw t0 t1 t2 t3 t4 t5 t6
 have q1:=Zl aq
 have q2:=Zl rl
 have b0:fld a3 0 3<2 ^ 3:=Z5 _ _ _
 have b1:fld rd 0 5<2 ^ 5:=Z5 _ _ _
 have b2:fld rs1 0 5<2 ^ 5:=Z5 _ _ _
 have b3:fld rs2 0 5<2 ^ 5:=Z5 _ _ _
 have b4:fld a7 0 5<2 ^ 5:=Z5 _ _ _
 have e0:fld a3 0 3=a3:=by unfold fld;omega
 have e1:fld rd 0 5=rd:=by unfold fld;omega
 have e2:fld rs1 0 5=rs1:=by unfold fld;omega
 have e3:fld rs2 0 5=rs2:=by unfold fld;omega
 have e4:fld a7 0 5=a7 / 2 ^ 0:=by unfold fld;omega
 clear hX
 generalize fld a3 0 3=y0 at*
 generalize fld rd 0 5=y1 at*
 generalize fld rs1 0 5=y2 at*
 generalize fld rs2 0 5=y3 at*
 generalize fld a7 0 5=y4 at*
 generalize bin aq=qa at*
 generalize bin rl=ql at*
 rw[wadd _ _ (by omega),wadd _ _ (by omega),wadd _ _ (by omega),wadd _ _ (by omega),wadd _ _ (by omega),wadd _ _ (by omega),wadd _ _ (by omega)]
 exact wsame (by omega)
end Go.Proofs.YtgpdpaljbiclkaaGreatDoor

/-
  Proved here: the fields of an instruction that may be come back from its word, form by form, with the code's own functions. Conditions: the numbers are those of an instruction that may be. ¦ an instruction that may be is the only one that has its word. Conditions: the operation is one of the table's; the numbers are ints.
-/
import Derived.Test.YtgpdpaljbiclkaaGreatDoorSaj
set_option maxRecDepth 20000
section
namespace Go.Proofs.YtgpdpaljbiclkaaGreatDoor
open _root_.Go.Proofs.Tryz
open Go.RowKit
set_option linter.unusedVariables false
theorem Kr(x:Int):oi true x=x:=rfl
theorem bk_1(o a3 a7 rd rs1 rs2:Nat)(im:Int)(aq rl:Bool)(ho:o<128)(h3:a3<8)(h7:a7<128)(z3:a3=0)(z7:a7=0)(hrd:rd<32)(hr1:rs1<32)(hr2:rs2<32)(hm:ZB 1 im=true):
  ∃U:Nat,U<4294967296∧WW 1 o a3 a7 rd 0 0 false false (IntKind.u64.wrap im)=(U:Int)∧Fld U 0 7=o∧Get (f3T 1) 0 U=a3∧Get (f7T 1) 0 U=a7∧
   oi (rdT 1) (Fld U 7 5)=rd∧oi (YP 1) (Fld U 15 5)=0∧oi (YQ 1) (Fld U 20 5)=0∧oi (Zp 1) (II 1 U)=im∧ob (ZX 1) (Fld U 26 1==1)=false∧ob (ZX 1) (Fld U 25 1==1)=false:=by
 obtain⟨m0,m1,m2⟩:=may1 hm
 obtain⟨X,hX⟩:∃X:Nat,IntKind.u64.wrap im=(X:Int):=Int.eq_ofNat_of_zero_le (by rw[IntKind.wrap_u64];omega)
 rw[hX]
 rw[IntKind.wrap_u64] at hX
 obtain⟨hw,hl⟩:=ww_1 o a3 a7 rd rs1 rs2 X aq rl
 have hs:=Z4d o a3 a7 rd rs1 rs2 (bin aq) (bin rl) X ho h3 h7 hrd hr1 hr2 (Zl _) (Zl _)
 rw[hs] at hw hl
 clear hs
 refine⟨_,hl,hw,?_⟩
 clear hw
 generalize hU:0+2 ^ 0*(o % 2 ^ 7)+2 ^ 7*(rd % 2 ^ 5)+2 ^ 12*((fld X 12 20) % 2 ^ 20)=U at hl ⊢
 rw[Nat.mod_eq_of_lt (show o<2 ^ 7 from ho),Nat.mod_eq_of_lt (show rd<2 ^ 5 from hrd),Nat.mod_eq_of_lt (Z5 X 12 20)] at hU
 obtain⟨r0,r3,p0⟩:=ext_1 _ _ _ U ho hrd (Z5 X 12 20) (by rw[←hU];omega)
 clear hU
 have hG:IG 1 U=(((plc (plc (plc (plc 0 12 20 (fld U 12 20)) 0 0 (fld U 0 0)) 0 0 (fld U 0 0)) 0 0 (fld U 0 0)):Nat):Int):=rfl
 try simp only[Zs] at hG
 rw[p0,gx_1 X (by omega)] at hG
 have hI:II 1 U=im:=by
  unfold II
  rw[hG,show sgT 1=32 from rfl]
  exact gs_1 im X m1 m2 hX
 exact⟨(congrArg Nat.cast r0:((fld U 0 7:Nat):Int)=o),(by show((plc 0 0 0 (fld U 0 0):Nat):Int)=a3;rw[Zs,z3]),(by show((plc 0 0 0 (fld U 0 0):Nat):Int)=a7;rw[Zs,z7]),(congrArg Nat.cast r3:((fld U 7 5:Nat):Int)=rd),rfl,rfl,(by rw[show Zp 1=true from rfl,Kr];exact hI),rfl,rfl⟩
theorem bk_2(o a3 a7 rd rs1 rs2:Nat)(im:Int)(aq rl:Bool)(ho:o<128)(h3:a3<8)(h7:a7<128)(z3:a3=0)(z7:a7=0)(hrd:rd<32)(hr1:rs1<32)(hr2:rs2<32)(hm:ZB 2 im=true):
  ∃U:Nat,U<4294967296∧WW 2 o a3 a7 rd 0 0 false false (IntKind.u64.wrap im)=(U:Int)∧Fld U 0 7=o∧Get (f3T 2) 0 U=a3∧Get (f7T 2) 0 U=a7∧
   oi (rdT 2) (Fld U 7 5)=rd∧oi (YP 2) (Fld U 15 5)=0∧oi (YQ 2) (Fld U 20 5)=0∧oi (Zp 2) (II 2 U)=im∧ob (ZX 2) (Fld U 26 1==1)=false∧ob (ZX 2) (Fld U 25 1==1)=false:=by
 obtain⟨m0,m1,m2⟩:=may2 hm
 obtain⟨X,hX⟩:∃X:Nat,IntKind.u64.wrap im=(X:Int):=Int.eq_ofNat_of_zero_le (by rw[IntKind.wrap_u64];omega)
 rw[hX]
 rw[IntKind.wrap_u64] at hX
 obtain⟨hw,hl⟩:=ww_2 o a3 a7 rd rs1 rs2 X aq rl
 have hs:=Z4e o a3 a7 rd rs1 rs2 (bin aq) (bin rl) X ho h3 h7 hrd hr1 hr2 (Zl _) (Zl _)
 rw[hs] at hw hl
 clear hs
 refine⟨_,hl,hw,?_⟩
 clear hw
 generalize hU:0+2 ^ 0*(o % 2 ^ 7)+2 ^ 7*(rd % 2 ^ 5)+2 ^ 31*((fld X 20 1) % 2 ^ 1)+2 ^ 21*((fld X 1 10) % 2 ^ 10)+2 ^ 20*((fld X 11 1) % 2 ^ 1)+2 ^ 12*((fld X 12 8) % 2 ^ 8)=U at hl ⊢
 rw[Nat.mod_eq_of_lt (show o<2 ^ 7 from ho),Nat.mod_eq_of_lt (show rd<2 ^ 5 from hrd),Nat.mod_eq_of_lt (Z5 X 20 1),Nat.mod_eq_of_lt (Z5 X 1 10),Nat.mod_eq_of_lt (Z5 X 11 1),Nat.mod_eq_of_lt (Z5 X 12 8)] at hU
 obtain⟨r0,r3,p0,p1,p2,p3⟩:=ext_2 _ _ _ _ _ _ U ho hrd (Z5 X 20 1) (Z5 X 1 10) (Z5 X 11 1) (Z5 X 12 8) (by rw[←hU];omega)
 clear hU
 have hG:IG 2 U=(((plc (plc (plc (plc 0 20 1 (fld U 31 1)) 1 10 (fld U 21 10)) 11 1 (fld U 20 1)) 12 8 (fld U 12 8)):Nat):Int):=rfl
 try simp only[Zs] at hG
 rw[p0,p1,p2,p3,gx_2 X (by omega)] at hG
 have hI:II 2 U=im:=by
  unfold II
  rw[hG,show sgT 2=21 from rfl]
  exact gs_2 im X m1 m2 hX
 exact⟨(congrArg Nat.cast r0:((fld U 0 7:Nat):Int)=o),(by show((plc 0 0 0 (fld U 0 0):Nat):Int)=a3;rw[Zs,z3]),(by show((plc 0 0 0 (fld U 0 0):Nat):Int)=a7;rw[Zs,z7]),(congrArg Nat.cast r3:((fld U 7 5:Nat):Int)=rd),rfl,rfl,(by rw[show Zp 2=true from rfl,Kr];exact hI),rfl,rfl⟩
theorem bk_3(o a3 a7 rd rs1 rs2:Nat)(im:Int)(aq rl:Bool)(ho:o<128)(h3:a3<8)(h7:a7<128)(z7:a7=0)(hrd:rd<32)(hr1:rs1<32)(hr2:rs2<32)(hm:ZB 3 im=true):
  ∃U:Nat,U<4294967296∧WW 3 o a3 a7 rd rs1 0 false false (IntKind.u64.wrap im)=(U:Int)∧Fld U 0 7=o∧Get (f3T 3) 0 U=a3∧Get (f7T 3) 0 U=a7∧
   oi (rdT 3) (Fld U 7 5)=rd∧oi (YP 3) (Fld U 15 5)=rs1∧oi (YQ 3) (Fld U 20 5)=0∧oi (Zp 3) (II 3 U)=im∧ob (ZX 3) (Fld U 26 1==1)=false∧ob (ZX 3) (Fld U 25 1==1)=false:=by
 obtain⟨m0,m1,m2⟩:=may3 hm
 obtain⟨X,hX⟩:∃X:Nat,IntKind.u64.wrap im=(X:Int):=Int.eq_ofNat_of_zero_le (by rw[IntKind.wrap_u64];omega)
 rw[hX]
 rw[IntKind.wrap_u64] at hX
 obtain⟨hw,hl⟩:=ww_3 o a3 a7 rd rs1 rs2 X aq rl
 have hs:=Z4f o a3 a7 rd rs1 rs2 (bin aq) (bin rl) X ho h3 h7 hrd hr1 hr2 (Zl _) (Zl _)
 rw[hs] at hw hl
 clear hs
 refine⟨_,hl,hw,?_⟩
 clear hw
 generalize hU:0+2 ^ 0*(o % 2 ^ 7)+2 ^ 12*((fld a3 0 3) % 2 ^ 3)+2 ^ 7*(rd % 2 ^ 5)+2 ^ 15*(rs1 % 2 ^ 5)+2 ^ 20*((fld X 0 12) % 2 ^ 12)=U at hl ⊢
 have e3:fld a3 0 3=a3:=by unfold fld;omega
 rw[Nat.mod_eq_of_lt (show o<2 ^ 7 from ho),e3,Nat.mod_eq_of_lt (show a3<2 ^ 3 from h3),Nat.mod_eq_of_lt (show rd<2 ^ 5 from hrd),Nat.mod_eq_of_lt (show rs1<2 ^ 5 from hr1),Nat.mod_eq_of_lt (Z5 X 0 12)] at hU
 obtain⟨r0,r1',r3,r4,p0⟩:=ext_3 _ _ _ _ _ U ho h3 hrd hr1 (Z5 X 0 12) (by rw[←hU];omega)
 have r1:plc 0 0 3 (fld U 12 3)=a3:=by rw[Z2 _ _ _ _ (by decide),r1'];omega
 clear hU
 have hG:IG 3 U=(((plc (plc (plc (plc 0 0 12 (fld U 20 12)) 0 0 (fld U 0 0)) 0 0 (fld U 0 0)) 0 0 (fld U 0 0)):Nat):Int):=rfl
 try simp only[Zs] at hG
 rw[p0,gx_3 X (by omega)] at hG
 have hI:II 3 U=im:=by
  unfold II
  rw[hG,show sgT 3=12 from rfl]
  exact gs_3 im X m1 m2 hX
 exact⟨(congrArg Nat.cast r0:((fld U 0 7:Nat):Int)=o),(congrArg Nat.cast r1:((plc 0 0 3 (fld U 12 3):Nat):Int)=a3),(by show((plc 0 0 0 (fld U 0 0):Nat):Int)=a7;rw[Zs,z7]),(congrArg Nat.cast r3:((fld U 7 5:Nat):Int)=rd),(congrArg Nat.cast r4:((fld U 15 5:Nat):Int)=rs1),rfl,(by rw[show Zp 3=true from rfl,Kr];exact hI),rfl,rfl⟩
theorem bk_4(o a3 a7 rd rs1 rs2:Nat)(im:Int)(aq rl:Bool)(ho:o<128)(h3:a3<8)(h7:a7<128)(z7:a7=0)(hrd:rd<32)(hr1:rs1<32)(hr2:rs2<32)(hm:ZB 4 im=true):
  ∃U:Nat,U<4294967296∧WW 4 o a3 a7 0 rs1 rs2 false false (IntKind.u64.wrap im)=(U:Int)∧Fld U 0 7=o∧Get (f3T 4) 0 U=a3∧Get (f7T 4) 0 U=a7∧
   oi (rdT 4) (Fld U 7 5)=0∧oi (YP 4) (Fld U 15 5)=rs1∧oi (YQ 4) (Fld U 20 5)=rs2∧oi (Zp 4) (II 4 U)=im∧ob (ZX 4) (Fld U 26 1==1)=false∧ob (ZX 4) (Fld U 25 1==1)=false:=by
 obtain⟨m0,m1,m2⟩:=may4 hm
 obtain⟨X,hX⟩:∃X:Nat,IntKind.u64.wrap im=(X:Int):=Int.eq_ofNat_of_zero_le (by rw[IntKind.wrap_u64];omega)
 rw[hX]
 rw[IntKind.wrap_u64] at hX
 obtain⟨hw,hl⟩:=ww_4 o a3 a7 rd rs1 rs2 X aq rl
 have hs:=Z4g o a3 a7 rd rs1 rs2 (bin aq) (bin rl) X ho h3 h7 hrd hr1 hr2 (Zl _) (Zl _)
 rw[hs] at hw hl
 clear hs
 refine⟨_,hl,hw,?_⟩
 clear hw
 generalize hU:0+2 ^ 0*(o % 2 ^ 7)+2 ^ 12*((fld a3 0 3) % 2 ^ 3)+2 ^ 15*(rs1 % 2 ^ 5)+2 ^ 20*(rs2 % 2 ^ 5)+2 ^ 31*((fld X 12 1) % 2 ^ 1)+2 ^ 25*((fld X 5 6) % 2 ^ 6)+2 ^ 8*((fld X 1 4) % 2 ^ 4)+2 ^ 7*((fld X 11 1) % 2 ^ 1)=U at hl ⊢
 have e3:fld a3 0 3=a3:=by unfold fld;omega
 rw[Nat.mod_eq_of_lt (show o<2 ^ 7 from ho),e3,Nat.mod_eq_of_lt (show a3<2 ^ 3 from h3),Nat.mod_eq_of_lt (show rs1<2 ^ 5 from hr1),Nat.mod_eq_of_lt (show rs2<2 ^ 5 from hr2),Nat.mod_eq_of_lt (Z5 X 12 1),Nat.mod_eq_of_lt (Z5 X 5 6),Nat.mod_eq_of_lt (Z5 X 1 4),Nat.mod_eq_of_lt (Z5 X 11 1)] at hU
 obtain⟨r0,r1',r4,r5,p0,p1,p2,p3⟩:=ext_4 _ _ _ _ _ _ _ _ U ho h3 hr1 hr2 (Z5 X 12 1) (Z5 X 5 6) (Z5 X 1 4) (Z5 X 11 1) (by rw[←hU];omega)
 have r1:plc 0 0 3 (fld U 12 3)=a3:=by rw[Z2 _ _ _ _ (by decide),r1'];omega
 clear hU
 have hG:IG 4 U=(((plc (plc (plc (plc 0 12 1 (fld U 31 1)) 5 6 (fld U 25 6)) 1 4 (fld U 8 4)) 11 1 (fld U 7 1)):Nat):Int):=rfl
 try simp only[Zs] at hG
 rw[p0,p1,p2,p3,gx_4 X (by omega)] at hG
 have hI:II 4 U=im:=by
  unfold II
  rw[hG,show sgT 4=13 from rfl]
  exact gs_4 im X m1 m2 hX
 exact⟨(congrArg Nat.cast r0:((fld U 0 7:Nat):Int)=o),(congrArg Nat.cast r1:((plc 0 0 3 (fld U 12 3):Nat):Int)=a3),(by show((plc 0 0 0 (fld U 0 0):Nat):Int)=a7;rw[Zs,z7]),rfl,(congrArg Nat.cast r4:((fld U 15 5:Nat):Int)=rs1),(congrArg Nat.cast r5:((fld U 20 5:Nat):Int)=rs2),(by rw[show Zp 4=true from rfl,Kr];exact hI),rfl,rfl⟩
theorem bk_5(o a3 a7 rd rs1 rs2:Nat)(im:Int)(aq rl:Bool)(ho:o<128)(h3:a3<8)(h7:a7<128)(z7:a7=0)(hrd:rd<32)(hr1:rs1<32)(hr2:rs2<32)(hm:ZB 5 im=true):
  ∃U:Nat,U<4294967296∧WW 5 o a3 a7 0 rs1 rs2 false false (IntKind.u64.wrap im)=(U:Int)∧Fld U 0 7=o∧Get (f3T 5) 0 U=a3∧Get (f7T 5) 0 U=a7∧
   oi (rdT 5) (Fld U 7 5)=0∧oi (YP 5) (Fld U 15 5)=rs1∧oi (YQ 5) (Fld U 20 5)=rs2∧oi (Zp 5) (II 5 U)=im∧ob (ZX 5) (Fld U 26 1==1)=false∧ob (ZX 5) (Fld U 25 1==1)=false:=by
 obtain⟨m0,m1,m2⟩:=may5 hm
 obtain⟨X,hX⟩:∃X:Nat,IntKind.u64.wrap im=(X:Int):=Int.eq_ofNat_of_zero_le (by rw[IntKind.wrap_u64];omega)
 rw[hX]
 rw[IntKind.wrap_u64] at hX
 obtain⟨hw,hl⟩:=ww_5 o a3 a7 rd rs1 rs2 X aq rl
 have hs:=Z4h o a3 a7 rd rs1 rs2 (bin aq) (bin rl) X ho h3 h7 hrd hr1 hr2 (Zl _) (Zl _)
 rw[hs] at hw hl
 clear hs
 refine⟨_,hl,hw,?_⟩
 clear hw
 generalize hU:0+2 ^ 0*(o % 2 ^ 7)+2 ^ 12*((fld a3 0 3) % 2 ^ 3)+2 ^ 15*(rs1 % 2 ^ 5)+2 ^ 20*(rs2 % 2 ^ 5)+2 ^ 25*((fld X 5 7) % 2 ^ 7)+2 ^ 7*((fld X 0 5) % 2 ^ 5)=U at hl ⊢
 have e3:fld a3 0 3=a3:=by unfold fld;omega
 rw[Nat.mod_eq_of_lt (show o<2 ^ 7 from ho),e3,Nat.mod_eq_of_lt (show a3<2 ^ 3 from h3),Nat.mod_eq_of_lt (show rs1<2 ^ 5 from hr1),Nat.mod_eq_of_lt (show rs2<2 ^ 5 from hr2),Nat.mod_eq_of_lt (Z5 X 5 7),Nat.mod_eq_of_lt (Z5 X 0 5)] at hU
 obtain⟨r0,r1',r4,r5,p0,p1⟩:=ext_5 _ _ _ _ _ _ U ho h3 hr1 hr2 (Z5 X 5 7) (Z5 X 0 5) (by rw[←hU];omega)
 have r1:plc 0 0 3 (fld U 12 3)=a3:=by rw[Z2 _ _ _ _ (by decide),r1'];omega
 clear hU
 have hG:IG 5 U=(((plc (plc (plc (plc 0 5 7 (fld U 25 7)) 0 5 (fld U 7 5)) 0 0 (fld U 0 0)) 0 0 (fld U 0 0)):Nat):Int):=rfl
 try simp only[Zs] at hG
 rw[p0,p1,gx_5 X (by omega)] at hG
 have hI:II 5 U=im:=by
  unfold II
  rw[hG,show sgT 5=12 from rfl]
  exact gs_5 im X m1 m2 hX
 exact⟨(congrArg Nat.cast r0:((fld U 0 7:Nat):Int)=o),(congrArg Nat.cast r1:((plc 0 0 3 (fld U 12 3):Nat):Int)=a3),(by show((plc 0 0 0 (fld U 0 0):Nat):Int)=a7;rw[Zs,z7]),rfl,(congrArg Nat.cast r4:((fld U 15 5:Nat):Int)=rs1),(congrArg Nat.cast r5:((fld U 20 5:Nat):Int)=rs2),(by rw[show Zp 5=true from rfl,Kr];exact hI),rfl,rfl⟩
theorem bk_6(o a3 a7 rd rs1 rs2:Nat)(im:Int)(aq rl:Bool)(ho:o<128)(h3:a3<8)(h7:a7<128)(z7:a7 % 2=0)(hrd:rd<32)(hr1:rs1<32)(hr2:rs2<32)(hm:ZB 6 im=true):
  ∃U:Nat,U<4294967296∧WW 6 o a3 a7 rd rs1 0 false false (IntKind.u64.wrap im)=(U:Int)∧Fld U 0 7=o∧Get (f3T 6) 0 U=a3∧Get (f7T 6) 0 U=a7∧
   oi (rdT 6) (Fld U 7 5)=rd∧oi (YP 6) (Fld U 15 5)=rs1∧oi (YQ 6) (Fld U 20 5)=0∧oi (Zp 6) (II 6 U)=im∧ob (ZX 6) (Fld U 26 1==1)=false∧ob (ZX 6) (Fld U 25 1==1)=false:=by
 obtain⟨m0,m1,m2⟩:=may6 hm
 obtain⟨X,hX⟩:∃X:Nat,IntKind.u64.wrap im=(X:Int):=Int.eq_ofNat_of_zero_le (by rw[IntKind.wrap_u64];omega)
 rw[hX]
 rw[IntKind.wrap_u64] at hX
 obtain⟨hw,hl⟩:=ww_6 o a3 a7 rd rs1 rs2 X aq rl
 have hs:=Z4i o a3 a7 rd rs1 rs2 (bin aq) (bin rl) X ho h3 h7 hrd hr1 hr2 (Zl _) (Zl _)
 rw[hs] at hw hl
 clear hs
 refine⟨_,hl,hw,?_⟩
 clear hw
 generalize hU:0+2 ^ 0*(o % 2 ^ 7)+2 ^ 12*((fld a3 0 3) % 2 ^ 3)+2 ^ 26*((fld a7 1 6) % 2 ^ 6)+2 ^ 7*(rd % 2 ^ 5)+2 ^ 15*(rs1 % 2 ^ 5)+2 ^ 20*((fld X 0 6) % 2 ^ 6)=U at hl ⊢
 have e3:fld a3 0 3=a3:=by unfold fld;omega
 rw[Nat.mod_eq_of_lt (show o<2 ^ 7 from ho),e3,Nat.mod_eq_of_lt (show a3<2 ^ 3 from h3),Nat.mod_eq_of_lt (Z5 a7 1 6),Nat.mod_eq_of_lt (show rd<2 ^ 5 from hrd),Nat.mod_eq_of_lt (show rs1<2 ^ 5 from hr1),Nat.mod_eq_of_lt (Z5 X 0 6)] at hU
 obtain⟨r0,r1',r2',r3,r4,p0⟩:=ext_6 _ _ _ _ _ _ U ho h3 (Z5 a7 1 6) hrd hr1 (Z5 X 0 6) (by rw[←hU];omega)
 have r1:plc 0 0 3 (fld U 12 3)=a3:=by rw[Z2 _ _ _ _ (by decide),r1'];omega
 have r2:plc 0 1 6 (fld U 26 6)=a7:=by rw[r2'];exact f7b_6 a7 h7 z7
 clear hU
 have hG:IG 6 U=(((plc (plc (plc (plc 0 0 6 (fld U 20 6)) 0 0 (fld U 0 0)) 0 0 (fld U 0 0)) 0 0 (fld U 0 0)):Nat):Int):=rfl
 try simp only[Zs] at hG
 rw[p0,gx_6 X (by omega)] at hG
 have hI:II 6 U=im:=by
  unfold II
  rw[hG,show sgT 6=0 from rfl]
  exact gs_6 im X m1 m2 hX
 exact⟨(congrArg Nat.cast r0:((fld U 0 7:Nat):Int)=o),(congrArg Nat.cast r1:((plc 0 0 3 (fld U 12 3):Nat):Int)=a3),(congrArg Nat.cast r2:((plc 0 1 6 (fld U 26 6):Nat):Int)=a7),(congrArg Nat.cast r3:((fld U 7 5:Nat):Int)=rd),(congrArg Nat.cast r4:((fld U 15 5:Nat):Int)=rs1),rfl,(by rw[show Zp 6=true from rfl,Kr];exact hI),rfl,rfl⟩
theorem bk_7(o a3 a7 rd rs1 rs2:Nat)(im:Int)(aq rl:Bool)(ho:o<128)(h3:a3<8)(h7:a7<128)(hrd:rd<32)(hr1:rs1<32)(hr2:rs2<32)(hm:ZB 7 im=true):
  ∃U:Nat,U<4294967296∧WW 7 o a3 a7 rd rs1 0 false false (IntKind.u64.wrap im)=(U:Int)∧Fld U 0 7=o∧Get (f3T 7) 0 U=a3∧Get (f7T 7) 0 U=a7∧
   oi (rdT 7) (Fld U 7 5)=rd∧oi (YP 7) (Fld U 15 5)=rs1∧oi (YQ 7) (Fld U 20 5)=0∧oi (Zp 7) (II 7 U)=im∧ob (ZX 7) (Fld U 26 1==1)=false∧ob (ZX 7) (Fld U 25 1==1)=false:=by
 obtain⟨m0,m1,m2⟩:=may7 hm
 obtain⟨X,hX⟩:∃X:Nat,IntKind.u64.wrap im=(X:Int):=Int.eq_ofNat_of_zero_le (by rw[IntKind.wrap_u64];omega)
 rw[hX]
 rw[IntKind.wrap_u64] at hX
 obtain⟨hw,hl⟩:=ww_7 o a3 a7 rd rs1 rs2 X aq rl
 have hs:=Z4j o a3 a7 rd rs1 rs2 (bin aq) (bin rl) X ho h3 h7 hrd hr1 hr2 (Zl _) (Zl _)
 rw[hs] at hw hl
 clear hs
 refine⟨_,hl,hw,?_⟩
 clear hw
 generalize hU:0+2 ^ 0*(o % 2 ^ 7)+2 ^ 12*((fld a3 0 3) % 2 ^ 3)+2 ^ 25*((fld a7 0 7) % 2 ^ 7)+2 ^ 7*(rd % 2 ^ 5)+2 ^ 15*(rs1 % 2 ^ 5)+2 ^ 20*((fld X 0 5) % 2 ^ 5)=U at hl ⊢
 have e3:fld a3 0 3=a3:=by unfold fld;omega
 rw[Nat.mod_eq_of_lt (show o<2 ^ 7 from ho),e3,Nat.mod_eq_of_lt (show a3<2 ^ 3 from h3),Nat.mod_eq_of_lt (Z5 a7 0 7),Nat.mod_eq_of_lt (show rd<2 ^ 5 from hrd),Nat.mod_eq_of_lt (show rs1<2 ^ 5 from hr1),Nat.mod_eq_of_lt (Z5 X 0 5)] at hU
 obtain⟨r0,r1',r2',r3,r4,p0⟩:=ext_7 _ _ _ _ _ _ U ho h3 (Z5 a7 0 7) hrd hr1 (Z5 X 0 5) (by rw[←hU];omega)
 have r1:plc 0 0 3 (fld U 12 3)=a3:=by rw[Z2 _ _ _ _ (by decide),r1'];omega
 have r2:plc 0 0 7 (fld U 25 7)=a7:=by rw[r2'];exact f7b_7 a7 h7
 clear hU
 have hG:IG 7 U=(((plc (plc (plc (plc 0 0 5 (fld U 20 5)) 0 0 (fld U 0 0)) 0 0 (fld U 0 0)) 0 0 (fld U 0 0)):Nat):Int):=rfl
 try simp only[Zs] at hG
 rw[p0,gx_7 X (by omega)] at hG
 have hI:II 7 U=im:=by
  unfold II
  rw[hG,show sgT 7=0 from rfl]
  exact gs_7 im X m1 m2 hX
 exact⟨(congrArg Nat.cast r0:((fld U 0 7:Nat):Int)=o),(congrArg Nat.cast r1:((plc 0 0 3 (fld U 12 3):Nat):Int)=a3),(congrArg Nat.cast r2:((plc 0 0 7 (fld U 25 7):Nat):Int)=a7),(congrArg Nat.cast r3:((fld U 7 5:Nat):Int)=rd),(congrArg Nat.cast r4:((fld U 15 5:Nat):Int)=rs1),rfl,(by rw[show Zp 7=true from rfl,Kr];exact hI),rfl,rfl⟩
theorem bk_8(o a3 a7 rd rs1 rs2:Nat)(im:Int)(aq rl:Bool)(ho:o<128)(h3:a3<8)(h7:a7<128)(hrd:rd<32)(hr1:rs1<32)(hr2:rs2<32)(hm:ZB 8 im=true):
  ∃U:Nat,U<4294967296∧WW 8 o a3 a7 rd rs1 rs2 false false (IntKind.u64.wrap im)=(U:Int)∧Fld U 0 7=o∧Get (f3T 8) 0 U=a3∧Get (f7T 8) 0 U=a7∧
   oi (rdT 8) (Fld U 7 5)=rd∧oi (YP 8) (Fld U 15 5)=rs1∧oi (YQ 8) (Fld U 20 5)=rs2∧oi (Zp 8) (II 8 U)=im∧ob (ZX 8) (Fld U 26 1==1)=false∧ob (ZX 8) (Fld U 25 1==1)=false:=by
 obtain rfl:=mayz (show(im==0)=true from hm)
 obtain⟨X,hX⟩:∃X:Nat,IntKind.u64.wrap 0=(X:Int):=⟨0,rfl⟩
 rw[hX]
 rw[IntKind.wrap_u64] at hX
 obtain⟨hw,hl⟩:=ww_8 o a3 a7 rd rs1 rs2 X aq rl
 have hs:=Z4k o a3 a7 rd rs1 rs2 (bin aq) (bin rl) X ho h3 h7 hrd hr1 hr2 (Zl _) (Zl _)
 rw[hs] at hw hl
 clear hs
 refine⟨_,hl,hw,?_⟩
 clear hw
 generalize hU:0+2 ^ 0*(o % 2 ^ 7)+2 ^ 12*((fld a3 0 3) % 2 ^ 3)+2 ^ 25*((fld a7 0 7) % 2 ^ 7)+2 ^ 7*(rd % 2 ^ 5)+2 ^ 15*(rs1 % 2 ^ 5)+2 ^ 20*(rs2 % 2 ^ 5)=U at hl ⊢
 have e3:fld a3 0 3=a3:=by unfold fld;omega
 rw[Nat.mod_eq_of_lt (show o<2 ^ 7 from ho),e3,Nat.mod_eq_of_lt (show a3<2 ^ 3 from h3),Nat.mod_eq_of_lt (Z5 a7 0 7),Nat.mod_eq_of_lt (show rd<2 ^ 5 from hrd),Nat.mod_eq_of_lt (show rs1<2 ^ 5 from hr1),Nat.mod_eq_of_lt (show rs2<2 ^ 5 from hr2)] at hU
 obtain⟨r0,r1',r2',r3,r4,r5⟩:=ext_8 _ _ _ _ _ _ U ho h3 (Z5 a7 0 7) hrd hr1 hr2 (by rw[←hU];omega)
 have r1:plc 0 0 3 (fld U 12 3)=a3:=by rw[Z2 _ _ _ _ (by decide),r1'];omega
 have r2:plc 0 0 7 (fld U 25 7)=a7:=by rw[r2'];exact f7b_8 a7 h7
 clear hU
 exact⟨(congrArg Nat.cast r0:((fld U 0 7:Nat):Int)=o),(congrArg Nat.cast r1:((plc 0 0 3 (fld U 12 3):Nat):Int)=a3),(congrArg Nat.cast r2:((plc 0 0 7 (fld U 25 7):Nat):Int)=a7),(congrArg Nat.cast r3:((fld U 7 5:Nat):Int)=rd),(congrArg Nat.cast r4:((fld U 15 5:Nat):Int)=rs1),(congrArg Nat.cast r5:((fld U 20 5:Nat):Int)=rs2),rfl,rfl,rfl⟩
theorem bk_9(o a3 a7 rd rs1 rs2:Nat)(im:Int)(aq rl:Bool)(ho:o<128)(h3:a3<8)(h7:a7<128)(z3:a3=0)(z7:a7=0)(hrd:rd<32)(hr1:rs1<32)(hr2:rs2<32)(hm:ZB 9 im=true):
  ∃U:Nat,U<4294967296∧WW 9 o a3 a7 0 0 0 false false (IntKind.u64.wrap im)=(U:Int)∧Fld U 0 7=o∧Get (f3T 9) 0 U=a3∧Get (f7T 9) 0 U=a7∧
   oi (rdT 9) (Fld U 7 5)=0∧oi (YP 9) (Fld U 15 5)=0∧oi (YQ 9) (Fld U 20 5)=0∧oi (Zp 9) (II 9 U)=im∧ob (ZX 9) (Fld U 26 1==1)=false∧ob (ZX 9) (Fld U 25 1==1)=false:=by
 obtain⟨m0,m1,m2⟩:=may9 hm
 obtain⟨X,hX⟩:∃X:Nat,IntKind.u64.wrap im=(X:Int):=Int.eq_ofNat_of_zero_le (by rw[IntKind.wrap_u64];omega)
 rw[hX]
 rw[IntKind.wrap_u64] at hX
 obtain⟨hw,hl⟩:=ww_9 o a3 a7 rd rs1 rs2 X aq rl
 have hs:=Z4l o a3 a7 rd rs1 rs2 (bin aq) (bin rl) X ho h3 h7 hrd hr1 hr2 (Zl _) (Zl _)
 rw[hs] at hw hl
 clear hs
 refine⟨_,hl,hw,?_⟩
 clear hw
 generalize hU:0+2 ^ 0*(o % 2 ^ 7)+2 ^ 20*((fld X 0 8) % 2 ^ 8)=U at hl ⊢
 rw[Nat.mod_eq_of_lt (show o<2 ^ 7 from ho),Nat.mod_eq_of_lt (Z5 X 0 8)] at hU
 obtain⟨r0,p0⟩:=ext_9 _ _ U ho (Z5 X 0 8) (by rw[←hU];omega)
 clear hU
 have hG:IG 9 U=(((plc (plc (plc (plc 0 0 8 (fld U 20 8)) 0 0 (fld U 0 0)) 0 0 (fld U 0 0)) 0 0 (fld U 0 0)):Nat):Int):=rfl
 try simp only[Zs] at hG
 rw[p0,gx_9 X (by omega)] at hG
 have hI:II 9 U=im:=by
  unfold II
  rw[hG,show sgT 9=0 from rfl]
  exact gs_9 im X m1 m2 hX
 exact⟨(congrArg Nat.cast r0:((fld U 0 7:Nat):Int)=o),(by show((plc 0 0 0 (fld U 0 0):Nat):Int)=a3;rw[Zs,z3]),(by show((plc 0 0 0 (fld U 0 0):Nat):Int)=a7;rw[Zs,z7]),rfl,rfl,rfl,(by rw[show Zp 9=true from rfl,Kr];exact hI),rfl,rfl⟩
theorem bk_10(o a3 a7 rd rs1 rs2:Nat)(im:Int)(aq rl:Bool)(ho:o<128)(h3:a3<8)(h7:a7<128)(z3:a3=0)(hrd:rd<32)(hr1:rs1<32)(hr2:rs2<32)(hm:ZB 10 im=true):
  ∃U:Nat,U<4294967296∧WW 10 o a3 a7 0 0 0 false false (IntKind.u64.wrap im)=(U:Int)∧Fld U 0 7=o∧Get (f3T 10) 0 U=a3∧Get (f7T 10) 0 U=a7∧
   oi (rdT 10) (Fld U 7 5)=0∧oi (YP 10) (Fld U 15 5)=0∧oi (YQ 10) (Fld U 20 5)=0∧oi (Zp 10) (II 10 U)=im∧ob (ZX 10) (Fld U 26 1==1)=false∧ob (ZX 10) (Fld U 25 1==1)=false:=by
 obtain rfl:=mayz (show(im==0)=true from hm)
 obtain⟨X,hX⟩:∃X:Nat,IntKind.u64.wrap 0=(X:Int):=⟨0,rfl⟩
 rw[hX]
 rw[IntKind.wrap_u64] at hX
 obtain⟨hw,hl⟩:=ww_10 o a3 a7 rd rs1 rs2 X aq rl
 have hs:=Z2F o a3 a7 rd rs1 rs2 (bin aq) (bin rl) X ho h3 h7 hrd hr1 hr2 (Zl _) (Zl _)
 rw[hs] at hw hl
 clear hs
 refine⟨_,hl,hw,?_⟩
 clear hw
 generalize hU:0+2 ^ 0*(o % 2 ^ 7)+2 ^ 20*((fld a7 0 12) % 2 ^ 12)=U at hl ⊢
 rw[Nat.mod_eq_of_lt (show o<2 ^ 7 from ho),Nat.mod_eq_of_lt (Z5 a7 0 12)] at hU
 obtain⟨r0,r2'⟩:=ext_10 _ _ U ho (Z5 a7 0 12) (by rw[←hU];omega)
 have r2:plc 0 0 12 (fld U 20 12)=a7:=by rw[r2'];exact f7b_10 a7 h7
 clear hU
 exact⟨(congrArg Nat.cast r0:((fld U 0 7:Nat):Int)=o),(by show((plc 0 0 0 (fld U 0 0):Nat):Int)=a3;rw[Zs,z3]),(congrArg Nat.cast r2:((plc 0 0 12 (fld U 20 12):Nat):Int)=a7),rfl,rfl,rfl,rfl,rfl,rfl⟩
theorem bk_11(o a3 a7 rd rs1 rs2:Nat)(im:Int)(aq rl:Bool)(ho:o<128)(h3:a3<8)(h7:a7<128)(z7:a7<32)(hrd:rd<32)(hr1:rs1<32)(hr2:rs2<32)(hm:ZB 11 im=true):
  ∃U:Nat,U<4294967296∧WW 11 o a3 a7 rd rs1 0 aq rl (IntKind.u64.wrap im)=(U:Int)∧Fld U 0 7=o∧Get (f3T 11) 0 U=a3∧Get (f7T 11) 0 U=a7∧
   oi (rdT 11) (Fld U 7 5)=rd∧oi (YP 11) (Fld U 15 5)=rs1∧oi (YQ 11) (Fld U 20 5)=0∧oi (Zp 11) (II 11 U)=im∧ob (ZX 11) (Fld U 26 1==1)=aq∧ob (ZX 11) (Fld U 25 1==1)=rl:=by
 obtain rfl:=mayz (show(im==0)=true from hm)
 obtain⟨X,hX⟩:∃X:Nat,IntKind.u64.wrap 0=(X:Int):=⟨0,rfl⟩
 rw[hX]
 rw[IntKind.wrap_u64] at hX
 obtain⟨hw,hl⟩:=ww_11 o a3 a7 rd rs1 rs2 X aq rl
 have hs:=Z2G o a3 a7 rd rs1 rs2 (bin aq) (bin rl) X ho h3 h7 hrd hr1 hr2 (Zl _) (Zl _)
 rw[hs] at hw hl
 clear hs
 refine⟨_,hl,hw,?_⟩
 clear hw
 generalize hU:0+2 ^ 0*(o % 2 ^ 7)+2 ^ 12*((fld a3 0 3) % 2 ^ 3)+2 ^ 27*((fld a7 0 5) % 2 ^ 5)+2 ^ 7*(rd % 2 ^ 5)+2 ^ 15*(rs1 % 2 ^ 5)+2 ^ 25*((bin rl) % 2 ^ 1)+2 ^ 26*((bin aq) % 2 ^ 1)=U at hl ⊢
 have e3:fld a3 0 3=a3:=by unfold fld;omega
 rw[Nat.mod_eq_of_lt (show o<2 ^ 7 from ho),e3,Nat.mod_eq_of_lt (show a3<2 ^ 3 from h3),Nat.mod_eq_of_lt (Z5 a7 0 5),Nat.mod_eq_of_lt (show rd<2 ^ 5 from hrd),Nat.mod_eq_of_lt (show rs1<2 ^ 5 from hr1),Nat.mod_eq_of_lt (show bin rl<2 ^ 1 from Zl rl),Nat.mod_eq_of_lt (show bin aq<2 ^ 1 from Zl aq)] at hU
 obtain⟨r0,r1',r2',r3,r4,r7,r6⟩:=ext_11 _ _ _ _ _ _ _ U ho h3 (Z5 a7 0 5) hrd hr1 (Zl rl) (Zl aq) (by rw[←hU];omega)
 have r1:plc 0 0 3 (fld U 12 3)=a3:=by rw[Z2 _ _ _ _ (by decide),r1'];omega
 have r2:plc 0 0 5 (fld U 27 5)=a7:=by rw[r2'];exact f7b_11 a7 z7
 clear hU
 exact⟨(congrArg Nat.cast r0:((fld U 0 7:Nat):Int)=o),(congrArg Nat.cast r1:((plc 0 0 3 (fld U 12 3):Nat):Int)=a3),(congrArg Nat.cast r2:((plc 0 0 5 (fld U 27 5):Nat):Int)=a7),(congrArg Nat.cast r3:((fld U 7 5:Nat):Int)=rd),(congrArg Nat.cast r4:((fld U 15 5:Nat):Int)=rs1),rfl,rfl,(by show(((fld U 26 1:Nat):Int)==1)=aq;rw[r6,Jp]),(by show(((fld U 25 1:Nat):Int)==1)=rl;rw[r7,Jp])⟩
theorem bk_12(o a3 a7 rd rs1 rs2:Nat)(im:Int)(aq rl:Bool)(ho:o<128)(h3:a3<8)(h7:a7<128)(z7:a7<32)(hrd:rd<32)(hr1:rs1<32)(hr2:rs2<32)(hm:ZB 12 im=true):
  ∃U:Nat,U<4294967296∧WW 12 o a3 a7 rd rs1 rs2 aq rl (IntKind.u64.wrap im)=(U:Int)∧Fld U 0 7=o∧Get (f3T 12) 0 U=a3∧Get (f7T 12) 0 U=a7∧
   oi (rdT 12) (Fld U 7 5)=rd∧oi (YP 12) (Fld U 15 5)=rs1∧oi (YQ 12) (Fld U 20 5)=rs2∧oi (Zp 12) (II 12 U)=im∧ob (ZX 12) (Fld U 26 1==1)=aq∧ob (ZX 12) (Fld U 25 1==1)=rl:=by
 obtain rfl:=mayz (show(im==0)=true from hm)
 obtain⟨X,hX⟩:∃X:Nat,IntKind.u64.wrap 0=(X:Int):=⟨0,rfl⟩
 rw[hX]
 rw[IntKind.wrap_u64] at hX
 obtain⟨hw,hl⟩:=ww_12 o a3 a7 rd rs1 rs2 X aq rl
 have hs:=Z2H o a3 a7 rd rs1 rs2 (bin aq) (bin rl) X ho h3 h7 hrd hr1 hr2 (Zl _) (Zl _)
 rw[hs] at hw hl
 clear hs
 refine⟨_,hl,hw,?_⟩
 clear hw
 generalize hU:0+2 ^ 0*(o % 2 ^ 7)+2 ^ 12*((fld a3 0 3) % 2 ^ 3)+2 ^ 27*((fld a7 0 5) % 2 ^ 5)+2 ^ 7*(rd % 2 ^ 5)+2 ^ 15*(rs1 % 2 ^ 5)+2 ^ 20*(rs2 % 2 ^ 5)+2 ^ 25*((bin rl) % 2 ^ 1)+2 ^ 26*((bin aq) % 2 ^ 1)=U at hl ⊢
 have e3:fld a3 0 3=a3:=by unfold fld;omega
 rw[Nat.mod_eq_of_lt (show o<2 ^ 7 from ho),e3,Nat.mod_eq_of_lt (show a3<2 ^ 3 from h3),Nat.mod_eq_of_lt (Z5 a7 0 5),Nat.mod_eq_of_lt (show rd<2 ^ 5 from hrd),Nat.mod_eq_of_lt (show rs1<2 ^ 5 from hr1),Nat.mod_eq_of_lt (show rs2<2 ^ 5 from hr2),Nat.mod_eq_of_lt (show bin rl<2 ^ 1 from Zl rl),Nat.mod_eq_of_lt (show bin aq<2 ^ 1 from Zl aq)] at hU
 obtain⟨r0,r1',r2',r3,r4,r5,r7,r6⟩:=ext_12 _ _ _ _ _ _ _ _ U ho h3 (Z5 a7 0 5) hrd hr1 hr2 (Zl rl) (Zl aq) (by rw[←hU];omega)
 have r1:plc 0 0 3 (fld U 12 3)=a3:=by rw[Z2 _ _ _ _ (by decide),r1'];omega
 have r2:plc 0 0 5 (fld U 27 5)=a7:=by rw[r2'];exact f7b_12 a7 z7
 clear hU
 exact⟨(congrArg Nat.cast r0:((fld U 0 7:Nat):Int)=o),(congrArg Nat.cast r1:((plc 0 0 3 (fld U 12 3):Nat):Int)=a3),(congrArg Nat.cast r2:((plc 0 0 5 (fld U 27 5):Nat):Int)=a7),(congrArg Nat.cast r3:((fld U 7 5:Nat):Int)=rd),(congrArg Nat.cast r4:((fld U 15 5:Nat):Int)=rs1),(congrArg Nat.cast r5:((fld U 20 5:Nat):Int)=rs2),rfl,(by show(((fld U 26 1:Nat):Int)==1)=aq;rw[r6,Jp]),(by show(((fld U 25 1:Nat):Int)==1)=rl;rw[r7,Jp])⟩
end Go.Proofs.YtgpdpaljbiclkaaGreatDoor
end
section
namespace Go.Proofs.YtgpdpaljbiclkaaGreatDoor
open _root_.Go.Proofs.Tryz
open Go.RowKit
set_option linter.unusedVariables false
theorem bk_any(f o a3 a7 rd rs1 rs2 im:Int)(aq rl:Bool)(f1:1≤f)(f12:f≤12)(o0:0≤o)(o1:o≤127)(a0:0≤a3)(a1:a3≤7)(b0:0≤a7)(b1:a7≤127)(hf:Fine f a3 a7=true)
  (r0:0≤rd) (r1:rd≤31) (s0:0≤rs1) (s1:rs1≤31) (t0:0≤rs2) (t1:rs2≤31) (hrd:rd=oi (rdT f) rd) (hs1:rs1=oi (YP f) rs1) (hs2:rs2=oi (YQ f) rs2) (hq:aq=ob (ZX f) aq) (hl:rl=ob (ZX f) rl) (hm:ZB f im=true):
  ∃U:Nat,U<4294967296∧WW f o a3 a7 rd rs1 rs2 aq rl (IntKind.u64.wrap im)=(U:Int)∧Fld U 0 7=o∧Get (f3T f) 0 U=a3∧Get (f7T f) 0 U=a7∧
   oi (rdT f) (Fld U 7 5)=rd∧oi (YP f) (Fld U 15 5)=rs1∧oi (YQ f) (Fld U 20 5)=rs2∧oi (Zp f) (II f U)=im∧ob (ZX f) (Fld U 26 1==1)=aq∧ob (ZX f) (Fld U 25 1==1)=rl:=by
 obtain⟨o,rfl⟩:=Int.eq_ofNat_of_zero_le o0
 obtain⟨a3,rfl⟩:=Int.eq_ofNat_of_zero_le a0
 obtain⟨a7,rfl⟩:=Int.eq_ofNat_of_zero_le b0
 unfold Fine at hf
 have hk:f=1∨f=2∨f=3∨f=4∨f=5∨f=6∨f=7∨f=8∨f=9∨f=10∨f=11∨f=12:=by omega
 rcases hk with rfl|rfl|rfl|rfl|rfl|rfl|rfl|rfl|rfl|rfl|rfl|rfl
 ·obtain⟨rd,rfl⟩:=Int.eq_ofNat_of_zero_le r0
  obtain rfl:rs1=0:=hs1
  obtain rfl:rs2=0:=hs2
  obtain rfl:aq=false:=hq
  obtain rfl:rl=false:=hl
  simp at hf
  exact bk_1 o a3 a7 rd 0 0 im false false (by omega) (by omega) (by omega) (by omega) (by omega) (by omega) (by omega) (by omega) hm
 ·obtain⟨rd,rfl⟩:=Int.eq_ofNat_of_zero_le r0
  obtain rfl:rs1=0:=hs1
  obtain rfl:rs2=0:=hs2
  obtain rfl:aq=false:=hq
  obtain rfl:rl=false:=hl
  simp at hf
  exact bk_2 o a3 a7 rd 0 0 im false false (by omega) (by omega) (by omega) (by omega) (by omega) (by omega) (by omega) (by omega) hm
 ·obtain⟨rd,rfl⟩:=Int.eq_ofNat_of_zero_le r0
  obtain⟨rs1,rfl⟩:=Int.eq_ofNat_of_zero_le s0
  obtain rfl:rs2=0:=hs2
  obtain rfl:aq=false:=hq
  obtain rfl:rl=false:=hl
  simp at hf
  exact bk_3 o a3 a7 rd rs1 0 im false false (by omega) (by omega) (by omega) (by omega) (by omega) (by omega) (by omega) hm
 ·obtain rfl:rd=0:=hrd
  obtain⟨rs1,rfl⟩:=Int.eq_ofNat_of_zero_le s0
  obtain⟨rs2,rfl⟩:=Int.eq_ofNat_of_zero_le t0
  obtain rfl:aq=false:=hq
  obtain rfl:rl=false:=hl
  simp at hf
  exact bk_4 o a3 a7 0 rs1 rs2 im false false (by omega) (by omega) (by omega) (by omega) (by omega) (by omega) (by omega) hm
 ·obtain rfl:rd=0:=hrd
  obtain⟨rs1,rfl⟩:=Int.eq_ofNat_of_zero_le s0
  obtain⟨rs2,rfl⟩:=Int.eq_ofNat_of_zero_le t0
  obtain rfl:aq=false:=hq
  obtain rfl:rl=false:=hl
  simp at hf
  exact bk_5 o a3 a7 0 rs1 rs2 im false false (by omega) (by omega) (by omega) (by omega) (by omega) (by omega) (by omega) hm
 ·obtain⟨rd,rfl⟩:=Int.eq_ofNat_of_zero_le r0
  obtain⟨rs1,rfl⟩:=Int.eq_ofNat_of_zero_le s0
  obtain rfl:rs2=0:=hs2
  obtain rfl:aq=false:=hq
  obtain rfl:rl=false:=hl
  simp at hf
  exact bk_6 o a3 a7 rd rs1 0 im false false (by omega) (by omega) (by omega) (by omega) (by omega) (by omega) (by omega) hm
 ·obtain⟨rd,rfl⟩:=Int.eq_ofNat_of_zero_le r0
  obtain⟨rs1,rfl⟩:=Int.eq_ofNat_of_zero_le s0
  obtain rfl:rs2=0:=hs2
  obtain rfl:aq=false:=hq
  obtain rfl:rl=false:=hl
  clear hf
  exact bk_7 o a3 a7 rd rs1 0 im false false (by omega) (by omega) (by omega) (by omega) (by omega) (by omega) hm
 ·obtain⟨rd,rfl⟩:=Int.eq_ofNat_of_zero_le r0
  obtain⟨rs1,rfl⟩:=Int.eq_ofNat_of_zero_le s0
  obtain⟨rs2,rfl⟩:=Int.eq_ofNat_of_zero_le t0
  obtain rfl:aq=false:=hq
  obtain rfl:rl=false:=hl
  clear hf
  exact bk_8 o a3 a7 rd rs1 rs2 im false false (by omega) (by omega) (by omega) (by omega) (by omega) (by omega) hm
 ·obtain rfl:rd=0:=hrd
  obtain rfl:rs1=0:=hs1
  obtain rfl:rs2=0:=hs2
  obtain rfl:aq=false:=hq
  obtain rfl:rl=false:=hl
  simp at hf
  exact bk_9 o a3 a7 0 0 0 im false false (by omega) (by omega) (by omega) (by omega) (by omega) (by omega) (by omega) (by omega) hm
 ·obtain rfl:rd=0:=hrd
  obtain rfl:rs1=0:=hs1
  obtain rfl:rs2=0:=hs2
  obtain rfl:aq=false:=hq
  obtain rfl:rl=false:=hl
  simp at hf
  exact bk_10 o a3 a7 0 0 0 im false false (by omega) (by omega) (by omega) (by omega) (by omega) (by omega) (by omega) hm
 ·obtain⟨rd,rfl⟩:=Int.eq_ofNat_of_zero_le r0
  obtain⟨rs1,rfl⟩:=Int.eq_ofNat_of_zero_le s0
  obtain rfl:rs2=0:=hs2
  simp at hf
  exact bk_11 o a3 a7 rd rs1 0 im aq rl (by omega) (by omega) (by omega) (by omega) (by omega) (by omega) (by omega) hm
 ·obtain⟨rd,rfl⟩:=Int.eq_ofNat_of_zero_le r0
  obtain⟨rs1,rfl⟩:=Int.eq_ofNat_of_zero_le s0
  obtain⟨rs2,rfl⟩:=Int.eq_ofNat_of_zero_le t0
  simp at hf
  exact bk_12 o a3 a7 rd rs1 rs2 im aq rl (by omega) (by omega) (by omega) (by omega) (by omega) (by omega) (by omega) hm
theorem eqi{op rd rs1 rs2 im:Int}{aq rl:Bool}{op' rd' rs1' rs2' im':Int}{aq' rl':Bool}(h:EqI op rd rs1 rs2 im aq rl op' rd' rs1' rs2' im' aq' rl'=true):
  op=op'∧rd=rd'∧rs1=rs1'∧rs2=rs2'∧im=im'∧aq=aq'∧rl=rl':=by
 unfold EqI at h
 simpa only[Bool.and_eq_true,beq_iff_eq] using h
theorem JM{op rd rs1 rs2 im:Int}{aq rl:Bool}(h:GoodB op rd rs1 rs2 im aq rl=true):1≤op∧op<88:=by
 unfold GoodB at h
 by_cases c:op<1∨87<op
 ·rw[Z0y op c] at h
  cases h
 ·omega
theorem Z4m(n:Nat)(rd rs1 rs2 im:Int)(aq rl:Bool)(hg:GoodB n rd rs1 rs2 im aq rl=true):
  ∃U:Nat,U<4294967296∧Z0z n rd rs1 rs2 im aq rl=(U:Int)∧Yh n U=true∧Ird n U=rd∧X8 n U=rs1∧X9 n U=rs2∧Iim n U=im∧Iaq n U=aq∧Irl n U=rl:=by
 have hn:=JM hg
 obtain⟨q1,q2,q3⟩:=K0 hg
 have hg':=hg
 unfold GoodB at hg'
 obtain⟨f0,f1,o0,o1,a0,a1,b0,b1⟩:=XI n
 have hF:=Z0f n (by omega)
 by_cases c:(Z9 (n:Int)).1=0
 ·rw[if_pos c] at hg';cases hg'
 rw[if_neg c] at hg'
 simp only[Bool.and_eq_true] at hg'
 obtain⟨e0,e1,e2,e3,e4,e5,e6⟩:=eqi hg'.1
 obtain⟨U,hU,hW,w0,w1,w2,w3,w4,w5,w6,w7,w8⟩:=bk_any (Z9 (n:Int)).1 (Z9 (n:Int)).2.1 (Z9 (n:Int)).2.2.1 (Z9 (n:Int)).2.2.2 rd rs1 rs2 im aq rl (by omega) f1 o0 o1 a0 a1 b0 b1 hF q1.1 q1.2 q2.1 q2.2 q3.1 q3.2 e1 e2 e3 e5 e6 hg'.2.2.2.2
 have hE:Z0z n rd rs1 rs2 im aq rl=(U:Int):=by
  unfold Z0z W64
  unfold WW at hW
  rw[hW,IntKind.wrap_u32]
  omega
 have k3:Ird n U=rd:=w3
 have k4:X8 n U=rs1:=w4
 have k5:X9 n U=rs2:=w5
 have k6:Iim n U=im:=w6
 have k7:Iaq n U=aq:=w7
 have k8:Irl n U=rl:=w8
 refine⟨U,hU,hE,?_,k3,k4,k5,k6,k7,k8⟩
 refine Z0e n U (beq_iff_eq.2 w0.symm) ?_ ?_ ?_
 ·unfold Z0d EqH
  rw[w0,w1,w2]
  simp
 ·unfold K1
  rw[k3,k4,k5,k6,k7,k8]
  exact hg
 ·unfold Z06
  rw[k3,k4,k5,k6,k7,k8,hE]
  simp
end Go.Proofs.YtgpdpaljbiclkaaGreatDoor
end

/-
  Proved here: what the reference's small functions answer: a register, a part of a number at another place, a flag. Conditions: the numbers are ints. ¦ the instruction of an operation whose fields a word has, by the code. Conditions: the form is one; the word is a word. ¦ what Decode of the code answers for every word. Condition: the table of codes holds what its text lays.
-/
import Derived.Test.YtgpdpaljbiclkaaGreatDoorSzz
import Derived.Test.YtgpdpaljbiclkaaGreatDoorSag
import Derived.Great.Walk
import Derived.Laws.ResultCell
set_option maxHeartbeats 8000000
set_option maxRecDepth 100000
section
namespace Go.Proofs.YtgpdpaljbiclkaaGreatDoor
open _root_.Go.Proofs.Tryz
open Go.RowKit
set_option linter.unusedVariables false
def XT (r:Int) (is:Bool):Bool:=if is=true then Yw r else r==0
theorem JK(r:Int)(is:Bool)(w:World):Calls prog 99 #[.int .i64 r,.bool is] w fun e w'=>e=.returned (.bool (XT r is))∧w=w':=by
 cases is
 ·have H:Hid ((r==0)=XT r false):=rfl
  go_enter func99,ntmps99
  go_wp2_with fail
  go_ret
  exact⟨by rw[←H.out];first|rfl|(show Ending.returned (Value.bool (decide (r≤31)))=_;rw[decide_eq_false (by omega)]),rfl⟩
 ·by_cases c:r<0
  ·have H:Hid (false=XT r true):=by show false=Yw r;unfold Yw;simp;omega
   go_enter func99,ntmps99
   go_wp2_with fail
   go_ret
   exact⟨by rw[←H.out];first|rfl|(show Ending.returned (Value.bool (decide (r≤31)))=_;rw[decide_eq_false (by omega)]),rfl⟩
  ·by_cases d:31<r
   ·have H:Hid (false=XT r true):=by show false=Yw r;unfold Yw;simp;omega
    clear c
    go_enter func99,ntmps99
    go_wp2_with fail
    go_ret
    exact⟨by rw[←H.out];first|rfl|(show Ending.returned (Value.bool (decide (r≤31)))=_;rw[decide_eq_false (by omega)]),rfl⟩
   ·have H:Hid (true=XT r true):=by show true=Yw r;unfold Yw;simp;omega
    go_enter func99,ntmps99
    go_wp2_with fail
    go_ret
    exact⟨by rw[←H.out];first|rfl|(show Ending.returned (Value.bool (decide (r≤31)))=_;rw[decide_eq_false (by omega)]),rfl⟩
def Z7 (v low n at_:Int):Int:=Plc 0 at_ n (Fld (IntKind.u64.wrap v) low n)
theorem Yn(v low n at_:Int)(w:World):Calls prog 95 #[.int .i64 v,.int .i64 low,.int .i64 n,.int .i64 at_] w fun e w'=>e=.returned (.int .u64 (Z7 v low n at_))∧w=w':=by
 obtain⟨u0,u1⟩:0≤IntKind.u64.wrap v∧IntKind.u64.wrap v<18446744073709551616:=by rw[IntKind.wrap_u64];omega
 obtain⟨f0,f1⟩:=Z0c (IntKind.u64.wrap v) low n u0 u1
 go_enter func95,ntmps95
 go_wp2_with fail
 refine(Z3 _ _ _ u0 u1 _).mono ?_
 rintro e w'⟨rfl,rfl⟩
 go_wp2_with fail
 refine(XH _ _ _ _ (by decide) (by decide) f0 f1 _).mono ?_
 rintro e w'⟨rfl,rfl⟩
 go_wp2_with fail
 go_ret
 exact⟨rfl,rfl⟩
def Xf (b:Bool) (at_:Int):Int:=if b=true then Z7 1 0 1 at_ else 0
theorem Yu(b:Bool)(at_:Int)(w:World):Calls prog 96 #[.bool b,.int .i64 at_] w fun e w'=>e=.returned (.int .u64 (Xf b at_))∧w=w':=by
 cases b
 ·have H:Hid (0=Xf false at_):=rfl
  go_enter func96,ntmps96
  go_wp2_with fail
  go_ret
  exact⟨by rw[←H.out];first|rfl|(show Ending.returned (Value.bool (decide (r≤31)))=_;rw[decide_eq_false (by omega)]),rfl⟩
 ·have H:Hid (Z7 1 0 1 at_=Xf true at_):=rfl
  go_enter func96,ntmps96
  go_wp2_with fail
  refine(Yn _ _ _ _ _).mono ?_
  rintro e w'⟨rfl,rfl⟩
  go_wp2_with fail
  go_ret
  exact⟨by rw[←H.out];first|rfl|(show Ending.returned (Value.bool (decide (r≤31)))=_;rw[decide_eq_false (by omega)]),rfl⟩
def RGB (f rd rs1 rs2 im:Int) (aq rl:Bool):Bool:=(f !=0) && (XT rd (rdT f) && (XT rs1 (YP f) && (XT rs2 (YQ f) && (ZB f im && (ZX f||(!aq && !rl))))))
theorem Z26(a b c d:Int)(W:World):(Instr.index 105 (.agg #[.int .i64 a,.int .i64 b,.int .i64 c,.int .i64 d]) (.int .i64 0)).run prog W=.ok (.int .i64 a) W:=by kernel_rfl
theorem Z47(a b c d:Int)(W:World):(Instr.index 105 (.agg #[.int .i64 a,.int .i64 b,.int .i64 c,.int .i64 d]) (.int .i64 1)).run prog W=.ok (.int .i64 b) W:=by kernel_rfl
theorem Z48(a b c d:Int)(W:World):(Instr.index 105 (.agg #[.int .i64 a,.int .i64 b,.int .i64 c,.int .i64 d]) (.int .i64 2)).run prog W=.ok (.int .i64 c) W:=by kernel_rfl
theorem Z49(a b c d:Int)(W:World):(Instr.index 105 (.agg #[.int .i64 a,.int .i64 b,.int .i64 c,.int .i64 d]) (.int .i64 3)).run prog W=.ok (.int .i64 d) W:=by kernel_rfl
attribute [local go_sem ↓] Z26 Z47 Z48 Z49
theorem Z39(op rd rs1 rs2 im:Int)(aq rl:Bool)(v0: -9223372036854775808≤im)(v1:im<9223372036854775808)(w:World):
  Calls prog 66 #[.agg #[.int .i64 op,.int .i64 rd,.int .i64 rs1,.int .i64 rs2,.int .i64 im,.bool aq,.bool rl]] w fun e w'=>e=.returned (.bool (RGB (Z9 op).1 rd rs1 rs2 im aq rl))∧Nb w w':=by
 obtain⟨f0,f1,-⟩:=XI op
 have RA:=Xc op
 generalize (Z9 op).1=f at*
 generalize (Z9 op).2.1=o at*
 generalize (Z9 op).2.2.1=a3 at*
 generalize (Z9 op).2.2.2=a7 at*
 have HRA:=Lib.hid RA
 have HM:=Lib.hid (Z45 f f0 f1 im v0 v1)
 have HH:=Lib.hid (hs_any f f0 f1)
 clear RA v0 v1
 go_enter func66,ntmps66
 go_wp2_with fail
 obtain⟨W1,hW1⟩:∃W1,w.alloc (.cells #[.int .i64 op,.int .i64 rd,.int .i64 rs1,.int .i64 rs2,.int .i64 im,.bool aq,.bool rl] 50)=W1:=⟨_,rfl⟩
 have hb1:=Z0 w _ hW1 rfl
 have hN1:Nb w W1:=by rw[←hW1];exact(Nb.refl _).alloc _
 rw[hW1]
 clear hW1
 refine(HRA.out _).mono ?_
 rintro e w2⟨rfl,hn2⟩
 have hN2:=hN1.trans hn2.b
 have hb2:=hn2.b.block hb1
 clear hN1 hn2 hb1
 go_wp2_with fail
 refine(HH.out _).mono ?_
 rintro e w3⟨rfl,hn3⟩
 have hN3:=hN2.trans hn3.b
 have hb3:=hn3.b.block hb2
 clear hN2 hn3 hb2
 obtain⟨n4,c0,c1,c2,c3,c4,c5,c6⟩:=Z4 hb3
 by_cases z:f=0
 ·subst z
  go_wp2_with fail
  go_ret
  exact⟨rfl,hN3.alloc _⟩
 ·have z':(f==0)=false:=nB z
  have zz:(f !=0)=true:=by simp[z]
  have HZ:=Lib.hid zz
  clear zz z
  obtain⟨W4,hW4⟩:∃W4,w3.alloc (.cells #[.bool (rdT f),.bool (YP f),.bool (YQ f),.bool (Zp f),.bool (ZX f)] 129)=W4:=⟨_,rfl⟩
  have hb4:=Z0 w3 _ hW4 rfl
  have hN4:Nb w W4:=by rw[←hW4];exact hN3.alloc _
  have hn4:Nb w3 W4:=by rw[←hW4];exact(Nb.refl _).alloc _
  have hc4:=hn4.block hb3
  clear n4 c0 c1 c2 c3 c4 c5 c6 hb3 hN3 hn4
  obtain⟨n5,d0,d1,d2,d3,d4⟩:=X2 hb4
  obtain⟨n4,c0,c1,c2,c3,c4,c5,c6⟩:=Z4 hc4
  clear hb4 hc4
  go_wp2_with fail
  try rw[hW4]
  clear hW4
  refine(JK rd (rdT f) _).mono ?_
  rintro e w'⟨rfl,rfl⟩
  cases b1:XT rd (rdT f)
  ·have HR:Hid (false=RGB f rd rs1 rs2 im aq rl):=by unfold RGB;rw[HZ.out,b1];rfl
   go_wp2_with fail
   go_ret
   exact⟨by rw[←HR.out];rfl,hN4⟩
  go_wp2_with fail
  refine(JK rs1 (YP f) _).mono ?_
  rintro e w'⟨rfl,rfl⟩
  cases b2:XT rs1 (YP f)
  ·have HR:Hid (false=RGB f rd rs1 rs2 im aq rl):=by unfold RGB;rw[HZ.out,b1,b2];rfl
   go_wp2_with fail
   go_ret
   exact⟨by rw[←HR.out];rfl,hN4⟩
  go_wp2_with fail
  refine(JK rs2 (YQ f) _).mono ?_
  rintro e w'⟨rfl,rfl⟩
  cases b3:XT rs2 (YQ f)
  ·have HR:Hid (false=RGB f rd rs1 rs2 im aq rl):=by unfold RGB;rw[HZ.out,b1,b2,b3];rfl
   go_wp2_with fail
   go_ret
   exact⟨by rw[←HR.out];rfl,hN4⟩
  go_wp2_with fail
  refine(HM.out _).mono ?_
  rintro e w'⟨rfl,rfl⟩
  cases b4:ZB f im
  ·have HR:Hid (false=RGB f rd rs1 rs2 im aq rl):=by unfold RGB;rw[HZ.out,b1,b2,b3,b4];rfl
   go_wp2_with fail
   go_ret
   exact⟨by rw[←HR.out];rfl,hN4⟩
  cases b5:ZX f
  ·rw[b5] at d4
   cases aq
   ·have HR:Hid ((!rl)=RGB f rd rs1 rs2 im false rl):=by unfold RGB;rw[HZ.out,b1,b2,b3,b4,b5];cases rl<;>rfl
    go_wp2_with fail
    go_ret
    exact⟨by rw[←HR.out];rfl,hN4⟩
   ·have HR:Hid (false=RGB f rd rs1 rs2 im true rl):=by unfold RGB;rw[HZ.out,b1,b2,b3,b4,b5];rfl
    go_wp2_with fail
    go_ret
    exact⟨by rw[←HR.out];rfl,hN4⟩
  ·rw[b5] at d4
   have HR:Hid (true=RGB f rd rs1 rs2 im aq rl):=by unfold RGB;rw[HZ.out,b1,b2,b3,b4,b5];rfl
   go_wp2_with fail
   go_ret
   exact⟨by rw[←HR.out];rfl,hN4⟩
theorem Z4a(b:Bool)(x:Int):(x==oi b x && Yw x)=XT x b:=by
 cases b
 ·show(x==0 && Yw x)=(x==0)
  by_cases c:x=0
  ·subst c;rfl
  ·rw[nB c];rfl
 ·show(x==x && Yw x)=Yw x
  simp
theorem Z6g(f im:Int)(f0:0≤f)(f1:f≤12):(im==oi (Zp f) im && ZB f im)=ZB f im:=by
 have hk:f=0∨f=1∨f=2∨f=3∨f=4∨f=5∨f=6∨f=7∨f=8∨f=9∨f=10∨f=11∨f=12:=by omega
 have h0:∀b:Bool,(im==im && b)=b:=by intro b;simp
 have h1:(im==0 && (im==0))=(im==0):=by simp
 rcases hk with rfl|rfl|rfl|rfl|rfl|rfl|rfl|rfl|rfl|rfl|rfl|rfl|rfl
 ·exact h1
 ·exact h0 _
 ·exact h0 _
 ·exact h0 _
 ·exact h0 _
 ·exact h0 _
 ·exact h0 _
 ·exact h0 _
 ·exact h1
 ·exact h0 _
 ·exact h1
 ·exact h1
 ·exact h1
theorem ob_eq(b aq rl:Bool):((aq==ob b aq) && (rl==ob b rl))=(b||(!aq && !rl)):=by cases b<;>cases aq<;>cases rl<;>rfl
theorem Z4b(op rd rs1 rs2 im:Int)(aq rl:Bool):RGB (Z9 op).1 rd rs1 rs2 im aq rl=GoodB op rd rs1 rs2 im aq rl:=by
 obtain⟨f0,f1,-⟩:=XI op
 unfold RGB GoodB Z2A EqI
 by_cases z:(Z9 op).1=0
 ·rw[if_pos z,z];rfl
 ·rw[if_neg z,show((Z9 op).1 !=0)=true by simp[z],Bool.true_and]
  rw[←Z4a,←Z4a,←Z4a,←Z6g _ _ f0 f1,←ob_eq]
  generalize (Z9 op).1=f
  cases (rd==oi (rdT f) rd)<;>cases (rs1==oi (YP f) rs1)<;>cases (rs2==oi (YQ f) rs2)<;>cases (im==oi (Zp f) im)<;>cases (aq==ob (ZX f) aq)<;>cases (rl==ob (ZX f) rl)<;>simp
end Go.Proofs.YtgpdpaljbiclkaaGreatDoor
end
section
namespace Go.Proofs.YtgpdpaljbiclkaaGreatDoor
open _root_.Go.Proofs.Tryz
open Go.RowKit Go.Sort
set_option linter.unusedVariables false
theorem Ys(u low:Int)(l0:0≤low)(l1:low≤50):0≤Fld u low 5∧Fld u low 5≤31:=by
 unfold Fld
 have hw:=Ke low 5 l0 (by omega) (by decide)
 have e:wid low 5=5:=by omega
 rw[e]
 have:=Z5 u.toNat low.toNat 5
 omega
theorem Nb.setRow{a b:World}(h:Nb a b){g:Nat}(hg:a.heap.size≤g)(cs:Array Value):Nb a (b.setRow g cs):=by
 have hb:Below a.heap.size a b:=h
 exact⟨hb.os,hb.tape,hb.output,by rw[size_setRow];exact hb.size,fun k hk=>(setRow_other b g k cs (by omega)).trans (hb.block k hk)⟩
theorem Z6h(op f u:Int)(f0:0≤f)(f1:f≤12)(u0:0≤u)(u1:u<18446744073709551616)(w:World):
  Calls prog 84 #[.int .i64 op,.int .u32 (1048576*f),.int .u64 u] w fun e w'=>e=.returned (.agg #[.int .i64 op,.int .i64 (oi (rdT f) (Fld u 7 5)),.int .i64 (oi (YP f) (Fld u 15 5)),.int .i64 (oi (YQ f) (Fld u 20 5)),.int .i64 (oi (Zp f) (II f u)),.bool (ob (ZX f) (Fld u 26 1==1)),.bool (ob (ZX f) (Fld u 25 1==1))])∧Nb w w':=by
 obtain⟨p0,p1⟩:=Ys u 7 (by decide) (by decide)
 obtain⟨q0,q1⟩:=Ys u 15 (by decide) (by decide)
 obtain⟨r0,r1⟩:=Ys u 20 (by decide) (by decide)
 go_enter func84,ntmps84
 go_wp2_with fail
 obtain⟨W1,hW⟩:∃W1,w.alloc (.cells #[.int .i64 0,.int .i64 0,.int .i64 0,.int .i64 0,.int .i64 0,.bool false,.bool false] 50)=W1:=⟨_,rfl⟩
 have hb:=Z0 w _ hW rfl
 have hN:Nb w W1:=by rw[←hW];exact(Nb.refl _).alloc _
 rw[hW]
 clear hW
 refine(ZE _ _ _ u0 u1 _).mono ?_
 rintro e w'⟨rfl,rfl⟩
 go_wp2_with fail
 refine(ZE _ _ _ u0 u1 _).mono ?_
 rintro e w'⟨rfl,rfl⟩
 go_wp2_with fail
 refine(ZE _ _ _ u0 u1 _).mono ?_
 rintro e w'⟨rfl,rfl⟩
 go_wp2_with fail
 refine(ii_any f u f0 f1 u0 u1 _).mono ?_
 rintro e w2⟨rfl,hn2⟩
 go_wp2_with fail
 refine(ZE _ _ _ u0 u1 _).mono ?_
 rintro e w'⟨rfl,rfl⟩
 go_wp2_with fail
 refine(ZE _ _ _ u0 u1 _).mono ?_
 rintro e w'⟨rfl,rfl⟩
 have hb2:=Lib.hid (hn2.b.block hb)
 have hN2:=hN.trans hn2.b
 clear hb hN hn2
 go_wp2_with fail
 refine(Xm f _ _ _ _ _ _ _ f0 f1 _).mono ?_
 rintro e w4⟨rfl,hn4⟩
 have hN4:=(hN2.alloc _).trans hn4.b
 have hb4:=hn4.b.block ((heap_alloc_old _ _ (lt_of_block hb2.out)).trans hb2.out)
 rename_i hK1 _ hK
 refine hK _ _ ?_
 clear hK
 refine wpList_store_row rfl 50 _ _ rfl w.heap.size #[.int .i64 op,.int .i64 (oi (rdT f) (Fld u 7 5)),.int .i64 (oi (YP f) (Fld u 15 5)),.int .i64 (oi (YQ f) (Fld u 20 5)),.int .i64 (oi (Zp f) (II f u)),.bool (ob (ZX f) (Fld u 26 1==1)),.bool (ob (ZX f) (Fld u 25 1==1))] rfl rfl 50 _ hb4 (by kernel_rfl) rfl (by kernel_rfl) ?_
 refine wpList_nil ?_
 refine hK1 _ _ ?_
 clear hK1
 go_wp2_with fail
 refine bodyPost_ret (v:= .agg #[.int .i64 op,.int .i64 (oi (rdT f) (Fld u 7 5)),.int .i64 (oi (YP f) (Fld u 15 5)),.int .i64 (oi (YQ f) (Fld u 20 5)),.int .i64 (oi (Zp f) (II f u)),.bool (ob (ZX f) (Fld u 26 1==1)),.bool (ob (ZX f) (Fld u 25 1==1))])
  (results_cell_row rfl _ _ w.heap.size 50 _ (0,0) _ rfl (setRow_heap _ _ _ _ _ _ hb4) underlying50 rfl (by kernel_rfl)) rfl ⟨rfl,?_⟩
 exact hN4.setRow (Nat.le_refl _) _
end Go.Proofs.YtgpdpaljbiclkaaGreatDoor
end
section
namespace Go.Proofs.YtgpdpaljbiclkaaGreatDoor
open _root_.Go.Proofs.Tryz
open Go.RowKit Go.Sort Go.Great
set_option linter.unusedVariables false
def EqH (f o a b f' o' a' b':Int):Bool:=(f==f') && ((o==o') && ((a==a') && (b==b')))
theorem neq4(f o a b f' o' a' b':Int)(W:World):
  (binOp .neq 88 (.agg #[.int .u32 f,.int .u64 o,.int .u64 a,.int .u64 b]) (.agg #[.int .u32 f',.int .u64 o',.int .u64 a',.int .u64 b'])).run prog W=.ok (.bool (!EqH f o a b f' o' a' b')) W:=by
 rw[run_neq_struct,run_equalIn_agg W 9999 88 _ _ (by kernel_rfl) (by kernel_rfl)]
 simp[go_sem,underlying88,underlying53,underlying22]
 unfold EqH
 repeat' split
 all_goals simp_all
attribute [local go_sem ↓] neq4
def Ird (k u:Int):Int:=oi (rdT (Z9 k).1) (Fld u 7 5)
def X8 (k u:Int):Int:=oi (YP (Z9 k).1) (Fld u 15 5)
def X9 (k u:Int):Int:=oi (YQ (Z9 k).1) (Fld u 20 5)
def Iim (k u:Int):Int:=oi (Zp (Z9 k).1) (II (Z9 k).1 u)
def Iaq (k u:Int):Bool:=ob (ZX (Z9 k).1) (Fld u 26 1==1)
def Irl (k u:Int):Bool:=ob (ZX (Z9 k).1) (Fld u 25 1==1)
def Z0d (k u:Int):Bool:=EqH (1048576*(Z9 k).1) (Z9 k).2.1 (Z9 k).2.2.1 (Z9 k).2.2.2 (1048576*(Z9 k).1) (Fld u 0 7) (Get (f3T (Z9 k).1) 0 u) (Get (f7T (Z9 k).1) 0 u)
def K1 (k u:Int):Bool:=GoodB k (Ird k u) (X8 k u) (X9 k u) (Iim k u) (Iaq k u) (Irl k u)
def Z06 (k u:Int):Int:=Z0z k (Ird k u) (X8 k u) (X9 k u) (Iim k u) (Iaq k u) (Irl k u)
def Yh (k u:Int):Bool:=((Z9 k).2.1==Fld u 0 7) && (Z0d k u && (K1 k u && (Z06 k u==u)))
theorem YI(k u:Int): -9223372036854775808≤Iim k u∧Iim k u<9223372036854775808:=by
 unfold Iim oi II
 split
 ·generalize Sgn _ _=x;unfold wrap64;omega
 ·omega
theorem ins_k(k u:Int)(u0:0≤u)(u1:u<18446744073709551616)(f:Int)(hf:(Z9 k).1=f)(w:World):
  Calls prog 84 #[.int .i64 k,.int .u32 (1048576*f),.int .u64 u] w fun e w'=>e=.returned (.agg #[.int .i64 k,.int .i64 (Ird k u),.int .i64 (X8 k u),.int .i64 (X9 k u),.int .i64 (Iim k u),.bool (Iaq k u),.bool (Irl k u)])∧Nb w w':=by
 subst hf
 have h:=XI k
 exact Z6h k (Z9 k).1 u h.1 h.2.1 u0 u1 w
theorem enc_k(k u:Int)(h:K1 k u=true)(w:World)(hC:Cod w):
  Calls prog 16 #[.agg #[.int .i64 k,.int .i64 (Ird k u),.int .i64 (X8 k u),.int .i64 (X9 k u),.int .i64 (Iim k u),.bool (Iaq k u),.bool (Irl k u)]] w fun e w'=>e=.returned (.tuple #[.int .u32 (Z06 k u),.int .i64 0])∧Nb w w':=
 Z2B _ _ _ _ _ _ _ (YI k u).1 (YI k u).2 h w hC
theorem enc_k'(k u:Int)(h:K1 k u=false)(w:World)(hC:Cod w):
  Calls prog 16 #[.agg #[.int .i64 k,.int .i64 (Ird k u),.int .i64 (X8 k u),.int .i64 (X9 k u),.int .i64 (Iim k u),.bool (Iaq k u),.bool (Irl k u)]] w fun e w'=>e=.returned (.tuple #[.int .u32 0,.int .i64 20])∧Nb w w':=
 Z46 _ _ _ _ _ _ _ (YI k u).1 (YI k u).2 h w hC
theorem Z6i(k u:Int)(h:((Z9 k).2.1==Fld u 0 7)=false):Yh k u=false:=by unfold Yh;rw[h];rfl
theorem Z4c(k u:Int)(h:Z0d k u=false):Yh k u=false:=by unfold Yh;rw[h];simp
theorem Z2D(k u:Int)(h:K1 k u=false):Yh k u=false:=by unfold Yh;rw[h];simp
theorem Z2E(k u:Int)(h:(Z06 k u==u)=false):Yh k u=false:=by unfold Yh;rw[h];simp
theorem Z0e(k u:Int)(h1:((Z9 k).2.1==Fld u 0 7)=true)(h2:Z0d k u=true)(h3:K1 k u=true)(h4:(Z06 k u==u)=true):Yh k u=true:=by unfold Yh;rw[h1,h2,h3,h4];rfl
theorem Kj{k:Nat}{u:Int}(hM:Hid (∀j:Nat,1≤j→j<k→Yh j u=false))(h:Yh k u=false):Hid (∀j:Nat,1≤j→j<k+1→Yh j u=false):=by
 intro j h1 h2
 by_cases e:j=k
 ·rw[e];exact h
 ·exact hM.out j h1 (by omega)
def Z27 (u:Int) (e:Ending):Prop:=
 (∃k:Nat,1≤k∧k<88∧Yh k u=true∧(∀j:Nat,1≤j→j<k→Yh j u=false)∧e=.returned (.tuple #[.agg #[.int .i64 (k:Int),.int .i64 (Ird k u),.int .i64 (X8 k u),.int .i64 (X9 k u),.int .i64 (Iim k u),.bool (Iaq k u),.bool (Irl k u)],.int .i64 0]))∨
 ((∀j:Nat,1≤j→j<88→Yh j u=false)∧e=.returned (.tuple #[.agg #[.int .i64 0,.int .i64 0,.int .i64 0,.int .i64 0,.int .i64 0,.bool false,.bool false],.int .i64 21]))
theorem Z6j(u:Int)(u0:0≤u)(u1:u<4294967296)(w:World)(hC:Cod w):
  Calls prog 46 #[.int .u32 u] w fun e w'=>Z27 u e∧Nb w w':=by
 go_enter func46,ntmps46
 go_wp2_with fail
 obtain⟨W1,hW⟩:∃W1,w.alloc (.cells #[.int .i64 0,.int .i64 0,.int .i64 0,.int .i64 0,.int .i64 0,.bool false,.bool false] 50)=W1:=⟨_,rfl⟩
 have hb:=Z0 w _ hW rfl
 have hN:Nb w W1:=by rw[←hW];exact(Nb.refl _).alloc _
 rw[hW]
 clear hW
 have hC1:=hC.of_nb hN
 refine(ZE _ _ _ u0 (by omega) _).mono ?_
 rintro e w'⟨rfl,rfl⟩
 have HB:=Lib.hid hb
 clear hb
 go_wp2_with fail
 go_loopw [6] (fun i wr=>(∃k:Nat,(1:Int)≤k∧(k:Int)≤88∧i=.int .i64 k∧Hid (∀j:Nat,1≤j→j<k→Yh j u=false))∧Nb w wr∧Cod wr∧Hid (wr.heap[w.heap.size]? =some (.cells #[.int .i64 0,.int .i64 0,.int .i64 0,.int .i64 0,.int .i64 0,.bool false,.bool false] 50 (0,0)))) (fun i _=>(88-intOf i).toNat)
 case atStart=>exact⟨⟨1,by decide,by decide,rfl,fun j h1 h2=>absurd h2 (by omega)⟩,hN,hC1,HB⟩
 case round=>
  obtain⟨⟨k,k1,k2,rfl,hM⟩,hNr,hCr,HBr⟩:=hrel
  clear hN hC1 HB hC
  by_cases hlt:(k:Int)<88
  ·clear k2
   obtain⟨s0,s1,t0,t1,x0,x1,y0,y1⟩:=XI k
   go_wp2_with fail
   refine(X1 k wr hCr).mono ?_
   rintro e w2⟨rfl,hn2⟩
   have NA:=Z6i k u
   have NB:=Z4c k u
   have hHd:Z0d k u=EqH (1048576*(Z9 k).1) (Z9 k).2.1 (Z9 k).2.2.1 (Z9 k).2.2.2 (1048576*(Z9 k).1) (Fld u 0 7) (Get (f3T (Z9 k).1) 0 u) (Get (f7T (Z9 k).1) 0 u):=rfl
   have MY:=Z0e k u
   have IK:=fun f hf W=>ins_k k u u0 (by omega) f hf W
   generalize hF:(Z9 (k:Int)).1=f at*
   generalize hO:(Z9 (k:Int)).2.1=o at*
   generalize hA:(Z9 (k:Int)).2.2.1=a3 at*
   generalize hBb:(Z9 (k:Int)).2.2.2=a7 at*
   have IKf:=Lib.hid (IK f rfl)
   clear IK hF hO hA hBb
   have HHd:=Lib.hid hHd
   have HNA:=Lib.hid NA
   have HNB:=Lib.hid NB
   have HMY:=Lib.hid MY
   clear hHd NA NB MY
   cases b1:(o==Fld u 0 7)
   ·have b1':(o !=Fld u 0 7)=true:=by rw[bne_iff_ne];exact beq_eq_false_iff_ne.1 b1
    have HNo:=Lib.hid (HNA.out b1)
    clear b1
    go_wp2_with fail
    obtain⟨W3,hW3⟩:∃W3,w2.alloc (.cells #[.int .u32 (1048576*f),.int .u64 o,.int .u64 a3,.int .u64 a7] 88)=W3:=⟨_,rfl⟩
    have hH:=Z1i w2 _ _ _ _ 88 hW3 rfl
    rw[hW3]
    clear hW3
    obtain⟨h0,h1,e0,e1,e2,e3⟩:=hH
    have hN3:=(hNr.trans hn2.b).trans h0.b
    have hC3:=(hCr.of_nw hn2).of_nw h0
    have hB3:=h0.b.block (hn2.b.block HBr.out)
    have d7:=cell_regrown e0
    have d8:=cell_regrown e1
    have d9:=cell_regrown e2
    have da:=cell_regrown e3
    have E0:=Lib.hid e0
    clear e0 e1 e2 e3 h1 hn2 h0 hNr hCr HBr
    have HB3:=Lib.hid hB3
    clear hB3
    refine wp_region_quiet_below (by kernel_rfl) (by kernel_rfl) ?_
    repeat (quiet_step ((first|(go_at_call 83;exact Ye (Z25 f u s0 s1 u0 (by omega) _)))))
    refine wpQuiet_nil ?_
    intro x4 hw'
    obtain⟨⟨dq,osq⟩,hw''⟩:=hw'
    have hg:Nb W3 (grow (redrawn W3 dq) osq):=below_regrown W3 dq osq
    rw[←hw''] at hg
    clear hw'' d7 d8 d9 da
    have e0:=hg.cell E0.out
    have hN4:=hN3.trans hg
    have hC4:=hC3.of_nb hg
    have HB4:=Lib.hid (hg.block HB3.out)
    clear hg hN3 hC3 HB3 E0
    go_wp2_with fail
    go_roundw
    case rel=>exact⟨⟨k+1,by omega,by omega,by go_num,Kj hM (HNo.out)⟩,hN4,hC4,HB4⟩
    case measure=>simp[intOf];omega
   ·have b1':(o !=Fld u 0 7)=false:=by rw[bne_eq_false_iff_eq];exact beq_iff_eq.1 b1
    have B1:=Lib.hid b1
    clear b1
    cases b2:Z0d k u
    ·have HE:EqH (1048576*f) o a3 a7 (1048576*f) (Fld u 0 7) (Get (f3T f) 0 u) (Get (f7T f) 0 u)=false:=HHd.out.symm.trans b2
     have HNo:=Lib.hid (HNB.out b2)
     clear b2
     go_wp2_with fail
     obtain⟨W3,hW3⟩:∃W3,w2.alloc (.cells #[.int .u32 (1048576*f),.int .u64 o,.int .u64 a3,.int .u64 a7] 88)=W3:=⟨_,rfl⟩
     have hH:=Z1i w2 _ _ _ _ 88 hW3 rfl
     rw[hW3]
     clear hW3
     obtain⟨h0,h1,e0,e1,e2,e3⟩:=hH
     have hN3:=(hNr.trans hn2.b).trans h0.b
     have hC3:=(hCr.of_nw hn2).of_nw h0
     have hB3:=h0.b.block (hn2.b.block HBr.out)
     have d7:=cell_regrown e0
     have d8:=cell_regrown e1
     have d9:=cell_regrown e2
     have da:=cell_regrown e3
     have E0:=Lib.hid e0
     clear e0 e1 e2 e3 h1 hn2 h0 hNr hCr HBr
     have HB3:=Lib.hid hB3
     clear hB3
     refine wp_region_quiet_below (by kernel_rfl) (by kernel_rfl) ?_
     repeat (quiet_step ((first|(go_at_call 83;exact Ye (Z25 f u s0 s1 u0 (by omega) _)))))
     refine wpQuiet_nil ?_
     intro x4 hw'
     obtain⟨⟨dq,osq⟩,hw''⟩:=hw'
     have hg:Nb W3 (grow (redrawn W3 dq) osq):=below_regrown W3 dq osq
     rw[←hw''] at hg
     clear hw'' d7 d8 d9 da
     have e0:=hg.cell E0.out
     have hN4:=hN3.trans hg
     have hC4:=hC3.of_nb hg
     have HB4:=Lib.hid (hg.block HB3.out)
     clear hg hN3 hC3 HB3 E0
     go_wp2_with fail
     go_roundw
     case rel=>exact⟨⟨k+1,by omega,by omega,by go_num,Kj hM (HNo.out)⟩,hN4,hC4,HB4⟩
     case measure=>simp[intOf];omega
    ·have HE:EqH (1048576*f) o a3 a7 (1048576*f) (Fld u 0 7) (Get (f3T f) 0 u) (Get (f7T f) 0 u)=true:=HHd.out.symm.trans b2
     have B2:=Lib.hid b2
     clear b2
     go_wp2_with fail
     obtain⟨W3,hW3⟩:∃W3,w2.alloc (.cells #[.int .u32 (1048576*f),.int .u64 o,.int .u64 a3,.int .u64 a7] 88)=W3:=⟨_,rfl⟩
     have hH:=Z1i w2 _ _ _ _ 88 hW3 rfl
     rw[hW3]
     clear hW3
     obtain⟨h0,h1,e0,e1,e2,e3⟩:=hH
     have hN3:=(hNr.trans hn2.b).trans h0.b
     have hC3:=(hCr.of_nw hn2).of_nw h0
     have hB3:=h0.b.block (hn2.b.block HBr.out)
     have d7:=cell_regrown e0
     have d8:=cell_regrown e1
     have d9:=cell_regrown e2
     have da:=cell_regrown e3
     have E0:=Lib.hid e0
     clear e0 e1 e2 e3 h1 hn2 h0 hNr hCr HBr
     have HB3:=Lib.hid hB3
     clear hB3
     refine wp_region_quiet_below (by kernel_rfl) (by kernel_rfl) ?_
     repeat (quiet_step ((first|(go_at_call 83;exact Ye (Z25 f u s0 s1 u0 (by omega) _)))))
     refine wpQuiet_nil ?_
     intro x4 hw'
     obtain⟨⟨dq,osq⟩,hw''⟩:=hw'
     have hg:Nb W3 (grow (redrawn W3 dq) osq):=below_regrown W3 dq osq
     rw[←hw''] at hg
     clear hw'' d7 d8 d9 da
     have e0:=hg.cell E0.out
     have hN4:=hN3.trans hg
     have hC4:=hC3.of_nb hg
     have HB4:=Lib.hid (hg.block HB3.out)
     clear hg hN3 hC3 HB3 E0
     go_wp2_with fail
     refine(IKf.out _).mono ?_
     rintro e w5⟨rfl,hn5⟩
     have hN5:=hN4.trans hn5
     have hC5:=hC4.of_nb hn5
     have HB5:=Lib.hid (hn5.block HB4.out)
     clear hN4 hC4 HB4 hn5 e0
     go_wp2_with fail
     obtain⟨W6,hW6⟩:∃W6,w5.alloc (.cells #[.int .i64 k,.int .i64 (Ird k u),.int .i64 (X8 k u),.int .i64 (X9 k u),.int .i64 (Iim k u),.bool (Iaq k u),.bool (Irl k u)] 50)=W6:=⟨_,rfl⟩
     have hb6:=Z0 w5 _ hW6 rfl
     have h6:Nb w5 W6:=by rw[←hW6];exact(Nb.refl _).alloc _
     rw[hW6]
     clear hW6
     have hN6:=hN5.trans h6
     have hC6:=hC5.of_nb h6
     have HB6:=Lib.hid (h6.block HB5.out)
     clear hN5 hC5 HB5 h6
     go_wp2_with fail
     cases b3:K1 k u
     ·refine(enc_k' k u b3 _ hC6).mono ?_
      rintro e w7⟨rfl,hn7⟩
      have hN7:=hN6.trans hn7
      have hC7:=hC6.of_nb hn7
      have HB7:=Lib.hid (hn7.block HB6.out)
      clear hN6 hC6 HB6 hn7 hb6
      go_wp2_with fail
      go_roundw
      case rel=>exact⟨⟨k+1,by omega,by omega,by go_num,Kj hM (Z2D k u b3)⟩,hN7,hC7,HB7⟩
      case measure=>simp[intOf];omega
     ·refine(enc_k k u b3 _ hC6).mono ?_
      rintro e w7⟨rfl,hn7⟩
      have hN7:=hN6.trans hn7
      have hC7:=hC6.of_nb hn7
      have HB7:=Lib.hid (hn7.block HB6.out)
      have HI7:=Lib.hid (hn7.block hb6)
      clear hN6 hC6 HB6 hn7 hb6
      have B3:=Lib.hid b3
      clear b3
      cases b4:(Z06 k u==u)
      ·have HNo:=Lib.hid (Z2E k u b4)
       go_wp2_with fail
       go_roundw
       case rel=>exact⟨⟨k+1,by omega,by omega,by go_num,Kj hM (HNo.out)⟩,hN7,hC7,HB7⟩
       case measure=>simp[intOf];omega
      ·have HYes:=Lib.hid (HMY.out B1.out B2.out B3.out b4)
       go_upto_region 11 with(fail)
       have HR:=Lib.hid (setRow_heap _ w.heap.size _ #[.int .i64 k,.int .i64 (Ird k u),.int .i64 (X8 k u),.int .i64 (X9 k u),.int .i64 (Iim k u),.bool (Iaq k u),.bool (Irl k u)] _ _ HB7.out)
       have HN:=hN7.setRow (Nat.le_refl _) #[.int .i64 k,.int .i64 (Ird k u),.int .i64 (X8 k u),.int .i64 (X9 k u),.int .i64 (Iim k u),.bool (Iaq k u),.bool (Irl k u)]
       clear hN7 hC7
       apply wp_region_list
       refine wpList_load_row rfl 50 _ rfl w5.heap.size rfl 50 #[.int .i64 k,.int .i64 (Ird k u),.int .i64 (X8 k u),.int .i64 (X9 k u),.int .i64 (Iim k u),.bool (Iaq k u),.bool (Irl k u)] (0,0) _ HI7.out underlying50 rfl (by kernel_rfl) ?_
       refine wpList_store_row rfl 50 _ _ rfl w.heap.size #[.int .i64 k,.int .i64 (Ird k u),.int .i64 (X8 k u),.int .i64 (X9 k u),.int .i64 (Iim k u),.bool (Iaq k u),.bool (Irl k u)] rfl rfl 50 _ HB7.out (by kernel_rfl) rfl (by kernel_rfl) ?_
       go_wp2_with fail
       refine bodyPost_ret (v:= .tuple #[.agg #[.int .i64 k,.int .i64 (Ird k u),.int .i64 (X8 k u),.int .i64 (X9 k u),.int .i64 (Iim k u),.bool (Iaq k u),.bool (Irl k u)],.int .i64 0]) ?_ rfl ⟨?_,?_⟩
       ·rw[results_cell_tmp rfl]
        show((loadVar 50 ⟨w.heap.size,0,none⟩).run prog _).andThen _=_
        rw[run_loadVar_row _ w.heap.size 50 50 #[.int .i64 k,.int .i64 (Ird k u),.int .i64 (X8 k u),.int .i64 (X9 k u),.int .i64 (Iim k u),.bool (Iaq k u),.bool (Irl k u)] (0,0) _ HR.out underlying50 rfl (by kernel_rfl)]
        rfl
       ·exact Or.inl ⟨k,by omega,by omega,HYes.out,hM.out,rfl⟩
       ·exact HN
  ·have HK:Hid (k=88):=Lib.hid (by omega)
   go_upto_region 12 with(fail)
   have HR:=Lib.hid (setRow_heap _ w.heap.size _ #[.int .i64 0,.int .i64 0,.int .i64 0,.int .i64 0,.int .i64 0,.bool false,.bool false] _ _ HBr.out)
   have HN:=hNr.setRow (Nat.le_refl _) #[.int .i64 0,.int .i64 0,.int .i64 0,.int .i64 0,.int .i64 0,.bool false,.bool false]
   clear hNr hCr
   apply wp_region_list
   refine wpList_buildTo rfl 50 _ rfl (some 51) rfl #[.int .i64 0,.int .i64 0,.int .i64 0,.int .i64 0,.int .i64 0,.bool false,.bool false] (by kernel_rfl) ?_
   refine wpList_store_row rfl 50 _ _ rfl w.heap.size #[.int .i64 0,.int .i64 0,.int .i64 0,.int .i64 0,.int .i64 0,.bool false,.bool false] rfl rfl 50 _ HBr.out (by kernel_rfl) rfl (by kernel_rfl) ?_
   go_wp2_with fail
   refine bodyPost_ret (v:= .tuple #[.agg #[.int .i64 0,.int .i64 0,.int .i64 0,.int .i64 0,.int .i64 0,.bool false,.bool false],.int .i64 21]) ?_ rfl ⟨?_,?_⟩
   ·rw[results_cell_tmp rfl]
    show((loadVar 50 ⟨w.heap.size,0,none⟩).run prog _).andThen _=_
    rw[run_loadVar_row _ w.heap.size 50 50 #[.int .i64 0,.int .i64 0,.int .i64 0,.int .i64 0,.int .i64 0,.bool false,.bool false] (0,0) _ HR.out underlying50 rfl (by kernel_rfl)]
    rfl
   ·exact Or.inr ⟨fun j h1 h2=>hM.out j h1 (by rw[HK.out];exact h2),rfl⟩
   ·exact HN
end Go.Proofs.YtgpdpaljbiclkaaGreatDoor
end

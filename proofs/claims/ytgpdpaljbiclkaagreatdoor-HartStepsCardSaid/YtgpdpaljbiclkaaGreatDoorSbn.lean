/-
  Proved here: what the reference's small functions on words answer: a field, a number with its sign. Conditions: the word is a word. ¦ the number that the reference reads out of a word by a form is the code's. Conditions: the word is a word.
-/
import Derived.Test.YtgpdpaljbiclkaaGreatDoorSam
set_option maxHeartbeats 4000000
set_option maxRecDepth 100000
section
namespace Go.Proofs.YtgpdpaljbiclkaaGreatDoor
open _root_.Go.Proofs.Tryz
open Go.RowKit
set_option linter.unusedVariables false
theorem Y1(u low n:Int)(u0:0≤u)(u1:u<4294967296)(w:World):
  Calls prog 94 #[.int .u32 u,.int .i64 low,.int .i64 n] w fun e w'=>e=.returned (.int .u64 (Fld u low n))∧w'=w:=by
 go_enter func94,ntmps94
 go_wp2_with fail
 refine(Z3 _ _ _ u0 (by omega) _).mono ?_
 rintro e w'⟨rfl,rfl⟩
 go_wp2_with fail
 go_ret
 exact⟨rfl,rfl⟩
theorem JZ(x n:Int)(h0:0≤x)(h1:x<18446744073709551616)(w:World):
  Calls prog 121 #[.int .u64 x,.int .i64 n] w fun e w'=>e=.returned (.int .i64 (wrap64 (Sgn x n)))∧w'=w:=by
 go_enter func121,ntmps121
 go_wp2_with fail
 refine(Zi _ _ h0 h1 _).mono ?_
 rintro e w'⟨rfl,rfl⟩
 go_wp2_with fail
 go_ret
 exact⟨rfl,rfl⟩
theorem wr(x:Int):0≤IntKind.u64.wrap x∧IntKind.u64.wrap x<18446744073709551616:=by rw[IntKind.wrap_u64];omega
end Go.Proofs.YtgpdpaljbiclkaaGreatDoor
end
section
namespace Go.Proofs.YtgpdpaljbiclkaaGreatDoor
open _root_.Go.Proofs.Tryz
open Go.RowKit
set_option linter.unusedVariables false
theorem wmul(a c:Nat)(h:a*c<18446744073709551616):IntKind.u64.wrap ((a:Int)*(c:Int))=((a*c:Nat):Int):=by rw[IntKind.wrap_u64,←Int.natCast_mul];omega
theorem Z1T{k:IntKind}{a b:Int}(h:a=b):Ending.returned (.int k a)=.returned (.int k b):=by rw[h]
theorem Z2i(u low n:Int)(N:Nat)(u0:0≤u)(h:wid low n≤N):0≤Fld u low n∧Fld u low n<((2 ^ N:Nat):Int):=by
 unfold Fld
 have:=Z5 u.toNat low.toNat (wid low n)
 have:=Nat.pow_le_pow_right (by decide:0<2) h
 omega
theorem Kc(u:Int)(h:0≤u):∃U:Nat,u=(U:Int):=Int.eq_ofNat_of_zero_le h
theorem dval_0(u:Int)(u0:0≤u)(u1:u<4294967296)(w:World):Calls prog 93 #[.int .u32 u,.int .i64 0] w fun e w'=>e=.returned (.int .i64 (oi (Zp 0) (II 0 u)))∧Nw w w':=by
 go_enter func93,ntmps93
 go_wp2_with fail
 go_ret
 exact⟨rfl,Nw.refl _⟩
theorem vk_1(u:Int)(u0:0≤u):wrap64 (Sgn (IntKind.u64.wrap (Fld u 12 20*4096)) 32)=oi (Zp 1) (II 1 u):=by
 obtain⟨U,rfl⟩:=Kc u u0
 have t0:Fld (U:Int) 12 20=((fld U 12 20:Nat):Int):=Yf U 12 20 (by decide) (by decide) (by decide)
 have s0:fld U 12 20<2 ^ 20:=Z5 _ _ _
 have hG:IG 1 U=(((plc (plc (plc (plc 0 12 20 (fld U 12 20)) 0 0 (fld U 0 0)) 0 0 (fld U 0 0)) 0 0 (fld U 0 0)):Nat):Int):=rfl
 try simp only[Zs] at hG
 have g0:plc (0) 12 20 (fld U 12 20)=0+2 ^ 12*((fld U 12 20) % 2 ^ 20):=Z2 _ _ _ _ (by omega)
 rw[g0,Nat.mod_eq_of_lt s0] at hG
 clear g0
 rw[show Zp 1=true from rfl,Kr]
 unfold II
 rw[hG,show sgT 1=32 from rfl,t0]
 clear hG t0
 generalize fld U 12 20=y0 at*
 congr 1
 congr 1
 have m0:IntKind.u64.wrap ((y0:Int)*4096)=((y0*4096:Nat):Int):=wmul y0 4096 (by omega)
 rw[m0]
 exact congrArg Nat.cast (by omega)
theorem dval_1(u:Int)(u0:0≤u)(u1:u<4294967296)(w:World):Calls prog 93 #[.int .u32 u,.int .i64 1] w fun e w'=>e=.returned (.int .i64 (oi (Zp 1) (II 1 u)))∧Nw w w':=by
 go_enter func93,ntmps93
 go_wp2_with fail
 refine(Y1 _ _ _ u0 u1 _).mono ?_
 rintro e w'⟨rfl,rfl⟩
 go_wp2_with fail
 refine(JZ (IntKind.u64.wrap (Fld u 12 20*4096)) 32 (wr _).1 (wr _).2 _).mono ?_
 rintro e w'⟨rfl,rfl⟩
 go_wp2_with fail
 go_ret
 exact⟨Z1T (vk_1 u u0),Nw.refl _⟩
theorem vk_2(u:Int)(u0:0≤u):wrap64 (Sgn (IntKind.u64.wrap (IntKind.u64.wrap (IntKind.u64.wrap (IntKind.u64.wrap (Fld u 31 1*1048576)+IntKind.u64.wrap (Fld u 12 8*4096))+IntKind.u64.wrap (Fld u 20 1*2048))+IntKind.u64.wrap (Fld u 21 10*2))) 21)=oi (Zp 2) (II 2 u):=by
 obtain⟨U,rfl⟩:=Kc u u0
 have t0:Fld (U:Int) 31 1=((fld U 31 1:Nat):Int):=Yf U 31 1 (by decide) (by decide) (by decide)
 have s0:fld U 31 1<2 ^ 1:=Z5 _ _ _
 have t1:Fld (U:Int) 21 10=((fld U 21 10:Nat):Int):=Yf U 21 10 (by decide) (by decide) (by decide)
 have s1:fld U 21 10<2 ^ 10:=Z5 _ _ _
 have t2:Fld (U:Int) 20 1=((fld U 20 1:Nat):Int):=Yf U 20 1 (by decide) (by decide) (by decide)
 have s2:fld U 20 1<2 ^ 1:=Z5 _ _ _
 have t3:Fld (U:Int) 12 8=((fld U 12 8:Nat):Int):=Yf U 12 8 (by decide) (by decide) (by decide)
 have s3:fld U 12 8<2 ^ 8:=Z5 _ _ _
 have hG:IG 2 U=(((plc (plc (plc (plc 0 20 1 (fld U 31 1)) 1 10 (fld U 21 10)) 11 1 (fld U 20 1)) 12 8 (fld U 12 8)):Nat):Int):=rfl
 try simp only[Zs] at hG
 have g0:plc (0) 20 1 (fld U 31 1)=0+2 ^ 20*((fld U 31 1) % 2 ^ 1):=Z2 _ _ _ _ (by omega)
 have g1:plc (0+2 ^ 20*((fld U 31 1) % 2 ^ 1)) 1 10 (fld U 21 10)=0+2 ^ 20*((fld U 31 1) % 2 ^ 1)+2 ^ 1*((fld U 21 10) % 2 ^ 10):=Z2 _ _ _ _ (by omega)
 have g2:plc (0+2 ^ 20*((fld U 31 1) % 2 ^ 1)+2 ^ 1*((fld U 21 10) % 2 ^ 10)) 11 1 (fld U 20 1)=0+2 ^ 20*((fld U 31 1) % 2 ^ 1)+2 ^ 1*((fld U 21 10) % 2 ^ 10)+2 ^ 11*((fld U 20 1) % 2 ^ 1):=Z2 _ _ _ _ (by omega)
 have g3:plc (0+2 ^ 20*((fld U 31 1) % 2 ^ 1)+2 ^ 1*((fld U 21 10) % 2 ^ 10)+2 ^ 11*((fld U 20 1) % 2 ^ 1)) 12 8 (fld U 12 8)=0+2 ^ 20*((fld U 31 1) % 2 ^ 1)+2 ^ 1*((fld U 21 10) % 2 ^ 10)+2 ^ 11*((fld U 20 1) % 2 ^ 1)+2 ^ 12*((fld U 12 8) % 2 ^ 8):=Z2 _ _ _ _ (by omega)
 rw[g0,g1,g2,g3,Nat.mod_eq_of_lt s0,Nat.mod_eq_of_lt s1,Nat.mod_eq_of_lt s2,Nat.mod_eq_of_lt s3] at hG
 clear g0 g1 g2 g3
 rw[show Zp 2=true from rfl,Kr]
 unfold II
 rw[hG,show sgT 2=21 from rfl,t0,t1,t2,t3]
 clear hG t0 t1 t2 t3
 generalize fld U 31 1=y0 at*
 generalize fld U 21 10=y1 at*
 generalize fld U 20 1=y2 at*
 generalize fld U 12 8=y3 at*
 congr 1
 congr 1
 have m0:IntKind.u64.wrap ((y0:Int)*1048576)=((y0*1048576:Nat):Int):=wmul y0 1048576 (by omega)
 have m1:IntKind.u64.wrap ((y3:Int)*4096)=((y3*4096:Nat):Int):=wmul y3 4096 (by omega)
 have m2:IntKind.u64.wrap ((y2:Int)*2048)=((y2*2048:Nat):Int):=wmul y2 2048 (by omega)
 have m3:IntKind.u64.wrap ((y1:Int)*2)=((y1*2:Nat):Int):=wmul y1 2 (by omega)
 rw[m0,m1,m2,m3]
 rw[wadd _ _ (by omega),wadd _ _ (by omega),wadd _ _ (by omega)]
 exact congrArg Nat.cast (by omega)
theorem dval_2(u:Int)(u0:0≤u)(u1:u<4294967296)(w:World):Calls prog 93 #[.int .u32 u,.int .i64 2] w fun e w'=>e=.returned (.int .i64 (oi (Zp 2) (II 2 u)))∧Nw w w':=by
 go_enter func93,ntmps93
 go_wp2_with fail
 refine(Y1 _ _ _ u0 u1 _).mono ?_
 rintro e w'⟨rfl,rfl⟩
 go_wp2_with fail
 refine(Y1 _ _ _ u0 u1 _).mono ?_
 rintro e w'⟨rfl,rfl⟩
 go_wp2_with fail
 refine(Y1 _ _ _ u0 u1 _).mono ?_
 rintro e w'⟨rfl,rfl⟩
 go_wp2_with fail
 refine(Y1 _ _ _ u0 u1 _).mono ?_
 rintro e w'⟨rfl,rfl⟩
 go_wp2_with fail
 refine(JZ (IntKind.u64.wrap (IntKind.u64.wrap (IntKind.u64.wrap (IntKind.u64.wrap (Fld u 31 1*1048576)+IntKind.u64.wrap (Fld u 12 8*4096))+IntKind.u64.wrap (Fld u 20 1*2048))+IntKind.u64.wrap (Fld u 21 10*2))) 21 (wr _).1 (wr _).2 _).mono ?_
 rintro e w'⟨rfl,rfl⟩
 go_wp2_with fail
 go_ret
 exact⟨Z1T (vk_2 u u0),Nw.refl _⟩
theorem vk_3(u:Int)(u0:0≤u):wrap64 (Sgn (Fld u 20 12) 12)=oi (Zp 3) (II 3 u):=by
 obtain⟨U,rfl⟩:=Kc u u0
 have t0:Fld (U:Int) 20 12=((fld U 20 12:Nat):Int):=Yf U 20 12 (by decide) (by decide) (by decide)
 have s0:fld U 20 12<2 ^ 12:=Z5 _ _ _
 have hG:IG 3 U=(((plc (plc (plc (plc 0 0 12 (fld U 20 12)) 0 0 (fld U 0 0)) 0 0 (fld U 0 0)) 0 0 (fld U 0 0)):Nat):Int):=rfl
 try simp only[Zs] at hG
 have g0:plc (0) 0 12 (fld U 20 12)=0+2 ^ 0*((fld U 20 12) % 2 ^ 12):=Z2 _ _ _ _ (by omega)
 rw[g0,Nat.mod_eq_of_lt s0] at hG
 clear g0
 rw[show Zp 3=true from rfl,Kr]
 unfold II
 rw[hG,show sgT 3=12 from rfl,t0]
 clear hG t0
 generalize fld U 20 12=y0 at*
 congr 1
 congr 1
 exact congrArg Nat.cast (by omega)
theorem dval_3(u:Int)(u0:0≤u)(u1:u<4294967296)(w:World):Calls prog 93 #[.int .u32 u,.int .i64 3] w fun e w'=>e=.returned (.int .i64 (oi (Zp 3) (II 3 u)))∧Nw w w':=by
 go_enter func93,ntmps93
 go_wp2_with fail
 refine(Y1 _ _ _ u0 u1 _).mono ?_
 rintro e w'⟨rfl,rfl⟩
 go_wp2_with fail
 refine(JZ (Fld u 20 12) 12 (Z0c u 20 12 u0 (by omega)).1 (Z0c u 20 12 u0 (by omega)).2 _).mono ?_
 rintro e w'⟨rfl,rfl⟩
 go_wp2_with fail
 go_ret
 exact⟨Z1T (vk_3 u u0),Nw.refl _⟩
theorem vk_4(u:Int)(u0:0≤u):wrap64 (Sgn (IntKind.u64.wrap (IntKind.u64.wrap (IntKind.u64.wrap (IntKind.u64.wrap (Fld u 31 1*4096)+IntKind.u64.wrap (Fld u 7 1*2048))+IntKind.u64.wrap (Fld u 25 6*32))+IntKind.u64.wrap (Fld u 8 4*2))) 13)=oi (Zp 4) (II 4 u):=by
 obtain⟨U,rfl⟩:=Kc u u0
 have t0:Fld (U:Int) 31 1=((fld U 31 1:Nat):Int):=Yf U 31 1 (by decide) (by decide) (by decide)
 have s0:fld U 31 1<2 ^ 1:=Z5 _ _ _
 have t1:Fld (U:Int) 25 6=((fld U 25 6:Nat):Int):=Yf U 25 6 (by decide) (by decide) (by decide)
 have s1:fld U 25 6<2 ^ 6:=Z5 _ _ _
 have t2:Fld (U:Int) 8 4=((fld U 8 4:Nat):Int):=Yf U 8 4 (by decide) (by decide) (by decide)
 have s2:fld U 8 4<2 ^ 4:=Z5 _ _ _
 have t3:Fld (U:Int) 7 1=((fld U 7 1:Nat):Int):=Yf U 7 1 (by decide) (by decide) (by decide)
 have s3:fld U 7 1<2 ^ 1:=Z5 _ _ _
 have hG:IG 4 U=(((plc (plc (plc (plc 0 12 1 (fld U 31 1)) 5 6 (fld U 25 6)) 1 4 (fld U 8 4)) 11 1 (fld U 7 1)):Nat):Int):=rfl
 try simp only[Zs] at hG
 have g0:plc (0) 12 1 (fld U 31 1)=0+2 ^ 12*((fld U 31 1) % 2 ^ 1):=Z2 _ _ _ _ (by omega)
 have g1:plc (0+2 ^ 12*((fld U 31 1) % 2 ^ 1)) 5 6 (fld U 25 6)=0+2 ^ 12*((fld U 31 1) % 2 ^ 1)+2 ^ 5*((fld U 25 6) % 2 ^ 6):=Z2 _ _ _ _ (by omega)
 have g2:plc (0+2 ^ 12*((fld U 31 1) % 2 ^ 1)+2 ^ 5*((fld U 25 6) % 2 ^ 6)) 1 4 (fld U 8 4)=0+2 ^ 12*((fld U 31 1) % 2 ^ 1)+2 ^ 5*((fld U 25 6) % 2 ^ 6)+2 ^ 1*((fld U 8 4) % 2 ^ 4):=Z2 _ _ _ _ (by omega)
 have g3:plc (0+2 ^ 12*((fld U 31 1) % 2 ^ 1)+2 ^ 5*((fld U 25 6) % 2 ^ 6)+2 ^ 1*((fld U 8 4) % 2 ^ 4)) 11 1 (fld U 7 1)=0+2 ^ 12*((fld U 31 1) % 2 ^ 1)+2 ^ 5*((fld U 25 6) % 2 ^ 6)+2 ^ 1*((fld U 8 4) % 2 ^ 4)+2 ^ 11*((fld U 7 1) % 2 ^ 1):=Z2 _ _ _ _ (by omega)
 rw[g0,g1,g2,g3,Nat.mod_eq_of_lt s0,Nat.mod_eq_of_lt s1,Nat.mod_eq_of_lt s2,Nat.mod_eq_of_lt s3] at hG
 clear g0 g1 g2 g3
 rw[show Zp 4=true from rfl,Kr]
 unfold II
 rw[hG,show sgT 4=13 from rfl,t0,t1,t2,t3]
 clear hG t0 t1 t2 t3
 generalize fld U 31 1=y0 at*
 generalize fld U 25 6=y1 at*
 generalize fld U 8 4=y2 at*
 generalize fld U 7 1=y3 at*
 congr 1
 congr 1
 have m0:IntKind.u64.wrap ((y0:Int)*4096)=((y0*4096:Nat):Int):=wmul y0 4096 (by omega)
 have m1:IntKind.u64.wrap ((y3:Int)*2048)=((y3*2048:Nat):Int):=wmul y3 2048 (by omega)
 have m2:IntKind.u64.wrap ((y1:Int)*32)=((y1*32:Nat):Int):=wmul y1 32 (by omega)
 have m3:IntKind.u64.wrap ((y2:Int)*2)=((y2*2:Nat):Int):=wmul y2 2 (by omega)
 rw[m0,m1,m2,m3]
 rw[wadd _ _ (by omega),wadd _ _ (by omega),wadd _ _ (by omega)]
 exact congrArg Nat.cast (by omega)
theorem dval_4(u:Int)(u0:0≤u)(u1:u<4294967296)(w:World):Calls prog 93 #[.int .u32 u,.int .i64 4] w fun e w'=>e=.returned (.int .i64 (oi (Zp 4) (II 4 u)))∧Nw w w':=by
 go_enter func93,ntmps93
 go_wp2_with fail
 refine(Y1 _ _ _ u0 u1 _).mono ?_
 rintro e w'⟨rfl,rfl⟩
 go_wp2_with fail
 refine(Y1 _ _ _ u0 u1 _).mono ?_
 rintro e w'⟨rfl,rfl⟩
 go_wp2_with fail
 refine(Y1 _ _ _ u0 u1 _).mono ?_
 rintro e w'⟨rfl,rfl⟩
 go_wp2_with fail
 refine(Y1 _ _ _ u0 u1 _).mono ?_
 rintro e w'⟨rfl,rfl⟩
 go_wp2_with fail
 refine(JZ (IntKind.u64.wrap (IntKind.u64.wrap (IntKind.u64.wrap (IntKind.u64.wrap (Fld u 31 1*4096)+IntKind.u64.wrap (Fld u 7 1*2048))+IntKind.u64.wrap (Fld u 25 6*32))+IntKind.u64.wrap (Fld u 8 4*2))) 13 (wr _).1 (wr _).2 _).mono ?_
 rintro e w'⟨rfl,rfl⟩
 go_wp2_with fail
 go_ret
 exact⟨Z1T (vk_4 u u0),Nw.refl _⟩
theorem vk_5(u:Int)(u0:0≤u):wrap64 (Sgn (IntKind.u64.wrap (IntKind.u64.wrap (Fld u 25 7*32)+Fld u 7 5)) 12)=oi (Zp 5) (II 5 u):=by
 obtain⟨U,rfl⟩:=Kc u u0
 have t0:Fld (U:Int) 25 7=((fld U 25 7:Nat):Int):=Yf U 25 7 (by decide) (by decide) (by decide)
 have s0:fld U 25 7<2 ^ 7:=Z5 _ _ _
 have t1:Fld (U:Int) 7 5=((fld U 7 5:Nat):Int):=Yf U 7 5 (by decide) (by decide) (by decide)
 have s1:fld U 7 5<2 ^ 5:=Z5 _ _ _
 have hG:IG 5 U=(((plc (plc (plc (plc 0 5 7 (fld U 25 7)) 0 5 (fld U 7 5)) 0 0 (fld U 0 0)) 0 0 (fld U 0 0)):Nat):Int):=rfl
 try simp only[Zs] at hG
 have g0:plc (0) 5 7 (fld U 25 7)=0+2 ^ 5*((fld U 25 7) % 2 ^ 7):=Z2 _ _ _ _ (by omega)
 have g1:plc (0+2 ^ 5*((fld U 25 7) % 2 ^ 7)) 0 5 (fld U 7 5)=0+2 ^ 5*((fld U 25 7) % 2 ^ 7)+2 ^ 0*((fld U 7 5) % 2 ^ 5):=Z2 _ _ _ _ (by omega)
 rw[g0,g1,Nat.mod_eq_of_lt s0,Nat.mod_eq_of_lt s1] at hG
 clear g0 g1
 rw[show Zp 5=true from rfl,Kr]
 unfold II
 rw[hG,show sgT 5=12 from rfl,t0,t1]
 clear hG t0 t1
 generalize fld U 25 7=y0 at*
 generalize fld U 7 5=y1 at*
 congr 1
 congr 1
 have m0:IntKind.u64.wrap ((y0:Int)*32)=((y0*32:Nat):Int):=wmul y0 32 (by omega)
 rw[m0]
 rw[wadd _ _ (by omega)]
 exact congrArg Nat.cast (by omega)
theorem dval_5(u:Int)(u0:0≤u)(u1:u<4294967296)(w:World):Calls prog 93 #[.int .u32 u,.int .i64 5] w fun e w'=>e=.returned (.int .i64 (oi (Zp 5) (II 5 u)))∧Nw w w':=by
 go_enter func93,ntmps93
 go_wp2_with fail
 refine(Y1 _ _ _ u0 u1 _).mono ?_
 rintro e w'⟨rfl,rfl⟩
 go_wp2_with fail
 refine(Y1 _ _ _ u0 u1 _).mono ?_
 rintro e w'⟨rfl,rfl⟩
 go_wp2_with fail
 refine(JZ (IntKind.u64.wrap (IntKind.u64.wrap (Fld u 25 7*32)+Fld u 7 5)) 12 (wr _).1 (wr _).2 _).mono ?_
 rintro e w'⟨rfl,rfl⟩
 go_wp2_with fail
 go_ret
 exact⟨Z1T (vk_5 u u0),Nw.refl _⟩
theorem vk_6(u:Int)(u0:0≤u):Fld u 20 6=oi (Zp 6) (II 6 u):=by
 obtain⟨U,rfl⟩:=Kc u u0
 have t0:Fld (U:Int) 20 6=((fld U 20 6:Nat):Int):=Yf U 20 6 (by decide) (by decide) (by decide)
 have s0:fld U 20 6<2 ^ 6:=Z5 _ _ _
 have hG:IG 6 U=(((plc (plc (plc (plc 0 0 6 (fld U 20 6)) 0 0 (fld U 0 0)) 0 0 (fld U 0 0)) 0 0 (fld U 0 0)):Nat):Int):=rfl
 try simp only[Zs] at hG
 have g0:plc (0) 0 6 (fld U 20 6)=0+2 ^ 0*((fld U 20 6) % 2 ^ 6):=Z2 _ _ _ _ (by omega)
 rw[g0,Nat.mod_eq_of_lt s0] at hG
 clear g0
 rw[show Zp 6=true from rfl,Kr]
 unfold II
 rw[hG,show sgT 6=0 from rfl,t0]
 clear hG t0
 generalize fld U 20 6=y0 at*
 rw[←Xu _ 0 (by decide)]
 unfold wrap64
 omega
theorem dval_6(u:Int)(u0:0≤u)(u1:u<4294967296)(w:World):Calls prog 93 #[.int .u32 u,.int .i64 6] w fun e w'=>e=.returned (.int .i64 (oi (Zp 6) (II 6 u)))∧Nw w w':=by
 obtain⟨x0,z0⟩:0≤Fld u 20 6∧Fld u 20 6<64:=Z2i u 20 6 6 u0 (by decide)
 go_enter func93,ntmps93
 go_wp2_with fail
 refine(Y1 _ _ _ u0 u1 _).mono ?_
 rintro e w'⟨rfl,rfl⟩
 go_wp2_with fail
 go_ret
 exact⟨Z1T (vk_6 u u0),Nw.refl _⟩
theorem vk_7(u:Int)(u0:0≤u):Fld u 20 5=oi (Zp 7) (II 7 u):=by
 obtain⟨U,rfl⟩:=Kc u u0
 have t0:Fld (U:Int) 20 5=((fld U 20 5:Nat):Int):=Yf U 20 5 (by decide) (by decide) (by decide)
 have s0:fld U 20 5<2 ^ 5:=Z5 _ _ _
 have hG:IG 7 U=(((plc (plc (plc (plc 0 0 5 (fld U 20 5)) 0 0 (fld U 0 0)) 0 0 (fld U 0 0)) 0 0 (fld U 0 0)):Nat):Int):=rfl
 try simp only[Zs] at hG
 have g0:plc (0) 0 5 (fld U 20 5)=0+2 ^ 0*((fld U 20 5) % 2 ^ 5):=Z2 _ _ _ _ (by omega)
 rw[g0,Nat.mod_eq_of_lt s0] at hG
 clear g0
 rw[show Zp 7=true from rfl,Kr]
 unfold II
 rw[hG,show sgT 7=0 from rfl,t0]
 clear hG t0
 generalize fld U 20 5=y0 at*
 rw[←Xu _ 0 (by decide)]
 unfold wrap64
 omega
theorem dval_7(u:Int)(u0:0≤u)(u1:u<4294967296)(w:World):Calls prog 93 #[.int .u32 u,.int .i64 7] w fun e w'=>e=.returned (.int .i64 (oi (Zp 7) (II 7 u)))∧Nw w w':=by
 obtain⟨x0,z0⟩:0≤Fld u 20 5∧Fld u 20 5<32:=Z2i u 20 5 5 u0 (by decide)
 go_enter func93,ntmps93
 go_wp2_with fail
 refine(Y1 _ _ _ u0 u1 _).mono ?_
 rintro e w'⟨rfl,rfl⟩
 go_wp2_with fail
 go_ret
 exact⟨Z1T (vk_7 u u0),Nw.refl _⟩
theorem dval_8(u:Int)(u0:0≤u)(u1:u<4294967296)(w:World):Calls prog 93 #[.int .u32 u,.int .i64 8] w fun e w'=>e=.returned (.int .i64 (oi (Zp 8) (II 8 u)))∧Nw w w':=by
 go_enter func93,ntmps93
 go_wp2_with fail
 go_ret
 exact⟨rfl,Nw.refl _⟩
theorem vk_9(u:Int)(u0:0≤u):Fld u 20 8=oi (Zp 9) (II 9 u):=by
 obtain⟨U,rfl⟩:=Kc u u0
 have t0:Fld (U:Int) 20 8=((fld U 20 8:Nat):Int):=Yf U 20 8 (by decide) (by decide) (by decide)
 have s0:fld U 20 8<2 ^ 8:=Z5 _ _ _
 have hG:IG 9 U=(((plc (plc (plc (plc 0 0 8 (fld U 20 8)) 0 0 (fld U 0 0)) 0 0 (fld U 0 0)) 0 0 (fld U 0 0)):Nat):Int):=rfl
 try simp only[Zs] at hG
 have g0:plc (0) 0 8 (fld U 20 8)=0+2 ^ 0*((fld U 20 8) % 2 ^ 8):=Z2 _ _ _ _ (by omega)
 rw[g0,Nat.mod_eq_of_lt s0] at hG
 clear g0
 rw[show Zp 9=true from rfl,Kr]
 unfold II
 rw[hG,show sgT 9=0 from rfl,t0]
 clear hG t0
 generalize fld U 20 8=y0 at*
 rw[←Xu _ 0 (by decide)]
 unfold wrap64
 omega
theorem dval_9(u:Int)(u0:0≤u)(u1:u<4294967296)(w:World):Calls prog 93 #[.int .u32 u,.int .i64 9] w fun e w'=>e=.returned (.int .i64 (oi (Zp 9) (II 9 u)))∧Nw w w':=by
 obtain⟨x0,z0⟩:0≤Fld u 20 8∧Fld u 20 8<256:=Z2i u 20 8 8 u0 (by decide)
 go_enter func93,ntmps93
 go_wp2_with fail
 refine(Y1 _ _ _ u0 u1 _).mono ?_
 rintro e w'⟨rfl,rfl⟩
 go_wp2_with fail
 go_ret
 exact⟨Z1T (vk_9 u u0),Nw.refl _⟩
theorem Z8f(u:Int)(u0:0≤u)(u1:u<4294967296)(w:World):Calls prog 93 #[.int .u32 u,.int .i64 10] w fun e w'=>e=.returned (.int .i64 (oi (Zp 10) (II 10 u)))∧Nw w w':=by
 go_enter func93,ntmps93
 go_wp2_with fail
 go_ret
 exact⟨rfl,Nw.refl _⟩
theorem Z8g(u:Int)(u0:0≤u)(u1:u<4294967296)(w:World):Calls prog 93 #[.int .u32 u,.int .i64 11] w fun e w'=>e=.returned (.int .i64 (oi (Zp 11) (II 11 u)))∧Nw w w':=by
 go_enter func93,ntmps93
 go_wp2_with fail
 go_ret
 exact⟨rfl,Nw.refl _⟩
theorem Z8h(u:Int)(u0:0≤u)(u1:u<4294967296)(w:World):Calls prog 93 #[.int .u32 u,.int .i64 12] w fun e w'=>e=.returned (.int .i64 (oi (Zp 12) (II 12 u)))∧Nw w w':=by
 go_enter func93,ntmps93
 go_wp2_with fail
 go_ret
 exact⟨rfl,Nw.refl _⟩
end Go.Proofs.YtgpdpaljbiclkaaGreatDoor
end

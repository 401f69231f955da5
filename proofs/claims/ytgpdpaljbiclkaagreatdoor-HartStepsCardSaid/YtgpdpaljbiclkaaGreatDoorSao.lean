/-
  Proved here: Plain facts on quotients of words with and without a sign. Conditions: the ranges that each theorem names. ¦ What Quo and Rem of the code and of the reference answer. Conditions: the arguments are words. ¦ Plain facts on the higher half of a product of two words. Conditions: the ranges that each theorem names. ¦ What High of the code and of the reference answers. Conditions: the arguments are words.
-/
import Derived.Test.YtgpdpaljbiclkaaGreatDoorSab
section
namespace Go.Proofs.YtgpdpaljbiclkaaGreatDoor
open Tryz
open Go.RowKit
set_option linter.unusedVariables false
def Y5 (x:Int):Bool:=x / 9223372036854775808==1
theorem Kl(x:Int)(h0:0≤x)(h1:x<18446744073709551616):Y5 x=true↔9223372036854775808≤x:=by
 unfold Y5;rw[beq_iff_eq];omega
theorem JN(x:Int)(h0:0≤x)(h1:x<18446744073709551616):Y5 x=false↔x<9223372036854775808:=by
 unfold Y5;rw[beq_eq_false_iff_ne];omega
def Mag (x:Int):Int:=if Y5 x=true then IntKind.u64.wrap (-x) else x
theorem Z2J(x:Int)(h0:0≤x)(h1:x<18446744073709551616)(hn:Y5 x=true):Mag x=18446744073709551616-x:=by
 unfold Mag;rw[if_pos hn,IntKind.wrap_u64];have:=(Kl x h0 h1).1 hn;omega
theorem XK(x:Int)(hn:Y5 x=false):Mag x=x:=by unfold Mag;rw[hn];rfl
theorem KE(x:Int)(hn:Y5 x=true):Mag x=IntKind.u64.wrap (-x):=if_pos hn
theorem XB(x:Int)(h0:0≤x)(h1:x<18446744073709551616):0≤Mag x∧Mag x≤9223372036854775808:=by
 cases hn:Y5 x
 ·rw[XK x hn];have:=(JN x h0 h1).1 hn;omega
 ·rw[Z2J x h0 h1 hn];have:=(Kl x h0 h1).1 hn;omega
theorem Z0E(x:Int)(h0:1≤x)(h1:x<18446744073709551616):1≤Mag x:=by
 cases hn:Y5 x
 ·rw[XK x hn];omega
 ·rw[Z2J x (by omega) h1 hn];omega
def All64:Int:=18446744073709551615
def Quo (a b:Int) (s:Bool):Int:=if b=0 then All64 else if s=false then a / b else if Y5 a=Y5 b then Mag a / Mag b else IntKind.u64.wrap (-(Mag a / Mag b))
theorem quo_0(a:Int)(s:Bool):Quo a 0 s=All64:=if_pos rfl
theorem quo_u(a b:Int)(hb:1≤b):Quo a b false=a / b:=by unfold Quo;rw[if_neg (by omega),if_pos rfl]
theorem JO(a b:Int)(hb:1≤b)(h:Y5 a=Y5 b):Quo a b true=Mag a / Mag b:=by unfold Quo;rw[if_neg (by omega),if_neg (by decide),if_pos h]
theorem J2(a b:Int)(hb:1≤b)(h:Y5 a≠Y5 b):Quo a b true=IntKind.u64.wrap (-(Mag a / Mag b)):=by unfold Quo;rw[if_neg (by omega),if_neg (by decide),if_neg h]
theorem Z0g(x:Int):0≤IntKind.u64.wrap x∧IntKind.u64.wrap x<18446744073709551616:=by rw[IntKind.wrap_u64];omega
theorem Z1l(a b:Int)(s:Bool)(h0:0≤a)(h1:a<18446744073709551616)(g0:0≤b)(g1:b<18446744073709551616):0≤Quo a b s∧Quo a b s<18446744073709551616:=by
 unfold Quo
 by_cases hb:b=0
 ·rw[if_pos hb];decide
 ·rw[if_neg hb]
  cases s
  ·rw[if_pos rfl]
   have:=Int.ediv_nonneg h0 g0;have:=Int.ediv_le_self b h0;omega
  ·rw[if_neg (by decide)]
   split
   ·obtain⟨a0,a1⟩:=XB a h0 h1
    have b0:=Z0E b (by omega) g1
    have:=Int.ediv_nonneg a0 (by omega:0≤Mag b);have:=Int.ediv_le_self (Mag b) a0;omega
   ·exact Z0g _
def Rem (a b:Int) (s:Bool):Int:=IntKind.u64.wrap (a-IntKind.u64.wrap (Quo a b s*b))
theorem rem_0(a:Int)(s:Bool)(h0:0≤a)(h1:a<18446744073709551616):Rem a 0 s=a:=by
 unfold Rem;rw[Int.mul_zero];show IntKind.u64.wrap (a-0)=a;rw[Int.sub_zero];exact IntWalk.u64_in _ (by omega)
theorem Z28(x:Int)(h0:0≤x)(h1:x<18446744073709551616):Bt x 63=if Y5 x=true then 1 else 0:=by
 unfold Bt
 have e:(2:Nat) ^ (63:Int).toNat=9223372036854775808:=by decide
 rw[e]
 cases hn:Y5 x
 ·have:=(JN x h0 h1).1 hn;rw[if_neg (by decide)];omega
 ·have:=(Kl x h0 h1).1 hn;rw[if_pos rfl];omega
theorem Z4r(x:Int)(h0:0≤x)(h1:x<18446744073709551616)(hn:Y5 x=false):Bt x 63=0:=by rw[Z28 x h0 h1,hn];rfl
theorem Z4s(x:Int)(h0:0≤x)(h1:x<18446744073709551616)(hn:Y5 x=true):Bt x 63=1:=by rw[Z28 x h0 h1,hn];rfl
end Go.Proofs.YtgpdpaljbiclkaaGreatDoor
end
section
namespace Go.Proofs.YtgpdpaljbiclkaaGreatDoor
open Tryz
open Go.RowKit
set_option linter.unusedVariables false
theorem XL(x:Int)(h0:0≤x)(h1:x<18446744073709551616)(w:World):
  Calls prog 154 #[.int .u64 x] w fun e w'=>e=.returned (.bool (Y5 x))∧w=w':=by
 go_enter func154,ntmps154
 go_wp2
 go_ret
 exact⟨rfl,rfl⟩
theorem Jq(x:Int)(h0:0≤x)(h1:x<18446744073709551616)(w:World):
  Calls prog 155 #[.int .u64 x] w fun e w'=>e=.returned (.int .u64 (Mag x))∧w=w':=by
 cases hn:Y5 x
 ·have H:=Lib.hid (XK x hn)
  go_enter func155,ntmps155
  go_wp2_with (go_at_call 154;refine(XL x h0 h1 _).mono ?_;rintro e w'⟨rfl,rfl⟩)
  go_ret
  exact⟨Zm H.out.symm,rfl⟩
 ·have H:Hid (IntKind.u64.wrap (-x)=Mag x):=by unfold Mag;rw[if_pos hn];rfl
  go_enter func155,ntmps155
  go_wp2_with (go_at_call 154;refine(XL x h0 h1 _).mono ?_;rintro e w'⟨rfl,rfl⟩)
  go_ret
  exact⟨Zm H.out,rfl⟩
theorem Z0F(a b:Int)(s:Bool)(h0:0≤a)(h1:a<18446744073709551616)(g0:0≤b)(g1:b<18446744073709551616)(w:World):
  Calls prog 151 #[.int .u64 a,.int .u64 b,.bool s] w fun e w'=>e=.returned (.int .u64 (_root_.Go.Proofs.YtgpdpaljbiclkaaGreatDoor.Quo a b s))∧w=w':=by
 by_cases hb:b=0
 ·subst hb
  have H:=Lib.hid (quo_0 a s)
  go_enter func151,ntmps151
  go_wp2_with fail
  go_ret
  exact⟨Zm H.out.symm,rfl⟩
 have b1:1≤b:=by omega
 have hb0:(b==0)=false:=by rw[beq_eq_false_iff_ne];exact hb
 clear hb
 cases s
 ·have H:=Lib.hid (quo_u a b b1)
  go_enter func151,ntmps151
  go_wp2_with fail
  go_ret
  exact⟨Zm H.out.symm,rfl⟩
 ·obtain⟨a0,a1⟩:=XB a h0 h1
  have m1:=Z0E b b1 g1
  have m2:=(XB b g0 g1).2
  by_cases hs:Y5 a=Y5 b
  ·have H:=Lib.hid (JO a b b1 hs)
   have hb':(Y5 a==Y5 b)=true:=by rw[hs];simp
   clear hs
   go_enter func151,ntmps151
   go_wp2_with fail
   refine(Jq a h0 h1 _).mono ?_
   rintro e w'⟨rfl,rfl⟩
   go_wp2_with fail
   refine(Jq b g0 g1 _).mono ?_
   rintro e w'⟨rfl,rfl⟩
   go_wp2_with fail
   refine(XL a h0 h1 _).mono ?_
   rintro e w'⟨rfl,rfl⟩
   go_wp2_with fail
   refine(XL b g0 g1 _).mono ?_
   rintro e w'⟨rfl,rfl⟩
   go_wp2_with fail
   go_ret
   exact⟨Zm H.out.symm,rfl⟩
  ·have H:=Lib.hid (J2 a b b1 hs)
   have hb':(Y5 a==Y5 b)=false:=by simpa using hs
   clear hs
   go_enter func151,ntmps151
   go_wp2_with fail
   refine(Jq a h0 h1 _).mono ?_
   rintro e w'⟨rfl,rfl⟩
   go_wp2_with fail
   refine(Jq b g0 g1 _).mono ?_
   rintro e w'⟨rfl,rfl⟩
   go_wp2_with fail
   refine(XL a h0 h1 _).mono ?_
   rintro e w'⟨rfl,rfl⟩
   go_wp2_with fail
   refine(XL b g0 g1 _).mono ?_
   rintro e w'⟨rfl,rfl⟩
   go_wp2_with fail
   go_ret
   exact⟨Zm H.out.symm,rfl⟩
theorem Z2K(a b:Int)(s:Bool)(h0:0≤a)(h1:a<18446744073709551616)(g0:0≤b)(g1:b<18446744073709551616)(w:World):
  Calls prog 152 #[.int .u64 a,.int .u64 b,.bool s] w fun e w'=>e=.returned (.int .u64 (_root_.Go.Proofs.YtgpdpaljbiclkaaGreatDoor.Rem a b s))∧w=w':=by
 go_enter func152,ntmps152
 go_wp2_with fail
 refine(Z0F a b s h0 h1 g0 g1 _).mono ?_
 rintro e w'⟨rfl,rfl⟩
 go_wp2_with fail
 go_ret
 exact⟨rfl,rfl⟩
theorem K2(a b:Int)(s:Bool)(h0:0≤a)(h1:a<18446744073709551616)(g0:0≤b)(g1:b<18446744073709551616)(w:World):
  Calls prog 107 #[.int .u64 a,.int .u64 b,.bool s] w fun e w'=>e=.returned (.int .u64 (_root_.Go.Proofs.YtgpdpaljbiclkaaGreatDoor.Quo a b s))∧w=w':=by
 by_cases hb:b=0
 ·subst hb
  have H:=Lib.hid (quo_0 a s)
  go_enter func107,ntmps107
  go_wp2_with fail
  go_ret
  exact⟨Zm H.out.symm,rfl⟩
 have b1:1≤b:=by omega
 have hb0:(b==0)=false:=by rw[beq_eq_false_iff_ne];exact hb
 clear hb
 cases s
 ·have H:=Lib.hid (quo_u a b b1)
  go_enter func107,ntmps107
  go_wp2_with fail
  go_ret
  exact⟨Zm H.out.symm,rfl⟩
 ·obtain⟨a0,a1⟩:=XB a h0 h1
  have m1:=Z0E b b1 g1
  have m2:=(XB b g0 g1).2
  have ha:=Z28 a h0 h1
  have hb:=Z28 b g0 g1
  cases na:Y5 a
  ·cases nb:Y5 b
   ·have H:=Lib.hid (JO a b b1 (na.trans nb.symm))
    have MA:=Lib.hid (XK a na)
    have MB:=Lib.hid (XK b nb)
    have e1:(Bt a 63==1)=false:=by rw[ha,na];rfl
    have e2:(Bt b 63==1)=false:=by rw[hb,nb];rfl
    have e3:(Bt a 63==Bt b 63)=true:=by rw[ha,hb,na,nb];rfl
    rw[MA.out] at a0 a1
    rw[MB.out] at m1 m2
    clear ha hb na nb
    go_enter func107,ntmps107
    go_wp2_with (go_at_call 103;refine(Y2 _ _ (by omega) (by omega) (by omega) (by omega) _).mono ?_;rintro e w'⟨rfl,rfl⟩)
    go_ret
    exact⟨Zm (by rw[H.out,MA.out,MB.out]),rfl⟩
   ·have H:=Lib.hid (J2 a b b1 (by rw[na,nb];decide))
    have MA:=Lib.hid (XK a na)
    have MB:=Lib.hid (KE b nb)
    have e1:(Bt a 63==1)=false:=by rw[ha,na];rfl
    have e2:(Bt b 63==1)=true:=by rw[hb,nb];rfl
    have e3:(Bt a 63==Bt b 63)=false:=by rw[ha,hb,na,nb];rfl
    rw[MA.out] at a0 a1
    rw[MB.out] at m1 m2
    clear ha hb na nb
    go_enter func107,ntmps107
    go_wp2_with (go_at_call 103;refine(Y2 _ _ (by omega) (by omega) (by omega) (by omega) _).mono ?_;rintro e w'⟨rfl,rfl⟩)
    go_ret
    exact⟨Zm (by rw[H.out,MA.out,MB.out]),rfl⟩
  ·cases nb:Y5 b
   ·have H:=Lib.hid (J2 a b b1 (by rw[na,nb];decide))
    have MA:=Lib.hid (KE a na)
    have MB:=Lib.hid (XK b nb)
    have e1:(Bt a 63==1)=true:=by rw[ha,na];rfl
    have e2:(Bt b 63==1)=false:=by rw[hb,nb];rfl
    have e3:(Bt a 63==Bt b 63)=false:=by rw[ha,hb,na,nb];rfl
    rw[MA.out] at a0 a1
    rw[MB.out] at m1 m2
    clear ha hb na nb
    go_enter func107,ntmps107
    go_wp2_with (go_at_call 103;refine(Y2 _ _ (by omega) (by omega) (by omega) (by omega) _).mono ?_;rintro e w'⟨rfl,rfl⟩)
    go_ret
    exact⟨Zm (by rw[H.out,MA.out,MB.out]),rfl⟩
   ·have H:=Lib.hid (JO a b b1 (na.trans nb.symm))
    have MA:=Lib.hid (KE a na)
    have MB:=Lib.hid (KE b nb)
    have e1:(Bt a 63==1)=true:=by rw[ha,na];rfl
    have e2:(Bt b 63==1)=true:=by rw[hb,nb];rfl
    have e3:(Bt a 63==Bt b 63)=true:=by rw[ha,hb,na,nb];rfl
    rw[MA.out] at a0 a1
    rw[MB.out] at m1 m2
    clear ha hb na nb
    go_enter func107,ntmps107
    go_wp2_with (go_at_call 103;refine(Y2 _ _ (by omega) (by omega) (by omega) (by omega) _).mono ?_;rintro e w'⟨rfl,rfl⟩)
    go_ret
    exact⟨Zm (by rw[H.out,MA.out,MB.out]),rfl⟩
theorem KF(a b:Int)(s:Bool)(h0:0≤a)(h1:a<18446744073709551616)(g0:0≤b)(g1:b<18446744073709551616)(w:World):
  Calls prog 108 #[.int .u64 a,.int .u64 b,.bool s] w fun e w'=>e=.returned (.int .u64 (_root_.Go.Proofs.YtgpdpaljbiclkaaGreatDoor.Rem a b s))∧w=w':=by
 by_cases hb:b=0
 ·subst hb
  have H:=Lib.hid (rem_0 a s h0 h1)
  go_enter func108,ntmps108
  go_wp2_with fail
  go_ret
  exact⟨Zm H.out.symm,rfl⟩
 have hb0:(b==0)=false:=by rw[beq_eq_false_iff_ne];exact hb
 clear hb
 go_enter func108,ntmps108
 go_wp2_with fail
 refine(K2 a b s h0 h1 g0 g1 _).mono ?_
 rintro e w'⟨rfl,rfl⟩
 go_wp2_with fail
 go_ret
 exact⟨rfl,rfl⟩
end Go.Proofs.YtgpdpaljbiclkaaGreatDoor
end
section
namespace Go.Proofs.YtgpdpaljbiclkaaGreatDoor
open Tryz
open Go.RowKit
set_option linter.unusedVariables false
def Lo (a:Int):Int:=a % 4294967296
def Hi (a:Int):Int:=a / 4294967296
theorem Z0G(a:Int)(h0:0≤a)(h1:a<18446744073709551616):bits .and .u64 a 4294967295=Lo a:=by
 obtain⟨A,rfl⟩:=Int.eq_ofNat_of_zero_le h0
 rw[show(4294967295:Int)=((4294967295:Nat):Int) from rfl,u64_and_nat _ _ (by omega) (by decide),show(4294967295:Nat)=2 ^ 32-1 from rfl,Nat.and_two_pow_sub_one_eq_mod]
 rfl
theorem KG(a:Int):0≤Lo a∧Lo a≤4294967295:=by unfold Lo;omega
theorem KH(a:Int)(h0:0≤a)(h1:a<18446744073709551616):0≤Hi a∧Hi a≤4294967295:=by unfold Hi;omega
theorem XC(x y:Int)(x0:0≤x)(x1:x≤4294967295)(y0:0≤y)(y1:y≤4294967295):0≤x*y∧x*y≤18446744065119617025:=by
 have h:=Int.mul_le_mul x1 y1 y0 (by decide:(0:Int)≤4294967295)
 have:=Int.mul_nonneg x0 y0
 omega
theorem KI(x y:Int)(x0:0≤x)(x1:x≤4294967295)(y0:0≤y)(y1:y≤4294967295):IntKind.u64.wrap (x*y)=x*y:=by
 have:=XC x y x0 x1 y0 y1
 exact IntWalk.u64_in _ (by omega)
def P0 (a b:Int):Int:=Lo a*Lo b
def P1 (a b:Int):Int:=Lo a*Hi b
def P2 (a b:Int):Int:=Hi a*Lo b
def PH3 (a b:Int):Int:=Hi a*Hi b
theorem Z1m(a b:Int)(h0:0≤a)(h1:a<18446744073709551616)(g0:0≤b)(g1:b<18446744073709551616):
  (0≤P0 a b∧P0 a b≤18446744065119617025)∧(0≤P1 a b∧P1 a b≤18446744065119617025)∧(0≤P2 a b∧P2 a b≤18446744065119617025)∧(0≤PH3 a b∧PH3 a b≤18446744065119617025):=by
 obtain⟨a0,a1⟩:=KG a;obtain⟨a2,a3⟩:=KH a h0 h1
 obtain⟨b0,b1⟩:=KG b;obtain⟨b2,b3⟩:=KH b g0 g1
 exact⟨XC _ _ a0 a1 b0 b1,XC _ _ a0 a1 b2 b3,XC _ _ a2 a3 b0 b1,XC _ _ a2 a3 b2 b3⟩
def Hu (a b:Int):Int:=a*b / 18446744073709551616
theorem Z3a(a b:Int):a*b=PH3 a b*18446744073709551616+(P1 a b+P2 a b)*4294967296+P0 a b:=by
 unfold P0 P1 P2 PH3
 have ha:a=Hi a*4294967296+Lo a:=by unfold Hi Lo;omega
 have hb:b=Hi b*4294967296+Lo b:=by unfold Hi Lo;omega
 generalize Hi a=ah at*
 generalize Lo a=al at*
 generalize Hi b=bh at*
 generalize Lo b=bl at*
 subst ha hb
 simp only[Int.add_mul,Int.mul_add]
 have c1:ah*4294967296*(bh*4294967296)=ah*bh*18446744073709551616:=by
  rw[Int.mul_assoc,Int.mul_comm 4294967296 (bh*4294967296),Int.mul_assoc bh,←Int.mul_assoc]
  rfl
 have c2:ah*4294967296*bl=ah*bl*4294967296:=by rw[Int.mul_assoc,Int.mul_comm 4294967296 bl,Int.mul_assoc]
 have c3:al*(bh*4294967296)=al*bh*4294967296:=by rw[Int.mul_assoc]
 rw[c1,c2,c3];omega
theorem Z4t(a b:Int)(h0:0≤a)(h1:a<18446744073709551616)(g0:0≤b)(g1:b<18446744073709551616):
  Hu a b=PH3 a b+P1 a b / 4294967296+P2 a b / 4294967296+(P0 a b / 4294967296+P1 a b % 4294967296+P2 a b % 4294967296) / 4294967296:=by
 obtain⟨⟨_,_⟩,⟨_,_⟩,⟨_,_⟩,⟨_,_⟩⟩:=Z1m a b h0 h1 g0 g1
 unfold Hu;rw[Z3a a b]
 generalize P0 a b=p0 at*
 generalize P1 a b=p1 at*
 generalize P2 a b=p2 at*
 generalize PH3 a b=p3 at*
 omega
theorem Z1n(a b:Int)(h0:0≤a)(h1:a<18446744073709551616)(g0:0≤b)(g1:b<18446744073709551616):0≤Hu a b∧Hu a b<18446744073709551616:=by
 unfold Hu
 have h:=Int.mul_le_mul (show a≤18446744073709551615 by omega) (show b≤18446744073709551615 by omega) g0 (by decide:(0:Int)≤18446744073709551615)
 have:=Int.mul_nonneg h0 g0
 omega
theorem Z4u(a b:Int)(h0:0≤a)(h1:a<18446744073709551616)(g0:0≤b)(g1:b<18446744073709551616):
  IntKind.u64.wrap (IntKind.u64.wrap (IntKind.u64.wrap (PH3 a b+P1 a b / 4294967296)+P2 a b / 4294967296)+IntKind.u64.wrap (IntKind.u64.wrap (P0 a b / 4294967296+bits BinOp.and IntKind.u64 (P1 a b) 4294967295)+bits BinOp.and IntKind.u64 (P2 a b) 4294967295) / 4294967296)=Hu a b:=by
 obtain⟨⟨_,_⟩,⟨_,_⟩,⟨_,_⟩,⟨_,_⟩⟩:=Z1m a b h0 h1 g0 g1
 obtain⟨r0,r1⟩:=Z1n a b h0 h1 g0 g1
 have e:=Z4t a b h0 h1 g0 g1
 rw[Z0G (P1 a b) (by omega) (by omega),Z0G (P2 a b) (by omega) (by omega)]
 simp only[IntKind.wrap_u64]
 unfold Lo
 generalize Hu a b=H at*
 generalize P0 a b=p0 at*
 generalize P1 a b=p1 at*
 generalize P2 a b=p2 at*
 generalize PH3 a b=p3 at*
 omega
def NN (a b:Int) (k:Nat):Int:=a*((b.toNat / 2 ^ k:Nat):Int)
def HH (a b:Int) (k:Nat):Int:=NN a b k / 18446744073709551616
def LL (a b:Int) (k:Nat):Int:=NN a b k % 18446744073709551616
theorem Z0H(a b:Int)(k:Nat):NN a b k=2*NN a b (k+1)+Bt b (k:Int)*a:=by
 unfold NN Bt
 rw[Int.toNat_natCast]
 have e:b.toNat / 2 ^ k=2*(b.toNat / 2 ^ (k+1))+b.toNat / 2 ^ k % 2:=by
  rw[Nat.pow_succ,←Nat.div_div_eq_div_mul];omega
 generalize b.toNat / 2 ^ (k+1)=q at*
 generalize b.toNat / 2 ^ k % 2=r at*
 rw[e,Int.natCast_add,Int.mul_add,Int.mul_comm a (r:Int),Int.natCast_mul]
 rw[←Int.mul_assoc,Int.mul_comm a,Int.mul_assoc];rfl
theorem JP(a b:Int)(k:Nat)(h0:0≤a)(h1:a<18446744073709551616)(g0:0≤b)(g1:b<18446744073709551616):0≤NN a b k∧NN a b k≤340282366920938463426481119284349108225:=by
 unfold NN
 have hq:((b.toNat / 2 ^ k:Nat):Int)≤18446744073709551615:=by have:=Nat.div_le_self b.toNat (2 ^ k);omega
 have hq0:(0:Int)≤((b.toNat / 2 ^ k:Nat):Int):=Int.natCast_nonneg _
 have h:=Int.mul_le_mul (show a≤18446744073709551615 by omega) hq hq0 (by decide:(0:Int)≤18446744073709551615)
 have:=Int.mul_nonneg h0 hq0
 omega
theorem Z4v(a b:Int)(g0:0≤b)(g1:b<18446744073709551616):NN a b 64=0:=by
 unfold NN
 have:b.toNat / 2 ^ 64=0:=Nat.div_eq_of_lt (by omega)
 rw[this];simp
theorem Z6m(a b:Int)(g0:0≤b):NN a b 0=a*b:=by
 unfold NN;rw[Nat.pow_zero,Nat.div_one,show((b.toNat:Nat):Int)=b by omega]
theorem hh_top(a b:Int)(g0:0≤b)(g1:b<18446744073709551616):HH a b 64=0:=by unfold HH;rw[Z4v a b g0 g1];rfl
theorem ll_top(a b:Int)(g0:0≤b)(g1:b<18446744073709551616):LL a b 64=0:=by unfold LL;rw[Z4v a b g0 g1];rfl
theorem hh_end(a b:Int)(g0:0≤b):HH a b 0=Hu a b:=by unfold HH Hu;rw[Z6m a b g0]
theorem Jr(a b:Int)(k:Nat):0≤LL a b k∧LL a b k<18446744073709551616:=by unfold LL;omega
theorem Z4w(x:Int)(h0:0≤x)(h1:x<18446744073709551616):Bt x 63=x / 9223372036854775808:=by
 unfold Bt
 have e:(2:Nat) ^ (63:Int).toNat=9223372036854775808:=by decide
 rw[e];omega
theorem Z6n(a b:Int)(k:Nat)(h0:0≤a)(h1:a<18446744073709551616)(g0:0≤b)(g1:b<18446744073709551616)(hb:Bt b (k:Int)=0):IntKind.u64.wrap (IntKind.u64.wrap (2*HH a b (k+1))+Bt (LL a b (k+1)) 63)=HH a b k∧IntKind.u64.wrap (2*LL a b (k+1))=LL a b k:=by
 obtain⟨l0,l1⟩:=Jr a b (k+1)
 rw[Z4w _ l0 l1]
 have e:=Z0H a b k
 rw[hb] at e
 obtain⟨n0,n1⟩:=JP a b k h0 h1 g0 g1
 clear l0 l1
 unfold HH LL
 simp only[IntKind.wrap_u64]
 generalize NN a b (k+1)=N at*
 generalize NN a b k=N' at*
 omega
theorem up_one(a b:Int)(k:Nat)(h0:0≤a)(h1:a<18446744073709551616)(g0:0≤b)(g1:b<18446744073709551616)(hb:Bt b (k:Int)=1)(hc:¬IntKind.u64.wrap (IntKind.u64.wrap (2*LL a b (k+1))+a)<IntKind.u64.wrap (2*LL a b (k+1))):
  IntKind.u64.wrap (IntKind.u64.wrap (2*HH a b (k+1))+Bt (LL a b (k+1)) 63)=HH a b k∧IntKind.u64.wrap (IntKind.u64.wrap (2*LL a b (k+1))+a)=LL a b k:=by
 obtain⟨l0,l1⟩:=Jr a b (k+1)
 rw[Z4w _ l0 l1]
 have e:=Z0H a b k
 rw[hb] at e
 obtain⟨n0,n1⟩:=JP a b k h0 h1 g0 g1
 clear l0 l1
 revert hc
 unfold HH LL
 simp only[IntKind.wrap_u64]
 generalize NN a b (k+1)=N at*
 generalize NN a b k=N' at*
 intro hc
 omega
theorem Z4x(a b:Int)(k:Nat)(h0:0≤a)(h1:a<18446744073709551616)(g0:0≤b)(g1:b<18446744073709551616)(hb:Bt b (k:Int)=1)(hc:IntKind.u64.wrap (IntKind.u64.wrap (2*LL a b (k+1))+a)<IntKind.u64.wrap (2*LL a b (k+1))):
  IntKind.u64.wrap (IntKind.u64.wrap (IntKind.u64.wrap (2*HH a b (k+1))+Bt (LL a b (k+1)) 63)+1)=HH a b k∧IntKind.u64.wrap (IntKind.u64.wrap (2*LL a b (k+1))+a)=LL a b k:=by
 obtain⟨l0,l1⟩:=Jr a b (k+1)
 rw[Z4w _ l0 l1]
 have e:=Z0H a b k
 rw[hb] at e
 obtain⟨n0,n1⟩:=JP a b k h0 h1 g0 g1
 clear l0 l1
 revert hc
 unfold HH LL
 simp only[IntKind.wrap_u64]
 generalize NN a b (k+1)=N at*
 generalize NN a b k=N' at*
 intro hc
 omega
def Less (t:Bool) (h x:Int):Int:=if t=true then IntKind.u64.wrap (h-x) else h
def Hgh (a b:Int) (sa sb:Bool):Int:=Less (sb && Y5 b) (Less (sa && Y5 a) (Hu a b) b) a
theorem Z0h(t:Bool)(h x:Int)(h0:0≤h∧h<18446744073709551616):0≤Less t h x∧Less t h x<18446744073709551616:=by
 cases t
 ·exact h0
 ·exact Z0g _
theorem KJ(a b:Int)(sa sb:Bool)(h0:0≤a)(h1:a<18446744073709551616)(g0:0≤b)(g1:b<18446744073709551616):0≤Hgh a b sa sb∧Hgh a b sa sb<18446744073709551616:=
 Z0h _ _ _ (Z0h _ _ _ (Z1n a b h0 h1 g0 g1))
end Go.Proofs.YtgpdpaljbiclkaaGreatDoor
end
section
namespace Go.Proofs.YtgpdpaljbiclkaaGreatDoor
open Tryz
open Go.RowKit
set_option linter.unusedVariables false
theorem Z3b(a b:Int)(h0:0≤a)(h1:a<18446744073709551616)(g0:0≤b)(g1:b<18446744073709551616)(w:World):
  Calls prog 156 #[.int .u64 a,.int .u64 b] w fun e w'=>e=.returned (.agg #[.int .u64 (P0 a b),.int .u64 (P1 a b),.int .u64 (P2 a b),.int .u64 (PH3 a b)])∧w'=w.alloc (.cells #[.int .u64 (P0 a b),.int .u64 (P1 a b),.int .u64 (P2 a b),.int .u64 (PH3 a b)] 151):=by
 obtain⟨a0,a1⟩:=KG a;obtain⟨a2,a3⟩:=KH a h0 h1
 obtain⟨b0,b1⟩:=KG b;obtain⟨b2,b3⟩:=KH b g0 g1
 have e0:=Lib.hid (KI _ _ a0 a1 b0 b1)
 have e1:=Lib.hid (KI _ _ a0 a1 b2 b3)
 have e2:=Lib.hid (KI _ _ a2 a3 b0 b1)
 have e3:=Lib.hid (KI _ _ a2 a3 b2 b3)
 clear a0 a1 a2 a3 b0 b1 b2 b3
 have f0:=Lib.hid (Z0G a h0 h1)
 have f1:=Lib.hid (Z0G b g0 g1)
 go_enter func156,ntmps156
 go_wp2
 rw[f0.out,f1.out]
 rw[show a / 4294967296=Hi a from rfl,show b / 4294967296=Hi b from rfl,e0.out,e1.out,e2.out,e3.out]
 exact bodyPost_ret (v:= .agg #[.int .u64 (P0 a b),.int .u64 (P1 a b),.int .u64 (P2 a b),.int .u64 (PH3 a b)]) (by simp[results,results156,go_sem];exact⟨rfl,rfl,rfl,rfl⟩) rfl ⟨rfl,rfl⟩
theorem Z3c(a b:Int)(h0:0≤a)(h1:a<18446744073709551616)(g0:0≤b)(g1:b<18446744073709551616)(w:World):
  Calls prog 123 #[.int .u64 a,.int .u64 b] w fun e w'=>e=.returned (.int .u64 (Hu a b))∧w=w':=by
 go_enter func123,ntmps123
 go_wp2
 go_loop [5,6,7] (fun h l i=>∃k:Nat,(k:Int)≤64∧h=.int .u64 (HH a b k)∧l=.int .u64 (LL a b k)∧i=.int .i64 ((k:Int)-1)) (fun _ _ i=>(intOf i+1).toNat)
 case atStart=>exact⟨64,by decide,ZU (hh_top a b g0 g1).symm,ZU (ll_top a b g0 g1).symm,rfl⟩
 case round=>
  obtain⟨k,hk,rfl,rfl,rfl⟩:=hrel
  obtain⟨l0,l1⟩:=Jr a b k
  cases k with
  |zero=>
   go_wp2
   go_ret
   exact⟨Zm (hh_end a b g0),rfl⟩
  |succ k=>
   rcases bt_01 b (k:Int) with⟨t0,t1⟩
   by_cases hb:Bt b (k:Int)=0
   ·have HB:=Lib.hid (Z6n a b k h0 h1 g0 g1 hb)
    have e1:(Bt b (k:Int)==1)=false:=by rw[hb];rfl
    clear hb t0 t1
    go_wp2_with (go_at_call 103;refine(Y2 _ _ (by omega) (by omega) (by omega) (by omega) _).mono ?_;rintro e w'⟨rfl,rfl⟩)
    go_round
    case rel=>exact⟨k,by omega,ZU HB.out.1,ZU HB.out.2,rfl⟩
    case measure=>simp[intOf]
   ·have hb1:Bt b (k:Int)=1:=by omega
    have e1:(Bt b (k:Int)==1)=true:=by rw[hb1];rfl
    by_cases hc:IntKind.u64.wrap (IntKind.u64.wrap (2*LL a b (k+1))+a)<IntKind.u64.wrap (2*LL a b (k+1))
    ·have HB:=Lib.hid (Z4x a b k h0 h1 g0 g1 hb1 hc)
     clear hb hb1 t0 t1
     go_wp2_with (go_at_call 103;refine(Y2 _ _ (by omega) (by omega) (by omega) (by omega) _).mono ?_;rintro e w'⟨rfl,rfl⟩)
     go_round
     case rel=>exact⟨k,by omega,ZU HB.out.1,ZU HB.out.2,rfl⟩
     case measure=>simp[intOf]
    ·have HB:=Lib.hid (up_one a b k h0 h1 g0 g1 hb1 hc)
     clear hb hb1 t0 t1
     go_wp2_with (go_at_call 103;refine(Y2 _ _ (by omega) (by omega) (by omega) (by omega) _).mono ?_;rintro e w'⟨rfl,rfl⟩)
     go_round
     case rel=>exact⟨k,by omega,ZU HB.out.1,ZU HB.out.2,rfl⟩
     case measure=>simp[intOf]
theorem J3(a b:Int)(sa sb:Bool)(h0:0≤a)(h1:a<18446744073709551616)(g0:0≤b)(g1:b<18446744073709551616)(w:World):
  Calls prog 109 #[.int .u64 a,.int .u64 b,.bool sa,.bool sb] w fun e w'=>e=.returned (.int .u64 (Hgh a b sa sb))∧w=w':=by
 have H:Hid (Hgh a b sa sb=Less (sb && Y5 b) (Less (sa && Y5 a) (Hu a b) b) a):=Lib.hid rfl
 have ha:=Z28 a h0 h1
 have hb:=Z28 b g0 g1
 have e1:(Bt a 63==1)=Y5 a:=by rw[ha];cases Y5 a<;>rfl
 have e2:(Bt b 63==1)=Y5 b:=by rw[hb];cases Y5 b<;>rfl
 clear ha hb
 cases sa<;>cases sb<;>cases na:Y5 a<;>cases nb:Y5 b<;>rw[na,nb] at H<;>rw[na] at e1<;>rw[nb] at e2
 all_goals
  clear na nb
  go_enter func109,ntmps109
  go_wp2_with fail
  refine(Z3c a b h0 h1 g0 g1 _).mono ?_
  rintro e w1⟨rfl,rfl⟩
  go_wp2_with (go_at_call 103;refine(Y2 _ _ (by omega) (by omega) (by omega) (by omega) _).mono ?_;rintro e w'⟨rfl,rfl⟩)
  go_ret
  exact⟨Zm H.out.symm,rfl⟩
end Go.Proofs.YtgpdpaljbiclkaaGreatDoor
end

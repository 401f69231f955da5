/-
  Proved here: Plain facts on bits of natural numbers: parts told and put, bit by bit. No condition but what each theorem names. ¦ The spellings of the walk for 64-bit words turned into plain numbers. Conditions: the ranges that each theorem names. ¦ What width, Field, Place of the code and Bit, power of the reference answer for every word. Conditions: the arguments are words. ¦ What Field and Place of the reference answer for every word. Conditions: the arguments are words. ¦ Plain facts on repeated signs and on what has room in so many bits. Conditions: the ranges that each theorem names. ¦ What Sign and Fits of the code and of the reference answer. Conditions: the arguments are words. ¦ how a world that has only grown is used: what was there is there still. No condition.
-/
import Derived.WalkKit
import Derived.Laws.BitsAllLaws
import Derived.Test.YtgpdpaljbiclkaaGreatDoorProg
import Derived.WalkSpells
import Derived.WalkLawsBesides
import Derived.Deep.QuietTactic
import Derived.BigQuiet
import Derived.RowKit3
import Derived.Handy
import Derived.Lib.Hide
section
namespace Go.Proofs.YtgpdpaljbiclkaaGreatDoor
open Tryz
def fld (x low w:Nat):Nat:=x / 2 ^ low % 2 ^ w
def plc (x low w v:Nat):Nat:=x % 2 ^ low+2 ^ low*(v % 2 ^ w)+2 ^ (low+w)*(x / 2 ^ (low+w))
def setb (x p b:Nat):Nat:=x % 2 ^ p+2 ^ p*b+2 ^ (p+1)*(x / 2 ^ (p+1))
theorem JE(x low:Nat):fld x low 0=0:=by simp[fld,Nat.mod_one]
theorem Zs(x low v:Nat):plc x low 0 v=x:=by
 unfold plc;simp[Nat.mod_one,Nat.mod_add_div]
theorem Z5(x low w:Nat):fld x low w<2 ^ w:=Nat.mod_lt _ (Nat.two_pow_pos _)
theorem fld_le(x low w:Nat):fld x low w≤x:=Nat.le_trans (Nat.mod_le _ _) (Nat.div_le_self _ _)
theorem Z19(x low k:Nat):fld x low (k+1)=fld x low k+2 ^ k*(x / 2 ^ (low+k) % 2):=by
 unfold fld;rw[Nat.mod_pow_succ,Nat.div_div_eq_div_mul,←Nat.pow_add]
theorem Z1a(x p:Nat):x=x % 2 ^ p+2 ^ p*(x / 2 ^ p % 2)+2 ^ (p+1)*(x / 2 ^ (p+1)):=by
 have h1:=Nat.mod_add_div x (2 ^ p)
 have h2:=Nat.mod_add_div (x / 2 ^ p) 2
 have h3:x / 2 ^ (p+1)=x / 2 ^ p / 2:=by rw[Nat.pow_succ,Nat.div_div_eq_div_mul]
 rw[h3,Nat.pow_succ,Nat.mul_assoc,Nat.add_assoc,←Nat.mul_add,h2,h1]
theorem KA(x p b j:Nat)(hb:b<2):(setb x p b).testBit j=if j=p then decide (b=1) else x.testBit j:=by
 have hlt:x % 2 ^ p+2 ^ p*b<2 ^ (p+1):=by
  have h:=Nat.mod_lt x (Nat.two_pow_pos p)
  rw[Nat.pow_succ]
  have:2 ^ p*b≤2 ^ p*1:=Nat.mul_le_mul_left _ (by omega)
  omega
 unfold setb
 rw[Nat.add_comm,Nat.testBit_two_pow_mul_add _ hlt,Nat.add_comm (x % 2 ^ p),Nat.testBit_two_pow_mul_add _ (Nat.mod_lt x (Nat.two_pow_pos p))]
 by_cases h1:j<p
 ·rw[if_pos (by omega),if_pos h1,if_neg (by omega),Nat.testBit_mod_two_pow];simp[h1]
 ·by_cases h2:j=p
  ·subst h2
   rw[if_pos (by omega),if_neg h1,if_pos rfl,Nat.sub_self]
   have:b=0∨b=1:=by omega
   rcases this with rfl|rfl<;>rfl
  ·rw[if_neg (by omega),if_neg h2,Nat.testBit_div_two_pow]
   congr 1;omega
theorem Xe(x low w v j:Nat):(plc x low w v).testBit j=if j<low then x.testBit j else if j<low+w then v.testBit (j-low) else x.testBit j:=by
 have h0:=Nat.mod_lt x (Nat.two_pow_pos low)
 have hlt:x % 2 ^ low+2 ^ low*(v % 2 ^ w)<2 ^ (low+w):=by
  have hv:=Nat.mod_lt v (Nat.two_pow_pos w)
  rw[Nat.pow_add]
  have:2 ^ low*(v % 2 ^ w+1)≤2 ^ low*2 ^ w:=Nat.mul_le_mul_left _ hv
  rw[Nat.mul_add] at this
  omega
 unfold plc
 rw[Nat.add_comm,Nat.testBit_two_pow_mul_add _ hlt,Nat.add_comm (x % 2 ^ low),Nat.testBit_two_pow_mul_add _ h0]
 by_cases h1:j<low
 ·rw[if_pos (by omega),if_pos h1,if_pos h1,Nat.testBit_mod_two_pow];simp[h1]
 ·by_cases h2:j<low+w
  ·rw[if_pos h2,if_neg h1,if_neg h1,if_pos h2,Nat.testBit_mod_two_pow]
   have:decide (j-low<w)=true:=by simp;omega
   rw[this,Bool.true_and]
  ·rw[if_neg h2,if_neg h1,if_neg h2,Nat.testBit_div_two_pow]
   congr 1;omega
theorem Z1b(x p:Nat):decide (x / 2 ^ p % 2=1)=x.testBit p:=by
 rw[Nat.testBit_eq_decide_div_mod_eq]
theorem Z1c(x low k v:Nat):plc x low (k+1) v=setb (plc x low k v) (low+k) (v / 2 ^ k % 2):=by
 apply Nat.eq_of_testBit_eq
 intro j
 rw[KA _ _ _ _ (by omega),Xe,Xe,Z1b]
 by_cases h1:j<low
 ·rw[if_pos h1,if_pos h1,if_neg (by omega)]
 ·by_cases h2:j=low+k
  ·rw[if_neg h1,if_pos (by omega),if_pos h2]
   congr 1;omega
  ·by_cases h3:j<low+k
   ·rw[if_neg h1,if_pos (by omega),if_neg h2,if_neg h1,if_pos h3]
   ·rw[if_neg h1,if_neg (by omega),if_neg h2,if_neg h1,if_neg h3]
theorem Ze(x low w v B:Nat)(hx:x<2 ^ B)(hw:low+w≤B):plc x low w v<2 ^ B:=by
 apply Nat.lt_pow_two_of_testBit
 intro j hj
 rw[Xe,if_neg (by omega),if_neg (by omega)]
 exact Nat.testBit_lt_two_pow (Nat.lt_of_lt_of_le hx (Nat.pow_le_pow_right (by decide) hj))
theorem Z20(x p b:Nat):x-x / 2 ^ p % 2*2 ^ p+b*2 ^ p=setb x p b:=by
 have h:=Z1a x p
 have e:x-x / 2 ^ p % 2*2 ^ p=x % 2 ^ p+2 ^ (p+1)*(x / 2 ^ (p+1)):=by
  rw[Nat.mul_comm (x / 2 ^ p % 2)]
  generalize 2 ^ p*(x / 2 ^ p % 2)=t at*
  generalize 2 ^ (p+1)*(x / 2 ^ (p+1))=u at*
  omega
 rw[e];unfold setb;rw[Nat.mul_comm b];omega
theorem bit_le(x p:Nat):x / 2 ^ p % 2*2 ^ p≤x:=by
 have h:=Z1a x p
 rw[Nat.mul_comm]
 generalize 2 ^ p*(x / 2 ^ p % 2)=t at*
 omega
theorem Z32(x p b:Nat)(hx:x<2 ^ 64)(hp:p<64)(hb:b<2):(x &&& (2 ^ 64-(2 ^ p+1)))|||(b*2 ^ p)=setb x p b:=by
 apply Nat.eq_of_testBit_eq
 intro j
 have hpp:2 ^ p<2 ^ 64:=Nat.pow_lt_pow_right (by decide) hp
 rw[KA _ _ _ _ hb,Nat.testBit_or,Nat.testBit_and,Nat.testBit_two_pow_sub_succ hpp,Nat.testBit_two_pow]
 have hbt:(b*2 ^ p).testBit j=(decide (p=j) && decide (b=1)):=by
  have:b=0∨b=1:=by omega
  rcases this with rfl|rfl
  ·simp
  ·simp[Nat.testBit_two_pow]
 rw[hbt]
 by_cases h:j=p
 ·subst h;simp
 ·have h':¬p=j:=fun e=>h e.symm
  rw[if_neg h];simp[h']
  intro ht
  by_cases hj:j<64
  ·exact hj
  ·have:=Nat.testBit_lt_two_pow (Nat.lt_of_lt_of_le hx (Nat.pow_le_pow_right (by decide:0<2) (by omega:64≤j)))
   rw[this] at ht;cases ht
theorem or_bit(f k b:Nat)(hf:f<2 ^ k):f|||(b*2 ^ k)=f+2 ^ k*b:=by
 rw[Nat.mul_comm,Nat.or_comm,←Nat.two_pow_add_eq_or_of_lt hf,Nat.add_comm]
end Go.Proofs.YtgpdpaljbiclkaaGreatDoor
end
section
namespace Go.Proofs.YtgpdpaljbiclkaaGreatDoor
open Tryz
open Go.RowKit
set_option linter.unusedVariables false
theorem Z3U(n:Nat)(h:n<18446744073709551616):IntKind.u64.wrap (n:Int)=n:=IntWalk.u64_in _ (by omega)
theorem Kd(e:Int)(n:Nat)(he:e=n)(h:n<18446744073709551616):IntKind.u64.wrap e=n:=by rw[he];exact Z3U n h
theorem Z1d(x n:Nat):(x:Int) / 2 ^ n=((x / 2 ^ n:Nat):Int):=by simp
theorem Jg{k:Nat}(h:k<64):2 ^ k<18446744073709551616:=Nat.lt_of_lt_of_le (Nat.pow_lt_pow_right (by decide) h) (by decide)
theorem Jo{b k:Nat}(hb:b<2)(h:k<64):b*2 ^ k<18446744073709551616:=
 Nat.lt_of_le_of_lt (Nat.mul_le_mul_right _ (by omega:b≤1)) (by rw[Nat.one_mul];exact Jg h)
theorem Z0u(x:Int)(n:Nat)(h0:0≤x)(h1:x<18446744073709551616):bits .and .u64 (x / 2 ^ n) 1=((x.toNat / 2 ^ n % 2:Nat):Int):=by
 obtain⟨X,rfl⟩:=Int.eq_ofNat_of_zero_le h0
 have hX:X / 2 ^ n<18446744073709551616:=Nat.lt_of_le_of_lt (Nat.div_le_self _ _) (by omega)
 rw[Z1d,show(1:Int)=((1:Nat):Int) from rfl,u64_and_nat _ _ hX (by decide),Nat.and_one_is_mod,Int.toNat_natCast]
theorem Z3V(b k:Nat)(hb:b<2)(h:k<64):IntKind.u64.wrap ((b:Int)*2 ^ k)=((b*2 ^ k:Nat):Int):=
 Kd _ _ (by simp) (Jo hb h)
theorem JF(x low w:Nat)(h:x<18446744073709551616):fld x low w<18446744073709551616:=Nat.lt_of_le_of_lt (fld_le _ _ _) h
theorem Z21(x low:Int)(k:Nat)(h0:0≤x)(h1:x<18446744073709551616)(b1:0≤low)(b3:low+k≤63):
  bits .or .u64 ((fld x.toNat low.toNat k:Nat):Int) (IntKind.u64.wrap (bits .and .u64 (x / 2 ^ (low+(k:Int)).toNat) 1*2 ^ k))=((fld x.toNat low.toNat (k+1):Nat):Int):=by
 rw[Z0u x _ h0 h1,Z3V _ _ (by omega) (by omega),u64_or_nat _ _ (JF _ _ _ (by omega)) (Jo (by omega) (by omega)),
  or_bit _ _ _ (Z5 _ _ _),show(low+(k:Int)).toNat=low.toNat+k by omega,Z19]
def Bt (x i:Int):Int:=((x.toNat / 2 ^ i.toNat % 2:Nat):Int)
def Pw (i:Int):Int:=((2 ^ i.toNat:Nat):Int)
theorem bt_01(x i:Int):0≤Bt x i∧Bt x i≤1:=by unfold Bt;omega
theorem KB(a b:Nat)(h:a+b<18446744073709551616):IntKind.u64.wrap ((a:Int)+b)=((a+b:Nat):Int):=Kd _ _ (by simp) h
theorem btpw(x i j:Int)(h:j.toNat<64):IntKind.u64.wrap (Bt x i*Pw j)=((x.toNat / 2 ^ i.toNat % 2*2 ^ j.toNat:Nat):Int):=
 Kd _ _ (by unfold Bt Pw;simp) (Jo (by omega) h)
theorem Z1e(x low:Int)(k:Nat)(h0:0≤x)(h1:x<18446744073709551616)(b1:0≤low)(b3:low+k≤63):
  IntKind.u64.wrap (((fld x.toNat low.toNat k:Nat):Int)+IntKind.u64.wrap (Bt x (low+(k:Int))*Pw (k:Int)))=((fld x.toNat low.toNat (k+1):Nat):Int):=by
 rw[btpw _ _ _ (by omega),Int.toNat_natCast,show(low+(k:Int)).toNat=low.toNat+k by omega,Nat.mul_comm]
 have e:=Z19 x.toNat low.toNat k
 rw[KB,e]
 rw[←e];exact JF _ _ _ (by omega)
theorem XX(x low w v:Nat)(hx:x<18446744073709551616)(hw:low+w≤64):plc x low w v<18446744073709551616:=Ze x low w v 64 hx hw
theorem Z22(x low v:Int)(k:Nat)(h0:0≤x)(h1:x<18446744073709551616)(v0:0≤v)(v1:v<18446744073709551616)(b1:0≤low)(b3:low+k≤63):
  bits .or .u64 (bits .andNot .u64 ((plc x.toNat low.toNat k v.toNat:Nat):Int) (IntKind.u64.wrap (2 ^ (low+(k:Int)).toNat))) (IntKind.u64.wrap (bits .and .u64 (v / 2 ^ k) 1*2 ^ (low+(k:Int)).toNat))
   =((plc x.toNat low.toNat (k+1) v.toNat:Nat):Int):=by
 have e:(low+(k:Int)).toNat=low.toNat+k:=by omega
 have hp:low.toNat+k<64:=by omega
 have hy:=XX x.toNat low.toNat k v.toNat (by omega) (by omega)
 rw[e,Z0u v _ v0 v1,Z3V _ _ (by omega) hp,Kd (2 ^ (low.toNat+k)) (2 ^ (low.toNat+k)) (by simp) (Jg hp),u64_andNot_nat _ _ hy (Jg hp)]
 have hpp:=Jg hp
 have hs:=Z32 (plc x.toNat low.toNat k v.toNat) (low.toNat+k) (v.toNat / 2 ^ k % 2) hy hp (by omega)
 have e2:18446744073709551615-2 ^ (low.toNat+k)=2 ^ 64-(2 ^ (low.toNat+k)+1):=by omega
 rw[e2,u64_or_nat _ _ (Nat.lt_of_le_of_lt Nat.and_le_left hy) (Jo (by omega) hp),hs,Z1c]
theorem Z1f(x low v:Int)(k:Nat)(h0:0≤x)(h1:x<18446744073709551616)(v0:0≤v)(v1:v<18446744073709551616)(b1:0≤low)(b3:low+k≤63):
  IntKind.u64.wrap (IntKind.u64.wrap (((plc x.toNat low.toNat k v.toNat:Nat):Int)-IntKind.u64.wrap (Bt ((plc x.toNat low.toNat k v.toNat:Nat):Int) (low+(k:Int))*Pw (low+(k:Int))))+IntKind.u64.wrap (Bt v (k:Int)*Pw (low+(k:Int))))
   =((plc x.toNat low.toNat (k+1) v.toNat:Nat):Int):=by
 have e:(low+(k:Int)).toNat=low.toNat+k:=by omega
 have hp:low.toNat+k<64:=by omega
 have hy:=XX x.toNat low.toNat k v.toNat (by omega) (by omega)
 have hz:=XX x.toNat low.toNat (k+1) v.toNat (by omega) (by omega)
 rw[btpw _ _ _ (by omega),btpw _ _ _ (by omega),Int.toNat_natCast,Int.toNat_natCast,e]
 have hs:=Z20 (plc x.toNat low.toNat k v.toNat) (low.toNat+k) (v.toNat / 2 ^ k % 2)
 have hb:=bit_le (plc x.toNat low.toNat k v.toNat) (low.toNat+k)
 rw[Z1c] at hz ⊢
 generalize setb (plc x.toNat low.toNat k v.toNat) (low.toNat+k) (v.toNat / 2 ^ k % 2)=S at*
 generalize v.toNat / 2 ^ k % 2*2 ^ (low.toNat+k)=B at*
 generalize plc x.toNat low.toNat k v.toNat / 2 ^ (low.toNat+k) % 2*2 ^ (low.toNat+k)=A at*
 generalize plc x.toNat low.toNat k v.toNat=Y at*
 rw[Kd ((Y:Int)-A) (Y-A) (by omega) (by omega),KB _ _ (by omega),hs]
theorem Z33(x low v:Int)(k:Nat)(h0:0≤x)(h1:x<18446744073709551616)(b1:0≤low)(b3:low+k≤64):((plc x.toNat low.toNat k v.toNat:Nat):Int)<18446744073709551616:=by
 have hy:=XX x.toNat low.toNat k v.toNat (by omega) (by omega)
 omega
end Go.Proofs.YtgpdpaljbiclkaaGreatDoor
end
section
namespace Go.Proofs.YtgpdpaljbiclkaaGreatDoor
open Tryz
open Go.RowKit
set_option linter.unusedVariables false
def wid (low n:Int):Nat:=if low<0∨63<low∨n<1 then 0 else(min n (64-low)).toNat
theorem Z0v(low n:Int)(h:low<0∨63<low∨n<1):wid low n=0:=if_pos h
theorem Ke(low n:Int)(h0:0≤low)(h1:low≤63)(h2:1≤n):(wid low n:Int)=min n (64-low):=by
 unfold wid;rw[if_neg (by omega)];omega
theorem Z0w(low n:Int)(k:Nat)(h:k<wid low n):0≤low∧low+k≤63∧(k:Int)<n:=by
 unfold wid at h;split at h<;>omega
def Fld (x low n:Int):Int:=((fld x.toNat low.toNat (wid low n):Nat):Int)
def Plc (x low n v:Int):Int:=((plc x.toNat low.toNat (wid low n) v.toNat:Nat):Int)
theorem Zm{k:IntKind}{a b:Int}(h:a=b):Ending.returned (.int k a)=.returned (.int k b):=by rw[h]
theorem ZU{k:IntKind}{a b:Int}(h:a=b):Value.int k a=.int k b:=by rw[h]
theorem Z0b(low n:Int)(w:World):
  Calls prog 115 #[.int .i64 low,.int .i64 n] w fun e w'=>e=.returned (.int .i64 (wid low n))∧w=w':=by
 by_cases h:low<0∨63<low∨n<1
 ·have H:=Lib.hid (Z0v low n h)
  rcases h with h|h|h
  ·go_enter func115,ntmps115
   go_wp2
   go_ret
   exact⟨Zm (by rw[H.out];rfl),rfl⟩
  ·go_enter func115,ntmps115
   go_wp2
   go_ret
   exact⟨Zm (by rw[H.out];rfl),rfl⟩
  ·by_cases h1:low<0
   ·go_enter func115,ntmps115
    go_wp2
    go_ret
    exact⟨Zm (by rw[H.out];rfl),rfl⟩
   by_cases h2:63<low
   ·go_enter func115,ntmps115
    go_wp2
    go_ret
    exact⟨Zm (by rw[H.out];rfl),rfl⟩
   go_enter func115,ntmps115
   go_wp2
   go_ret
   exact⟨Zm (by rw[H.out];rfl),rfl⟩
 ·have H:=Lib.hid (Ke low n (by omega) (by omega) (by omega))
  have k1:0≤low:=by omega
  have k2:low≤63:=by omega
  have k3:1≤n:=by omega
  clear h
  go_enter func115,ntmps115
  go_wp2
  all_goals
   go_ret
   exact⟨Zm (by rw[H.out];omega),rfl⟩
theorem ZE(x low n:Int)(h0:0≤x)(h1:x<18446744073709551616)(w:World):
  Calls prog 82 #[.int .u64 x,.int .i64 low,.int .i64 n] w fun e w'=>e=.returned (.int .u64 (Fld x low n))∧w=w':=by
 go_enter func82,ntmps82
 go_wp2_with (go_at_call 115;refine(Z0b _ _ _).mono ?_;rintro e w'⟨rfl,rfl⟩)
 go_loop [7,12] (fun f i=>∃k:Nat,k≤wid low n∧f=.int .u64 ((fld x.toNat low.toNat k:Nat):Int)∧i=.int .i64 k) (fun _ i=>wid low n-(intOf i).toNat)
 case atStart=>exact⟨0,Nat.zero_le _,ZU (by rw[JE];rfl),rfl⟩
 case round=>
  obtain⟨k,hk,rfl,rfl⟩:=hrel
  by_cases hlt:k<wid low n
  ·obtain⟨b1,b3,b4⟩:=Z0w _ _ _ hlt
   have b2:low≤63:=by omega
   clear hk
   go_wp2
   go_round
   case rel=>exact⟨k+1,hlt,ZU (Z21 x low k h0 h1 b1 b3),by go_num⟩
   case measure=>simp[intOf];omega
  ·have hkk:k=wid low n:=by omega
   subst hkk
   go_wp2
   go_ret
   exact⟨rfl,rfl⟩
theorem YX(x low n v:Int)(h0:0≤x)(h1:x<18446744073709551616)(v0:0≤v)(v1:v<18446744073709551616)(w:World):
  Calls prog 76 #[.int .u64 x,.int .i64 low,.int .i64 n,.int .u64 v] w fun e w'=>e=.returned (.int .u64 (Plc x low n v))∧∃q,w'=w.drewN q:=by
 go_enter func76,ntmps76
 go_wp2_with (go_at_call 115;refine(Z0b _ _ _).mono ?_;rintro e w'⟨rfl,rfl⟩)
 go_loopw [0,14] (fun f i wr=>(∃k:Nat,k≤wid low n∧f=.int .u64 ((plc x.toNat low.toNat k v.toNat:Nat):Int)∧i=.int .i64 k)∧∃q,wr=w.drewN q) (fun _ i _=>wid low n-(intOf i).toNat)
 case atStart=>exact⟨⟨0,Nat.zero_le _,ZU (by rw[Zs];omega),rfl⟩,0,rfl⟩
 case round=>
  obtain⟨⟨k,hk,rfl,rfl⟩,q,rfl⟩:=hrel
  by_cases hlt:k<wid low n
  ·obtain⟨b1,b3,b4⟩:=Z0w _ _ _ hlt
   have b2:low≤63:=by omega
   clear hk
   go_wp2
   go_quiet (fail)
   go_wp2
   go_roundw
   case rel=>exact⟨⟨k+1,hlt,ZU (Z22 x low v k h0 h1 v0 v1 b1 b3),by go_num⟩,_,rfl⟩
   case measure=>simp[intOf];omega
  ·have hkk:k=wid low n:=by omega
   subst hkk
   go_wp2
   go_ret
   exact⟨rfl,_,rfl⟩
def hv (x k:Nat):Nat:=x / 2 ^ k
theorem Z5R(x k:Nat):hv x (k+1)=hv x k / 2:=by unfold hv;rw[Nat.pow_succ,←Nat.div_div_eq_div_mul]
theorem Z5S(x:Nat):hv x 0=x:=by simp[hv]
theorem bt_hv(x i:Int)(k:Nat)(h:i.toNat=k):Bt x i=((hv x.toNat k:Nat):Int) % 2:=by unfold Bt hv;rw[h];rfl
theorem hv_le(x k:Nat):hv x k≤x:=Nat.div_le_self _ _
theorem Y2(x i:Int)(h0:0≤x)(h1:x<18446744073709551616)(g0:0≤i)(g1:i≤63)(w:World):
  Calls prog 103 #[.int .u64 x,.int .i64 i] w fun e w'=>e=.returned (.int .u64 (Bt x i))∧w=w':=by
 go_enter func103,ntmps103
 go_wp2
 go_loop [0,5] (fun y j=>∃k:Nat,(k:Int)≤i∧y=.int .u64 ((hv x.toNat k:Nat):Int)∧j=.int .i64 k) (fun _ j=>(i-intOf j).toNat)
 case atStart=>exact⟨0,by omega,ZU (by rw[Z5S];omega),rfl⟩
 case round=>
  obtain⟨k,hk,rfl,rfl⟩:=hrel
  have hb:((hv x.toNat k:Nat):Int)<18446744073709551616:=by have:=hv_le x.toNat k;omega
  by_cases hlt:(k:Int)<i
  ·clear hk
   go_wp2
   go_round
   case rel=>exact⟨k+1,by omega,ZU (by rw[Z5R];omega),by go_num⟩
   case measure=>simp[intOf];omega
  ·have e:Hid (i.toNat=k):=Lib.hid (by omega)
   go_wp2
   go_ret
   exact⟨Zm (bt_hv x i k e.out).symm,rfl⟩
theorem KC(i:Int)(g0:0≤i)(g1:i≤63)(w:World):
  Calls prog 111 #[.int .i64 i] w fun e w'=>e=.returned (.int .u64 (Pw i))∧w=w':=by
 go_enter func111,ntmps111
 go_wp2
 go_loop [3,4] (fun y j=>∃k:Nat,(k:Int)≤i∧y=.int .u64 ((2 ^ k:Nat):Int)∧j=.int .i64 k) (fun _ j=>(i-intOf j).toNat)
 case atStart=>exact⟨0,by omega,rfl,rfl⟩
 case round=>
  obtain⟨k,hk,rfl,rfl⟩:=hrel
  by_cases hlt:(k:Int)<i
  ·clear hk
   have h64:(k:Int)<64:=by omega
   go_wp2
   go_round
   case rel=>exact⟨k+1,by omega,ZU (Kd _ _ (by rw[Nat.pow_succ,Nat.mul_comm];rfl) (Jg (by omega))),by go_num⟩
   case measure=>simp[intOf];omega
  ·go_wp2
   go_ret
   exact⟨Zm (by unfold Pw;rw[show i.toNat=k by omega];simp),rfl⟩
end Go.Proofs.YtgpdpaljbiclkaaGreatDoor
end
section
namespace Go.Proofs.YtgpdpaljbiclkaaGreatDoor
open Tryz
open Go.RowKit
set_option linter.unusedVariables false
theorem Z3(x low n:Int)(h0:0≤x)(h1:x<18446744073709551616)(w:World):
  Calls prog 98 #[.int .u64 x,.int .i64 low,.int .i64 n] w fun e w'=>e=.returned (.int .u64 (Fld x low n))∧w=w':=by
 by_cases h:low<0∨63<low∨n<1
 ·have H:Hid (0=Fld x low n):=by unfold Fld;rw[Z0v low n h,JE];rfl
  by_cases c1:low<0
  ·clear h
   go_enter func98,ntmps98
   go_wp2
   go_ret
   exact⟨Zm H.out,rfl⟩
  by_cases c2:63<low
  ·clear h
   go_enter func98,ntmps98
   go_wp2
   go_ret
   exact⟨Zm H.out,rfl⟩
  have c3:n<1:=by omega
  clear h
  go_enter func98,ntmps98
  go_wp2
  go_ret
  exact⟨Zm H.out,rfl⟩
 ·have g0:0≤low:=by omega
  have g1:low≤63:=by omega
  have g2:1≤n:=by omega
  have H:=Lib.hid (Ke low n g0 g1 g2)
  clear h
  go_enter func98,ntmps98
  go_wp2
  go_loop [7,8] (fun f i=>∃k:Nat,k≤wid low n∧f=.int .u64 ((fld x.toNat low.toNat k:Nat):Int)∧i=.int .i64 k) (fun _ i=>wid low n-(intOf i).toNat)
  case atStart=>exact⟨0,Nat.zero_le _,ZU (by rw[JE];rfl),rfl⟩
  case round=>
   obtain⟨k,hk,rfl,rfl⟩:=hrel
   by_cases hlt:k<wid low n
   ·obtain⟨b1,b3,b4⟩:=Z0w _ _ _ hlt
    clear hk
    have b5:(k:Int)<64-low:=by omega
    go_wp2_with (first|(go_at_call 103;refine(Y2 _ _ (by omega) (by omega) (by omega) (by omega) _).mono ?_;rintro e w'⟨rfl,rfl⟩)|(go_at_call 111;refine(KC _ (by omega) (by omega) _).mono ?_;rintro e w'⟨rfl,rfl⟩))
    go_round
    case rel=>exact⟨k+1,hlt,ZU (Z1e x low k h0 h1 b1 b3),by go_num⟩
    case measure=>simp[intOf];omega
   ·have hkk:k=wid low n:=by omega
    subst hkk
    have H2:=H.out
    by_cases c:((wid low n:Nat):Int)<n
    ·have d:¬((wid low n:Nat):Int)<64-low:=by omega
     clear H2
     go_wp2
     go_ret
     exact⟨rfl,rfl⟩
    ·clear H2
     go_wp2
     go_ret
     exact⟨rfl,rfl⟩
theorem XH(x low n v:Int)(h0:0≤x)(h1:x<18446744073709551616)(v0:0≤v)(v1:v<18446744073709551616)(w:World):
  Calls prog 72 #[.int .u64 x,.int .i64 low,.int .i64 n,.int .u64 v] w fun e w'=>e=.returned (.int .u64 (Plc x low n v))∧w=w':=by
 by_cases h:low<0∨63<low∨n<1
 ·have H:Hid (x=Plc x low n v):=by unfold Plc;rw[Z0v low n h,Zs];show x=_;omega
  by_cases c1:low<0
  ·clear h
   go_enter func72,ntmps72
   go_wp2
   go_ret
   exact⟨Zm H.out,rfl⟩
  by_cases c2:63<low
  ·clear h
   go_enter func72,ntmps72
   go_wp2
   go_ret
   exact⟨Zm H.out,rfl⟩
  have c3:n<1:=by omega
  clear h
  go_enter func72,ntmps72
  go_wp2
  go_ret
  exact⟨Zm H.out,rfl⟩
 ·have g0:0≤low:=by omega
  have g1:low≤63:=by omega
  have g2:1≤n:=by omega
  have H:=Lib.hid (Ke low n g0 g1 g2)
  clear h
  go_enter func72,ntmps72
  go_wp2
  go_loop [0,9] (fun f i=>∃k:Nat,k≤wid low n∧f=.int .u64 ((plc x.toNat low.toNat k v.toNat:Nat):Int)∧i=.int .i64 k) (fun _ i=>wid low n-(intOf i).toNat)
  case atStart=>exact⟨0,Nat.zero_le _,ZU (by rw[Zs];omega),rfl⟩
  case round=>
   obtain⟨k,hk,rfl,rfl⟩:=hrel
   have y1:(k:Int)+low≤64:=by have:=H.out;omega
   have y2:=Z33 x low v k h0 h1 g0 (by omega)
   clear y1
   by_cases hlt:k<wid low n
   ·obtain⟨b1,b3,b4⟩:=Z0w _ _ _ hlt
    clear hk
    have b5:(k:Int)<64-low:=by omega
    go_wp2_with (first|(go_at_call 103;refine(Y2 _ _ (by omega) (by omega) (by omega) (by omega) _).mono ?_;rintro e w'⟨rfl,rfl⟩)|(go_at_call 111;refine(KC _ (by omega) (by omega) _).mono ?_;rintro e w'⟨rfl,rfl⟩))
    go_round
    case rel=>exact⟨k+1,hlt,ZU (Z1f x low v k h0 h1 v0 v1 b1 b3),by go_num⟩
    case measure=>simp[intOf];omega
   ·have hkk:k=wid low n:=by omega
    subst hkk
    have H2:=H.out
    by_cases c:((wid low n:Nat):Int)<n
    ·have d:¬((wid low n:Nat):Int)<64-low:=by omega
     clear H2
     go_wp2
     go_ret
     exact⟨rfl,rfl⟩
    ·clear H2
     go_wp2
     go_ret
     exact⟨rfl,rfl⟩
end Go.Proofs.YtgpdpaljbiclkaaGreatDoor
end
section
namespace Go.Proofs.YtgpdpaljbiclkaaGreatDoor
open Tryz
open Go.RowKit
set_option linter.unusedVariables false
def sgh (h x:Nat):Nat:=if x % (2*h)<h then x % (2*h) else x % (2*h)+(18446744073709551616-2*h)
theorem sgh_lt(h x:Nat)(h0:0<h)(h1:h≤4611686018427387904):sgh h x<18446744073709551616:=by
 have:=Nat.mod_lt x (show 0<2*h by omega)
 unfold sgh;split<;>omega
theorem Z34(h x:Nat)(h0:0<h)(h1:h≤4611686018427387904):sgh h x<h∨18446744073709551616-h≤sgh h x:=by
 have:=Nat.mod_lt x (show 0<2*h by omega)
 unfold sgh;split<;>omega
theorem Z5T(h x:Nat)(M:Nat)(h0:0<h)(h1:h≤4611686018427387904)(hM:18446744073709551616=2*h*M)(hx:x<18446744073709551616):
  sgh h x=x↔(x<h∨18446744073709551616-h≤x):=by
 constructor
 ·intro e;have:=Z34 h x h0 h1;rw[e] at this;exact this
 ·rintro (hl|hg)
  ·have e:x % (2*h)=x:=Nat.mod_eq_of_lt (by omega)
   unfold sgh;rw[e,if_pos hl]
  ·have hM1:1≤M:=by
    rcases Nat.eq_zero_or_pos M with rfl|h
    ·simp at hM
    ·exact h
   have e1:18446744073709551616-2*h=2*h*(M-1):=by rw[Nat.mul_sub,Nat.mul_one,←hM]
   have e:x % (2*h)=x-(18446744073709551616-2*h):=by
    have:x=(x-(18446744073709551616-2*h))+2*h*(M-1):=by rw[←e1];omega
    rw[this,Nat.add_mul_mod_self_left,←this,Nat.mod_eq_of_lt (by omega)]
   unfold sgh;rw[e,if_neg (by omega)];omega
theorem X6(n:Nat)(h1:1≤n)(h2:n≤63):0<2 ^ (n-1)∧2 ^ (n-1)≤4611686018427387904∧2*2 ^ (n-1)=2 ^ n∧18446744073709551616=2*2 ^ (n-1)*2 ^ (64-n):=by
 have e:2*2 ^ (n-1)=2 ^ n:=by rw[Nat.mul_comm,←Nat.pow_succ];congr 1;omega
 refine⟨Nat.two_pow_pos _,?_,e,?_⟩
 ·have:2 ^ (n-1)≤2 ^ 62:=Nat.pow_le_pow_right (by decide) (by omega)
  exact this
 ·rw[e,←Nat.pow_add];have:n+(64-n)=64:=by omega
  rw[this]
theorem KZ(x n:Nat)(h1:1≤n)(h2:n≤63):(x / 2 ^ (n-1) % 2=1)↔¬x % (2*2 ^ (n-1))<2 ^ (n-1):=by
 obtain⟨p0,p1,p2,p3⟩:=X6 n h1 h2
 generalize 2 ^ (n-1)=h at*
 have e:=Nat.mod_mul_right_div_self x h 2
 rw[Nat.mul_comm] at e
 have hl:=Nat.mod_lt x (show 0<2*h by omega)
 rw[←e]
 generalize x % (2*h)=r at*
 constructor
 ·intro hr hlt;rw[Nat.div_eq_of_lt hlt] at hr;cases hr
 ·intro hge
  have:r / h=1:=Nat.div_eq_of_lt_le (by omega) (by omega)
  exact this
theorem Z1g(n:Nat)(h1:1≤n)(h2:n≤63):IntKind.u64.wrap (18446744073709551615*2 ^ n)=((18446744073709551616-2 ^ n:Nat):Int):=by
 have hp:=Jg (show n<64 by omega)
 have h0:=Nat.two_pow_pos n
 rw[IntKind.wrap_u64]
 have e:(2:Int) ^ n=((2 ^ n:Nat):Int):=by simp
 rw[e]
 generalize 2 ^ n=t at*
 omega
theorem Z3W(x n:Nat)(h1:1≤n)(h2:n≤63)(hx:x<18446744073709551616):x|||(18446744073709551616-2 ^ n)=x % 2 ^ n+(18446744073709551616-2 ^ n):=by
 have hp:=Jg (show n<64 by omega)
 have h0:=Nat.two_pow_pos n
 have e2:18446744073709551616-2 ^ n=2 ^ n*(2 ^ (64-n)-1):=by
  rw[Nat.mul_sub,←Nat.pow_add,Nat.mul_one];have:n+(64-n)=64:=by omega
  rw[this]
 apply Nat.eq_of_testBit_eq
 intro j
 have e3:18446744073709551616-2 ^ n=2 ^ 64-((2 ^ n-1)+1):=by omega
 rw[Nat.testBit_or]
 conv=>rhs;rw[e2,Nat.add_comm,Nat.testBit_two_pow_mul_add _ (Nat.mod_lt x h0)]
 rw[e3,Nat.testBit_two_pow_sub_succ (by omega),Nat.testBit_two_pow_sub_one,Nat.testBit_two_pow_sub_one,Nat.testBit_mod_two_pow]
 by_cases hj:j<n
 ·simp[hj]
 ·rw[if_neg hj]
  by_cases h64:j<64
  ·simp[hj,h64];omega
  ·have:=Nat.testBit_lt_two_pow (Nat.lt_of_lt_of_le hx (Nat.pow_le_pow_right (by decide:0<2) (by omega:64≤j)))
   simp[this,h64];omega
def Sgn (x n:Int):Int:=if n<1∨63<n then x else((sgh (2 ^ (n.toNat-1)) x.toNat:Nat):Int)
theorem Xu(x n:Int)(h:n<1∨63<n):x=Sgn x n:=(if_pos h).symm
theorem YH(x n:Int)(h1:1≤n)(h2:n≤63):((sgh (2 ^ (n.toNat-1)) x.toNat:Nat):Int)=Sgn x n:=(if_neg (by omega)).symm
theorem Z5U(x n:Int)(h0:0≤x)(h1:x<18446744073709551616)(n1:1≤n)(n2:n≤63)(ht:(bits .and .u64 (x / 2 ^ (n.toNat-1)) 1==1)=true):
  bits .or .u64 x (IntKind.u64.wrap (18446744073709551615*2 ^ n.toNat))=Sgn x n:=by
 rw[Z0u x _ h0 h1,beq_iff_eq] at ht
 have ht':=(KZ x.toNat n.toNat (by omega) (by omega)).1 (by omega)
 obtain⟨p0,p1,p2,p3⟩:=X6 n.toNat (by omega) (by omega)
 have hp:=Nat.two_pow_pos n.toNat
 rw[←YH x n n1 n2,Z1g _ (by omega) (by omega)]
 have ex:x=((x.toNat:Nat):Int):=by omega
 rw[show bits .or .u64 x=bits .or .u64 ((x.toNat:Nat):Int) by rw[←ex],u64_or_nat _ _ (by omega) (by omega),Z3W _ _ (by omega) (by omega) (by omega)]
 unfold sgh;rw[if_neg ht',p2]
theorem Z3X(x n:Int)(h0:0≤x)(h1:x<18446744073709551616)(n1:1≤n)(n2:n≤63)(ht:(bits .and .u64 (x / 2 ^ (n.toNat-1)) 1==1)=false):
  bits .andNot .u64 x (IntKind.u64.wrap (18446744073709551615*2 ^ n.toNat))=Sgn x n:=by
 rw[Z0u x _ h0 h1,beq_eq_false_iff_ne] at ht
 have ht':x.toNat % (2*2 ^ (n.toNat-1))<2 ^ (n.toNat-1):=by
  have:=(KZ x.toNat n.toNat (by omega) (by omega)).2
  by_cases c:x.toNat % (2*2 ^ (n.toNat-1))<2 ^ (n.toNat-1)
  ·exact c
  ·exact absurd (this c) (by omega)
 obtain⟨p0,p1,p2,p3⟩:=X6 n.toNat (by omega) (by omega)
 have hp:=Nat.two_pow_pos n.toNat
 have hpp:=Jg (show n.toNat<64 by omega)
 rw[←YH x n n1 n2,Z1g _ (by omega) (by omega)]
 have ex:x=((x.toNat:Nat):Int):=by omega
 rw[show bits .andNot .u64 x=bits .andNot .u64 ((x.toNat:Nat):Int) by rw[←ex],u64_andNot_nat _ _ (by omega) (by omega)]
 have e:18446744073709551615-(18446744073709551616-2 ^ n.toNat)=2 ^ n.toNat-1:=by omega
 rw[e,Nat.and_two_pow_sub_one_eq_mod]
 unfold sgh;rw[if_pos ht',p2]
def sgb (x n i:Nat):Nat:=if i<n then x / 2 ^ i % 2 else x / 2 ^ (n-1) % 2
def sgk (x n:Nat):Nat→Nat
 |0=>0
 |i+1=>sgk x n i+sgb x n i*2 ^ i
theorem sgb_lt(x n i:Nat):sgb x n i<2:=by unfold sgb;split<;>omega
theorem sgk_lt(x n i:Nat):sgk x n i<2 ^ i:=by
 induction i with
 |zero=>simp[sgk]
 |succ i ih=>
  have hb:=sgb_lt x n i
  have:sgb x n i*2 ^ i≤1*2 ^ i:=Nat.mul_le_mul_right _ (by omega)
  rw[Nat.pow_succ];simp only[sgk];omega
theorem Z5V(x n i:Nat)(h:i≤n):sgk x n i=x % 2 ^ i:=by
 induction i with
 |zero=>simp[sgk,Nat.mod_one]
 |succ i ih=>
  simp only[sgk];rw[ih (by omega),Nat.mod_pow_succ]
  unfold sgb;rw[if_pos (by omega),Nat.mul_comm]
theorem Z3Y(x n i:Nat)(h:n≤i):sgk x n i=x % 2 ^ n+x / 2 ^ (n-1) % 2*(2 ^ i-2 ^ n):=by
 induction i with
 |zero=>
  have:n=0:=by omega
  subst this;simp[sgk,Nat.mod_one]
 |succ i ih=>
  by_cases he:n=i+1
  ·rw[he,Z5V _ _ _ (Nat.le_refl _)];simp
  ·simp only[sgk];rw[ih (by omega)]
   unfold sgb;rw[if_neg (by omega),Nat.add_assoc,←Nat.mul_add]
   have hle:2 ^ n≤2 ^ i:=Nat.pow_le_pow_right (by decide) (by omega)
   congr 2;rw[Nat.pow_succ];omega
theorem Z5W(x n:Nat)(h1:1≤n)(h2:n≤63):sgk x n 64=sgh (2 ^ (n-1)) x:=by
 obtain⟨p0,p1,p2,p3⟩:=X6 n h1 h2
 rw[Z3Y _ _ _ (by omega)]
 have ht:=KZ x n h1 h2
 unfold sgh
 rw[p2] at ht ⊢
 by_cases c:x % 2 ^ n<2 ^ (n-1)
 ·have:x / 2 ^ (n-1) % 2=0:=by omega
  rw[this,if_pos c];omega
 ·have:x / 2 ^ (n-1) % 2=1:=ht.2 c
  rw[this,if_neg c];omega
theorem Z1h(x n i:Nat)(h:i≤64):sgk x n i<18446744073709551616:=
 Nat.lt_of_lt_of_le (sgk_lt x n i) (Nat.pow_le_pow_right (by decide) h)
theorem Z35(x n:Int)(k:Nat)(h:(k:Int)<n)(hk:k<64):IntKind.u64.wrap (((sgk x.toNat n.toNat k:Nat):Int)+IntKind.u64.wrap (Bt x (k:Int)*Pw (k:Int)))=((sgk x.toNat n.toNat (k+1):Nat):Int):=by
 have hz:=Z1h x.toNat n.toNat (k+1) (by omega)
 have e:sgk x.toNat n.toNat (k+1)=sgk x.toNat n.toNat k+x.toNat / 2 ^ k % 2*2 ^ k:=by
  show _+sgb _ _ _*_=_;unfold sgb;rw[if_pos (by omega)]
 rw[btpw _ _ _ (by omega),Int.toNat_natCast,KB,e]
 rw[←e];exact hz
theorem Z23(x n:Int)(k:Nat)(n1:1≤n)(h:n≤(k:Int))(hk:k<64):IntKind.u64.wrap (((sgk x.toNat n.toNat k:Nat):Int)+IntKind.u64.wrap (Bt x (n-1)*Pw (k:Int)))=((sgk x.toNat n.toNat (k+1):Nat):Int):=by
 have hz:=Z1h x.toNat n.toNat (k+1) (by omega)
 have e:sgk x.toNat n.toNat (k+1)=sgk x.toNat n.toNat k+x.toNat / 2 ^ (n-1).toNat % 2*2 ^ k:=by
  show _+sgb _ _ _*_=_;unfold sgb;rw[if_neg (by omega),show(n-1).toNat=n.toNat-1 by omega]
 rw[btpw _ _ _ (by omega),Int.toNat_natCast,KB,e]
 rw[←e];exact hz
theorem Z36(x n:Int)(n1:1≤n)(n2:n≤63):((sgk x.toNat n.toNat 64:Nat):Int)=Sgn x n:=by
 rw[←YH x n n1 n2,Z5W _ _ (by omega) (by omega)]
def X7 (v n:Int):Bool:=if n<1 then false else if 63<n then true else decide (-((2 ^ (n.toNat-1):Nat):Int)≤v) && decide (v<((2 ^ (n.toNat-1):Nat):Int))
theorem Z3Z(v n:Int)(h:n<1):X7 v n=false:=if_pos h
theorem Z2w(v n:Int)(h:63<n):X7 v n=true:=by unfold X7;rw[if_neg (by omega),if_pos h]
theorem Z0x(v n:Int)(h1:1≤n)(h2:n≤63):X7 v n=(decide (-((2 ^ (n.toNat-1):Nat):Int)≤v) && decide (v<((2 ^ (n.toNat-1):Nat):Int))):=by
 unfold X7;rw[if_neg (by omega),if_neg (by omega)]
theorem Z5X(n:Int)(h1:1≤n)(h2:n≤63):0≤(2:Int) ^ (n.toNat-1)∧(2:Int) ^ (n.toNat-1)≤4611686018427387904:=by
 obtain⟨p0,p1,p2,p3⟩:=X6 n.toNat (by omega) (by omega)
 have e:(2:Int) ^ (n.toNat-1)=((2 ^ (n.toNat-1):Nat):Int):=by simp
 rw[e];omega
theorem sgn_lt(x n:Int)(h0:0≤x)(h1:x<18446744073709551616):0≤Sgn x n∧Sgn x n<18446744073709551616:=by
 by_cases h:n<1∨63<n
 ·rw[←Xu x n h];omega
 ·rw[←YH x n (by omega) (by omega)]
  obtain⟨p0,p1,p2,p3⟩:=X6 n.toNat (by omega) (by omega)
  have:=sgh_lt (2 ^ (n.toNat-1)) x.toNat p0 p1
  omega
theorem Z5Y(x v n:Int)(h0:0≤x)(h1:x<18446744073709551616)(hv:v=x∧x<9223372036854775808∨v=x-18446744073709551616∧9223372036854775808≤x)(n1:1≤n)(n2:n≤63):
  (Sgn x n==x)=X7 v n:=by
 obtain⟨p0,p1,p2,p3⟩:=X6 n.toNat (by omega) (by omega)
 have hf:=Z5T (2 ^ (n.toNat-1)) x.toNat _ p0 p1 p3 (by omega)
 rw[Z0x v n n1 n2,Bool.eq_iff_iff,beq_iff_eq,←YH x n n1 n2,Bool.and_eq_true,decide_eq_true_iff,decide_eq_true_iff]
 constructor
 ·intro h
  have:=hf.1 (by omega)
  omega
 ·intro h
  have:=hf.2 (by omega)
  omega
end Go.Proofs.YtgpdpaljbiclkaaGreatDoor
end
section
namespace Go.Proofs.YtgpdpaljbiclkaaGreatDoor
open Tryz
open Go.RowKit
set_option linter.unusedVariables false
theorem Zw{a b:Bool}(h:a=b):Ending.returned (.bool a)=.returned (.bool b):=by rw[h]
theorem Zr(x n:Int)(h0:0≤x)(h1:x<18446744073709551616)(w:World):
  Calls prog 88 #[.int .u64 x,.int .i64 n] w fun e w'=>e=.returned (.int .u64 (Sgn x n))∧w=w':=by
 by_cases h:n<1∨63<n
 ·have H:=Lib.hid (Xu x n h)
  by_cases c1:n<1
  ·clear h
   go_enter func88,ntmps88
   go_wp2
   go_ret
   exact⟨Zm H.out,rfl⟩
  have c2:63<n:=by omega
  clear h
  go_enter func88,ntmps88
  go_wp2
  go_ret
  exact⟨Zm H.out,rfl⟩
 ·have g1:1≤n:=by omega
  have g2:n≤63:=by omega
  clear h
  cases ht:(bits .and .u64 (x / 2 ^ (n.toNat-1)) 1==1)
  ·have H:=Lib.hid (Z3X x n h0 h1 g1 g2 ht)
   go_enter func88,ntmps88
   go_wp2
   go_ret
   exact⟨Zm H.out,rfl⟩
  ·have H:=Lib.hid (Z5U x n h0 h1 g1 g2 ht)
   go_enter func88,ntmps88
   go_wp2
   go_ret
   exact⟨Zm H.out,rfl⟩
theorem Zi(x n:Int)(h0:0≤x)(h1:x<18446744073709551616)(w:World):
  Calls prog 97 #[.int .u64 x,.int .i64 n] w fun e w'=>e=.returned (.int .u64 (Sgn x n))∧w=w':=by
 by_cases h:n<1∨63<n
 ·have H:=Lib.hid (Xu x n h)
  by_cases c1:n<1
  ·clear h
   go_enter func97,ntmps97
   go_wp2
   go_ret
   exact⟨Zm H.out,rfl⟩
  have c2:63<n:=by omega
  clear h
  go_enter func97,ntmps97
  go_wp2
  go_ret
  exact⟨Zm H.out,rfl⟩
 ·have g1:1≤n:=by omega
  have g2:n≤63:=by omega
  clear h
  go_enter func97,ntmps97
  go_wp2
  go_loop [5,6] (fun f i=>∃k:Nat,(k:Int)≤64∧f=.int .u64 ((sgk x.toNat n.toNat k:Nat):Int)∧i=.int .i64 k) (fun _ i=>64-(intOf i).toNat)
  case atStart=>exact⟨0,by decide,rfl,rfl⟩
  case round=>
   obtain⟨k,hk,rfl,rfl⟩:=hrel
   by_cases hlt:(k:Int)<64
   ·clear hk
    by_cases c:(k:Int)<n
    ·go_wp2_with (first|(go_at_call 103;refine(Y2 _ _ (by omega) (by omega) (by omega) (by omega) _).mono ?_;rintro e w'⟨rfl,rfl⟩)|(go_at_call 111;refine(KC _ (by omega) (by omega) _).mono ?_;rintro e w'⟨rfl,rfl⟩))
     go_round
     case rel=>exact⟨k+1,by omega,ZU (Z35 x n k c (by omega)),by go_num⟩
     case measure=>simp[intOf];omega
    ·go_wp2_with (first|(go_at_call 103;refine(Y2 _ _ (by omega) (by omega) (by omega) (by omega) _).mono ?_;rintro e w'⟨rfl,rfl⟩)|(go_at_call 111;refine(KC _ (by omega) (by omega) _).mono ?_;rintro e w'⟨rfl,rfl⟩))
     go_round
     case rel=>exact⟨k+1,by omega,ZU (Z23 x n k g1 (by omega) (by omega)),by go_num⟩
     case measure=>simp[intOf];omega
   ·have hkk:Hid (k=64):=Lib.hid (by omega)
    have hge:(64:Int)≤k:=by omega
    clear hk hlt
    go_wp2
    go_ret
    exact⟨Zm (by rw[hkk.out];exact Z36 x n g1 g2),rfl⟩
theorem XY(v n:Int)(h0: -9223372036854775808≤v)(h1:v<9223372036854775808)(w:World):
  Calls prog 113 #[.int .i64 v,.int .i64 n] w fun e w'=>e=.returned (.bool (X7 v n))∧w=w':=by
 by_cases c1:n<1
 ·have H:=Lib.hid (Z3Z v n c1)
  go_enter func113,ntmps113
  go_wp2
  go_ret
  exact⟨Zw H.out.symm,rfl⟩
 by_cases c2:63<n
 ·have H:=Lib.hid (Z2w v n c2)
  go_enter func113,ntmps113
  go_wp2
  go_ret
  exact⟨Zw H.out.symm,rfl⟩
 have g1:1≤n:=by omega
 have g2:n≤63:=by omega
 have H:=Lib.hid (Z0x v n g1 g2)
 clear c1 c2
 have hp:=Z5X n g1 g2
 have e:Hid ((2:Int) ^ (n.toNat-1)=((2 ^ (n.toNat-1):Nat):Int)):=by show _=_;simp
 by_cases c3: -(2:Int) ^ (n.toNat-1)≤v
 ·go_enter func113,ntmps113
  go_wp2
  go_ret
  exact⟨Zw (by rw[H.out,←e.out];simp[c3]),rfl⟩
 ·go_enter func113,ntmps113
  go_wp2
  go_ret
  exact⟨Zw (by rw[H.out,←e.out,decide_eq_false (by omega)];rfl),rfl⟩
def U (v:Int):Int:=IntKind.u64.wrap v
theorem Z5Z(v:Int)(h0: -9223372036854775808≤v)(h1:v<9223372036854775808):0≤U v∧U v<18446744073709551616∧(v=U v∧U v<9223372036854775808∨v=U v-18446744073709551616∧9223372036854775808≤U v):=by
 unfold U;rw[IntKind.wrap_u64];omega
theorem XA(v n:Int)(h0: -9223372036854775808≤v)(h1:v<9223372036854775808)(w:World):
  Calls prog 122 #[.int .i64 v,.int .i64 n] w fun e w'=>e=.returned (.bool (X7 v n))∧w=w':=by
 by_cases c1:n<1
 ·have H:=Lib.hid (Z3Z v n c1)
  go_enter func122,ntmps122
  go_wp2
  go_ret
  exact⟨Zw H.out.symm,rfl⟩
 by_cases c2:63<n
 ·have H:=Lib.hid (Z2w v n c2)
  go_enter func122,ntmps122
  go_wp2
  go_ret
  exact⟨Zw H.out.symm,rfl⟩
 have g1:1≤n:=by omega
 have g2:n≤63:=by omega
 obtain⟨u0,u1,uc⟩:=Z5Z v h0 h1
 have H:=Lib.hid (Z5Y (U v) v n u0 u1 uc g1 g2)
 clear c1 c2 uc
 go_enter func122,ntmps122
 go_wp2_with fail
 go_wp2_with (go_at_call 97;refine(Zi (U v) n u0 u1 _).mono ?_;rintro e w'⟨rfl,rfl⟩)
 go_ret
 exact⟨Zw H.out,rfl⟩
end Go.Proofs.YtgpdpaljbiclkaaGreatDoor
end
section
namespace Go.Proofs.YtgpdpaljbiclkaaGreatDoor
open Tryz
open Go.RowKit
set_option linter.unusedVariables false
def Nw (w w':World):Prop:=Below w.heap.size w w'∧Grown w w'
theorem Nw.refl(w:World):Nw w w:=⟨Below.refl _ _,Grown.refl _⟩
theorem Nw.trans{a b c:World}(h:Nw a b)(k:Nw b c):Nw a c:=
 ⟨h.1.trans (k.1.mono h.1.size),⟨World.keptBut_trans h.2.1 (World.keptBut_mono (fun _ f=>f.elim) k.2.1),fun x=>(k.2.2.1 x).trans (h.2.2.1 x),Nat.le_trans h.2.2.2 k.2.2.2⟩⟩
theorem Nw.alloc{a b:World}(h:Nw a b)(c:Array Value)(t:TypeId):Nw a (b.alloc (.cells c t)):=
 ⟨h.1.alloc h.1.size _,h.2.alloc c t⟩
theorem Nw.setCell{a b:World}(h:Nw a b){p:Addr}(hp:a.heap.size≤p.block)(u:Value):Nw a (b.setCell p u):=
 ⟨h.1.setCell hp u,h.2.setCell hp u⟩
theorem Nw.drew{a b:World}(h:Nw a b):Nw a b.drew:=⟨h.1.drew,h.2⟩
theorem Nw.drewN{a b:World}(h:Nw a b)(n:Nat):Nw a (b.drewN n):=⟨below_drewN h.1 n,h.2⟩
theorem Nw.size{a b:World}(h:Nw a b):a.heap.size≤b.heap.size:=h.1.size
theorem Nw.cells{a b:World}(h:Nw a b):∀k o,k<a.heap.size→b.cell? ⟨k,o,none⟩=a.cell? ⟨k,o,none⟩:=fun k o hk=>h.1.cell (p:=⟨k,o,none⟩) hk
end Go.Proofs.YtgpdpaljbiclkaaGreatDoor
end

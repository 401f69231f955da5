/-
  Proved here: what is stored, the code's answer and the reference's. Conditions: the numbers are words.
-/
import Derived.Test.YtgpdpaljbiclkaaGreatDoorSzz
import Derived.Test.YtgpdpaljbiclkaaGreatDoorSbe
set_option maxHeartbeats 1000000
set_option maxRecDepth 100000
namespace Go.Proofs.YtgpdpaljbiclkaaGreatDoor
open _root_.Go.Proofs.Tryz
open Go.RowKit
set_option linter.unusedVariables false
def ZW (c:Bool) (x y:Int):Int:=if c=true then x else y
def J5 (x y:Int):Int:=min x y
def J6 (x y:Int):Int:=max x y
theorem YV(c:Bool)(x y:Int)(p:InU x)(q:InU y):InU (ZW c x y):=by unfold ZW;split<;>assumption
theorem J7(x y:Int)(p:InU x)(q:InU y):InU (J5 x y):=by obtain⟨a,b⟩:=p;obtain⟨c,d⟩:=q;unfold J5 InU;omega
theorem J8(x y:Int)(p:InU x)(q:InU y):InU (J6 x y):=by obtain⟨a,b⟩:=p;obtain⟨c,d⟩:=q;unfold J6 InU;omega
theorem Z5d(a b n:Int)(w:World):Calls prog 145 #[Z1 a b n] w fun e w'=>e=.returned (.int .u64 (ZW (LtS a b) a b))∧Nb w w':=Z3g a b n w
theorem Z0m(a b n:Int)(w:World):Calls prog 146 #[Z1 a b n] w fun e w'=>e=.returned (.int .u64 (ZW (LtS a b) b a))∧Nb w w':=Z0L a b n w
theorem Z2R(a b n:Int)(w:World):Calls prog 147 #[Z1 a b n] w fun e w'=>e=.returned (.int .u64 (J5 a b))∧Nb w w':=Z29 a b n w
theorem Z1D(a b n:Int)(w:World):Calls prog 148 #[Z1 a b n] w fun e w'=>e=.returned (.int .u64 (J6 a b))∧Nb w w':=Z1v a b n w
def CgB (op old b:Int):Int:=
 if op=69 then IntKind.u64.wrap (old+b) else
 if op=70 then bits .xor .u64 old b else
 if op=71 then bits .and .u64 old b else
 if op=72 then bits .or .u64 old b else
 if op=73 then ZW (LtS (Sgn old 32) (Sgn b 32)) (Sgn old 32) (Sgn b 32) else
 if op=74 then ZW (LtS (Sgn old 32) (Sgn b 32)) (Sgn b 32) (Sgn old 32) else
 if op=75 then J5 (Fld old 0 32) (Fld b 0 32) else
 if op=76 then J6 (Fld old 0 32) (Fld b 0 32) else
 if op=80 then IntKind.u64.wrap (old+b) else
 if op=81 then bits .xor .u64 old b else
 if op=82 then bits .and .u64 old b else
 if op=83 then bits .or .u64 old b else
 if op=84 then ZW (LtS old b) old b else
 if op=85 then ZW (LtS old b) b old else
 if op=86 then J5 old b else
 if op=87 then J6 old b else
 b
def StB (op old b:Int):Int:=if Zq op=true then Fld (CgB op old b) 0 (8*Za op) else 0
theorem Z5e(op a b n:Int)(h:op≠69∧op≠70∧op≠71∧op≠72∧op≠73∧op≠74∧op≠75∧op≠76∧op≠80∧op≠81∧op≠82∧op≠83∧op≠84∧op≠85∧op≠86∧op≠87)(w:World):Calls prog 120 #[.int .i64 op,Z1 a b n] w fun e w'=>e=.returned .nilFunc∧Nb w w':=by
 have e69:(op==69)=false:=nB (by omega)
 have e70:(op==70)=false:=nB (by omega)
 have e71:(op==71)=false:=nB (by omega)
 have e72:(op==72)=false:=nB (by omega)
 have e73:(op==73)=false:=nB (by omega)
 have e74:(op==74)=false:=nB (by omega)
 have e75:(op==75)=false:=nB (by omega)
 have e76:(op==76)=false:=nB (by omega)
 have e80:(op==80)=false:=nB (by omega)
 have e81:(op==81)=false:=nB (by omega)
 have e82:(op==82)=false:=nB (by omega)
 have e83:(op==83)=false:=nB (by omega)
 have e84:(op==84)=false:=nB (by omega)
 have e85:(op==85)=false:=nB (by omega)
 have e86:(op==86)=false:=nB (by omega)
 have e87:(op==87)=false:=nB (by omega)
 clear h
 unfold Z1
 go_enter func120,ntmps120
 repeat (first|(with_reducible first|refine tE ?_|refine iS ?_|refine iO ?_)|go_values|go_skip|go_guarded|go_step|go_upon|go_back)
 go_ret
 exact⟨rfl,(Nb.refl _).alloc _⟩
theorem st_69(old b s:Int)(qo:InU old)(qb:InU b)(HL:Hid (∀w,Calls prog 49 #[.int .i64 69] w fun e w'=>e=.returned (.bool true)∧w=w'))(HS:Hid (∀w,Calls prog 52 #[.int .i64 69] w fun e w'=>e=.returned (.int .i64 s)∧w=w'))(s0:0≤s)(s1:s≤8)(w:World):
  Calls prog 89 #[.int .i64 69,.int .u64 old,.int .u64 b] w fun e w'=>e=.returned (.int .u64 (Fld (IntKind.u64.wrap (old+b)) 0 (8*s)))∧Nb w w':=by
 have HK:=Lib.hid (chg_69 old b qo.1 qo.2 qb.1 qb.2)
 have q0:InU old:=qo
 have q1:InU b:=qb
 have QV:InU (IntKind.u64.wrap (old+b)):=ZF _
 have hnf:=Zy
 unfold Z1 at HK
 go_enter func89,ntmps89
 repeat (first|(with_reducible first|refine tE ?_|refine iS ?_|refine iO ?_)|go_values|go_skip|go_guarded|go_step|go_upon|go_back|(refine(HL.out _).mono ?_;rintro e w'⟨rfl,rfl⟩;simp only[]))
 refine(HK.out _).mono ?_
 rintro e w2⟨rfl,hn2⟩
 go_wp2_with fail
 refine(Km _ _ _ _).mono ?_
 rintro e w3⟨rfl,hn3⟩
 go_wp2_with fail
 refine(HS.out _).mono ?_
 rintro e w'⟨rfl,rfl⟩
 go_wp2_with fail
 refine(ZE _ _ _ QV.1 QV.2 _).mono ?_
 rintro e w'⟨rfl,rfl⟩
 go_wp2_with fail
 go_ret
 exact⟨rfl,hn2.trans hn3⟩
theorem st_70(old b s:Int)(qo:InU old)(qb:InU b)(HL:Hid (∀w,Calls prog 49 #[.int .i64 70] w fun e w'=>e=.returned (.bool true)∧w=w'))(HS:Hid (∀w,Calls prog 52 #[.int .i64 70] w fun e w'=>e=.returned (.int .i64 s)∧w=w'))(s0:0≤s)(s1:s≤8)(w:World):
  Calls prog 89 #[.int .i64 70,.int .u64 old,.int .u64 b] w fun e w'=>e=.returned (.int .u64 (Fld (bits .xor .u64 old b) 0 (8*s)))∧Nb w w':=by
 have HK:=Lib.hid (chg_70 old b qo.1 qo.2 qb.1 qb.2)
 have q0:InU old:=qo
 have q1:InU b:=qb
 have QV:InU (bits .xor .u64 old b):=XN _ _ q0 q1
 have hnf:=Zy
 unfold Z1 at HK
 go_enter func89,ntmps89
 repeat (first|(with_reducible first|refine tE ?_|refine iS ?_|refine iO ?_)|go_values|go_skip|go_guarded|go_step|go_upon|go_back|(refine(HL.out _).mono ?_;rintro e w'⟨rfl,rfl⟩;simp only[]))
 refine(HK.out _).mono ?_
 rintro e w2⟨rfl,hn2⟩
 go_wp2_with fail
 refine(Js _ _ _ _).mono ?_
 rintro e w3⟨rfl,hn3⟩
 go_wp2_with fail
 refine(HS.out _).mono ?_
 rintro e w'⟨rfl,rfl⟩
 go_wp2_with fail
 refine(ZE _ _ _ QV.1 QV.2 _).mono ?_
 rintro e w'⟨rfl,rfl⟩
 go_wp2_with fail
 go_ret
 exact⟨rfl,hn2.trans hn3⟩
theorem st_71(old b s:Int)(qo:InU old)(qb:InU b)(HL:Hid (∀w,Calls prog 49 #[.int .i64 71] w fun e w'=>e=.returned (.bool true)∧w=w'))(HS:Hid (∀w,Calls prog 52 #[.int .i64 71] w fun e w'=>e=.returned (.int .i64 s)∧w=w'))(s0:0≤s)(s1:s≤8)(w:World):
  Calls prog 89 #[.int .i64 71,.int .u64 old,.int .u64 b] w fun e w'=>e=.returned (.int .u64 (Fld (bits .and .u64 old b) 0 (8*s)))∧Nb w w':=by
 have HK:=Lib.hid (chg_71 old b qo.1 qo.2 qb.1 qb.2)
 have q0:InU old:=qo
 have q1:InU b:=qb
 have QV:InU (bits .and .u64 old b):=XM _ _ q0 q1
 have hnf:=Zy
 unfold Z1 at HK
 go_enter func89,ntmps89
 repeat (first|(with_reducible first|refine tE ?_|refine iS ?_|refine iO ?_)|go_values|go_skip|go_guarded|go_step|go_upon|go_back|(refine(HL.out _).mono ?_;rintro e w'⟨rfl,rfl⟩;simp only[]))
 refine(HK.out _).mono ?_
 rintro e w2⟨rfl,hn2⟩
 go_wp2_with fail
 refine(Jt _ _ _ _).mono ?_
 rintro e w3⟨rfl,hn3⟩
 go_wp2_with fail
 refine(HS.out _).mono ?_
 rintro e w'⟨rfl,rfl⟩
 go_wp2_with fail
 refine(ZE _ _ _ QV.1 QV.2 _).mono ?_
 rintro e w'⟨rfl,rfl⟩
 go_wp2_with fail
 go_ret
 exact⟨rfl,hn2.trans hn3⟩
theorem st_72(old b s:Int)(qo:InU old)(qb:InU b)(HL:Hid (∀w,Calls prog 49 #[.int .i64 72] w fun e w'=>e=.returned (.bool true)∧w=w'))(HS:Hid (∀w,Calls prog 52 #[.int .i64 72] w fun e w'=>e=.returned (.int .i64 s)∧w=w'))(s0:0≤s)(s1:s≤8)(w:World):
  Calls prog 89 #[.int .i64 72,.int .u64 old,.int .u64 b] w fun e w'=>e=.returned (.int .u64 (Fld (bits .or .u64 old b) 0 (8*s)))∧Nb w w':=by
 have HK:=Lib.hid (chg_72 old b qo.1 qo.2 qb.1 qb.2)
 have q0:InU old:=qo
 have q1:InU b:=qb
 have QV:InU (bits .or .u64 old b):=KK _ _ q0 q1
 have hnf:=Zy
 unfold Z1 at HK
 go_enter func89,ntmps89
 repeat (first|(with_reducible first|refine tE ?_|refine iS ?_|refine iO ?_)|go_values|go_skip|go_guarded|go_step|go_upon|go_back|(refine(HL.out _).mono ?_;rintro e w'⟨rfl,rfl⟩;simp only[]))
 refine(HK.out _).mono ?_
 rintro e w2⟨rfl,hn2⟩
 go_wp2_with fail
 refine(Z0J _ _ _ _).mono ?_
 rintro e w3⟨rfl,hn3⟩
 go_wp2_with fail
 refine(HS.out _).mono ?_
 rintro e w'⟨rfl,rfl⟩
 go_wp2_with fail
 refine(ZE _ _ _ QV.1 QV.2 _).mono ?_
 rintro e w'⟨rfl,rfl⟩
 go_wp2_with fail
 go_ret
 exact⟨rfl,hn2.trans hn3⟩
theorem st_73(old b s:Int)(qo:InU old)(qb:InU b)(HL:Hid (∀w,Calls prog 49 #[.int .i64 73] w fun e w'=>e=.returned (.bool true)∧w=w'))(HS:Hid (∀w,Calls prog 52 #[.int .i64 73] w fun e w'=>e=.returned (.int .i64 s)∧w=w'))(s0:0≤s)(s1:s≤8)(w:World):
  Calls prog 89 #[.int .i64 73,.int .u64 old,.int .u64 b] w fun e w'=>e=.returned (.int .u64 (Fld (ZW (LtS (Sgn old 32) (Sgn b 32)) (Sgn old 32) (Sgn b 32)) 0 (8*s)))∧Nb w w':=by
 have HK:=Lib.hid (chg_73 old b qo.1 qo.2 qb.1 qb.2)
 have q0:InU (Sgn old 32):=Zn _ 32 qo
 have q1:InU (Sgn b 32):=Zn _ 32 qb
 have QV:InU (ZW (LtS (Sgn old 32) (Sgn b 32)) (Sgn old 32) (Sgn b 32)):=YV _ _ _ q0 q1
 have hnf:=Zy
 unfold Z1 at HK
 go_enter func89,ntmps89
 repeat (first|(with_reducible first|refine tE ?_|refine iS ?_|refine iO ?_)|go_values|go_skip|go_guarded|go_step|go_upon|go_back|(refine(HL.out _).mono ?_;rintro e w'⟨rfl,rfl⟩;simp only[]))
 refine(HK.out _).mono ?_
 rintro e w2⟨rfl,hn2⟩
 go_wp2_with fail
 refine(Z5d _ _ _ _).mono ?_
 rintro e w3⟨rfl,hn3⟩
 go_wp2_with fail
 refine(HS.out _).mono ?_
 rintro e w'⟨rfl,rfl⟩
 go_wp2_with fail
 refine(ZE _ _ _ QV.1 QV.2 _).mono ?_
 rintro e w'⟨rfl,rfl⟩
 go_wp2_with fail
 go_ret
 exact⟨rfl,hn2.trans hn3⟩
theorem st_74(old b s:Int)(qo:InU old)(qb:InU b)(HL:Hid (∀w,Calls prog 49 #[.int .i64 74] w fun e w'=>e=.returned (.bool true)∧w=w'))(HS:Hid (∀w,Calls prog 52 #[.int .i64 74] w fun e w'=>e=.returned (.int .i64 s)∧w=w'))(s0:0≤s)(s1:s≤8)(w:World):
  Calls prog 89 #[.int .i64 74,.int .u64 old,.int .u64 b] w fun e w'=>e=.returned (.int .u64 (Fld (ZW (LtS (Sgn old 32) (Sgn b 32)) (Sgn b 32) (Sgn old 32)) 0 (8*s)))∧Nb w w':=by
 have HK:=Lib.hid (chg_74 old b qo.1 qo.2 qb.1 qb.2)
 have q0:InU (Sgn old 32):=Zn _ 32 qo
 have q1:InU (Sgn b 32):=Zn _ 32 qb
 have QV:InU (ZW (LtS (Sgn old 32) (Sgn b 32)) (Sgn b 32) (Sgn old 32)):=YV _ _ _ q1 q0
 have hnf:=Zy
 unfold Z1 at HK
 go_enter func89,ntmps89
 repeat (first|(with_reducible first|refine tE ?_|refine iS ?_|refine iO ?_)|go_values|go_skip|go_guarded|go_step|go_upon|go_back|(refine(HL.out _).mono ?_;rintro e w'⟨rfl,rfl⟩;simp only[]))
 refine(HK.out _).mono ?_
 rintro e w2⟨rfl,hn2⟩
 go_wp2_with fail
 refine(Z0m _ _ _ _).mono ?_
 rintro e w3⟨rfl,hn3⟩
 go_wp2_with fail
 refine(HS.out _).mono ?_
 rintro e w'⟨rfl,rfl⟩
 go_wp2_with fail
 refine(ZE _ _ _ QV.1 QV.2 _).mono ?_
 rintro e w'⟨rfl,rfl⟩
 go_wp2_with fail
 go_ret
 exact⟨rfl,hn2.trans hn3⟩
theorem st_75(old b s:Int)(qo:InU old)(qb:InU b)(HL:Hid (∀w,Calls prog 49 #[.int .i64 75] w fun e w'=>e=.returned (.bool true)∧w=w'))(HS:Hid (∀w,Calls prog 52 #[.int .i64 75] w fun e w'=>e=.returned (.int .i64 s)∧w=w'))(s0:0≤s)(s1:s≤8)(w:World):
  Calls prog 89 #[.int .i64 75,.int .u64 old,.int .u64 b] w fun e w'=>e=.returned (.int .u64 (Fld (J5 (Fld old 0 32) (Fld b 0 32)) 0 (8*s)))∧Nb w w':=by
 have HK:=Lib.hid (chg_75 old b qo.1 qo.2 qb.1 qb.2)
 have q0:InU (Fld old 0 32):=ZL _ 0 32 qo
 have q1:InU (Fld b 0 32):=ZL _ 0 32 qb
 have QV:InU (J5 (Fld old 0 32) (Fld b 0 32)):=J7 _ _ q0 q1
 have hnf:=Zy
 unfold Z1 at HK
 go_enter func89,ntmps89
 repeat (first|(with_reducible first|refine tE ?_|refine iS ?_|refine iO ?_)|go_values|go_skip|go_guarded|go_step|go_upon|go_back|(refine(HL.out _).mono ?_;rintro e w'⟨rfl,rfl⟩;simp only[]))
 refine(HK.out _).mono ?_
 rintro e w2⟨rfl,hn2⟩
 go_wp2_with fail
 refine(Z2R _ _ _ _).mono ?_
 rintro e w3⟨rfl,hn3⟩
 go_wp2_with fail
 refine(HS.out _).mono ?_
 rintro e w'⟨rfl,rfl⟩
 go_wp2_with fail
 refine(ZE _ _ _ QV.1 QV.2 _).mono ?_
 rintro e w'⟨rfl,rfl⟩
 go_wp2_with fail
 go_ret
 exact⟨rfl,hn2.trans hn3⟩
theorem st_76(old b s:Int)(qo:InU old)(qb:InU b)(HL:Hid (∀w,Calls prog 49 #[.int .i64 76] w fun e w'=>e=.returned (.bool true)∧w=w'))(HS:Hid (∀w,Calls prog 52 #[.int .i64 76] w fun e w'=>e=.returned (.int .i64 s)∧w=w'))(s0:0≤s)(s1:s≤8)(w:World):
  Calls prog 89 #[.int .i64 76,.int .u64 old,.int .u64 b] w fun e w'=>e=.returned (.int .u64 (Fld (J6 (Fld old 0 32) (Fld b 0 32)) 0 (8*s)))∧Nb w w':=by
 have HK:=Lib.hid (chg_76 old b qo.1 qo.2 qb.1 qb.2)
 have q0:InU (Fld old 0 32):=ZL _ 0 32 qo
 have q1:InU (Fld b 0 32):=ZL _ 0 32 qb
 have QV:InU (J6 (Fld old 0 32) (Fld b 0 32)):=J8 _ _ q0 q1
 have hnf:=Zy
 unfold Z1 at HK
 go_enter func89,ntmps89
 repeat (first|(with_reducible first|refine tE ?_|refine iS ?_|refine iO ?_)|go_values|go_skip|go_guarded|go_step|go_upon|go_back|(refine(HL.out _).mono ?_;rintro e w'⟨rfl,rfl⟩;simp only[]))
 refine(HK.out _).mono ?_
 rintro e w2⟨rfl,hn2⟩
 go_wp2_with fail
 refine(Z1D _ _ _ _).mono ?_
 rintro e w3⟨rfl,hn3⟩
 go_wp2_with fail
 refine(HS.out _).mono ?_
 rintro e w'⟨rfl,rfl⟩
 go_wp2_with fail
 refine(ZE _ _ _ QV.1 QV.2 _).mono ?_
 rintro e w'⟨rfl,rfl⟩
 go_wp2_with fail
 go_ret
 exact⟨rfl,hn2.trans hn3⟩
theorem st_80(old b s:Int)(qo:InU old)(qb:InU b)(HL:Hid (∀w,Calls prog 49 #[.int .i64 80] w fun e w'=>e=.returned (.bool true)∧w=w'))(HS:Hid (∀w,Calls prog 52 #[.int .i64 80] w fun e w'=>e=.returned (.int .i64 s)∧w=w'))(s0:0≤s)(s1:s≤8)(w:World):
  Calls prog 89 #[.int .i64 80,.int .u64 old,.int .u64 b] w fun e w'=>e=.returned (.int .u64 (Fld (IntKind.u64.wrap (old+b)) 0 (8*s)))∧Nb w w':=by
 have HK:=Lib.hid (chg_80 old b qo.1 qo.2 qb.1 qb.2)
 have q0:InU old:=qo
 have q1:InU b:=qb
 have QV:InU (IntKind.u64.wrap (old+b)):=ZF _
 have hnf:=Zy
 unfold Z1 at HK
 go_enter func89,ntmps89
 repeat (first|(with_reducible first|refine tE ?_|refine iS ?_|refine iO ?_)|go_values|go_skip|go_guarded|go_step|go_upon|go_back|(refine(HL.out _).mono ?_;rintro e w'⟨rfl,rfl⟩;simp only[]))
 refine(HK.out _).mono ?_
 rintro e w2⟨rfl,hn2⟩
 go_wp2_with fail
 refine(Km _ _ _ _).mono ?_
 rintro e w3⟨rfl,hn3⟩
 go_wp2_with fail
 refine(HS.out _).mono ?_
 rintro e w'⟨rfl,rfl⟩
 go_wp2_with fail
 refine(ZE _ _ _ QV.1 QV.2 _).mono ?_
 rintro e w'⟨rfl,rfl⟩
 go_wp2_with fail
 go_ret
 exact⟨rfl,hn2.trans hn3⟩
theorem st_81(old b s:Int)(qo:InU old)(qb:InU b)(HL:Hid (∀w,Calls prog 49 #[.int .i64 81] w fun e w'=>e=.returned (.bool true)∧w=w'))(HS:Hid (∀w,Calls prog 52 #[.int .i64 81] w fun e w'=>e=.returned (.int .i64 s)∧w=w'))(s0:0≤s)(s1:s≤8)(w:World):
  Calls prog 89 #[.int .i64 81,.int .u64 old,.int .u64 b] w fun e w'=>e=.returned (.int .u64 (Fld (bits .xor .u64 old b) 0 (8*s)))∧Nb w w':=by
 have HK:=Lib.hid (chg_81 old b qo.1 qo.2 qb.1 qb.2)
 have q0:InU old:=qo
 have q1:InU b:=qb
 have QV:InU (bits .xor .u64 old b):=XN _ _ q0 q1
 have hnf:=Zy
 unfold Z1 at HK
 go_enter func89,ntmps89
 repeat (first|(with_reducible first|refine tE ?_|refine iS ?_|refine iO ?_)|go_values|go_skip|go_guarded|go_step|go_upon|go_back|(refine(HL.out _).mono ?_;rintro e w'⟨rfl,rfl⟩;simp only[]))
 refine(HK.out _).mono ?_
 rintro e w2⟨rfl,hn2⟩
 go_wp2_with fail
 refine(Js _ _ _ _).mono ?_
 rintro e w3⟨rfl,hn3⟩
 go_wp2_with fail
 refine(HS.out _).mono ?_
 rintro e w'⟨rfl,rfl⟩
 go_wp2_with fail
 refine(ZE _ _ _ QV.1 QV.2 _).mono ?_
 rintro e w'⟨rfl,rfl⟩
 go_wp2_with fail
 go_ret
 exact⟨rfl,hn2.trans hn3⟩
theorem st_82(old b s:Int)(qo:InU old)(qb:InU b)(HL:Hid (∀w,Calls prog 49 #[.int .i64 82] w fun e w'=>e=.returned (.bool true)∧w=w'))(HS:Hid (∀w,Calls prog 52 #[.int .i64 82] w fun e w'=>e=.returned (.int .i64 s)∧w=w'))(s0:0≤s)(s1:s≤8)(w:World):
  Calls prog 89 #[.int .i64 82,.int .u64 old,.int .u64 b] w fun e w'=>e=.returned (.int .u64 (Fld (bits .and .u64 old b) 0 (8*s)))∧Nb w w':=by
 have HK:=Lib.hid (chg_82 old b qo.1 qo.2 qb.1 qb.2)
 have q0:InU old:=qo
 have q1:InU b:=qb
 have QV:InU (bits .and .u64 old b):=XM _ _ q0 q1
 have hnf:=Zy
 unfold Z1 at HK
 go_enter func89,ntmps89
 repeat (first|(with_reducible first|refine tE ?_|refine iS ?_|refine iO ?_)|go_values|go_skip|go_guarded|go_step|go_upon|go_back|(refine(HL.out _).mono ?_;rintro e w'⟨rfl,rfl⟩;simp only[]))
 refine(HK.out _).mono ?_
 rintro e w2⟨rfl,hn2⟩
 go_wp2_with fail
 refine(Jt _ _ _ _).mono ?_
 rintro e w3⟨rfl,hn3⟩
 go_wp2_with fail
 refine(HS.out _).mono ?_
 rintro e w'⟨rfl,rfl⟩
 go_wp2_with fail
 refine(ZE _ _ _ QV.1 QV.2 _).mono ?_
 rintro e w'⟨rfl,rfl⟩
 go_wp2_with fail
 go_ret
 exact⟨rfl,hn2.trans hn3⟩
theorem st_83(old b s:Int)(qo:InU old)(qb:InU b)(HL:Hid (∀w,Calls prog 49 #[.int .i64 83] w fun e w'=>e=.returned (.bool true)∧w=w'))(HS:Hid (∀w,Calls prog 52 #[.int .i64 83] w fun e w'=>e=.returned (.int .i64 s)∧w=w'))(s0:0≤s)(s1:s≤8)(w:World):
  Calls prog 89 #[.int .i64 83,.int .u64 old,.int .u64 b] w fun e w'=>e=.returned (.int .u64 (Fld (bits .or .u64 old b) 0 (8*s)))∧Nb w w':=by
 have HK:=Lib.hid (chg_83 old b qo.1 qo.2 qb.1 qb.2)
 have q0:InU old:=qo
 have q1:InU b:=qb
 have QV:InU (bits .or .u64 old b):=KK _ _ q0 q1
 have hnf:=Zy
 unfold Z1 at HK
 go_enter func89,ntmps89
 repeat (first|(with_reducible first|refine tE ?_|refine iS ?_|refine iO ?_)|go_values|go_skip|go_guarded|go_step|go_upon|go_back|(refine(HL.out _).mono ?_;rintro e w'⟨rfl,rfl⟩;simp only[]))
 refine(HK.out _).mono ?_
 rintro e w2⟨rfl,hn2⟩
 go_wp2_with fail
 refine(Z0J _ _ _ _).mono ?_
 rintro e w3⟨rfl,hn3⟩
 go_wp2_with fail
 refine(HS.out _).mono ?_
 rintro e w'⟨rfl,rfl⟩
 go_wp2_with fail
 refine(ZE _ _ _ QV.1 QV.2 _).mono ?_
 rintro e w'⟨rfl,rfl⟩
 go_wp2_with fail
 go_ret
 exact⟨rfl,hn2.trans hn3⟩
theorem st_84(old b s:Int)(qo:InU old)(qb:InU b)(HL:Hid (∀w,Calls prog 49 #[.int .i64 84] w fun e w'=>e=.returned (.bool true)∧w=w'))(HS:Hid (∀w,Calls prog 52 #[.int .i64 84] w fun e w'=>e=.returned (.int .i64 s)∧w=w'))(s0:0≤s)(s1:s≤8)(w:World):
  Calls prog 89 #[.int .i64 84,.int .u64 old,.int .u64 b] w fun e w'=>e=.returned (.int .u64 (Fld (ZW (LtS old b) old b) 0 (8*s)))∧Nb w w':=by
 have HK:=Lib.hid (chg_84 old b qo.1 qo.2 qb.1 qb.2)
 have q0:InU old:=qo
 have q1:InU b:=qb
 have QV:InU (ZW (LtS old b) old b):=YV _ _ _ q0 q1
 have hnf:=Zy
 unfold Z1 at HK
 go_enter func89,ntmps89
 repeat (first|(with_reducible first|refine tE ?_|refine iS ?_|refine iO ?_)|go_values|go_skip|go_guarded|go_step|go_upon|go_back|(refine(HL.out _).mono ?_;rintro e w'⟨rfl,rfl⟩;simp only[]))
 refine(HK.out _).mono ?_
 rintro e w2⟨rfl,hn2⟩
 go_wp2_with fail
 refine(Z5d _ _ _ _).mono ?_
 rintro e w3⟨rfl,hn3⟩
 go_wp2_with fail
 refine(HS.out _).mono ?_
 rintro e w'⟨rfl,rfl⟩
 go_wp2_with fail
 refine(ZE _ _ _ QV.1 QV.2 _).mono ?_
 rintro e w'⟨rfl,rfl⟩
 go_wp2_with fail
 go_ret
 exact⟨rfl,hn2.trans hn3⟩
theorem st_85(old b s:Int)(qo:InU old)(qb:InU b)(HL:Hid (∀w,Calls prog 49 #[.int .i64 85] w fun e w'=>e=.returned (.bool true)∧w=w'))(HS:Hid (∀w,Calls prog 52 #[.int .i64 85] w fun e w'=>e=.returned (.int .i64 s)∧w=w'))(s0:0≤s)(s1:s≤8)(w:World):
  Calls prog 89 #[.int .i64 85,.int .u64 old,.int .u64 b] w fun e w'=>e=.returned (.int .u64 (Fld (ZW (LtS old b) b old) 0 (8*s)))∧Nb w w':=by
 have HK:=Lib.hid (chg_85 old b qo.1 qo.2 qb.1 qb.2)
 have q0:InU old:=qo
 have q1:InU b:=qb
 have QV:InU (ZW (LtS old b) b old):=YV _ _ _ q1 q0
 have hnf:=Zy
 unfold Z1 at HK
 go_enter func89,ntmps89
 repeat (first|(with_reducible first|refine tE ?_|refine iS ?_|refine iO ?_)|go_values|go_skip|go_guarded|go_step|go_upon|go_back|(refine(HL.out _).mono ?_;rintro e w'⟨rfl,rfl⟩;simp only[]))
 refine(HK.out _).mono ?_
 rintro e w2⟨rfl,hn2⟩
 go_wp2_with fail
 refine(Z0m _ _ _ _).mono ?_
 rintro e w3⟨rfl,hn3⟩
 go_wp2_with fail
 refine(HS.out _).mono ?_
 rintro e w'⟨rfl,rfl⟩
 go_wp2_with fail
 refine(ZE _ _ _ QV.1 QV.2 _).mono ?_
 rintro e w'⟨rfl,rfl⟩
 go_wp2_with fail
 go_ret
 exact⟨rfl,hn2.trans hn3⟩
theorem st_86(old b s:Int)(qo:InU old)(qb:InU b)(HL:Hid (∀w,Calls prog 49 #[.int .i64 86] w fun e w'=>e=.returned (.bool true)∧w=w'))(HS:Hid (∀w,Calls prog 52 #[.int .i64 86] w fun e w'=>e=.returned (.int .i64 s)∧w=w'))(s0:0≤s)(s1:s≤8)(w:World):
  Calls prog 89 #[.int .i64 86,.int .u64 old,.int .u64 b] w fun e w'=>e=.returned (.int .u64 (Fld (J5 old b) 0 (8*s)))∧Nb w w':=by
 have HK:=Lib.hid (chg_86 old b qo.1 qo.2 qb.1 qb.2)
 have q0:InU old:=qo
 have q1:InU b:=qb
 have QV:InU (J5 old b):=J7 _ _ q0 q1
 have hnf:=Zy
 unfold Z1 at HK
 go_enter func89,ntmps89
 repeat (first|(with_reducible first|refine tE ?_|refine iS ?_|refine iO ?_)|go_values|go_skip|go_guarded|go_step|go_upon|go_back|(refine(HL.out _).mono ?_;rintro e w'⟨rfl,rfl⟩;simp only[]))
 refine(HK.out _).mono ?_
 rintro e w2⟨rfl,hn2⟩
 go_wp2_with fail
 refine(Z2R _ _ _ _).mono ?_
 rintro e w3⟨rfl,hn3⟩
 go_wp2_with fail
 refine(HS.out _).mono ?_
 rintro e w'⟨rfl,rfl⟩
 go_wp2_with fail
 refine(ZE _ _ _ QV.1 QV.2 _).mono ?_
 rintro e w'⟨rfl,rfl⟩
 go_wp2_with fail
 go_ret
 exact⟨rfl,hn2.trans hn3⟩
theorem st_87(old b s:Int)(qo:InU old)(qb:InU b)(HL:Hid (∀w,Calls prog 49 #[.int .i64 87] w fun e w'=>e=.returned (.bool true)∧w=w'))(HS:Hid (∀w,Calls prog 52 #[.int .i64 87] w fun e w'=>e=.returned (.int .i64 s)∧w=w'))(s0:0≤s)(s1:s≤8)(w:World):
  Calls prog 89 #[.int .i64 87,.int .u64 old,.int .u64 b] w fun e w'=>e=.returned (.int .u64 (Fld (J6 old b) 0 (8*s)))∧Nb w w':=by
 have HK:=Lib.hid (chg_87 old b qo.1 qo.2 qb.1 qb.2)
 have q0:InU old:=qo
 have q1:InU b:=qb
 have QV:InU (J6 old b):=J8 _ _ q0 q1
 have hnf:=Zy
 unfold Z1 at HK
 go_enter func89,ntmps89
 repeat (first|(with_reducible first|refine tE ?_|refine iS ?_|refine iO ?_)|go_values|go_skip|go_guarded|go_step|go_upon|go_back|(refine(HL.out _).mono ?_;rintro e w'⟨rfl,rfl⟩;simp only[]))
 refine(HK.out _).mono ?_
 rintro e w2⟨rfl,hn2⟩
 go_wp2_with fail
 refine(Z1D _ _ _ _).mono ?_
 rintro e w3⟨rfl,hn3⟩
 go_wp2_with fail
 refine(HS.out _).mono ?_
 rintro e w'⟨rfl,rfl⟩
 go_wp2_with fail
 refine(ZE _ _ _ QV.1 QV.2 _).mono ?_
 rintro e w'⟨rfl,rfl⟩
 go_wp2_with fail
 go_ret
 exact⟨rfl,hn2.trans hn3⟩
theorem st_o(op old b s:Int)(qo:InU old)(qb:InU b)(HL:Hid (∀w,Calls prog 49 #[.int .i64 op] w fun e w'=>e=.returned (.bool true)∧w=w'))(HS:Hid (∀w,Calls prog 52 #[.int .i64 op] w fun e w'=>e=.returned (.int .i64 s)∧w=w'))(s0:0≤s)(s1:s≤8)(h:op≠69∧op≠70∧op≠71∧op≠72∧op≠73∧op≠74∧op≠75∧op≠76∧op≠80∧op≠81∧op≠82∧op≠83∧op≠84∧op≠85∧op≠86∧op≠87)(w:World):
  Calls prog 89 #[.int .i64 op,.int .u64 old,.int .u64 b] w fun e w'=>e=.returned (.int .u64 (Fld b 0 (8*s)))∧Nb w w':=by
 have HK:=Lib.hid (Z5e op old b 64 h)
 clear h
 have hnn:=ZK
 unfold Z1 at HK
 go_enter func89,ntmps89
 repeat (first|(with_reducible first|refine tE ?_|refine iS ?_|refine iO ?_)|go_values|go_skip|go_guarded|go_step|go_upon|go_back|(refine(HL.out _).mono ?_;rintro e w'⟨rfl,rfl⟩;simp only[]))
 refine(HK.out _).mono ?_
 rintro e w2⟨rfl,hn2⟩
 go_wp2_with fail
 refine(HS.out _).mono ?_
 rintro e w'⟨rfl,rfl⟩
 go_wp2_with fail
 refine(ZE _ _ _ qb.1 qb.2 _).mono ?_
 rintro e w'⟨rfl,rfl⟩
 go_wp2_with fail
 go_ret
 exact⟨rfl,hn2⟩
theorem st_no(op old b:Int)(qo:InU old)(qb:InU b)(HL:Hid (∀w,Calls prog 49 #[.int .i64 op] w fun e w'=>e=.returned (.bool false)∧w=w'))(w:World):
  Calls prog 89 #[.int .i64 op,.int .u64 old,.int .u64 b] w fun e w'=>e=.returned (.int .u64 (0))∧Nb w w':=by
 go_enter func89,ntmps89
 repeat (first|(with_reducible first|refine tE ?_|refine iS ?_|refine iO ?_)|go_values|go_skip|go_guarded|go_step|go_upon|go_back|(refine(HL.out _).mono ?_;rintro e w'⟨rfl,rfl⟩;simp only[]))
 go_ret
 exact⟨rfl,Nb.refl _⟩
theorem cg_69(old b:Int):CgB 69 old b=IntKind.u64.wrap (old+b):=by simp only[CgB,↓reduceIte]
theorem cg_70(old b:Int):CgB 70 old b=bits .xor .u64 old b:=by simp only[CgB,Int.reduceEq,↓reduceIte]
theorem cg_71(old b:Int):CgB 71 old b=bits .and .u64 old b:=by simp only[CgB,Int.reduceEq,↓reduceIte]
theorem cg_72(old b:Int):CgB 72 old b=bits .or .u64 old b:=by simp only[CgB,Int.reduceEq,↓reduceIte]
theorem cg_73(old b:Int):CgB 73 old b=ZW (LtS (Sgn old 32) (Sgn b 32)) (Sgn old 32) (Sgn b 32):=by simp only[CgB,Int.reduceEq,↓reduceIte]
theorem cg_74(old b:Int):CgB 74 old b=ZW (LtS (Sgn old 32) (Sgn b 32)) (Sgn b 32) (Sgn old 32):=by simp only[CgB,Int.reduceEq,↓reduceIte]
theorem cg_75(old b:Int):CgB 75 old b=J5 (Fld old 0 32) (Fld b 0 32):=by simp only[CgB,Int.reduceEq,↓reduceIte]
theorem cg_76(old b:Int):CgB 76 old b=J6 (Fld old 0 32) (Fld b 0 32):=by simp only[CgB,Int.reduceEq,↓reduceIte]
theorem cg_80(old b:Int):CgB 80 old b=IntKind.u64.wrap (old+b):=by simp only[CgB,Int.reduceEq,↓reduceIte]
theorem cg_81(old b:Int):CgB 81 old b=bits .xor .u64 old b:=by simp only[CgB,Int.reduceEq,↓reduceIte]
theorem cg_82(old b:Int):CgB 82 old b=bits .and .u64 old b:=by simp only[CgB,Int.reduceEq,↓reduceIte]
theorem cg_83(old b:Int):CgB 83 old b=bits .or .u64 old b:=by simp only[CgB,Int.reduceEq,↓reduceIte]
theorem cg_84(old b:Int):CgB 84 old b=ZW (LtS old b) old b:=by simp only[CgB,Int.reduceEq,↓reduceIte]
theorem cg_85(old b:Int):CgB 85 old b=ZW (LtS old b) b old:=by simp only[CgB,Int.reduceEq,↓reduceIte]
theorem cg_86(old b:Int):CgB 86 old b=J5 old b:=by simp only[CgB,Int.reduceEq,↓reduceIte]
theorem cg_87(old b:Int):CgB 87 old b=J6 old b:=by simp only[CgB,Int.reduceEq,↓reduceIte]
theorem Z5f(op old b:Int)(qo:InU old)(qb:InU b)(w:World):Calls prog 89 #[.int .i64 op,.int .u64 old,.int .u64 b] w fun e w'=>e=.returned (.int .u64 (StB op old b))∧Nb w w':=by
 have HL:=fun w=>Y4 op w
 have HS:=fun w=>Yo op w
 obtain⟨s0,s1⟩:=Xp op
 unfold StB
 cases hl:Zq op<;>rw[hl] at HL
 ·exact st_no op old b qo qb (Lib.hid HL) w
 rw[if_pos rfl]
 by_cases h:op=69∨op=70∨op=71∨op=72∨op=73∨op=74∨op=75∨op=76∨op=80∨op=81∨op=82∨op=83∨op=84∨op=85∨op=86∨op=87
 ·rcases h with rfl|rfl|rfl|rfl|rfl|rfl|rfl|rfl|rfl|rfl|rfl|rfl|rfl|rfl|rfl|rfl
  ·rw[cg_69];exact st_69 old b _ qo qb (Lib.hid HL) (Lib.hid HS) s0 s1 w
  ·rw[cg_70];exact st_70 old b _ qo qb (Lib.hid HL) (Lib.hid HS) s0 s1 w
  ·rw[cg_71];exact st_71 old b _ qo qb (Lib.hid HL) (Lib.hid HS) s0 s1 w
  ·rw[cg_72];exact st_72 old b _ qo qb (Lib.hid HL) (Lib.hid HS) s0 s1 w
  ·rw[cg_73];exact st_73 old b _ qo qb (Lib.hid HL) (Lib.hid HS) s0 s1 w
  ·rw[cg_74];exact st_74 old b _ qo qb (Lib.hid HL) (Lib.hid HS) s0 s1 w
  ·rw[cg_75];exact st_75 old b _ qo qb (Lib.hid HL) (Lib.hid HS) s0 s1 w
  ·rw[cg_76];exact st_76 old b _ qo qb (Lib.hid HL) (Lib.hid HS) s0 s1 w
  ·rw[cg_80];exact st_80 old b _ qo qb (Lib.hid HL) (Lib.hid HS) s0 s1 w
  ·rw[cg_81];exact st_81 old b _ qo qb (Lib.hid HL) (Lib.hid HS) s0 s1 w
  ·rw[cg_82];exact st_82 old b _ qo qb (Lib.hid HL) (Lib.hid HS) s0 s1 w
  ·rw[cg_83];exact st_83 old b _ qo qb (Lib.hid HL) (Lib.hid HS) s0 s1 w
  ·rw[cg_84];exact st_84 old b _ qo qb (Lib.hid HL) (Lib.hid HS) s0 s1 w
  ·rw[cg_85];exact st_85 old b _ qo qb (Lib.hid HL) (Lib.hid HS) s0 s1 w
  ·rw[cg_86];exact st_86 old b _ qo qb (Lib.hid HL) (Lib.hid HS) s0 s1 w
  ·rw[cg_87];exact st_87 old b _ qo qb (Lib.hid HL) (Lib.hid HS) s0 s1 w
 ·have e:CgB op old b=b:=by unfold CgB;repeat rw[if_neg (by omega)]
  rw[e]
  exact st_o op old b _ qo qb (Lib.hid HL) (Lib.hid HS) s0 s1 (by omega) w
theorem YN(b:Int)(q:InU b):Fld b 0 64=b:=by
 rw[Z1x b 64 q.1 (by decide) (by decide),show(((2 ^ (64:Int).toNat:Nat)):Int)=18446744073709551616 from by decide]
 have:=q.1;have:=q.2;omega
end Go.Proofs.YtgpdpaljbiclkaaGreatDoor

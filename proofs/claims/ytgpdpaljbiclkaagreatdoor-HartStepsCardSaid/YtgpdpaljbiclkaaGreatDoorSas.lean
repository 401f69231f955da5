/-
  Proved here: what the code's table of operations hands out, and which operations have nothing there. Conditions: the numbers are words.
-/
import Derived.Test.YtgpdpaljbiclkaaGreatDoorSzz
import Derived.Test.YtgpdpaljbiclkaaGreatDoorSar
set_option maxHeartbeats 1000000
set_option maxRecDepth 100000
namespace Go.Proofs.YtgpdpaljbiclkaaGreatDoor
open _root_.Go.Proofs.Tryz
open Go.RowKit
set_option linter.unusedVariables false
theorem JQ(w:World)(d:Nat)(fn:Fn)(f c:Array Value):(Op.equalIn (d+1) 90 (.func fn f c) .nilFunc).run prog w=.ok false w:=by
 unfold Op.equalIn
 simp[go_sem]
theorem JR(w:World)(d:Nat):(Op.equalIn (d+1) 90 .nilFunc .nilFunc).run prog w=.ok true w:=by
 unfold Op.equalIn
 simp[go_sem]
theorem Zy(w:World)(fn:Fn)(f c:Array Value):(binOp .neq 90 (.func fn f c) .nilFunc).run prog w=.ok (.bool true) w:=by
 simp only[binOp]
 simp[Op.equal,Op.maxDepth,JQ w 9999 fn f c]
theorem ZN(w:World)(fn:Fn)(f c:Array Value):(binOp .eql 90 (.func fn f c) .nilFunc).run prog w=.ok (.bool false) w:=by
 simp only[binOp]
 simp[Op.equal,Op.maxDepth,JQ w 9999 fn f c]
theorem ZK(w:World):(binOp .neq 90 .nilFunc .nilFunc).run prog w=.ok (.bool false) w:=by
 simp only[binOp]
 simp[Op.equal,Op.maxDepth,JR w 9999]
theorem eql_nn(w:World):(binOp .eql 90 .nilFunc .nilFunc).run prog w=.ok (.bool true) w:=by
 simp only[binOp]
 simp[Op.equal,Op.maxDepth,JR w 9999]
def Y6 (op:Int):Bool:=decide ((22≤op∧op≤30)∨(41≤op∧op≤44))
def Sar (x y n:Int):Int:=IntKind.u64.wrap (IntKind.i64.wrap x / 2 ^ (y % n).toNat)
def Xv (c:Bool):Int:=if c=true then 1 else 0
theorem Zn(x n:Int)(h:InU x):InU (Sgn x n):=sgn_lt x n h.1 h.2
theorem ZL(x l n:Int)(h:InU x):InU (Fld x l n):=Z0c x l n h.1 h.2
def WB (op a c:Int):Int:=
 if op=45 then Sgn (IntKind.u64.wrap ((Sgn a 32)+(Sgn c 32))) 32 else
 if op=41 then Sgn (IntKind.u64.wrap ((Sgn a 32)+(Sgn c 32))) 32 else
 if op=31 then IntKind.u64.wrap (a+c) else
 if op=22 then IntKind.u64.wrap (a+c) else
 if op=46 then Sgn (IntKind.u64.wrap ((Sgn a 32)-(Sgn c 32))) 32 else
 if op=32 then IntKind.u64.wrap (a-c) else
 if op=47 then Sgn (IntKind.u64.wrap ((Fld a 0 32)*2 ^ ((Fld c 0 32) % 32).toNat)) 32 else
 if op=42 then Sgn (IntKind.u64.wrap ((Fld a 0 32)*2 ^ ((Fld c 0 32) % 32).toNat)) 32 else
 if op=33 then IntKind.u64.wrap (a*2 ^ (c % 64).toNat) else
 if op=28 then IntKind.u64.wrap (a*2 ^ (c % 64).toNat) else
 if op=48 then Sgn ((Fld a 0 32) / 2 ^ ((Fld c 0 32) % 32).toNat) 32 else
 if op=43 then Sgn ((Fld a 0 32) / 2 ^ ((Fld c 0 32) % 32).toNat) 32 else
 if op=37 then a / 2 ^ (c % 64).toNat else
 if op=29 then a / 2 ^ (c % 64).toNat else
 if op=49 then Sgn (Sar (Sgn a 32) (Sgn c 32) 32) 32 else
 if op=44 then Sgn (Sar (Sgn a 32) (Sgn c 32) 32) 32 else
 if op=38 then Sar a c 64 else
 if op=30 then Sar a c 64 else
 if op=34 then Xv (LtS a c) else
 if op=23 then Xv (LtS a c) else
 if op=35 then Xv (LtU a c) else
 if op=24 then Xv (LtU a c) else
 if op=36 then bits .xor .u64 a c else
 if op=25 then bits .xor .u64 a c else
 if op=39 then bits .or .u64 a c else
 if op=26 then bits .or .u64 a c else
 if op=40 then bits .and .u64 a c else
 if op=27 then bits .and .u64 a c else
 if op=61 then Sgn (IntKind.u64.wrap ((Sgn a 32)*(Sgn c 32))) 32 else
 if op=53 then IntKind.u64.wrap (a*c) else
 if op=54 then Hgh a c true true else
 if op=55 then Hgh a c true false else
 if op=56 then Hgh a c false false else
 if op=62 then Sgn (_root_.Go.Proofs.YtgpdpaljbiclkaaGreatDoor.Quo (Sgn a 32) (Sgn c 32) true) 32 else
 if op=57 then _root_.Go.Proofs.YtgpdpaljbiclkaaGreatDoor.Quo a c true else
 if op=63 then Sgn (_root_.Go.Proofs.YtgpdpaljbiclkaaGreatDoor.Quo (Fld a 0 32) (Fld c 0 32) false) 32 else
 if op=58 then _root_.Go.Proofs.YtgpdpaljbiclkaaGreatDoor.Quo a c false else
 if op=64 then Sgn (_root_.Go.Proofs.YtgpdpaljbiclkaaGreatDoor.Rem (Sgn a 32) (Sgn c 32) true) 32 else
 if op=59 then _root_.Go.Proofs.YtgpdpaljbiclkaaGreatDoor.Rem a c true else
 if op=65 then Sgn (_root_.Go.Proofs.YtgpdpaljbiclkaaGreatDoor.Rem (Fld a 0 32) (Fld c 0 32) false) 32 else
 if op=60 then _root_.Go.Proofs.YtgpdpaljbiclkaaGreatDoor.Rem a c false else
 0
def VB (op im pc a b:Int):Int:=if op=1 then IntKind.u64.wrap im else if op=2 then IntKind.u64.wrap (pc+IntKind.u64.wrap im) else if op=3∨op=4 then IntKind.u64.wrap (pc+4) else WB op a (if Y6 op=true then IntKind.u64.wrap im else b)
def Ks (op:Int):Bool:=decide ((1≤op∧op≤4)∨(22≤op∧op≤49)∨(53≤op∧op≤65))
theorem Yc(op a b n:Int)(h:op≠45∧op≠41∧op≠31∧op≠22∧op≠46∧op≠32∧op≠47∧op≠42∧op≠33∧op≠28∧op≠48∧op≠43∧op≠37∧op≠29∧op≠49∧op≠44∧op≠38∧op≠30∧op≠34∧op≠23∧op≠35∧op≠24∧op≠36∧op≠25∧op≠39∧op≠26∧op≠40∧op≠27)(w:World):Calls prog 118 #[.int .i64 op,Z1 a b n] w fun e w'=>e=.returned (.tuple #[.nilFunc,.int .i64 0])∧Nb w w':=by
 have e45:(op==45)=false:=nB (by omega)
 have e41:(op==41)=false:=nB (by omega)
 have e31:(op==31)=false:=nB (by omega)
 have e22:(op==22)=false:=nB (by omega)
 have e46:(op==46)=false:=nB (by omega)
 have e32:(op==32)=false:=nB (by omega)
 have e47:(op==47)=false:=nB (by omega)
 have e42:(op==42)=false:=nB (by omega)
 have e33:(op==33)=false:=nB (by omega)
 have e28:(op==28)=false:=nB (by omega)
 have e48:(op==48)=false:=nB (by omega)
 have e43:(op==43)=false:=nB (by omega)
 have e37:(op==37)=false:=nB (by omega)
 have e29:(op==29)=false:=nB (by omega)
 have e49:(op==49)=false:=nB (by omega)
 have e44:(op==44)=false:=nB (by omega)
 have e38:(op==38)=false:=nB (by omega)
 have e30:(op==30)=false:=nB (by omega)
 have e34:(op==34)=false:=nB (by omega)
 have e23:(op==23)=false:=nB (by omega)
 have e35:(op==35)=false:=nB (by omega)
 have e24:(op==24)=false:=nB (by omega)
 have e36:(op==36)=false:=nB (by omega)
 have e25:(op==25)=false:=nB (by omega)
 have e39:(op==39)=false:=nB (by omega)
 have e26:(op==26)=false:=nB (by omega)
 have e40:(op==40)=false:=nB (by omega)
 have e27:(op==27)=false:=nB (by omega)
 clear h
 unfold Z1
 go_enter func118,ntmps118
 repeat (first|(with_reducible first|refine tE ?_|refine iS ?_|refine iO ?_)|go_values|go_skip|go_guarded|go_step|go_upon|go_back)
 go_ret2
 exact⟨rfl,(Nb.refl _).alloc _⟩
theorem Z3h(op a b n:Int)(h:op≠61∧op≠53∧op≠54∧op≠55∧op≠56∧op≠62∧op≠57∧op≠63∧op≠58∧op≠64∧op≠59∧op≠65∧op≠60)(w:World):Calls prog 119 #[.int .i64 op,Z1 a b n] w fun e w'=>e=.returned (.tuple #[.nilFunc,.int .i64 0])∧Nb w w':=by
 have e61:(op==61)=false:=nB (by omega)
 have e53:(op==53)=false:=nB (by omega)
 have e54:(op==54)=false:=nB (by omega)
 have e55:(op==55)=false:=nB (by omega)
 have e56:(op==56)=false:=nB (by omega)
 have e62:(op==62)=false:=nB (by omega)
 have e57:(op==57)=false:=nB (by omega)
 have e63:(op==63)=false:=nB (by omega)
 have e58:(op==58)=false:=nB (by omega)
 have e64:(op==64)=false:=nB (by omega)
 have e59:(op==59)=false:=nB (by omega)
 have e65:(op==65)=false:=nB (by omega)
 have e60:(op==60)=false:=nB (by omega)
 clear h
 unfold Z1
 go_enter func119,ntmps119
 repeat (first|(with_reducible first|refine tE ?_|refine iS ?_|refine iO ?_)|go_values|go_skip|go_guarded|go_step|go_upon|go_back)
 go_ret2
 exact⟨rfl,(Nb.refl _).alloc _⟩
theorem Z73(a b:Int)(qa:InU a)(qb:InU b)(w:World):Calls prog 87 #[.int .i64 45,Z1 a b 64] w fun e w'=>e=.returned (.tuple #[.func (Fn.func 125) #[Z1 (Sgn a 32) (Sgn b 32) 32] #[],.int .i64 32])∧Nb w w':=by
 have HK:=Lib.hid (Z6o a b qa.1 qa.2 qb.1 qb.2)
 have hnf:=Zy
 have hnn:=ZK
 unfold Z1 at HK ⊢
 go_enter func87,ntmps87
 go_wp2_with fail
 obtain⟨W1,hW⟩:∃W1,w.alloc (.cells #[.int .u64 a,.int .u64 b,.int .i64 64] 127)=W1:=⟨_,rfl⟩
 have hb:=Z0 w _ hW rfl
 have h2:Nb w W1:=by rw[←hW];exact(Nb.refl _).alloc _
 rw[hW]
 clear hW
 clear hb
 refine(HK.out _).mono ?_
 rintro e w1⟨rfl,hn⟩
 go_wp2_with fail
 go_ret2
 exact⟨rfl,h2.trans hn⟩
theorem Z74(a b:Int)(qa:InU a)(qb:InU b)(w:World):Calls prog 87 #[.int .i64 41,Z1 a b 64] w fun e w'=>e=.returned (.tuple #[.func (Fn.func 125) #[Z1 (Sgn a 32) (Sgn b 32) 32] #[],.int .i64 32])∧Nb w w':=by
 have HK:=Lib.hid (Z6p a b qa.1 qa.2 qb.1 qb.2)
 have hnf:=Zy
 have hnn:=ZK
 unfold Z1 at HK ⊢
 go_enter func87,ntmps87
 go_wp2_with fail
 obtain⟨W1,hW⟩:∃W1,w.alloc (.cells #[.int .u64 a,.int .u64 b,.int .i64 64] 127)=W1:=⟨_,rfl⟩
 have hb:=Z0 w _ hW rfl
 have h2:Nb w W1:=by rw[←hW];exact(Nb.refl _).alloc _
 rw[hW]
 clear hW
 clear hb
 refine(HK.out _).mono ?_
 rintro e w1⟨rfl,hn⟩
 go_wp2_with fail
 go_ret2
 exact⟨rfl,h2.trans hn⟩
theorem Z75(a b:Int)(qa:InU a)(qb:InU b)(w:World):Calls prog 87 #[.int .i64 31,Z1 a b 64] w fun e w'=>e=.returned (.tuple #[.func (Fn.func 125) #[Z1 a b 64] #[],.int .i64 64])∧Nb w w':=by
 have HK:=Lib.hid (Z6q a b qa.1 qa.2 qb.1 qb.2)
 have hnf:=Zy
 have hnn:=ZK
 unfold Z1 at HK ⊢
 go_enter func87,ntmps87
 go_wp2_with fail
 obtain⟨W1,hW⟩:∃W1,w.alloc (.cells #[.int .u64 a,.int .u64 b,.int .i64 64] 127)=W1:=⟨_,rfl⟩
 have hb:=Z0 w _ hW rfl
 have h2:Nb w W1:=by rw[←hW];exact(Nb.refl _).alloc _
 rw[hW]
 clear hW
 clear hb
 refine(HK.out _).mono ?_
 rintro e w1⟨rfl,hn⟩
 go_wp2_with fail
 go_ret2
 exact⟨rfl,h2.trans hn⟩
theorem Z76(a b:Int)(qa:InU a)(qb:InU b)(w:World):Calls prog 87 #[.int .i64 22,Z1 a b 64] w fun e w'=>e=.returned (.tuple #[.func (Fn.func 125) #[Z1 a b 64] #[],.int .i64 64])∧Nb w w':=by
 have HK:=Lib.hid (Z6r a b qa.1 qa.2 qb.1 qb.2)
 have hnf:=Zy
 have hnn:=ZK
 unfold Z1 at HK ⊢
 go_enter func87,ntmps87
 go_wp2_with fail
 obtain⟨W1,hW⟩:∃W1,w.alloc (.cells #[.int .u64 a,.int .u64 b,.int .i64 64] 127)=W1:=⟨_,rfl⟩
 have hb:=Z0 w _ hW rfl
 have h2:Nb w W1:=by rw[←hW];exact(Nb.refl _).alloc _
 rw[hW]
 clear hW
 clear hb
 refine(HK.out _).mono ?_
 rintro e w1⟨rfl,hn⟩
 go_wp2_with fail
 go_ret2
 exact⟨rfl,h2.trans hn⟩
theorem Z77(a b:Int)(qa:InU a)(qb:InU b)(w:World):Calls prog 87 #[.int .i64 46,Z1 a b 64] w fun e w'=>e=.returned (.tuple #[.func (Fn.func 126) #[Z1 (Sgn a 32) (Sgn b 32) 32] #[],.int .i64 32])∧Nb w w':=by
 have HK:=Lib.hid (Z6s a b qa.1 qa.2 qb.1 qb.2)
 have hnf:=Zy
 have hnn:=ZK
 unfold Z1 at HK ⊢
 go_enter func87,ntmps87
 go_wp2_with fail
 obtain⟨W1,hW⟩:∃W1,w.alloc (.cells #[.int .u64 a,.int .u64 b,.int .i64 64] 127)=W1:=⟨_,rfl⟩
 have hb:=Z0 w _ hW rfl
 have h2:Nb w W1:=by rw[←hW];exact(Nb.refl _).alloc _
 rw[hW]
 clear hW
 clear hb
 refine(HK.out _).mono ?_
 rintro e w1⟨rfl,hn⟩
 go_wp2_with fail
 go_ret2
 exact⟨rfl,h2.trans hn⟩
theorem Z78(a b:Int)(qa:InU a)(qb:InU b)(w:World):Calls prog 87 #[.int .i64 32,Z1 a b 64] w fun e w'=>e=.returned (.tuple #[.func (Fn.func 126) #[Z1 a b 64] #[],.int .i64 64])∧Nb w w':=by
 have HK:=Lib.hid (Z6t a b qa.1 qa.2 qb.1 qb.2)
 have hnf:=Zy
 have hnn:=ZK
 unfold Z1 at HK ⊢
 go_enter func87,ntmps87
 go_wp2_with fail
 obtain⟨W1,hW⟩:∃W1,w.alloc (.cells #[.int .u64 a,.int .u64 b,.int .i64 64] 127)=W1:=⟨_,rfl⟩
 have hb:=Z0 w _ hW rfl
 have h2:Nb w W1:=by rw[←hW];exact(Nb.refl _).alloc _
 rw[hW]
 clear hW
 clear hb
 refine(HK.out _).mono ?_
 rintro e w1⟨rfl,hn⟩
 go_wp2_with fail
 go_ret2
 exact⟨rfl,h2.trans hn⟩
theorem Z79(a b:Int)(qa:InU a)(qb:InU b)(w:World):Calls prog 87 #[.int .i64 47,Z1 a b 64] w fun e w'=>∃B,e=.returned (.tuple #[.func (Fn.func 128) #[] #[.pointer (some ⟨B,0,none⟩)],.int .i64 32])∧Nb w w'∧w'.heap[B]? =some (.cells #[.int .u64 (Fld a 0 32),.int .u64 (Fld b 0 32),.int .i64 32] 127 (0,0)):=by
 have HK:=Lib.hid (Z6u a b qa.1 qa.2 qb.1 qb.2)
 have hnf:=Zy
 have hnn:=ZK
 unfold Z1 at HK ⊢
 go_enter func87,ntmps87
 go_wp2_with fail
 obtain⟨W1,hW⟩:∃W1,w.alloc (.cells #[.int .u64 a,.int .u64 b,.int .i64 64] 127)=W1:=⟨_,rfl⟩
 have hb:=Z0 w _ hW rfl
 have h2:Nb w W1:=by rw[←hW];exact(Nb.refl _).alloc _
 rw[hW]
 clear hW
 clear hb
 refine(HK.out _).mono ?_
 rintro e w1⟨rfl,hn,hB⟩
 have HB:=Lib.hid hB
 clear hB
 go_wp2_with fail
 go_ret2
 exact⟨_,rfl,h2.trans hn,HB.out⟩
theorem Z7a(a b:Int)(qa:InU a)(qb:InU b)(w:World):Calls prog 87 #[.int .i64 42,Z1 a b 64] w fun e w'=>∃B,e=.returned (.tuple #[.func (Fn.func 128) #[] #[.pointer (some ⟨B,0,none⟩)],.int .i64 32])∧Nb w w'∧w'.heap[B]? =some (.cells #[.int .u64 (Fld a 0 32),.int .u64 (Fld b 0 32),.int .i64 32] 127 (0,0)):=by
 have HK:=Lib.hid (Z6v a b qa.1 qa.2 qb.1 qb.2)
 have hnf:=Zy
 have hnn:=ZK
 unfold Z1 at HK ⊢
 go_enter func87,ntmps87
 go_wp2_with fail
 obtain⟨W1,hW⟩:∃W1,w.alloc (.cells #[.int .u64 a,.int .u64 b,.int .i64 64] 127)=W1:=⟨_,rfl⟩
 have hb:=Z0 w _ hW rfl
 have h2:Nb w W1:=by rw[←hW];exact(Nb.refl _).alloc _
 rw[hW]
 clear hW
 clear hb
 refine(HK.out _).mono ?_
 rintro e w1⟨rfl,hn,hB⟩
 have HB:=Lib.hid hB
 clear hB
 go_wp2_with fail
 go_ret2
 exact⟨_,rfl,h2.trans hn,HB.out⟩
theorem Z7b(a b:Int)(qa:InU a)(qb:InU b)(w:World):Calls prog 87 #[.int .i64 33,Z1 a b 64] w fun e w'=>∃B,e=.returned (.tuple #[.func (Fn.func 128) #[] #[.pointer (some ⟨B,0,none⟩)],.int .i64 64])∧Nb w w'∧w'.heap[B]? =some (.cells #[.int .u64 a,.int .u64 b,.int .i64 64] 127 (0,0)):=by
 have HK:=Lib.hid (Z6w a b qa.1 qa.2 qb.1 qb.2)
 have hnf:=Zy
 have hnn:=ZK
 unfold Z1 at HK ⊢
 go_enter func87,ntmps87
 go_wp2_with fail
 obtain⟨W1,hW⟩:∃W1,w.alloc (.cells #[.int .u64 a,.int .u64 b,.int .i64 64] 127)=W1:=⟨_,rfl⟩
 have hb:=Z0 w _ hW rfl
 have h2:Nb w W1:=by rw[←hW];exact(Nb.refl _).alloc _
 rw[hW]
 clear hW
 clear hb
 refine(HK.out _).mono ?_
 rintro e w1⟨rfl,hn,hB⟩
 have HB:=Lib.hid hB
 clear hB
 go_wp2_with fail
 go_ret2
 exact⟨_,rfl,h2.trans hn,HB.out⟩
theorem Z7c(a b:Int)(qa:InU a)(qb:InU b)(w:World):Calls prog 87 #[.int .i64 28,Z1 a b 64] w fun e w'=>∃B,e=.returned (.tuple #[.func (Fn.func 128) #[] #[.pointer (some ⟨B,0,none⟩)],.int .i64 64])∧Nb w w'∧w'.heap[B]? =some (.cells #[.int .u64 a,.int .u64 b,.int .i64 64] 127 (0,0)):=by
 have HK:=Lib.hid (Z6x a b qa.1 qa.2 qb.1 qb.2)
 have hnf:=Zy
 have hnn:=ZK
 unfold Z1 at HK ⊢
 go_enter func87,ntmps87
 go_wp2_with fail
 obtain⟨W1,hW⟩:∃W1,w.alloc (.cells #[.int .u64 a,.int .u64 b,.int .i64 64] 127)=W1:=⟨_,rfl⟩
 have hb:=Z0 w _ hW rfl
 have h2:Nb w W1:=by rw[←hW];exact(Nb.refl _).alloc _
 rw[hW]
 clear hW
 clear hb
 refine(HK.out _).mono ?_
 rintro e w1⟨rfl,hn,hB⟩
 have HB:=Lib.hid hB
 clear hB
 go_wp2_with fail
 go_ret2
 exact⟨_,rfl,h2.trans hn,HB.out⟩
theorem Z7d(a b:Int)(qa:InU a)(qb:InU b)(w:World):Calls prog 87 #[.int .i64 48,Z1 a b 64] w fun e w'=>∃B,e=.returned (.tuple #[.func (Fn.func 130) #[] #[.pointer (some ⟨B,0,none⟩)],.int .i64 32])∧Nb w w'∧w'.heap[B]? =some (.cells #[.int .u64 (Fld a 0 32),.int .u64 (Fld b 0 32),.int .i64 32] 127 (0,0)):=by
 have HK:=Lib.hid (Z6y a b qa.1 qa.2 qb.1 qb.2)
 have hnf:=Zy
 have hnn:=ZK
 unfold Z1 at HK ⊢
 go_enter func87,ntmps87
 go_wp2_with fail
 obtain⟨W1,hW⟩:∃W1,w.alloc (.cells #[.int .u64 a,.int .u64 b,.int .i64 64] 127)=W1:=⟨_,rfl⟩
 have hb:=Z0 w _ hW rfl
 have h2:Nb w W1:=by rw[←hW];exact(Nb.refl _).alloc _
 rw[hW]
 clear hW
 clear hb
 refine(HK.out _).mono ?_
 rintro e w1⟨rfl,hn,hB⟩
 have HB:=Lib.hid hB
 clear hB
 go_wp2_with fail
 go_ret2
 exact⟨_,rfl,h2.trans hn,HB.out⟩
theorem Z7e(a b:Int)(qa:InU a)(qb:InU b)(w:World):Calls prog 87 #[.int .i64 43,Z1 a b 64] w fun e w'=>∃B,e=.returned (.tuple #[.func (Fn.func 130) #[] #[.pointer (some ⟨B,0,none⟩)],.int .i64 32])∧Nb w w'∧w'.heap[B]? =some (.cells #[.int .u64 (Fld a 0 32),.int .u64 (Fld b 0 32),.int .i64 32] 127 (0,0)):=by
 have HK:=Lib.hid (Z6z a b qa.1 qa.2 qb.1 qb.2)
 have hnf:=Zy
 have hnn:=ZK
 unfold Z1 at HK ⊢
 go_enter func87,ntmps87
 go_wp2_with fail
 obtain⟨W1,hW⟩:∃W1,w.alloc (.cells #[.int .u64 a,.int .u64 b,.int .i64 64] 127)=W1:=⟨_,rfl⟩
 have hb:=Z0 w _ hW rfl
 have h2:Nb w W1:=by rw[←hW];exact(Nb.refl _).alloc _
 rw[hW]
 clear hW
 clear hb
 refine(HK.out _).mono ?_
 rintro e w1⟨rfl,hn,hB⟩
 have HB:=Lib.hid hB
 clear hB
 go_wp2_with fail
 go_ret2
 exact⟨_,rfl,h2.trans hn,HB.out⟩
theorem Z7f(a b:Int)(qa:InU a)(qb:InU b)(w:World):Calls prog 87 #[.int .i64 37,Z1 a b 64] w fun e w'=>∃B,e=.returned (.tuple #[.func (Fn.func 130) #[] #[.pointer (some ⟨B,0,none⟩)],.int .i64 64])∧Nb w w'∧w'.heap[B]? =some (.cells #[.int .u64 a,.int .u64 b,.int .i64 64] 127 (0,0)):=by
 have HK:=Lib.hid (Z6A a b qa.1 qa.2 qb.1 qb.2)
 have hnf:=Zy
 have hnn:=ZK
 unfold Z1 at HK ⊢
 go_enter func87,ntmps87
 go_wp2_with fail
 obtain⟨W1,hW⟩:∃W1,w.alloc (.cells #[.int .u64 a,.int .u64 b,.int .i64 64] 127)=W1:=⟨_,rfl⟩
 have hb:=Z0 w _ hW rfl
 have h2:Nb w W1:=by rw[←hW];exact(Nb.refl _).alloc _
 rw[hW]
 clear hW
 clear hb
 refine(HK.out _).mono ?_
 rintro e w1⟨rfl,hn,hB⟩
 have HB:=Lib.hid hB
 clear hB
 go_wp2_with fail
 go_ret2
 exact⟨_,rfl,h2.trans hn,HB.out⟩
theorem Z7g(a b:Int)(qa:InU a)(qb:InU b)(w:World):Calls prog 87 #[.int .i64 29,Z1 a b 64] w fun e w'=>∃B,e=.returned (.tuple #[.func (Fn.func 130) #[] #[.pointer (some ⟨B,0,none⟩)],.int .i64 64])∧Nb w w'∧w'.heap[B]? =some (.cells #[.int .u64 a,.int .u64 b,.int .i64 64] 127 (0,0)):=by
 have HK:=Lib.hid (Z6B a b qa.1 qa.2 qb.1 qb.2)
 have hnf:=Zy
 have hnn:=ZK
 unfold Z1 at HK ⊢
 go_enter func87,ntmps87
 go_wp2_with fail
 obtain⟨W1,hW⟩:∃W1,w.alloc (.cells #[.int .u64 a,.int .u64 b,.int .i64 64] 127)=W1:=⟨_,rfl⟩
 have hb:=Z0 w _ hW rfl
 have h2:Nb w W1:=by rw[←hW];exact(Nb.refl _).alloc _
 rw[hW]
 clear hW
 clear hb
 refine(HK.out _).mono ?_
 rintro e w1⟨rfl,hn,hB⟩
 have HB:=Lib.hid hB
 clear hB
 go_wp2_with fail
 go_ret2
 exact⟨_,rfl,h2.trans hn,HB.out⟩
theorem Z7h(a b:Int)(qa:InU a)(qb:InU b)(w:World):Calls prog 87 #[.int .i64 49,Z1 a b 64] w fun e w'=>∃B,e=.returned (.tuple #[.func (Fn.func 131) #[] #[.pointer (some ⟨B,0,none⟩)],.int .i64 32])∧Nb w w'∧w'.heap[B]? =some (.cells #[.int .u64 (Sgn a 32),.int .u64 (Sgn b 32),.int .i64 32] 127 (0,0)):=by
 have HK:=Lib.hid (Z6C a b qa.1 qa.2 qb.1 qb.2)
 have hnf:=Zy
 have hnn:=ZK
 unfold Z1 at HK ⊢
 go_enter func87,ntmps87
 go_wp2_with fail
 obtain⟨W1,hW⟩:∃W1,w.alloc (.cells #[.int .u64 a,.int .u64 b,.int .i64 64] 127)=W1:=⟨_,rfl⟩
 have hb:=Z0 w _ hW rfl
 have h2:Nb w W1:=by rw[←hW];exact(Nb.refl _).alloc _
 rw[hW]
 clear hW
 clear hb
 refine(HK.out _).mono ?_
 rintro e w1⟨rfl,hn,hB⟩
 have HB:=Lib.hid hB
 clear hB
 go_wp2_with fail
 go_ret2
 exact⟨_,rfl,h2.trans hn,HB.out⟩
theorem Z7i(a b:Int)(qa:InU a)(qb:InU b)(w:World):Calls prog 87 #[.int .i64 44,Z1 a b 64] w fun e w'=>∃B,e=.returned (.tuple #[.func (Fn.func 131) #[] #[.pointer (some ⟨B,0,none⟩)],.int .i64 32])∧Nb w w'∧w'.heap[B]? =some (.cells #[.int .u64 (Sgn a 32),.int .u64 (Sgn b 32),.int .i64 32] 127 (0,0)):=by
 have HK:=Lib.hid (Z6D a b qa.1 qa.2 qb.1 qb.2)
 have hnf:=Zy
 have hnn:=ZK
 unfold Z1 at HK ⊢
 go_enter func87,ntmps87
 go_wp2_with fail
 obtain⟨W1,hW⟩:∃W1,w.alloc (.cells #[.int .u64 a,.int .u64 b,.int .i64 64] 127)=W1:=⟨_,rfl⟩
 have hb:=Z0 w _ hW rfl
 have h2:Nb w W1:=by rw[←hW];exact(Nb.refl _).alloc _
 rw[hW]
 clear hW
 clear hb
 refine(HK.out _).mono ?_
 rintro e w1⟨rfl,hn,hB⟩
 have HB:=Lib.hid hB
 clear hB
 go_wp2_with fail
 go_ret2
 exact⟨_,rfl,h2.trans hn,HB.out⟩
theorem Z7j(a b:Int)(qa:InU a)(qb:InU b)(w:World):Calls prog 87 #[.int .i64 38,Z1 a b 64] w fun e w'=>∃B,e=.returned (.tuple #[.func (Fn.func 131) #[] #[.pointer (some ⟨B,0,none⟩)],.int .i64 64])∧Nb w w'∧w'.heap[B]? =some (.cells #[.int .u64 a,.int .u64 b,.int .i64 64] 127 (0,0)):=by
 have HK:=Lib.hid (Z6E a b qa.1 qa.2 qb.1 qb.2)
 have hnf:=Zy
 have hnn:=ZK
 unfold Z1 at HK ⊢
 go_enter func87,ntmps87
 go_wp2_with fail
 obtain⟨W1,hW⟩:∃W1,w.alloc (.cells #[.int .u64 a,.int .u64 b,.int .i64 64] 127)=W1:=⟨_,rfl⟩
 have hb:=Z0 w _ hW rfl
 have h2:Nb w W1:=by rw[←hW];exact(Nb.refl _).alloc _
 rw[hW]
 clear hW
 clear hb
 refine(HK.out _).mono ?_
 rintro e w1⟨rfl,hn,hB⟩
 have HB:=Lib.hid hB
 clear hB
 go_wp2_with fail
 go_ret2
 exact⟨_,rfl,h2.trans hn,HB.out⟩
theorem Z7k(a b:Int)(qa:InU a)(qb:InU b)(w:World):Calls prog 87 #[.int .i64 30,Z1 a b 64] w fun e w'=>∃B,e=.returned (.tuple #[.func (Fn.func 131) #[] #[.pointer (some ⟨B,0,none⟩)],.int .i64 64])∧Nb w w'∧w'.heap[B]? =some (.cells #[.int .u64 a,.int .u64 b,.int .i64 64] 127 (0,0)):=by
 have HK:=Lib.hid (Z6F a b qa.1 qa.2 qb.1 qb.2)
 have hnf:=Zy
 have hnn:=ZK
 unfold Z1 at HK ⊢
 go_enter func87,ntmps87
 go_wp2_with fail
 obtain⟨W1,hW⟩:∃W1,w.alloc (.cells #[.int .u64 a,.int .u64 b,.int .i64 64] 127)=W1:=⟨_,rfl⟩
 have hb:=Z0 w _ hW rfl
 have h2:Nb w W1:=by rw[←hW];exact(Nb.refl _).alloc _
 rw[hW]
 clear hW
 clear hb
 refine(HK.out _).mono ?_
 rintro e w1⟨rfl,hn,hB⟩
 have HB:=Lib.hid hB
 clear hB
 go_wp2_with fail
 go_ret2
 exact⟨_,rfl,h2.trans hn,HB.out⟩
theorem Z7l(a b:Int)(qa:InU a)(qb:InU b)(w:World):Calls prog 87 #[.int .i64 34,Z1 a b 64] w fun e w'=>e=.returned (.tuple #[.func (Fn.func 132) #[Z1 a b 64] #[],.int .i64 64])∧Nb w w':=by
 have HK:=Lib.hid (Z6G a b qa.1 qa.2 qb.1 qb.2)
 have hnf:=Zy
 have hnn:=ZK
 unfold Z1 at HK ⊢
 go_enter func87,ntmps87
 go_wp2_with fail
 obtain⟨W1,hW⟩:∃W1,w.alloc (.cells #[.int .u64 a,.int .u64 b,.int .i64 64] 127)=W1:=⟨_,rfl⟩
 have hb:=Z0 w _ hW rfl
 have h2:Nb w W1:=by rw[←hW];exact(Nb.refl _).alloc _
 rw[hW]
 clear hW
 clear hb
 refine(HK.out _).mono ?_
 rintro e w1⟨rfl,hn⟩
 go_wp2_with fail
 go_ret2
 exact⟨rfl,h2.trans hn⟩
theorem Z7m(a b:Int)(qa:InU a)(qb:InU b)(w:World):Calls prog 87 #[.int .i64 23,Z1 a b 64] w fun e w'=>e=.returned (.tuple #[.func (Fn.func 132) #[Z1 a b 64] #[],.int .i64 64])∧Nb w w':=by
 have HK:=Lib.hid (Z6H a b qa.1 qa.2 qb.1 qb.2)
 have hnf:=Zy
 have hnn:=ZK
 unfold Z1 at HK ⊢
 go_enter func87,ntmps87
 go_wp2_with fail
 obtain⟨W1,hW⟩:∃W1,w.alloc (.cells #[.int .u64 a,.int .u64 b,.int .i64 64] 127)=W1:=⟨_,rfl⟩
 have hb:=Z0 w _ hW rfl
 have h2:Nb w W1:=by rw[←hW];exact(Nb.refl _).alloc _
 rw[hW]
 clear hW
 clear hb
 refine(HK.out _).mono ?_
 rintro e w1⟨rfl,hn⟩
 go_wp2_with fail
 go_ret2
 exact⟨rfl,h2.trans hn⟩
theorem Z7n(a b:Int)(qa:InU a)(qb:InU b)(w:World):Calls prog 87 #[.int .i64 35,Z1 a b 64] w fun e w'=>e=.returned (.tuple #[.func (Fn.func 133) #[Z1 a b 64] #[],.int .i64 64])∧Nb w w':=by
 have HK:=Lib.hid (Z6I a b qa.1 qa.2 qb.1 qb.2)
 have hnf:=Zy
 have hnn:=ZK
 unfold Z1 at HK ⊢
 go_enter func87,ntmps87
 go_wp2_with fail
 obtain⟨W1,hW⟩:∃W1,w.alloc (.cells #[.int .u64 a,.int .u64 b,.int .i64 64] 127)=W1:=⟨_,rfl⟩
 have hb:=Z0 w _ hW rfl
 have h2:Nb w W1:=by rw[←hW];exact(Nb.refl _).alloc _
 rw[hW]
 clear hW
 clear hb
 refine(HK.out _).mono ?_
 rintro e w1⟨rfl,hn⟩
 go_wp2_with fail
 go_ret2
 exact⟨rfl,h2.trans hn⟩
theorem Z7o(a b:Int)(qa:InU a)(qb:InU b)(w:World):Calls prog 87 #[.int .i64 24,Z1 a b 64] w fun e w'=>e=.returned (.tuple #[.func (Fn.func 133) #[Z1 a b 64] #[],.int .i64 64])∧Nb w w':=by
 have HK:=Lib.hid (Z6J a b qa.1 qa.2 qb.1 qb.2)
 have hnf:=Zy
 have hnn:=ZK
 unfold Z1 at HK ⊢
 go_enter func87,ntmps87
 go_wp2_with fail
 obtain⟨W1,hW⟩:∃W1,w.alloc (.cells #[.int .u64 a,.int .u64 b,.int .i64 64] 127)=W1:=⟨_,rfl⟩
 have hb:=Z0 w _ hW rfl
 have h2:Nb w W1:=by rw[←hW];exact(Nb.refl _).alloc _
 rw[hW]
 clear hW
 clear hb
 refine(HK.out _).mono ?_
 rintro e w1⟨rfl,hn⟩
 go_wp2_with fail
 go_ret2
 exact⟨rfl,h2.trans hn⟩
theorem Z7p(a b:Int)(qa:InU a)(qb:InU b)(w:World):Calls prog 87 #[.int .i64 36,Z1 a b 64] w fun e w'=>e=.returned (.tuple #[.func (Fn.func 134) #[Z1 a b 64] #[],.int .i64 64])∧Nb w w':=by
 have HK:=Lib.hid (Z6K a b qa.1 qa.2 qb.1 qb.2)
 have hnf:=Zy
 have hnn:=ZK
 unfold Z1 at HK ⊢
 go_enter func87,ntmps87
 go_wp2_with fail
 obtain⟨W1,hW⟩:∃W1,w.alloc (.cells #[.int .u64 a,.int .u64 b,.int .i64 64] 127)=W1:=⟨_,rfl⟩
 have hb:=Z0 w _ hW rfl
 have h2:Nb w W1:=by rw[←hW];exact(Nb.refl _).alloc _
 rw[hW]
 clear hW
 clear hb
 refine(HK.out _).mono ?_
 rintro e w1⟨rfl,hn⟩
 go_wp2_with fail
 go_ret2
 exact⟨rfl,h2.trans hn⟩
theorem Z7q(a b:Int)(qa:InU a)(qb:InU b)(w:World):Calls prog 87 #[.int .i64 25,Z1 a b 64] w fun e w'=>e=.returned (.tuple #[.func (Fn.func 134) #[Z1 a b 64] #[],.int .i64 64])∧Nb w w':=by
 have HK:=Lib.hid (Z6L a b qa.1 qa.2 qb.1 qb.2)
 have hnf:=Zy
 have hnn:=ZK
 unfold Z1 at HK ⊢
 go_enter func87,ntmps87
 go_wp2_with fail
 obtain⟨W1,hW⟩:∃W1,w.alloc (.cells #[.int .u64 a,.int .u64 b,.int .i64 64] 127)=W1:=⟨_,rfl⟩
 have hb:=Z0 w _ hW rfl
 have h2:Nb w W1:=by rw[←hW];exact(Nb.refl _).alloc _
 rw[hW]
 clear hW
 clear hb
 refine(HK.out _).mono ?_
 rintro e w1⟨rfl,hn⟩
 go_wp2_with fail
 go_ret2
 exact⟨rfl,h2.trans hn⟩
theorem Z7r(a b:Int)(qa:InU a)(qb:InU b)(w:World):Calls prog 87 #[.int .i64 39,Z1 a b 64] w fun e w'=>e=.returned (.tuple #[.func (Fn.func 135) #[Z1 a b 64] #[],.int .i64 64])∧Nb w w':=by
 have HK:=Lib.hid (Z6M a b qa.1 qa.2 qb.1 qb.2)
 have hnf:=Zy
 have hnn:=ZK
 unfold Z1 at HK ⊢
 go_enter func87,ntmps87
 go_wp2_with fail
 obtain⟨W1,hW⟩:∃W1,w.alloc (.cells #[.int .u64 a,.int .u64 b,.int .i64 64] 127)=W1:=⟨_,rfl⟩
 have hb:=Z0 w _ hW rfl
 have h2:Nb w W1:=by rw[←hW];exact(Nb.refl _).alloc _
 rw[hW]
 clear hW
 clear hb
 refine(HK.out _).mono ?_
 rintro e w1⟨rfl,hn⟩
 go_wp2_with fail
 go_ret2
 exact⟨rfl,h2.trans hn⟩
theorem Z7s(a b:Int)(qa:InU a)(qb:InU b)(w:World):Calls prog 87 #[.int .i64 26,Z1 a b 64] w fun e w'=>e=.returned (.tuple #[.func (Fn.func 135) #[Z1 a b 64] #[],.int .i64 64])∧Nb w w':=by
 have HK:=Lib.hid (Z6N a b qa.1 qa.2 qb.1 qb.2)
 have hnf:=Zy
 have hnn:=ZK
 unfold Z1 at HK ⊢
 go_enter func87,ntmps87
 go_wp2_with fail
 obtain⟨W1,hW⟩:∃W1,w.alloc (.cells #[.int .u64 a,.int .u64 b,.int .i64 64] 127)=W1:=⟨_,rfl⟩
 have hb:=Z0 w _ hW rfl
 have h2:Nb w W1:=by rw[←hW];exact(Nb.refl _).alloc _
 rw[hW]
 clear hW
 clear hb
 refine(HK.out _).mono ?_
 rintro e w1⟨rfl,hn⟩
 go_wp2_with fail
 go_ret2
 exact⟨rfl,h2.trans hn⟩
theorem Z7t(a b:Int)(qa:InU a)(qb:InU b)(w:World):Calls prog 87 #[.int .i64 40,Z1 a b 64] w fun e w'=>e=.returned (.tuple #[.func (Fn.func 136) #[Z1 a b 64] #[],.int .i64 64])∧Nb w w':=by
 have HK:=Lib.hid (Z6O a b qa.1 qa.2 qb.1 qb.2)
 have hnf:=Zy
 have hnn:=ZK
 unfold Z1 at HK ⊢
 go_enter func87,ntmps87
 go_wp2_with fail
 obtain⟨W1,hW⟩:∃W1,w.alloc (.cells #[.int .u64 a,.int .u64 b,.int .i64 64] 127)=W1:=⟨_,rfl⟩
 have hb:=Z0 w _ hW rfl
 have h2:Nb w W1:=by rw[←hW];exact(Nb.refl _).alloc _
 rw[hW]
 clear hW
 clear hb
 refine(HK.out _).mono ?_
 rintro e w1⟨rfl,hn⟩
 go_wp2_with fail
 go_ret2
 exact⟨rfl,h2.trans hn⟩
theorem Z7u(a b:Int)(qa:InU a)(qb:InU b)(w:World):Calls prog 87 #[.int .i64 27,Z1 a b 64] w fun e w'=>e=.returned (.tuple #[.func (Fn.func 136) #[Z1 a b 64] #[],.int .i64 64])∧Nb w w':=by
 have HK:=Lib.hid (Z6P a b qa.1 qa.2 qb.1 qb.2)
 have hnf:=Zy
 have hnn:=ZK
 unfold Z1 at HK ⊢
 go_enter func87,ntmps87
 go_wp2_with fail
 obtain⟨W1,hW⟩:∃W1,w.alloc (.cells #[.int .u64 a,.int .u64 b,.int .i64 64] 127)=W1:=⟨_,rfl⟩
 have hb:=Z0 w _ hW rfl
 have h2:Nb w W1:=by rw[←hW];exact(Nb.refl _).alloc _
 rw[hW]
 clear hW
 clear hb
 refine(HK.out _).mono ?_
 rintro e w1⟨rfl,hn⟩
 go_wp2_with fail
 go_ret2
 exact⟨rfl,h2.trans hn⟩
theorem Z7v(a b:Int)(qa:InU a)(qb:InU b)(w:World):Calls prog 87 #[.int .i64 61,Z1 a b 64] w fun e w'=>e=.returned (.tuple #[.func (Fn.func 137) #[Z1 (Sgn a 32) (Sgn b 32) 32] #[],.int .i64 32])∧Nb w w':=by
 have HZ:=Lib.hid (Yc 61 a b 64 (by decide))
 have HK:=Lib.hid (Z6Q a b qa.1 qa.2 qb.1 qb.2)
 have hnf:=Zy
 have hnn:=ZK
 unfold Z1 at HZ HK ⊢
 go_enter func87,ntmps87
 go_wp2_with fail
 obtain⟨W1,hW⟩:∃W1,w.alloc (.cells #[.int .u64 a,.int .u64 b,.int .i64 64] 127)=W1:=⟨_,rfl⟩
 have hb:=Z0 w _ hW rfl
 have h2:Nb w W1:=by rw[←hW];exact(Nb.refl _).alloc _
 rw[hW]
 clear hW
 refine(HZ.out _).mono ?_
 rintro e w0⟨rfl,hz⟩
 obtain⟨n1,c0,c1,c2⟩:=Zh (Nb.block hz hb)
 clear hb
 go_wp2_with fail
 refine(HK.out _).mono ?_
 rintro e w1⟨rfl,hn⟩
 clear n1 c0 c1 c2
 go_wp2_with fail
 go_ret2
 exact⟨rfl,(h2.trans hz).trans hn⟩
theorem Z7w(a b:Int)(qa:InU a)(qb:InU b)(w:World):Calls prog 87 #[.int .i64 53,Z1 a b 64] w fun e w'=>e=.returned (.tuple #[.func (Fn.func 137) #[Z1 a b 64] #[],.int .i64 64])∧Nb w w':=by
 have HZ:=Lib.hid (Yc 53 a b 64 (by decide))
 have HK:=Lib.hid (Z6R a b qa.1 qa.2 qb.1 qb.2)
 have hnf:=Zy
 have hnn:=ZK
 unfold Z1 at HZ HK ⊢
 go_enter func87,ntmps87
 go_wp2_with fail
 obtain⟨W1,hW⟩:∃W1,w.alloc (.cells #[.int .u64 a,.int .u64 b,.int .i64 64] 127)=W1:=⟨_,rfl⟩
 have hb:=Z0 w _ hW rfl
 have h2:Nb w W1:=by rw[←hW];exact(Nb.refl _).alloc _
 rw[hW]
 clear hW
 refine(HZ.out _).mono ?_
 rintro e w0⟨rfl,hz⟩
 obtain⟨n1,c0,c1,c2⟩:=Zh (Nb.block hz hb)
 clear hb
 go_wp2_with fail
 refine(HK.out _).mono ?_
 rintro e w1⟨rfl,hn⟩
 clear n1 c0 c1 c2
 go_wp2_with fail
 go_ret2
 exact⟨rfl,(h2.trans hz).trans hn⟩
theorem Z7x(a b:Int)(qa:InU a)(qb:InU b)(w:World):Calls prog 87 #[.int .i64 54,Z1 a b 64] w fun e w'=>e=.returned (.tuple #[.func (Fn.func 138) #[Z1 a b 64] #[],.int .i64 64])∧Nb w w':=by
 have HZ:=Lib.hid (Yc 54 a b 64 (by decide))
 have HK:=Lib.hid (Z6S a b qa.1 qa.2 qb.1 qb.2)
 have hnf:=Zy
 have hnn:=ZK
 unfold Z1 at HZ HK ⊢
 go_enter func87,ntmps87
 go_wp2_with fail
 obtain⟨W1,hW⟩:∃W1,w.alloc (.cells #[.int .u64 a,.int .u64 b,.int .i64 64] 127)=W1:=⟨_,rfl⟩
 have hb:=Z0 w _ hW rfl
 have h2:Nb w W1:=by rw[←hW];exact(Nb.refl _).alloc _
 rw[hW]
 clear hW
 refine(HZ.out _).mono ?_
 rintro e w0⟨rfl,hz⟩
 obtain⟨n1,c0,c1,c2⟩:=Zh (Nb.block hz hb)
 clear hb
 go_wp2_with fail
 refine(HK.out _).mono ?_
 rintro e w1⟨rfl,hn⟩
 clear n1 c0 c1 c2
 go_wp2_with fail
 go_ret2
 exact⟨rfl,(h2.trans hz).trans hn⟩
theorem Z7y(a b:Int)(qa:InU a)(qb:InU b)(w:World):Calls prog 87 #[.int .i64 55,Z1 a b 64] w fun e w'=>e=.returned (.tuple #[.func (Fn.func 139) #[Z1 a b 64] #[],.int .i64 64])∧Nb w w':=by
 have HZ:=Lib.hid (Yc 55 a b 64 (by decide))
 have HK:=Lib.hid (Z6T a b qa.1 qa.2 qb.1 qb.2)
 have hnf:=Zy
 have hnn:=ZK
 unfold Z1 at HZ HK ⊢
 go_enter func87,ntmps87
 go_wp2_with fail
 obtain⟨W1,hW⟩:∃W1,w.alloc (.cells #[.int .u64 a,.int .u64 b,.int .i64 64] 127)=W1:=⟨_,rfl⟩
 have hb:=Z0 w _ hW rfl
 have h2:Nb w W1:=by rw[←hW];exact(Nb.refl _).alloc _
 rw[hW]
 clear hW
 refine(HZ.out _).mono ?_
 rintro e w0⟨rfl,hz⟩
 obtain⟨n1,c0,c1,c2⟩:=Zh (Nb.block hz hb)
 clear hb
 go_wp2_with fail
 refine(HK.out _).mono ?_
 rintro e w1⟨rfl,hn⟩
 clear n1 c0 c1 c2
 go_wp2_with fail
 go_ret2
 exact⟨rfl,(h2.trans hz).trans hn⟩
theorem Z7z(a b:Int)(qa:InU a)(qb:InU b)(w:World):Calls prog 87 #[.int .i64 56,Z1 a b 64] w fun e w'=>e=.returned (.tuple #[.func (Fn.func 140) #[Z1 a b 64] #[],.int .i64 64])∧Nb w w':=by
 have HZ:=Lib.hid (Yc 56 a b 64 (by decide))
 have HK:=Lib.hid (Z6U a b qa.1 qa.2 qb.1 qb.2)
 have hnf:=Zy
 have hnn:=ZK
 unfold Z1 at HZ HK ⊢
 go_enter func87,ntmps87
 go_wp2_with fail
 obtain⟨W1,hW⟩:∃W1,w.alloc (.cells #[.int .u64 a,.int .u64 b,.int .i64 64] 127)=W1:=⟨_,rfl⟩
 have hb:=Z0 w _ hW rfl
 have h2:Nb w W1:=by rw[←hW];exact(Nb.refl _).alloc _
 rw[hW]
 clear hW
 refine(HZ.out _).mono ?_
 rintro e w0⟨rfl,hz⟩
 obtain⟨n1,c0,c1,c2⟩:=Zh (Nb.block hz hb)
 clear hb
 go_wp2_with fail
 refine(HK.out _).mono ?_
 rintro e w1⟨rfl,hn⟩
 clear n1 c0 c1 c2
 go_wp2_with fail
 go_ret2
 exact⟨rfl,(h2.trans hz).trans hn⟩
theorem Z7A(a b:Int)(qa:InU a)(qb:InU b)(w:World):Calls prog 87 #[.int .i64 62,Z1 a b 64] w fun e w'=>e=.returned (.tuple #[.func (Fn.func 141) #[Z1 (Sgn a 32) (Sgn b 32) 32] #[],.int .i64 32])∧Nb w w':=by
 have HZ:=Lib.hid (Yc 62 a b 64 (by decide))
 have HK:=Lib.hid (Z6V a b qa.1 qa.2 qb.1 qb.2)
 have hnf:=Zy
 have hnn:=ZK
 unfold Z1 at HZ HK ⊢
 go_enter func87,ntmps87
 go_wp2_with fail
 obtain⟨W1,hW⟩:∃W1,w.alloc (.cells #[.int .u64 a,.int .u64 b,.int .i64 64] 127)=W1:=⟨_,rfl⟩
 have hb:=Z0 w _ hW rfl
 have h2:Nb w W1:=by rw[←hW];exact(Nb.refl _).alloc _
 rw[hW]
 clear hW
 refine(HZ.out _).mono ?_
 rintro e w0⟨rfl,hz⟩
 obtain⟨n1,c0,c1,c2⟩:=Zh (Nb.block hz hb)
 clear hb
 go_wp2_with fail
 refine(HK.out _).mono ?_
 rintro e w1⟨rfl,hn⟩
 clear n1 c0 c1 c2
 go_wp2_with fail
 go_ret2
 exact⟨rfl,(h2.trans hz).trans hn⟩
theorem Z7B(a b:Int)(qa:InU a)(qb:InU b)(w:World):Calls prog 87 #[.int .i64 57,Z1 a b 64] w fun e w'=>e=.returned (.tuple #[.func (Fn.func 141) #[Z1 a b 64] #[],.int .i64 64])∧Nb w w':=by
 have HZ:=Lib.hid (Yc 57 a b 64 (by decide))
 have HK:=Lib.hid (Z6W a b qa.1 qa.2 qb.1 qb.2)
 have hnf:=Zy
 have hnn:=ZK
 unfold Z1 at HZ HK ⊢
 go_enter func87,ntmps87
 go_wp2_with fail
 obtain⟨W1,hW⟩:∃W1,w.alloc (.cells #[.int .u64 a,.int .u64 b,.int .i64 64] 127)=W1:=⟨_,rfl⟩
 have hb:=Z0 w _ hW rfl
 have h2:Nb w W1:=by rw[←hW];exact(Nb.refl _).alloc _
 rw[hW]
 clear hW
 refine(HZ.out _).mono ?_
 rintro e w0⟨rfl,hz⟩
 obtain⟨n1,c0,c1,c2⟩:=Zh (Nb.block hz hb)
 clear hb
 go_wp2_with fail
 refine(HK.out _).mono ?_
 rintro e w1⟨rfl,hn⟩
 clear n1 c0 c1 c2
 go_wp2_with fail
 go_ret2
 exact⟨rfl,(h2.trans hz).trans hn⟩
theorem Z7C(a b:Int)(qa:InU a)(qb:InU b)(w:World):Calls prog 87 #[.int .i64 63,Z1 a b 64] w fun e w'=>e=.returned (.tuple #[.func (Fn.func 142) #[Z1 (Fld a 0 32) (Fld b 0 32) 32] #[],.int .i64 32])∧Nb w w':=by
 have HZ:=Lib.hid (Yc 63 a b 64 (by decide))
 have HK:=Lib.hid (Z6X a b qa.1 qa.2 qb.1 qb.2)
 have hnf:=Zy
 have hnn:=ZK
 unfold Z1 at HZ HK ⊢
 go_enter func87,ntmps87
 go_wp2_with fail
 obtain⟨W1,hW⟩:∃W1,w.alloc (.cells #[.int .u64 a,.int .u64 b,.int .i64 64] 127)=W1:=⟨_,rfl⟩
 have hb:=Z0 w _ hW rfl
 have h2:Nb w W1:=by rw[←hW];exact(Nb.refl _).alloc _
 rw[hW]
 clear hW
 refine(HZ.out _).mono ?_
 rintro e w0⟨rfl,hz⟩
 obtain⟨n1,c0,c1,c2⟩:=Zh (Nb.block hz hb)
 clear hb
 go_wp2_with fail
 refine(HK.out _).mono ?_
 rintro e w1⟨rfl,hn⟩
 clear n1 c0 c1 c2
 go_wp2_with fail
 go_ret2
 exact⟨rfl,(h2.trans hz).trans hn⟩
theorem Z7D(a b:Int)(qa:InU a)(qb:InU b)(w:World):Calls prog 87 #[.int .i64 58,Z1 a b 64] w fun e w'=>e=.returned (.tuple #[.func (Fn.func 142) #[Z1 a b 64] #[],.int .i64 64])∧Nb w w':=by
 have HZ:=Lib.hid (Yc 58 a b 64 (by decide))
 have HK:=Lib.hid (Z6Y a b qa.1 qa.2 qb.1 qb.2)
 have hnf:=Zy
 have hnn:=ZK
 unfold Z1 at HZ HK ⊢
 go_enter func87,ntmps87
 go_wp2_with fail
 obtain⟨W1,hW⟩:∃W1,w.alloc (.cells #[.int .u64 a,.int .u64 b,.int .i64 64] 127)=W1:=⟨_,rfl⟩
 have hb:=Z0 w _ hW rfl
 have h2:Nb w W1:=by rw[←hW];exact(Nb.refl _).alloc _
 rw[hW]
 clear hW
 refine(HZ.out _).mono ?_
 rintro e w0⟨rfl,hz⟩
 obtain⟨n1,c0,c1,c2⟩:=Zh (Nb.block hz hb)
 clear hb
 go_wp2_with fail
 refine(HK.out _).mono ?_
 rintro e w1⟨rfl,hn⟩
 clear n1 c0 c1 c2
 go_wp2_with fail
 go_ret2
 exact⟨rfl,(h2.trans hz).trans hn⟩
theorem Z7E(a b:Int)(qa:InU a)(qb:InU b)(w:World):Calls prog 87 #[.int .i64 64,Z1 a b 64] w fun e w'=>e=.returned (.tuple #[.func (Fn.func 143) #[Z1 (Sgn a 32) (Sgn b 32) 32] #[],.int .i64 32])∧Nb w w':=by
 have HZ:=Lib.hid (Yc 64 a b 64 (by decide))
 have HK:=Lib.hid (Z6Z a b qa.1 qa.2 qb.1 qb.2)
 have hnf:=Zy
 have hnn:=ZK
 unfold Z1 at HZ HK ⊢
 go_enter func87,ntmps87
 go_wp2_with fail
 obtain⟨W1,hW⟩:∃W1,w.alloc (.cells #[.int .u64 a,.int .u64 b,.int .i64 64] 127)=W1:=⟨_,rfl⟩
 have hb:=Z0 w _ hW rfl
 have h2:Nb w W1:=by rw[←hW];exact(Nb.refl _).alloc _
 rw[hW]
 clear hW
 refine(HZ.out _).mono ?_
 rintro e w0⟨rfl,hz⟩
 obtain⟨n1,c0,c1,c2⟩:=Zh (Nb.block hz hb)
 clear hb
 go_wp2_with fail
 refine(HK.out _).mono ?_
 rintro e w1⟨rfl,hn⟩
 clear n1 c0 c1 c2
 go_wp2_with fail
 go_ret2
 exact⟨rfl,(h2.trans hz).trans hn⟩
theorem Z7F(a b:Int)(qa:InU a)(qb:InU b)(w:World):Calls prog 87 #[.int .i64 59,Z1 a b 64] w fun e w'=>e=.returned (.tuple #[.func (Fn.func 143) #[Z1 a b 64] #[],.int .i64 64])∧Nb w w':=by
 have HZ:=Lib.hid (Yc 59 a b 64 (by decide))
 have HK:=Lib.hid (Z70 a b qa.1 qa.2 qb.1 qb.2)
 have hnf:=Zy
 have hnn:=ZK
 unfold Z1 at HZ HK ⊢
 go_enter func87,ntmps87
 go_wp2_with fail
 obtain⟨W1,hW⟩:∃W1,w.alloc (.cells #[.int .u64 a,.int .u64 b,.int .i64 64] 127)=W1:=⟨_,rfl⟩
 have hb:=Z0 w _ hW rfl
 have h2:Nb w W1:=by rw[←hW];exact(Nb.refl _).alloc _
 rw[hW]
 clear hW
 refine(HZ.out _).mono ?_
 rintro e w0⟨rfl,hz⟩
 obtain⟨n1,c0,c1,c2⟩:=Zh (Nb.block hz hb)
 clear hb
 go_wp2_with fail
 refine(HK.out _).mono ?_
 rintro e w1⟨rfl,hn⟩
 clear n1 c0 c1 c2
 go_wp2_with fail
 go_ret2
 exact⟨rfl,(h2.trans hz).trans hn⟩
theorem Z7G(a b:Int)(qa:InU a)(qb:InU b)(w:World):Calls prog 87 #[.int .i64 65,Z1 a b 64] w fun e w'=>e=.returned (.tuple #[.func (Fn.func 144) #[Z1 (Fld a 0 32) (Fld b 0 32) 32] #[],.int .i64 32])∧Nb w w':=by
 have HZ:=Lib.hid (Yc 65 a b 64 (by decide))
 have HK:=Lib.hid (Z71 a b qa.1 qa.2 qb.1 qb.2)
 have hnf:=Zy
 have hnn:=ZK
 unfold Z1 at HZ HK ⊢
 go_enter func87,ntmps87
 go_wp2_with fail
 obtain⟨W1,hW⟩:∃W1,w.alloc (.cells #[.int .u64 a,.int .u64 b,.int .i64 64] 127)=W1:=⟨_,rfl⟩
 have hb:=Z0 w _ hW rfl
 have h2:Nb w W1:=by rw[←hW];exact(Nb.refl _).alloc _
 rw[hW]
 clear hW
 refine(HZ.out _).mono ?_
 rintro e w0⟨rfl,hz⟩
 obtain⟨n1,c0,c1,c2⟩:=Zh (Nb.block hz hb)
 clear hb
 go_wp2_with fail
 refine(HK.out _).mono ?_
 rintro e w1⟨rfl,hn⟩
 clear n1 c0 c1 c2
 go_wp2_with fail
 go_ret2
 exact⟨rfl,(h2.trans hz).trans hn⟩
theorem Z7H(a b:Int)(qa:InU a)(qb:InU b)(w:World):Calls prog 87 #[.int .i64 60,Z1 a b 64] w fun e w'=>e=.returned (.tuple #[.func (Fn.func 144) #[Z1 a b 64] #[],.int .i64 64])∧Nb w w':=by
 have HZ:=Lib.hid (Yc 60 a b 64 (by decide))
 have HK:=Lib.hid (Z72 a b qa.1 qa.2 qb.1 qb.2)
 have hnf:=Zy
 have hnn:=ZK
 unfold Z1 at HZ HK ⊢
 go_enter func87,ntmps87
 go_wp2_with fail
 obtain⟨W1,hW⟩:∃W1,w.alloc (.cells #[.int .u64 a,.int .u64 b,.int .i64 64] 127)=W1:=⟨_,rfl⟩
 have hb:=Z0 w _ hW rfl
 have h2:Nb w W1:=by rw[←hW];exact(Nb.refl _).alloc _
 rw[hW]
 clear hW
 refine(HZ.out _).mono ?_
 rintro e w0⟨rfl,hz⟩
 obtain⟨n1,c0,c1,c2⟩:=Zh (Nb.block hz hb)
 clear hb
 go_wp2_with fail
 refine(HK.out _).mono ?_
 rintro e w1⟨rfl,hn⟩
 clear n1 c0 c1 c2
 go_wp2_with fail
 go_ret2
 exact⟨rfl,(h2.trans hz).trans hn⟩
theorem Z3i(op a b:Int)(h:Ks op=false)(w:World):Calls prog 87 #[.int .i64 op,Z1 a b 64] w fun e w'=>e=.returned (.tuple #[.nilFunc,.int .i64 0])∧Nb w w':=by
 unfold Ks at h
 simp at h
 have HZ:=Lib.hid (Yc op a b 64 (by omega))
 have HK:=Lib.hid (Z3h op a b 64 (by omega))
 clear h
 have hnn:=ZK
 unfold Z1 at HZ HK ⊢
 go_enter func87,ntmps87
 go_wp2_with fail
 obtain⟨W1,hW⟩:∃W1,w.alloc (.cells #[.int .u64 a,.int .u64 b,.int .i64 64] 127)=W1:=⟨_,rfl⟩
 have hb:=Z0 w _ hW rfl
 have h2:Nb w W1:=by rw[←hW];exact(Nb.refl _).alloc _
 rw[hW]
 clear hW
 refine(HZ.out _).mono ?_
 rintro e w0⟨rfl,hz⟩
 obtain⟨n1,c0,c1,c2⟩:=Zh (Nb.block hz hb)
 clear hb
 go_wp2_with fail
 refine(HK.out _).mono ?_
 rintro e w1⟨rfl,hn⟩
 clear n1 c0 c1 c2
 go_wp2_with fail
 go_ret2
 exact⟨rfl,(h2.trans hz).trans hn⟩
end Go.Proofs.YtgpdpaljbiclkaaGreatDoor

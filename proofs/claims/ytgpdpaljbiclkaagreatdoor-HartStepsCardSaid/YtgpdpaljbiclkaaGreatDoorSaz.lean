/-
  Proved here: what the reference's operations of two numbers of 32 bits give. Conditions: the numbers are words. ¦ what the reference's products and quotients give. Conditions: the numbers are words.
-/
import Derived.Test.YtgpdpaljbiclkaaGreatDoorSzz
import Derived.Test.YtgpdpaljbiclkaaGreatDoorSay
set_option maxHeartbeats 1000000
set_option maxRecDepth 100000
section
namespace Go.Proofs.YtgpdpaljbiclkaaGreatDoor
open _root_.Go.Proofs.Tryz
open Go.RowKit
set_option linter.unusedVariables false
theorem Z3j(a c:Int)(qa:InU a)(qc:InU c)(w:World):Calls prog 69 #[.int .i64 45,.int .u64 a,.int .u64 c] w fun e w'=>e=.returned (.tuple #[.int .u64 (Sgn (IntKind.u64.wrap ((Sgn a 32)+(Sgn c 32))) 32),.bool true])∧w=w':=by
 have HR:Hid (Sgn (IntKind.u64.wrap (a+c)) 32=Sgn (IntKind.u64.wrap ((Sgn a 32)+(Sgn c 32))) 32):=Lib.hid (w_add a c qa qc)
 have m0:0≤c % 32:=by omega
 have m1:c % 32≤31:=by omega
 have hF:=Lib.hid (Xo c qc.1)
 go_enter func69,ntmps69
 repeat (first|(with_reducible first|refine tE ?_|refine iS ?_|refine iO ?_)|go_values|go_skip|go_guarded|go_step|go_upon|go_back)
 refine(Z3 _ _ _ qc.1 qc.2 _).mono ?_
 rintro e w'⟨rfl,rfl⟩
 rw[hF.out]
 simp only[]
 repeat (first|(with_reducible first|refine tE ?_|refine iS ?_|refine iO ?_)|go_values|go_skip|go_guarded|go_step|go_upon|go_back|(refine(ZT _ (ZF _) _).mono ?_;rintro e w'⟨rfl,rfl⟩;simp only[]))
 go_ret2
 exact⟨Xt HR.out,rfl⟩
theorem Z3k(a c:Int)(qa:InU a)(qc:InU c)(w:World):Calls prog 69 #[.int .i64 41,.int .u64 a,.int .u64 c] w fun e w'=>e=.returned (.tuple #[.int .u64 (Sgn (IntKind.u64.wrap ((Sgn a 32)+(Sgn c 32))) 32),.bool true])∧w=w':=by
 have HR:Hid (Sgn (IntKind.u64.wrap (a+c)) 32=Sgn (IntKind.u64.wrap ((Sgn a 32)+(Sgn c 32))) 32):=Lib.hid (w_add a c qa qc)
 have m0:0≤c % 32:=by omega
 have m1:c % 32≤31:=by omega
 have hF:=Lib.hid (Xo c qc.1)
 go_enter func69,ntmps69
 repeat (first|(with_reducible first|refine tE ?_|refine iS ?_|refine iO ?_)|go_values|go_skip|go_guarded|go_step|go_upon|go_back)
 refine(Z3 _ _ _ qc.1 qc.2 _).mono ?_
 rintro e w'⟨rfl,rfl⟩
 rw[hF.out]
 simp only[]
 repeat (first|(with_reducible first|refine tE ?_|refine iS ?_|refine iO ?_)|go_values|go_skip|go_guarded|go_step|go_upon|go_back|(refine(ZT _ (ZF _) _).mono ?_;rintro e w'⟨rfl,rfl⟩;simp only[]))
 go_ret2
 exact⟨Xt HR.out,rfl⟩
theorem Z3l(a c:Int)(qa:InU a)(qc:InU c)(w:World):Calls prog 69 #[.int .i64 46,.int .u64 a,.int .u64 c] w fun e w'=>e=.returned (.tuple #[.int .u64 (Sgn (IntKind.u64.wrap ((Sgn a 32)-(Sgn c 32))) 32),.bool true])∧w=w':=by
 have HR:Hid (Sgn (IntKind.u64.wrap (a-c)) 32=Sgn (IntKind.u64.wrap ((Sgn a 32)-(Sgn c 32))) 32):=Lib.hid (w_sub a c qa qc)
 have m0:0≤c % 32:=by omega
 have m1:c % 32≤31:=by omega
 have hF:=Lib.hid (Xo c qc.1)
 go_enter func69,ntmps69
 repeat (first|(with_reducible first|refine tE ?_|refine iS ?_|refine iO ?_)|go_values|go_skip|go_guarded|go_step|go_upon|go_back)
 refine(Z3 _ _ _ qc.1 qc.2 _).mono ?_
 rintro e w'⟨rfl,rfl⟩
 rw[hF.out]
 simp only[]
 repeat (first|(with_reducible first|refine tE ?_|refine iS ?_|refine iO ?_)|go_values|go_skip|go_guarded|go_step|go_upon|go_back|(refine(ZT _ (ZF _) _).mono ?_;rintro e w'⟨rfl,rfl⟩;simp only[]))
 go_ret2
 exact⟨Xt HR.out,rfl⟩
theorem Z3m(a c:Int)(qa:InU a)(qc:InU c)(w:World):Calls prog 69 #[.int .i64 47,.int .u64 a,.int .u64 c] w fun e w'=>e=.returned (.tuple #[.int .u64 (Sgn (IntKind.u64.wrap ((Fld a 0 32)*2 ^ ((Fld c 0 32) % 32).toNat)) 32),.bool true])∧w=w':=by
 have HR:Hid (Sgn (Shl a (c % 32).toNat) 32=Sgn (IntKind.u64.wrap ((Fld a 0 32)*2 ^ ((Fld c 0 32) % 32).toNat)) 32):=Lib.hid (w_shl a c qa qc)
 have m0:0≤c % 32:=by omega
 have m1:c % 32≤31:=by omega
 have hF:=Lib.hid (Xo c qc.1)
 go_enter func69,ntmps69
 repeat (first|(with_reducible first|refine tE ?_|refine iS ?_|refine iO ?_)|go_values|go_skip|go_guarded|go_step|go_upon|go_back)
 refine(Z3 _ _ _ qc.1 qc.2 _).mono ?_
 rintro e w'⟨rfl,rfl⟩
 rw[hF.out]
 simp only[]
 repeat (first|(with_reducible first|refine tE ?_|refine iS ?_|refine iO ?_)|go_values|go_skip|go_guarded|go_step|go_upon|go_back|(refine(Kp _ _ qa m0 (by omega) _).mono ?_;rintro e w'⟨rfl,rfl⟩;simp only[])|(refine(ZT _ (ZF _) _).mono ?_;rintro e w'⟨rfl,rfl⟩;simp only[]))
 go_ret2
 exact⟨Xt HR.out,rfl⟩
theorem Z3n(a c:Int)(qa:InU a)(qc:InU c)(w:World):Calls prog 69 #[.int .i64 42,.int .u64 a,.int .u64 c] w fun e w'=>e=.returned (.tuple #[.int .u64 (Sgn (IntKind.u64.wrap ((Fld a 0 32)*2 ^ ((Fld c 0 32) % 32).toNat)) 32),.bool true])∧w=w':=by
 have HR:Hid (Sgn (Shl a (c % 32).toNat) 32=Sgn (IntKind.u64.wrap ((Fld a 0 32)*2 ^ ((Fld c 0 32) % 32).toNat)) 32):=Lib.hid (w_shl a c qa qc)
 have m0:0≤c % 32:=by omega
 have m1:c % 32≤31:=by omega
 have hF:=Lib.hid (Xo c qc.1)
 go_enter func69,ntmps69
 repeat (first|(with_reducible first|refine tE ?_|refine iS ?_|refine iO ?_)|go_values|go_skip|go_guarded|go_step|go_upon|go_back)
 refine(Z3 _ _ _ qc.1 qc.2 _).mono ?_
 rintro e w'⟨rfl,rfl⟩
 rw[hF.out]
 simp only[]
 repeat (first|(with_reducible first|refine tE ?_|refine iS ?_|refine iO ?_)|go_values|go_skip|go_guarded|go_step|go_upon|go_back|(refine(Kp _ _ qa m0 (by omega) _).mono ?_;rintro e w'⟨rfl,rfl⟩;simp only[])|(refine(ZT _ (ZF _) _).mono ?_;rintro e w'⟨rfl,rfl⟩;simp only[]))
 go_ret2
 exact⟨Xt HR.out,rfl⟩
theorem Z3o(a c:Int)(qa:InU a)(qc:InU c)(w:World):Calls prog 69 #[.int .i64 48,.int .u64 a,.int .u64 c] w fun e w'=>e=.returned (.tuple #[.int .u64 (Sgn ((Fld a 0 32) / 2 ^ ((Fld c 0 32) % 32).toNat) 32),.bool true])∧w=w':=by
 have HR:Hid (Sgn (Fld a 0 32 / 2 ^ (c % 32).toNat) 32=Sgn ((Fld a 0 32) / 2 ^ ((Fld c 0 32) % 32).toNat) 32):=Lib.hid (w_shr a c qa qc)
 have m0:0≤c % 32:=by omega
 have m1:c % 32≤31:=by omega
 have hF:=Lib.hid (Xo c qc.1)
 go_enter func69,ntmps69
 repeat (first|(with_reducible first|refine tE ?_|refine iS ?_|refine iO ?_)|go_values|go_skip|go_guarded|go_step|go_upon|go_back)
 refine(Z3 _ _ _ qc.1 qc.2 _).mono ?_
 rintro e w'⟨rfl,rfl⟩
 rw[hF.out]
 simp only[]
 repeat (first|(with_reducible first|refine tE ?_|refine iS ?_|refine iO ?_)|go_values|go_skip|go_guarded|go_step|go_upon|go_back|(refine(XF _ qa _).mono ?_;rintro e w'⟨rfl,rfl⟩;simp only[])|(refine(Xr _ _ (ZL _ 0 32 qa) m0 (by omega) _).mono ?_;rintro e w'⟨rfl,rfl⟩;simp only[])|(refine(ZT _ (Z4M _ _ (ZL _ 0 32 qa)) _).mono ?_;rintro e w'⟨rfl,rfl⟩;simp only[]))
 go_ret2
 exact⟨Xt HR.out,rfl⟩
theorem Z3p(a c:Int)(qa:InU a)(qc:InU c)(w:World):Calls prog 69 #[.int .i64 43,.int .u64 a,.int .u64 c] w fun e w'=>e=.returned (.tuple #[.int .u64 (Sgn ((Fld a 0 32) / 2 ^ ((Fld c 0 32) % 32).toNat) 32),.bool true])∧w=w':=by
 have HR:Hid (Sgn (Fld a 0 32 / 2 ^ (c % 32).toNat) 32=Sgn ((Fld a 0 32) / 2 ^ ((Fld c 0 32) % 32).toNat) 32):=Lib.hid (w_shr a c qa qc)
 have m0:0≤c % 32:=by omega
 have m1:c % 32≤31:=by omega
 have hF:=Lib.hid (Xo c qc.1)
 go_enter func69,ntmps69
 repeat (first|(with_reducible first|refine tE ?_|refine iS ?_|refine iO ?_)|go_values|go_skip|go_guarded|go_step|go_upon|go_back)
 refine(Z3 _ _ _ qc.1 qc.2 _).mono ?_
 rintro e w'⟨rfl,rfl⟩
 rw[hF.out]
 simp only[]
 repeat (first|(with_reducible first|refine tE ?_|refine iS ?_|refine iO ?_)|go_values|go_skip|go_guarded|go_step|go_upon|go_back|(refine(XF _ qa _).mono ?_;rintro e w'⟨rfl,rfl⟩;simp only[])|(refine(Xr _ _ (ZL _ 0 32 qa) m0 (by omega) _).mono ?_;rintro e w'⟨rfl,rfl⟩;simp only[])|(refine(ZT _ (Z4M _ _ (ZL _ 0 32 qa)) _).mono ?_;rintro e w'⟨rfl,rfl⟩;simp only[]))
 go_ret2
 exact⟨Xt HR.out,rfl⟩
theorem Z3q(a c:Int)(qa:InU a)(qc:InU c)(w:World):Calls prog 69 #[.int .i64 49,.int .u64 a,.int .u64 c] w fun e w'=>e=.returned (.tuple #[.int .u64 (Sgn (Sar (Sgn a 32) (Sgn c 32) 32) 32),.bool true])∧w=w':=by
 have HR:Hid (Sgn (Asr (Sgn a 32) (c % 32).toNat) 32=Sgn (Sar (Sgn a 32) (Sgn c 32) 32) 32):=Lib.hid (w_sar a c qa qc)
 have m0:0≤c % 32:=by omega
 have m1:c % 32≤31:=by omega
 have hF:=Lib.hid (Xo c qc.1)
 have hT:Hid (Bt a 31=Bt (Sgn a 32) 63):=Lib.hid (bt31 a qa)
 obtain⟨t0,t1⟩:=JW a qa
 go_enter func69,ntmps69
 repeat (first|(with_reducible first|refine tE ?_|refine iS ?_|refine iO ?_)|go_values|go_skip|go_guarded|go_step|go_upon|go_back)
 refine(Z3 _ _ _ qc.1 qc.2 _).mono ?_
 rintro e w'⟨rfl,rfl⟩
 rw[hF.out]
 simp only[]
 repeat (first|(with_reducible first|refine tE ?_|refine iS ?_|refine iO ?_)|go_values|go_skip|go_guarded|go_step|go_upon|go_back|(refine(ZT _ qa _).mono ?_;rintro e w'⟨rfl,rfl⟩;simp only[])|(refine(Y2 _ _ qa.1 qa.2 (by decide) (by decide) _).mono ?_;rintro e w'⟨rfl,rfl⟩;simp only[])|(refine(Xs _ _ _ (Zn _ 32 qa) hT t0 t1 m0 (by omega) _).mono ?_;rintro e w'⟨rfl,rfl⟩;simp only[])|(refine(ZT _ (JT _ _) _).mono ?_;rintro e w'⟨rfl,rfl⟩;simp only[]))
 go_ret2
 exact⟨Xt HR.out,rfl⟩
theorem Z3r(a c:Int)(qa:InU a)(qc:InU c)(w:World):Calls prog 69 #[.int .i64 44,.int .u64 a,.int .u64 c] w fun e w'=>e=.returned (.tuple #[.int .u64 (Sgn (Sar (Sgn a 32) (Sgn c 32) 32) 32),.bool true])∧w=w':=by
 have HR:Hid (Sgn (Asr (Sgn a 32) (c % 32).toNat) 32=Sgn (Sar (Sgn a 32) (Sgn c 32) 32) 32):=Lib.hid (w_sar a c qa qc)
 have m0:0≤c % 32:=by omega
 have m1:c % 32≤31:=by omega
 have hF:=Lib.hid (Xo c qc.1)
 have hT:Hid (Bt a 31=Bt (Sgn a 32) 63):=Lib.hid (bt31 a qa)
 obtain⟨t0,t1⟩:=JW a qa
 go_enter func69,ntmps69
 repeat (first|(with_reducible first|refine tE ?_|refine iS ?_|refine iO ?_)|go_values|go_skip|go_guarded|go_step|go_upon|go_back)
 refine(Z3 _ _ _ qc.1 qc.2 _).mono ?_
 rintro e w'⟨rfl,rfl⟩
 rw[hF.out]
 simp only[]
 repeat (first|(with_reducible first|refine tE ?_|refine iS ?_|refine iO ?_)|go_values|go_skip|go_guarded|go_step|go_upon|go_back|(refine(ZT _ qa _).mono ?_;rintro e w'⟨rfl,rfl⟩;simp only[])|(refine(Y2 _ _ qa.1 qa.2 (by decide) (by decide) _).mono ?_;rintro e w'⟨rfl,rfl⟩;simp only[])|(refine(Xs _ _ _ (Zn _ 32 qa) hT t0 t1 m0 (by omega) _).mono ?_;rintro e w'⟨rfl,rfl⟩;simp only[])|(refine(ZT _ (JT _ _) _).mono ?_;rintro e w'⟨rfl,rfl⟩;simp only[]))
 go_ret2
 exact⟨Xt HR.out,rfl⟩
theorem Z3s(a c:Int)(qa:InU a)(qc:InU c)(w:World):Calls prog 69 #[.int .i64 61,.int .u64 a,.int .u64 c] w fun e w'=>e=.returned (.tuple #[.int .u64 (Sgn (IntKind.u64.wrap ((Sgn a 32)*(Sgn c 32))) 32),.bool true])∧w=w':=by
 have HR:Hid (Sgn (IntKind.u64.wrap (a*c)) 32=Sgn (IntKind.u64.wrap ((Sgn a 32)*(Sgn c 32))) 32):=Lib.hid (w_mul a c qa qc)
 have m0:0≤c % 32:=by omega
 have m1:c % 32≤31:=by omega
 have hF:=Lib.hid (Xo c qc.1)
 go_enter func69,ntmps69
 repeat (first|(with_reducible first|refine tE ?_|refine iS ?_|refine iO ?_)|go_values|go_skip|go_guarded|go_step|go_upon|go_back)
 refine(Z3 _ _ _ qc.1 qc.2 _).mono ?_
 rintro e w'⟨rfl,rfl⟩
 rw[hF.out]
 simp only[]
 repeat (first|(with_reducible first|refine tE ?_|refine iS ?_|refine iO ?_)|go_values|go_skip|go_guarded|go_step|go_upon|go_back|(refine(ZT _ (ZF _) _).mono ?_;rintro e w'⟨rfl,rfl⟩;simp only[]))
 go_ret2
 exact⟨Xt HR.out,rfl⟩
theorem Z3t(a c:Int)(qa:InU a)(qc:InU c)(w:World):Calls prog 69 #[.int .i64 62,.int .u64 a,.int .u64 c] w fun e w'=>e=.returned (.tuple #[.int .u64 (Sgn (_root_.Go.Proofs.YtgpdpaljbiclkaaGreatDoor.Quo (Sgn a 32) (Sgn c 32) true) 32),.bool true])∧w=w':=by
 have m0:0≤c % 32:=by omega
 have m1:c % 32≤31:=by omega
 have hF:=Lib.hid (Xo c qc.1)
 go_enter func69,ntmps69
 repeat (first|(with_reducible first|refine tE ?_|refine iS ?_|refine iO ?_)|go_values|go_skip|go_guarded|go_step|go_upon|go_back)
 refine(Z3 _ _ _ qc.1 qc.2 _).mono ?_
 rintro e w'⟨rfl,rfl⟩
 rw[hF.out]
 simp only[]
 repeat (first|(with_reducible first|refine tE ?_|refine iS ?_|refine iO ?_)|go_values|go_skip|go_guarded|go_step|go_upon|go_back|(refine(ZT _ qa _).mono ?_;rintro e w'⟨rfl,rfl⟩;simp only[])|(refine(ZT _ qc _).mono ?_;rintro e w'⟨rfl,rfl⟩;simp only[])|(refine(K2 _ _ _ (Zn _ 32 qa).1 (Zn _ 32 qa).2 (Zn _ 32 qc).1 (Zn _ 32 qc).2 _).mono ?_;rintro e w'⟨rfl,rfl⟩;simp only[])|(refine(ZT _ (YR _ _ (Zn _ 32 qa) (Zn _ 32 qc)) _).mono ?_;rintro e w'⟨rfl,rfl⟩;simp only[]))
 go_ret2
 exact⟨rfl,rfl⟩
theorem Z3u(a c:Int)(qa:InU a)(qc:InU c)(w:World):Calls prog 69 #[.int .i64 63,.int .u64 a,.int .u64 c] w fun e w'=>e=.returned (.tuple #[.int .u64 (Sgn (_root_.Go.Proofs.YtgpdpaljbiclkaaGreatDoor.Quo (Fld a 0 32) (Fld c 0 32) false) 32),.bool true])∧w=w':=by
 have m0:0≤c % 32:=by omega
 have m1:c % 32≤31:=by omega
 have hF:=Lib.hid (Xo c qc.1)
 go_enter func69,ntmps69
 repeat (first|(with_reducible first|refine tE ?_|refine iS ?_|refine iO ?_)|go_values|go_skip|go_guarded|go_step|go_upon|go_back)
 refine(Z3 _ _ _ qc.1 qc.2 _).mono ?_
 rintro e w'⟨rfl,rfl⟩
 rw[hF.out]
 simp only[]
 repeat (first|(with_reducible first|refine tE ?_|refine iS ?_|refine iO ?_)|go_values|go_skip|go_guarded|go_step|go_upon|go_back|(refine(XF _ qa _).mono ?_;rintro e w'⟨rfl,rfl⟩;simp only[])|(refine(XF _ qc _).mono ?_;rintro e w'⟨rfl,rfl⟩;simp only[])|(refine(K2 _ _ _ (ZL _ 0 32 qa).1 (ZL _ 0 32 qa).2 (ZL _ 0 32 qc).1 (ZL _ 0 32 qc).2 _).mono ?_;rintro e w'⟨rfl,rfl⟩;simp only[])|(refine(ZT _ (KM _ _ (ZL _ 0 32 qa) (ZL _ 0 32 qc)) _).mono ?_;rintro e w'⟨rfl,rfl⟩;simp only[]))
 go_ret2
 exact⟨rfl,rfl⟩
theorem Z3v(a c:Int)(qa:InU a)(qc:InU c)(w:World):Calls prog 69 #[.int .i64 64,.int .u64 a,.int .u64 c] w fun e w'=>e=.returned (.tuple #[.int .u64 (Sgn (_root_.Go.Proofs.YtgpdpaljbiclkaaGreatDoor.Rem (Sgn a 32) (Sgn c 32) true) 32),.bool true])∧w=w':=by
 have m0:0≤c % 32:=by omega
 have m1:c % 32≤31:=by omega
 have hF:=Lib.hid (Xo c qc.1)
 go_enter func69,ntmps69
 repeat (first|(with_reducible first|refine tE ?_|refine iS ?_|refine iO ?_)|go_values|go_skip|go_guarded|go_step|go_upon|go_back)
 refine(Z3 _ _ _ qc.1 qc.2 _).mono ?_
 rintro e w'⟨rfl,rfl⟩
 rw[hF.out]
 simp only[]
 repeat (first|(with_reducible first|refine tE ?_|refine iS ?_|refine iO ?_)|go_values|go_skip|go_guarded|go_step|go_upon|go_back|(refine(ZT _ qa _).mono ?_;rintro e w'⟨rfl,rfl⟩;simp only[])|(refine(ZT _ qc _).mono ?_;rintro e w'⟨rfl,rfl⟩;simp only[])|(refine(KF _ _ _ (Zn _ 32 qa).1 (Zn _ 32 qa).2 (Zn _ 32 qc).1 (Zn _ 32 qc).2 _).mono ?_;rintro e w'⟨rfl,rfl⟩;simp only[])|(refine(ZT _ (YS _ _ (Zn _ 32 qa) (Zn _ 32 qc)) _).mono ?_;rintro e w'⟨rfl,rfl⟩;simp only[]))
 go_ret2
 exact⟨rfl,rfl⟩
theorem Z3w(a c:Int)(qa:InU a)(qc:InU c)(w:World):Calls prog 69 #[.int .i64 65,.int .u64 a,.int .u64 c] w fun e w'=>e=.returned (.tuple #[.int .u64 (Sgn (_root_.Go.Proofs.YtgpdpaljbiclkaaGreatDoor.Rem (Fld a 0 32) (Fld c 0 32) false) 32),.bool true])∧w=w':=by
 have m0:0≤c % 32:=by omega
 have m1:c % 32≤31:=by omega
 have hF:=Lib.hid (Xo c qc.1)
 go_enter func69,ntmps69
 repeat (first|(with_reducible first|refine tE ?_|refine iS ?_|refine iO ?_)|go_values|go_skip|go_guarded|go_step|go_upon|go_back)
 refine(Z3 _ _ _ qc.1 qc.2 _).mono ?_
 rintro e w'⟨rfl,rfl⟩
 rw[hF.out]
 simp only[]
 repeat (first|(with_reducible first|refine tE ?_|refine iS ?_|refine iO ?_)|go_values|go_skip|go_guarded|go_step|go_upon|go_back|(refine(XF _ qa _).mono ?_;rintro e w'⟨rfl,rfl⟩;simp only[])|(refine(XF _ qc _).mono ?_;rintro e w'⟨rfl,rfl⟩;simp only[])|(refine(KF _ _ _ (ZL _ 0 32 qa).1 (ZL _ 0 32 qa).2 (ZL _ 0 32 qc).1 (ZL _ 0 32 qc).2 _).mono ?_;rintro e w'⟨rfl,rfl⟩;simp only[])|(refine(ZT _ (KN _ _ (ZL _ 0 32 qa) (ZL _ 0 32 qc)) _).mono ?_;rintro e w'⟨rfl,rfl⟩;simp only[]))
 go_ret2
 exact⟨rfl,rfl⟩
theorem Yk(op a c:Int)(h:op≠45∧op≠41∧op≠46∧op≠47∧op≠42∧op≠48∧op≠43∧op≠49∧op≠44∧op≠61∧op≠62∧op≠63∧op≠64∧op≠65)(qa:InU a)(qc:InU c)(w:World):Calls prog 69 #[.int .i64 op,.int .u64 a,.int .u64 c] w fun e w'=>e=.returned (.tuple #[.int .u64 0,.bool false])∧w=w':=by
 have e45:(op==45)=false:=nB (by omega)
 have e41:(op==41)=false:=nB (by omega)
 have e46:(op==46)=false:=nB (by omega)
 have e47:(op==47)=false:=nB (by omega)
 have e42:(op==42)=false:=nB (by omega)
 have e48:(op==48)=false:=nB (by omega)
 have e43:(op==43)=false:=nB (by omega)
 have e49:(op==49)=false:=nB (by omega)
 have e44:(op==44)=false:=nB (by omega)
 have e61:(op==61)=false:=nB (by omega)
 have e62:(op==62)=false:=nB (by omega)
 have e63:(op==63)=false:=nB (by omega)
 have e64:(op==64)=false:=nB (by omega)
 have e65:(op==65)=false:=nB (by omega)
 clear h
 have m0:0≤c % 32:=by omega
 have m1:c % 32≤31:=by omega
 have hF:=Lib.hid (Xo c qc.1)
 go_enter func69,ntmps69
 repeat (first|(with_reducible first|refine tE ?_|refine iS ?_|refine iO ?_)|go_values|go_skip|go_guarded|go_step|go_upon|go_back)
 refine(Z3 _ _ _ qc.1 qc.2 _).mono ?_
 rintro e w'⟨rfl,rfl⟩
 rw[hF.out]
 simp only[]
 repeat (first|(with_reducible first|refine tE ?_|refine iS ?_|refine iO ?_)|go_values|go_skip|go_guarded|go_step|go_upon|go_back)
 go_ret2
 exact⟨rfl,rfl⟩
end Go.Proofs.YtgpdpaljbiclkaaGreatDoor
end
section
namespace Go.Proofs.YtgpdpaljbiclkaaGreatDoor
open _root_.Go.Proofs.Tryz
open Go.RowKit
set_option linter.unusedVariables false
theorem Z7M(a c:Int)(qa:InU a)(qc:InU c)(w:World):Calls prog 70 #[.int .i64 53,.int .u64 a,.int .u64 c] w fun e w'=>e=.returned (.tuple #[.int .u64 (IntKind.u64.wrap (a*c)),.bool true])∧w=w':=by
 go_enter func70,ntmps70
 repeat (first|(with_reducible first|refine tE ?_|refine iS ?_|refine iO ?_)|go_values|go_skip|go_guarded|go_step|go_upon|go_back)
 go_ret2
 exact⟨rfl,rfl⟩
theorem Z7N(a c:Int)(qa:InU a)(qc:InU c)(w:World):Calls prog 70 #[.int .i64 54,.int .u64 a,.int .u64 c] w fun e w'=>e=.returned (.tuple #[.int .u64 (Hgh a c true true),.bool true])∧w=w':=by
 go_enter func70,ntmps70
 repeat (first|(with_reducible first|refine tE ?_|refine iS ?_|refine iO ?_)|go_values|go_skip|go_guarded|go_step|go_upon|go_back|(refine(J3 _ _ _ _ qa.1 qa.2 qc.1 qc.2 _).mono ?_;rintro e w'⟨rfl,rfl⟩;simp only[]))
 go_ret2
 exact⟨rfl,rfl⟩
theorem Z7O(a c:Int)(qa:InU a)(qc:InU c)(w:World):Calls prog 70 #[.int .i64 55,.int .u64 a,.int .u64 c] w fun e w'=>e=.returned (.tuple #[.int .u64 (Hgh a c true false),.bool true])∧w=w':=by
 go_enter func70,ntmps70
 repeat (first|(with_reducible first|refine tE ?_|refine iS ?_|refine iO ?_)|go_values|go_skip|go_guarded|go_step|go_upon|go_back|(refine(J3 _ _ _ _ qa.1 qa.2 qc.1 qc.2 _).mono ?_;rintro e w'⟨rfl,rfl⟩;simp only[]))
 go_ret2
 exact⟨rfl,rfl⟩
theorem Z7P(a c:Int)(qa:InU a)(qc:InU c)(w:World):Calls prog 70 #[.int .i64 56,.int .u64 a,.int .u64 c] w fun e w'=>e=.returned (.tuple #[.int .u64 (Hgh a c false false),.bool true])∧w=w':=by
 go_enter func70,ntmps70
 repeat (first|(with_reducible first|refine tE ?_|refine iS ?_|refine iO ?_)|go_values|go_skip|go_guarded|go_step|go_upon|go_back|(refine(J3 _ _ _ _ qa.1 qa.2 qc.1 qc.2 _).mono ?_;rintro e w'⟨rfl,rfl⟩;simp only[]))
 go_ret2
 exact⟨rfl,rfl⟩
theorem Z7Q(a c:Int)(qa:InU a)(qc:InU c)(w:World):Calls prog 70 #[.int .i64 57,.int .u64 a,.int .u64 c] w fun e w'=>e=.returned (.tuple #[.int .u64 (_root_.Go.Proofs.YtgpdpaljbiclkaaGreatDoor.Quo a c true),.bool true])∧w=w':=by
 go_enter func70,ntmps70
 repeat (first|(with_reducible first|refine tE ?_|refine iS ?_|refine iO ?_)|go_values|go_skip|go_guarded|go_step|go_upon|go_back|(refine(K2 _ _ _ qa.1 qa.2 qc.1 qc.2 _).mono ?_;rintro e w'⟨rfl,rfl⟩;simp only[]))
 go_ret2
 exact⟨rfl,rfl⟩
theorem Z7R(a c:Int)(qa:InU a)(qc:InU c)(w:World):Calls prog 70 #[.int .i64 58,.int .u64 a,.int .u64 c] w fun e w'=>e=.returned (.tuple #[.int .u64 (_root_.Go.Proofs.YtgpdpaljbiclkaaGreatDoor.Quo a c false),.bool true])∧w=w':=by
 go_enter func70,ntmps70
 repeat (first|(with_reducible first|refine tE ?_|refine iS ?_|refine iO ?_)|go_values|go_skip|go_guarded|go_step|go_upon|go_back|(refine(K2 _ _ _ qa.1 qa.2 qc.1 qc.2 _).mono ?_;rintro e w'⟨rfl,rfl⟩;simp only[]))
 go_ret2
 exact⟨rfl,rfl⟩
theorem Z7S(a c:Int)(qa:InU a)(qc:InU c)(w:World):Calls prog 70 #[.int .i64 59,.int .u64 a,.int .u64 c] w fun e w'=>e=.returned (.tuple #[.int .u64 (_root_.Go.Proofs.YtgpdpaljbiclkaaGreatDoor.Rem a c true),.bool true])∧w=w':=by
 go_enter func70,ntmps70
 repeat (first|(with_reducible first|refine tE ?_|refine iS ?_|refine iO ?_)|go_values|go_skip|go_guarded|go_step|go_upon|go_back|(refine(KF _ _ _ qa.1 qa.2 qc.1 qc.2 _).mono ?_;rintro e w'⟨rfl,rfl⟩;simp only[]))
 go_ret2
 exact⟨rfl,rfl⟩
theorem Z7T(a c:Int)(qa:InU a)(qc:InU c)(w:World):Calls prog 70 #[.int .i64 60,.int .u64 a,.int .u64 c] w fun e w'=>e=.returned (.tuple #[.int .u64 (_root_.Go.Proofs.YtgpdpaljbiclkaaGreatDoor.Rem a c false),.bool true])∧w=w':=by
 go_enter func70,ntmps70
 repeat (first|(with_reducible first|refine tE ?_|refine iS ?_|refine iO ?_)|go_values|go_skip|go_guarded|go_step|go_upon|go_back|(refine(KF _ _ _ qa.1 qa.2 qc.1 qc.2 _).mono ?_;rintro e w'⟨rfl,rfl⟩;simp only[]))
 go_ret2
 exact⟨rfl,rfl⟩
theorem Z0l(op a c:Int)(h:op≠53∧op≠54∧op≠55∧op≠56∧op≠57∧op≠58∧op≠59∧op≠60)(qa:InU a)(qc:InU c)(w:World):Calls prog 70 #[.int .i64 op,.int .u64 a,.int .u64 c] w fun e w'=>e=.returned (.tuple #[.int .u64 0,.bool false])∧w=w':=by
 have e53:(op==53)=false:=nB (by omega)
 have e54:(op==54)=false:=nB (by omega)
 have e55:(op==55)=false:=nB (by omega)
 have e56:(op==56)=false:=nB (by omega)
 have e57:(op==57)=false:=nB (by omega)
 have e58:(op==58)=false:=nB (by omega)
 have e59:(op==59)=false:=nB (by omega)
 have e60:(op==60)=false:=nB (by omega)
 clear h
 go_enter func70,ntmps70
 repeat (first|(with_reducible first|refine tE ?_|refine iS ?_|refine iO ?_)|go_values|go_skip|go_guarded|go_step|go_upon|go_back)
 go_ret2
 exact⟨rfl,rfl⟩
end Go.Proofs.YtgpdpaljbiclkaaGreatDoor
end

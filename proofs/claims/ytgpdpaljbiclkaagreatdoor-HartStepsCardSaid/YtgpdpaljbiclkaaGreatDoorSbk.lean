/-
  Proved here: what the reference says is stored. Conditions: the numbers are words.
-/
import Derived.Test.YtgpdpaljbiclkaaGreatDoorSzz
import Derived.Test.YtgpdpaljbiclkaaGreatDoorSbf
set_option maxHeartbeats 1000000
set_option maxRecDepth 100000
namespace Go.Proofs.YtgpdpaljbiclkaaGreatDoor
open _root_.Go.Proofs.Tryz
open Go.RowKit
set_option linter.unusedVariables false
theorem Z5w(b:Int)(q:InU b):Fld (Sgn b 8) 0 8=Fld b 0 8:=by
 obtain⟨n,rfl⟩:=Int.eq_ofNat_of_zero_le q.1
 rw[Z1x _ 8 (Zn _ 8 q).1 (by decide) (by decide),Z1x _ 8 q.1 (by decide) (by decide),←YH _ 8 (by decide) (by decide),Int.toNat_natCast]
 have e:(2:Nat) ^ ((8:Int).toNat-1)=128:=by decide
 rw[e,show(((2 ^ (8:Int).toNat:Nat)):Int)=256 from by decide]
 unfold sgh
 split<;>omega
theorem Z3E(b:Int)(q:InU b):Fld (Sgn b 16) 0 16=Fld b 0 16:=by
 obtain⟨n,rfl⟩:=Int.eq_ofNat_of_zero_le q.1
 rw[Z1x _ 16 (Zn _ 16 q).1 (by decide) (by decide),Z1x _ 16 q.1 (by decide) (by decide),←YH _ 16 (by decide) (by decide),Int.toNat_natCast]
 have e:(2:Nat) ^ ((16:Int).toNat-1)=32768:=by decide
 rw[e,show(((2 ^ (16:Int).toNat:Nat)):Int)=65536 from by decide]
 unfold sgh
 split<;>omega
theorem Ja(b:Int)(q:InU b):Fld (Sgn b 32) 0 32=Fld b 0 32:=by rw[XD _ (Zn _ 32 q).1,XD _ q.1,K5 b q.1]
theorem Z8a(a c:Int)(qa:InU a)(qc:InU c):Fld (IntKind.u64.wrap (Sgn a 32+Sgn c 32)) 0 32=Fld (IntKind.u64.wrap (a+c)) 0 32:=by
 have h1:=K5 a qa.1
 have h2:=K5 c qc.1
 rw[XD _ (ZF _).1,XD _ (ZF _).1,wU,wU];omega
theorem Xl(a:Int)(qa:InU a):(Sgn a 32).toNat % 4294967296=a.toNat % 4294967296:=by
 have h:=K5 a qa.1
 have h1:=(Zn a 32 qa).1
 have h2:=qa.1
 omega
theorem Z8b(a c:Int)(qa:InU a)(qc:InU c):Fld (bits .xor .u64 (Sgn a 32) (Sgn c 32)) 0 32=Fld (bits .xor .u64 a c) 0 32:=by
 have p:=Zn a 32 qa
 have r:=Zn c 32 qc
 rw[XD _ (XN _ _ p r).1,XD _ (XN _ _ qa qc).1,u64_xor _ _ p.1 p.2 r.1 r.2,u64_xor a c qa.1 qa.2 qc.1 qc.2]
 have h:((Sgn a 32).toNat ^^^ (Sgn c 32).toNat) % 2 ^ 32=(a.toNat ^^^ c.toNat) % 2 ^ 32:=by
  rw[Nat.xor_mod_two_pow,Nat.xor_mod_two_pow (a:=a.toNat),show(2:Nat) ^ 32=4294967296 from by decide,Xl a qa,Xl c qc]
 rw[show(2:Nat) ^ 32=4294967296 from by decide] at h
 omega
theorem Z8c(a c:Int)(qa:InU a)(qc:InU c):Fld (bits .and .u64 (Sgn a 32) (Sgn c 32)) 0 32=Fld (bits .and .u64 a c) 0 32:=by
 have p:=Zn a 32 qa
 have r:=Zn c 32 qc
 rw[XD _ (XM _ _ p r).1,XD _ (XM _ _ qa qc).1,u64_and _ _ p.1 p.2 r.1 r.2,u64_and a c qa.1 qa.2 qc.1 qc.2]
 have h:((Sgn a 32).toNat &&& (Sgn c 32).toNat) % 2 ^ 32=(a.toNat &&& c.toNat) % 2 ^ 32:=by
  rw[Nat.and_mod_two_pow,Nat.and_mod_two_pow (a:=a.toNat),show(2:Nat) ^ 32=4294967296 from by decide,Xl a qa,Xl c qc]
 rw[show(2:Nat) ^ 32=4294967296 from by decide] at h
 omega
theorem fld_or(a c:Int)(qa:InU a)(qc:InU c):Fld (bits .or .u64 (Sgn a 32) (Sgn c 32)) 0 32=Fld (bits .or .u64 a c) 0 32:=by
 have p:=Zn a 32 qa
 have r:=Zn c 32 qc
 rw[XD _ (KK _ _ p r).1,XD _ (KK _ _ qa qc).1,u64_or _ _ p.1 p.2 r.1 r.2,u64_or a c qa.1 qa.2 qc.1 qc.2]
 have h:((Sgn a 32).toNat|||(Sgn c 32).toNat) % 2 ^ 32=(a.toNat|||c.toNat) % 2 ^ 32:=by
  rw[Nat.or_mod_two_pow,Nat.or_mod_two_pow (a:=a.toNat),show(2:Nat) ^ 32=4294967296 from by decide,Xl a qa,Xl c qc]
 rw[show(2:Nat) ^ 32=4294967296 from by decide] at h
 omega
theorem Ka(x y:Int):ZW true x y=x:=rfl
theorem Kb(x y:Int):ZW false x y=y:=rfl
theorem Z8d(x y:Int)(qx:InU x)(qy:InU y)(h1:LtS x y=false)(h2:LtS y x=false):x=y:=by
 unfold LtS S64 wrap64 at h1 h2
 have:=qx.1;have:=qx.2;have:=qy.1;have:=qy.2
 simp at h1 h2
 omega
theorem Z3F(x y:Int)(h:LtS x y=true):LtS y x=false:=by
 unfold LtS at*
 simp at*
 omega
theorem Z1S(x y:Int)(qx:InU x)(qy:InU y):ZW (LtS y x) x y=ZW (LtS x y) y x:=by
 unfold ZW
 cases h1:LtS x y
 ·cases h2:LtS y x
  ·simp;exact(Z8d x y qx qy h1 h2).symm
  ·simp
 ·rw[Z3F x y h1];simp
theorem rst_18(old b:Int)(qo:InU old)(qb:InU b)(HL:Hid (∀w,Calls prog 64 #[.int .i64 18] w fun e w'=>e=.returned (.bool true)∧w=w'))(HS:Hid (∀w,Calls prog 30 #[.int .i64 18] w fun e w'=>e=.returned (.int .i64 1)∧w=w'))(w:World):
  Calls prog 62 #[.int .i64 18,.int .u64 old,.int .u64 b] w fun e w'=>e=.returned (.int .u64 (Fld b 0 8))∧w=w':=by
 have HE:Hid (Fld ((Sgn b 8)) 0 8=Fld b 0 8):=Lib.hid (Z5w b qb)
 have QV:InU ((Sgn b 8)):=(Zn _ 8 qb)
 go_enter func62,ntmps62
 repeat (first|(with_reducible first|refine tE ?_|refine iS ?_|refine iO ?_)|go_values|go_skip|go_guarded|go_step|go_upon|go_back)
 refine(HL.out _).mono ?_
 rintro e w'⟨rfl,rfl⟩
 simp only[]
 repeat (first|(with_reducible first|refine tE ?_|refine iS ?_|refine iO ?_)|go_values|go_skip|go_guarded|go_step|go_upon|go_back)
 refine(HS.out _).mono ?_
 rintro e w'⟨rfl,rfl⟩
 simp only[]
 repeat (first|(with_reducible first|refine tE ?_|refine iS ?_|refine iO ?_)|go_values|go_skip|go_guarded|go_step|go_upon|go_back)
 refine(Zi _ _ qo.1 qo.2 _).mono ?_
 rintro e w'⟨rfl,rfl⟩
 simp only[]
 repeat (first|(with_reducible first|refine tE ?_|refine iS ?_|refine iO ?_)|go_values|go_skip|go_guarded|go_step|go_upon|go_back)
 refine(Zi _ _ qb.1 qb.2 _).mono ?_
 rintro e w'⟨rfl,rfl⟩
 simp only[]
 repeat (first|(with_reducible first|refine tE ?_|refine iS ?_|refine iO ?_)|go_values|go_skip|go_guarded|go_step|go_upon|go_back)
 refine(Z3 _ _ _ qo.1 qo.2 _).mono ?_
 rintro e w'⟨rfl,rfl⟩
 simp only[]
 repeat (first|(with_reducible first|refine tE ?_|refine iS ?_|refine iO ?_)|go_values|go_skip|go_guarded|go_step|go_upon|go_back)
 refine(Z3 _ _ _ qb.1 qb.2 _).mono ?_
 rintro e w'⟨rfl,rfl⟩
 simp only[]
 repeat (first|(with_reducible first|refine tE ?_|refine iS ?_|refine iO ?_)|go_values|go_skip|go_guarded|go_step|go_upon|go_back)
 refine(Z3 _ _ _ QV.1 QV.2 _).mono ?_
 rintro e w'⟨rfl,rfl⟩
 simp only[]
 repeat (first|(with_reducible first|refine tE ?_|refine iS ?_|refine iO ?_)|go_values|go_skip|go_guarded|go_step|go_upon|go_back)
 go_ret
 exact⟨Zm HE.out,rfl⟩
theorem rst_19(old b:Int)(qo:InU old)(qb:InU b)(HL:Hid (∀w,Calls prog 64 #[.int .i64 19] w fun e w'=>e=.returned (.bool true)∧w=w'))(HS:Hid (∀w,Calls prog 30 #[.int .i64 19] w fun e w'=>e=.returned (.int .i64 2)∧w=w'))(w:World):
  Calls prog 62 #[.int .i64 19,.int .u64 old,.int .u64 b] w fun e w'=>e=.returned (.int .u64 (Fld b 0 16))∧w=w':=by
 have HE:Hid (Fld ((Sgn b 16)) 0 16=Fld b 0 16):=Lib.hid (Z3E b qb)
 have QV:InU ((Sgn b 16)):=(Zn _ 16 qb)
 go_enter func62,ntmps62
 repeat (first|(with_reducible first|refine tE ?_|refine iS ?_|refine iO ?_)|go_values|go_skip|go_guarded|go_step|go_upon|go_back)
 refine(HL.out _).mono ?_
 rintro e w'⟨rfl,rfl⟩
 simp only[]
 repeat (first|(with_reducible first|refine tE ?_|refine iS ?_|refine iO ?_)|go_values|go_skip|go_guarded|go_step|go_upon|go_back)
 refine(HS.out _).mono ?_
 rintro e w'⟨rfl,rfl⟩
 simp only[]
 repeat (first|(with_reducible first|refine tE ?_|refine iS ?_|refine iO ?_)|go_values|go_skip|go_guarded|go_step|go_upon|go_back)
 refine(Zi _ _ qo.1 qo.2 _).mono ?_
 rintro e w'⟨rfl,rfl⟩
 simp only[]
 repeat (first|(with_reducible first|refine tE ?_|refine iS ?_|refine iO ?_)|go_values|go_skip|go_guarded|go_step|go_upon|go_back)
 refine(Zi _ _ qb.1 qb.2 _).mono ?_
 rintro e w'⟨rfl,rfl⟩
 simp only[]
 repeat (first|(with_reducible first|refine tE ?_|refine iS ?_|refine iO ?_)|go_values|go_skip|go_guarded|go_step|go_upon|go_back)
 refine(Z3 _ _ _ qo.1 qo.2 _).mono ?_
 rintro e w'⟨rfl,rfl⟩
 simp only[]
 repeat (first|(with_reducible first|refine tE ?_|refine iS ?_|refine iO ?_)|go_values|go_skip|go_guarded|go_step|go_upon|go_back)
 refine(Z3 _ _ _ qb.1 qb.2 _).mono ?_
 rintro e w'⟨rfl,rfl⟩
 simp only[]
 repeat (first|(with_reducible first|refine tE ?_|refine iS ?_|refine iO ?_)|go_values|go_skip|go_guarded|go_step|go_upon|go_back)
 refine(Z3 _ _ _ QV.1 QV.2 _).mono ?_
 rintro e w'⟨rfl,rfl⟩
 simp only[]
 repeat (first|(with_reducible first|refine tE ?_|refine iS ?_|refine iO ?_)|go_values|go_skip|go_guarded|go_step|go_upon|go_back)
 go_ret
 exact⟨Zm HE.out,rfl⟩
theorem rst_20(old b:Int)(qo:InU old)(qb:InU b)(HL:Hid (∀w,Calls prog 64 #[.int .i64 20] w fun e w'=>e=.returned (.bool true)∧w=w'))(HS:Hid (∀w,Calls prog 30 #[.int .i64 20] w fun e w'=>e=.returned (.int .i64 4)∧w=w'))(w:World):
  Calls prog 62 #[.int .i64 20,.int .u64 old,.int .u64 b] w fun e w'=>e=.returned (.int .u64 (Fld b 0 32))∧w=w':=by
 have HE:Hid (Fld ((Sgn b 32)) 0 32=Fld b 0 32):=Lib.hid (Ja b qb)
 have QV:InU ((Sgn b 32)):=(Zn _ 32 qb)
 go_enter func62,ntmps62
 repeat (first|(with_reducible first|refine tE ?_|refine iS ?_|refine iO ?_)|go_values|go_skip|go_guarded|go_step|go_upon|go_back)
 refine(HL.out _).mono ?_
 rintro e w'⟨rfl,rfl⟩
 simp only[]
 repeat (first|(with_reducible first|refine tE ?_|refine iS ?_|refine iO ?_)|go_values|go_skip|go_guarded|go_step|go_upon|go_back)
 refine(HS.out _).mono ?_
 rintro e w'⟨rfl,rfl⟩
 simp only[]
 repeat (first|(with_reducible first|refine tE ?_|refine iS ?_|refine iO ?_)|go_values|go_skip|go_guarded|go_step|go_upon|go_back)
 refine(Zi _ _ qo.1 qo.2 _).mono ?_
 rintro e w'⟨rfl,rfl⟩
 simp only[]
 repeat (first|(with_reducible first|refine tE ?_|refine iS ?_|refine iO ?_)|go_values|go_skip|go_guarded|go_step|go_upon|go_back)
 refine(Zi _ _ qb.1 qb.2 _).mono ?_
 rintro e w'⟨rfl,rfl⟩
 simp only[]
 repeat (first|(with_reducible first|refine tE ?_|refine iS ?_|refine iO ?_)|go_values|go_skip|go_guarded|go_step|go_upon|go_back)
 refine(Z3 _ _ _ qo.1 qo.2 _).mono ?_
 rintro e w'⟨rfl,rfl⟩
 simp only[]
 repeat (first|(with_reducible first|refine tE ?_|refine iS ?_|refine iO ?_)|go_values|go_skip|go_guarded|go_step|go_upon|go_back)
 refine(Z3 _ _ _ qb.1 qb.2 _).mono ?_
 rintro e w'⟨rfl,rfl⟩
 simp only[]
 repeat (first|(with_reducible first|refine tE ?_|refine iS ?_|refine iO ?_)|go_values|go_skip|go_guarded|go_step|go_upon|go_back)
 refine(Z3 _ _ _ QV.1 QV.2 _).mono ?_
 rintro e w'⟨rfl,rfl⟩
 simp only[]
 repeat (first|(with_reducible first|refine tE ?_|refine iS ?_|refine iO ?_)|go_values|go_skip|go_guarded|go_step|go_upon|go_back)
 go_ret
 exact⟨Zm HE.out,rfl⟩
theorem rst_21(old b:Int)(qo:InU old)(qb:InU b)(HL:Hid (∀w,Calls prog 64 #[.int .i64 21] w fun e w'=>e=.returned (.bool true)∧w=w'))(HS:Hid (∀w,Calls prog 30 #[.int .i64 21] w fun e w'=>e=.returned (.int .i64 8)∧w=w'))(w:World):
  Calls prog 62 #[.int .i64 21,.int .u64 old,.int .u64 b] w fun e w'=>e=.returned (.int .u64 (Fld b 0 64))∧w=w':=by
 have HE:Hid (Fld (b) 0 64=Fld b 0 64):=Lib.hid (rfl)
 have QV:InU (b):=qb
 have g1:=Lib.hid (ZS old)
 have g2:=Lib.hid (ZS b)
 have g3:=Lib.hid (YN old qo)
 have g4:=Lib.hid (YN b qb)
 go_enter func62,ntmps62
 repeat (first|(with_reducible first|refine tE ?_|refine iS ?_|refine iO ?_)|go_values|go_skip|go_guarded|go_step|go_upon|go_back)
 refine(HL.out _).mono ?_
 rintro e w'⟨rfl,rfl⟩
 simp only[]
 repeat (first|(with_reducible first|refine tE ?_|refine iS ?_|refine iO ?_)|go_values|go_skip|go_guarded|go_step|go_upon|go_back)
 refine(HS.out _).mono ?_
 rintro e w'⟨rfl,rfl⟩
 simp only[]
 repeat (first|(with_reducible first|refine tE ?_|refine iS ?_|refine iO ?_)|go_values|go_skip|go_guarded|go_step|go_upon|go_back)
 refine(Zi _ _ qo.1 qo.2 _).mono ?_
 rintro e w'⟨rfl,rfl⟩
 rw[g1.out]
 simp only[]
 repeat (first|(with_reducible first|refine tE ?_|refine iS ?_|refine iO ?_)|go_values|go_skip|go_guarded|go_step|go_upon|go_back)
 refine(Zi _ _ qb.1 qb.2 _).mono ?_
 rintro e w'⟨rfl,rfl⟩
 rw[g2.out]
 simp only[]
 repeat (first|(with_reducible first|refine tE ?_|refine iS ?_|refine iO ?_)|go_values|go_skip|go_guarded|go_step|go_upon|go_back)
 refine(Z3 _ _ _ qo.1 qo.2 _).mono ?_
 rintro e w'⟨rfl,rfl⟩
 rw[g3.out]
 simp only[]
 repeat (first|(with_reducible first|refine tE ?_|refine iS ?_|refine iO ?_)|go_values|go_skip|go_guarded|go_step|go_upon|go_back)
 refine(Z3 _ _ _ qb.1 qb.2 _).mono ?_
 rintro e w'⟨rfl,rfl⟩
 rw[g4.out]
 simp only[]
 repeat (first|(with_reducible first|refine tE ?_|refine iS ?_|refine iO ?_)|go_values|go_skip|go_guarded|go_step|go_upon|go_back)
 refine(Z3 _ _ _ QV.1 QV.2 _).mono ?_
 rintro e w'⟨rfl,rfl⟩
 simp only[]
 repeat (first|(with_reducible first|refine tE ?_|refine iS ?_|refine iO ?_)|go_values|go_skip|go_guarded|go_step|go_upon|go_back)
 go_ret
 exact⟨Zm HE.out,rfl⟩
theorem rst_67(old b:Int)(qo:InU old)(qb:InU b)(HL:Hid (∀w,Calls prog 64 #[.int .i64 67] w fun e w'=>e=.returned (.bool true)∧w=w'))(HS:Hid (∀w,Calls prog 30 #[.int .i64 67] w fun e w'=>e=.returned (.int .i64 4)∧w=w'))(w:World):
  Calls prog 62 #[.int .i64 67,.int .u64 old,.int .u64 b] w fun e w'=>e=.returned (.int .u64 (Fld b 0 32))∧w=w':=by
 have HE:Hid (Fld ((Sgn b 32)) 0 32=Fld b 0 32):=Lib.hid (Ja b qb)
 have QV:InU ((Sgn b 32)):=(Zn _ 32 qb)
 go_enter func62,ntmps62
 repeat (first|(with_reducible first|refine tE ?_|refine iS ?_|refine iO ?_)|go_values|go_skip|go_guarded|go_step|go_upon|go_back)
 refine(HL.out _).mono ?_
 rintro e w'⟨rfl,rfl⟩
 simp only[]
 repeat (first|(with_reducible first|refine tE ?_|refine iS ?_|refine iO ?_)|go_values|go_skip|go_guarded|go_step|go_upon|go_back)
 refine(HS.out _).mono ?_
 rintro e w'⟨rfl,rfl⟩
 simp only[]
 repeat (first|(with_reducible first|refine tE ?_|refine iS ?_|refine iO ?_)|go_values|go_skip|go_guarded|go_step|go_upon|go_back)
 refine(Zi _ _ qo.1 qo.2 _).mono ?_
 rintro e w'⟨rfl,rfl⟩
 simp only[]
 repeat (first|(with_reducible first|refine tE ?_|refine iS ?_|refine iO ?_)|go_values|go_skip|go_guarded|go_step|go_upon|go_back)
 refine(Zi _ _ qb.1 qb.2 _).mono ?_
 rintro e w'⟨rfl,rfl⟩
 simp only[]
 repeat (first|(with_reducible first|refine tE ?_|refine iS ?_|refine iO ?_)|go_values|go_skip|go_guarded|go_step|go_upon|go_back)
 refine(Z3 _ _ _ qo.1 qo.2 _).mono ?_
 rintro e w'⟨rfl,rfl⟩
 simp only[]
 repeat (first|(with_reducible first|refine tE ?_|refine iS ?_|refine iO ?_)|go_values|go_skip|go_guarded|go_step|go_upon|go_back)
 refine(Z3 _ _ _ qb.1 qb.2 _).mono ?_
 rintro e w'⟨rfl,rfl⟩
 simp only[]
 repeat (first|(with_reducible first|refine tE ?_|refine iS ?_|refine iO ?_)|go_values|go_skip|go_guarded|go_step|go_upon|go_back)
 refine(Z3 _ _ _ QV.1 QV.2 _).mono ?_
 rintro e w'⟨rfl,rfl⟩
 simp only[]
 repeat (first|(with_reducible first|refine tE ?_|refine iS ?_|refine iO ?_)|go_values|go_skip|go_guarded|go_step|go_upon|go_back)
 go_ret
 exact⟨Zm HE.out,rfl⟩
theorem rst_68(old b:Int)(qo:InU old)(qb:InU b)(HL:Hid (∀w,Calls prog 64 #[.int .i64 68] w fun e w'=>e=.returned (.bool true)∧w=w'))(HS:Hid (∀w,Calls prog 30 #[.int .i64 68] w fun e w'=>e=.returned (.int .i64 4)∧w=w'))(w:World):
  Calls prog 62 #[.int .i64 68,.int .u64 old,.int .u64 b] w fun e w'=>e=.returned (.int .u64 (Fld b 0 32))∧w=w':=by
 have HE:Hid (Fld ((Sgn b 32)) 0 32=Fld b 0 32):=Lib.hid (Ja b qb)
 have QV:InU ((Sgn b 32)):=(Zn _ 32 qb)
 go_enter func62,ntmps62
 repeat (first|(with_reducible first|refine tE ?_|refine iS ?_|refine iO ?_)|go_values|go_skip|go_guarded|go_step|go_upon|go_back)
 refine(HL.out _).mono ?_
 rintro e w'⟨rfl,rfl⟩
 simp only[]
 repeat (first|(with_reducible first|refine tE ?_|refine iS ?_|refine iO ?_)|go_values|go_skip|go_guarded|go_step|go_upon|go_back)
 refine(HS.out _).mono ?_
 rintro e w'⟨rfl,rfl⟩
 simp only[]
 repeat (first|(with_reducible first|refine tE ?_|refine iS ?_|refine iO ?_)|go_values|go_skip|go_guarded|go_step|go_upon|go_back)
 refine(Zi _ _ qo.1 qo.2 _).mono ?_
 rintro e w'⟨rfl,rfl⟩
 simp only[]
 repeat (first|(with_reducible first|refine tE ?_|refine iS ?_|refine iO ?_)|go_values|go_skip|go_guarded|go_step|go_upon|go_back)
 refine(Zi _ _ qb.1 qb.2 _).mono ?_
 rintro e w'⟨rfl,rfl⟩
 simp only[]
 repeat (first|(with_reducible first|refine tE ?_|refine iS ?_|refine iO ?_)|go_values|go_skip|go_guarded|go_step|go_upon|go_back)
 refine(Z3 _ _ _ qo.1 qo.2 _).mono ?_
 rintro e w'⟨rfl,rfl⟩
 simp only[]
 repeat (first|(with_reducible first|refine tE ?_|refine iS ?_|refine iO ?_)|go_values|go_skip|go_guarded|go_step|go_upon|go_back)
 refine(Z3 _ _ _ qb.1 qb.2 _).mono ?_
 rintro e w'⟨rfl,rfl⟩
 simp only[]
 repeat (first|(with_reducible first|refine tE ?_|refine iS ?_|refine iO ?_)|go_values|go_skip|go_guarded|go_step|go_upon|go_back)
 refine(Z3 _ _ _ QV.1 QV.2 _).mono ?_
 rintro e w'⟨rfl,rfl⟩
 simp only[]
 repeat (first|(with_reducible first|refine tE ?_|refine iS ?_|refine iO ?_)|go_values|go_skip|go_guarded|go_step|go_upon|go_back)
 go_ret
 exact⟨Zm HE.out,rfl⟩
theorem rst_69(old b:Int)(qo:InU old)(qb:InU b)(HL:Hid (∀w,Calls prog 64 #[.int .i64 69] w fun e w'=>e=.returned (.bool true)∧w=w'))(HS:Hid (∀w,Calls prog 30 #[.int .i64 69] w fun e w'=>e=.returned (.int .i64 4)∧w=w'))(w:World):
  Calls prog 62 #[.int .i64 69,.int .u64 old,.int .u64 b] w fun e w'=>e=.returned (.int .u64 (Fld (IntKind.u64.wrap (old+b)) 0 32))∧w=w':=by
 have HE:Hid (Fld (IntKind.u64.wrap ((Sgn old 32)+(Sgn b 32))) 0 32=Fld (IntKind.u64.wrap (old+b)) 0 32):=Lib.hid (Z8a old b qo qb)
 have QV:InU (IntKind.u64.wrap ((Sgn old 32)+(Sgn b 32))):=ZF _
 go_enter func62,ntmps62
 repeat (first|(with_reducible first|refine tE ?_|refine iS ?_|refine iO ?_)|go_values|go_skip|go_guarded|go_step|go_upon|go_back)
 refine(HL.out _).mono ?_
 rintro e w'⟨rfl,rfl⟩
 simp only[]
 repeat (first|(with_reducible first|refine tE ?_|refine iS ?_|refine iO ?_)|go_values|go_skip|go_guarded|go_step|go_upon|go_back)
 refine(HS.out _).mono ?_
 rintro e w'⟨rfl,rfl⟩
 simp only[]
 repeat (first|(with_reducible first|refine tE ?_|refine iS ?_|refine iO ?_)|go_values|go_skip|go_guarded|go_step|go_upon|go_back)
 refine(Zi _ _ qo.1 qo.2 _).mono ?_
 rintro e w'⟨rfl,rfl⟩
 simp only[]
 repeat (first|(with_reducible first|refine tE ?_|refine iS ?_|refine iO ?_)|go_values|go_skip|go_guarded|go_step|go_upon|go_back)
 refine(Zi _ _ qb.1 qb.2 _).mono ?_
 rintro e w'⟨rfl,rfl⟩
 simp only[]
 repeat (first|(with_reducible first|refine tE ?_|refine iS ?_|refine iO ?_)|go_values|go_skip|go_guarded|go_step|go_upon|go_back)
 refine(Z3 _ _ _ qo.1 qo.2 _).mono ?_
 rintro e w'⟨rfl,rfl⟩
 simp only[]
 repeat (first|(with_reducible first|refine tE ?_|refine iS ?_|refine iO ?_)|go_values|go_skip|go_guarded|go_step|go_upon|go_back)
 refine(Z3 _ _ _ qb.1 qb.2 _).mono ?_
 rintro e w'⟨rfl,rfl⟩
 simp only[]
 repeat (first|(with_reducible first|refine tE ?_|refine iS ?_|refine iO ?_)|go_values|go_skip|go_guarded|go_step|go_upon|go_back)
 refine(Z3 _ _ _ QV.1 QV.2 _).mono ?_
 rintro e w'⟨rfl,rfl⟩
 simp only[]
 repeat (first|(with_reducible first|refine tE ?_|refine iS ?_|refine iO ?_)|go_values|go_skip|go_guarded|go_step|go_upon|go_back)
 go_ret
 exact⟨Zm HE.out,rfl⟩
theorem rst_70(old b:Int)(qo:InU old)(qb:InU b)(HL:Hid (∀w,Calls prog 64 #[.int .i64 70] w fun e w'=>e=.returned (.bool true)∧w=w'))(HS:Hid (∀w,Calls prog 30 #[.int .i64 70] w fun e w'=>e=.returned (.int .i64 4)∧w=w'))(w:World):
  Calls prog 62 #[.int .i64 70,.int .u64 old,.int .u64 b] w fun e w'=>e=.returned (.int .u64 (Fld (bits .xor .u64 old b) 0 32))∧w=w':=by
 have HE:Hid (Fld (bits .xor .u64 (Sgn old 32) (Sgn b 32)) 0 32=Fld (bits .xor .u64 old b) 0 32):=Lib.hid (Z8b old b qo qb)
 have QV:InU (bits .xor .u64 (Sgn old 32) (Sgn b 32)):=XN _ _ (Zn _ 32 qo) (Zn _ 32 qb)
 go_enter func62,ntmps62
 repeat (first|(with_reducible first|refine tE ?_|refine iS ?_|refine iO ?_)|go_values|go_skip|go_guarded|go_step|go_upon|go_back)
 refine(HL.out _).mono ?_
 rintro e w'⟨rfl,rfl⟩
 simp only[]
 repeat (first|(with_reducible first|refine tE ?_|refine iS ?_|refine iO ?_)|go_values|go_skip|go_guarded|go_step|go_upon|go_back)
 refine(HS.out _).mono ?_
 rintro e w'⟨rfl,rfl⟩
 simp only[]
 repeat (first|(with_reducible first|refine tE ?_|refine iS ?_|refine iO ?_)|go_values|go_skip|go_guarded|go_step|go_upon|go_back)
 refine(Zi _ _ qo.1 qo.2 _).mono ?_
 rintro e w'⟨rfl,rfl⟩
 simp only[]
 repeat (first|(with_reducible first|refine tE ?_|refine iS ?_|refine iO ?_)|go_values|go_skip|go_guarded|go_step|go_upon|go_back)
 refine(Zi _ _ qb.1 qb.2 _).mono ?_
 rintro e w'⟨rfl,rfl⟩
 simp only[]
 repeat (first|(with_reducible first|refine tE ?_|refine iS ?_|refine iO ?_)|go_values|go_skip|go_guarded|go_step|go_upon|go_back)
 refine(Z3 _ _ _ qo.1 qo.2 _).mono ?_
 rintro e w'⟨rfl,rfl⟩
 simp only[]
 repeat (first|(with_reducible first|refine tE ?_|refine iS ?_|refine iO ?_)|go_values|go_skip|go_guarded|go_step|go_upon|go_back)
 refine(Z3 _ _ _ qb.1 qb.2 _).mono ?_
 rintro e w'⟨rfl,rfl⟩
 simp only[]
 repeat (first|(with_reducible first|refine tE ?_|refine iS ?_|refine iO ?_)|go_values|go_skip|go_guarded|go_step|go_upon|go_back)
 refine(Z3 _ _ _ QV.1 QV.2 _).mono ?_
 rintro e w'⟨rfl,rfl⟩
 simp only[]
 repeat (first|(with_reducible first|refine tE ?_|refine iS ?_|refine iO ?_)|go_values|go_skip|go_guarded|go_step|go_upon|go_back)
 go_ret
 exact⟨Zm HE.out,rfl⟩
theorem rst_71(old b:Int)(qo:InU old)(qb:InU b)(HL:Hid (∀w,Calls prog 64 #[.int .i64 71] w fun e w'=>e=.returned (.bool true)∧w=w'))(HS:Hid (∀w,Calls prog 30 #[.int .i64 71] w fun e w'=>e=.returned (.int .i64 4)∧w=w'))(w:World):
  Calls prog 62 #[.int .i64 71,.int .u64 old,.int .u64 b] w fun e w'=>e=.returned (.int .u64 (Fld (bits .and .u64 old b) 0 32))∧w=w':=by
 have HE:Hid (Fld (bits .and .u64 (Sgn old 32) (Sgn b 32)) 0 32=Fld (bits .and .u64 old b) 0 32):=Lib.hid (Z8c old b qo qb)
 have QV:InU (bits .and .u64 (Sgn old 32) (Sgn b 32)):=XM _ _ (Zn _ 32 qo) (Zn _ 32 qb)
 go_enter func62,ntmps62
 repeat (first|(with_reducible first|refine tE ?_|refine iS ?_|refine iO ?_)|go_values|go_skip|go_guarded|go_step|go_upon|go_back)
 refine(HL.out _).mono ?_
 rintro e w'⟨rfl,rfl⟩
 simp only[]
 repeat (first|(with_reducible first|refine tE ?_|refine iS ?_|refine iO ?_)|go_values|go_skip|go_guarded|go_step|go_upon|go_back)
 refine(HS.out _).mono ?_
 rintro e w'⟨rfl,rfl⟩
 simp only[]
 repeat (first|(with_reducible first|refine tE ?_|refine iS ?_|refine iO ?_)|go_values|go_skip|go_guarded|go_step|go_upon|go_back)
 refine(Zi _ _ qo.1 qo.2 _).mono ?_
 rintro e w'⟨rfl,rfl⟩
 simp only[]
 repeat (first|(with_reducible first|refine tE ?_|refine iS ?_|refine iO ?_)|go_values|go_skip|go_guarded|go_step|go_upon|go_back)
 refine(Zi _ _ qb.1 qb.2 _).mono ?_
 rintro e w'⟨rfl,rfl⟩
 simp only[]
 repeat (first|(with_reducible first|refine tE ?_|refine iS ?_|refine iO ?_)|go_values|go_skip|go_guarded|go_step|go_upon|go_back)
 refine(Z3 _ _ _ qo.1 qo.2 _).mono ?_
 rintro e w'⟨rfl,rfl⟩
 simp only[]
 repeat (first|(with_reducible first|refine tE ?_|refine iS ?_|refine iO ?_)|go_values|go_skip|go_guarded|go_step|go_upon|go_back)
 refine(Z3 _ _ _ qb.1 qb.2 _).mono ?_
 rintro e w'⟨rfl,rfl⟩
 simp only[]
 repeat (first|(with_reducible first|refine tE ?_|refine iS ?_|refine iO ?_)|go_values|go_skip|go_guarded|go_step|go_upon|go_back)
 refine(Z3 _ _ _ QV.1 QV.2 _).mono ?_
 rintro e w'⟨rfl,rfl⟩
 simp only[]
 repeat (first|(with_reducible first|refine tE ?_|refine iS ?_|refine iO ?_)|go_values|go_skip|go_guarded|go_step|go_upon|go_back)
 go_ret
 exact⟨Zm HE.out,rfl⟩
theorem rst_72(old b:Int)(qo:InU old)(qb:InU b)(HL:Hid (∀w,Calls prog 64 #[.int .i64 72] w fun e w'=>e=.returned (.bool true)∧w=w'))(HS:Hid (∀w,Calls prog 30 #[.int .i64 72] w fun e w'=>e=.returned (.int .i64 4)∧w=w'))(w:World):
  Calls prog 62 #[.int .i64 72,.int .u64 old,.int .u64 b] w fun e w'=>e=.returned (.int .u64 (Fld (bits .or .u64 old b) 0 32))∧w=w':=by
 have HE:Hid (Fld (bits .or .u64 (Sgn old 32) (Sgn b 32)) 0 32=Fld (bits .or .u64 old b) 0 32):=Lib.hid (fld_or old b qo qb)
 have QV:InU (bits .or .u64 (Sgn old 32) (Sgn b 32)):=KK _ _ (Zn _ 32 qo) (Zn _ 32 qb)
 go_enter func62,ntmps62
 repeat (first|(with_reducible first|refine tE ?_|refine iS ?_|refine iO ?_)|go_values|go_skip|go_guarded|go_step|go_upon|go_back)
 refine(HL.out _).mono ?_
 rintro e w'⟨rfl,rfl⟩
 simp only[]
 repeat (first|(with_reducible first|refine tE ?_|refine iS ?_|refine iO ?_)|go_values|go_skip|go_guarded|go_step|go_upon|go_back)
 refine(HS.out _).mono ?_
 rintro e w'⟨rfl,rfl⟩
 simp only[]
 repeat (first|(with_reducible first|refine tE ?_|refine iS ?_|refine iO ?_)|go_values|go_skip|go_guarded|go_step|go_upon|go_back)
 refine(Zi _ _ qo.1 qo.2 _).mono ?_
 rintro e w'⟨rfl,rfl⟩
 simp only[]
 repeat (first|(with_reducible first|refine tE ?_|refine iS ?_|refine iO ?_)|go_values|go_skip|go_guarded|go_step|go_upon|go_back)
 refine(Zi _ _ qb.1 qb.2 _).mono ?_
 rintro e w'⟨rfl,rfl⟩
 simp only[]
 repeat (first|(with_reducible first|refine tE ?_|refine iS ?_|refine iO ?_)|go_values|go_skip|go_guarded|go_step|go_upon|go_back)
 refine(Z3 _ _ _ qo.1 qo.2 _).mono ?_
 rintro e w'⟨rfl,rfl⟩
 simp only[]
 repeat (first|(with_reducible first|refine tE ?_|refine iS ?_|refine iO ?_)|go_values|go_skip|go_guarded|go_step|go_upon|go_back)
 refine(Z3 _ _ _ qb.1 qb.2 _).mono ?_
 rintro e w'⟨rfl,rfl⟩
 simp only[]
 repeat (first|(with_reducible first|refine tE ?_|refine iS ?_|refine iO ?_)|go_values|go_skip|go_guarded|go_step|go_upon|go_back)
 refine(Z3 _ _ _ QV.1 QV.2 _).mono ?_
 rintro e w'⟨rfl,rfl⟩
 simp only[]
 repeat (first|(with_reducible first|refine tE ?_|refine iS ?_|refine iO ?_)|go_values|go_skip|go_guarded|go_step|go_upon|go_back)
 go_ret
 exact⟨Zm HE.out,rfl⟩
theorem rst_73(old b:Int)(qo:InU old)(qb:InU b)(HL:Hid (∀w,Calls prog 64 #[.int .i64 73] w fun e w'=>e=.returned (.bool true)∧w=w'))(HS:Hid (∀w,Calls prog 30 #[.int .i64 73] w fun e w'=>e=.returned (.int .i64 4)∧w=w'))(w:World):
  Calls prog 62 #[.int .i64 73,.int .u64 old,.int .u64 b] w fun e w'=>e=.returned (.int .u64 (Fld (ZW (LtS (Sgn old 32) (Sgn b 32)) (Sgn old 32) (Sgn b 32)) 0 32))∧w=w':=by
 have HE:Hid (Fld (ZW (LtS (Sgn old 32) (Sgn b 32)) (Sgn old 32) (Sgn b 32)) 0 32=Fld (ZW (LtS (Sgn old 32) (Sgn b 32)) (Sgn old 32) (Sgn b 32)) 0 32):=Lib.hid (rfl)
 have QV:InU (ZW (LtS (Sgn old 32) (Sgn b 32)) (Sgn old 32) (Sgn b 32)):=YV _ _ _ (Zn _ 32 qo) (Zn _ 32 qb)
 have HR:=fun w=>YZ (Sgn old 32) (Sgn b 32) (Zn _ 32 qo) (Zn _ 32 qb) w
 cases hl:LtS (Sgn old 32) (Sgn b 32)<;>rw[hl] at HR HE QV<;>have HRR:=Lib.hid HR<;>clear HR
 all_goals
  first|rw[Ka] at HE QV|rw[Kb] at HE QV
  try rw[Ka]
  try rw[Kb]
  go_enter func62,ntmps62
  repeat (first|(with_reducible first|refine tE ?_|refine iS ?_|refine iO ?_)|go_values|go_skip|go_guarded|go_step|go_upon|go_back)
  refine(HL.out _).mono ?_
  rintro e w'⟨rfl,rfl⟩
  simp only[]
  repeat (first|(with_reducible first|refine tE ?_|refine iS ?_|refine iO ?_)|go_values|go_skip|go_guarded|go_step|go_upon|go_back)
  refine(HS.out _).mono ?_
  rintro e w'⟨rfl,rfl⟩
  simp only[]
  repeat (first|(with_reducible first|refine tE ?_|refine iS ?_|refine iO ?_)|go_values|go_skip|go_guarded|go_step|go_upon|go_back)
  refine(Zi _ _ qo.1 qo.2 _).mono ?_
  rintro e w'⟨rfl,rfl⟩
  simp only[]
  repeat (first|(with_reducible first|refine tE ?_|refine iS ?_|refine iO ?_)|go_values|go_skip|go_guarded|go_step|go_upon|go_back)
  refine(Zi _ _ qb.1 qb.2 _).mono ?_
  rintro e w'⟨rfl,rfl⟩
  simp only[]
  repeat (first|(with_reducible first|refine tE ?_|refine iS ?_|refine iO ?_)|go_values|go_skip|go_guarded|go_step|go_upon|go_back)
  refine(Z3 _ _ _ qo.1 qo.2 _).mono ?_
  rintro e w'⟨rfl,rfl⟩
  simp only[]
  repeat (first|(with_reducible first|refine tE ?_|refine iS ?_|refine iO ?_)|go_values|go_skip|go_guarded|go_step|go_upon|go_back)
  refine(Z3 _ _ _ qb.1 qb.2 _).mono ?_
  rintro e w'⟨rfl,rfl⟩
  simp only[]
  repeat (first|(with_reducible first|refine tE ?_|refine iS ?_|refine iO ?_)|go_values|go_skip|go_guarded|go_step|go_upon|go_back)
  refine(HRR.out _).mono ?_
  rintro e w'⟨rfl,rfl⟩
  simp only[]
  repeat (first|(with_reducible first|refine tE ?_|refine iS ?_|refine iO ?_)|go_values|go_skip|go_guarded|go_step|go_upon|go_back)
  refine(Z3 _ _ _ QV.1 QV.2 _).mono ?_
  rintro e w'⟨rfl,rfl⟩
  simp only[]
  repeat (first|(with_reducible first|refine tE ?_|refine iS ?_|refine iO ?_)|go_values|go_skip|go_guarded|go_step|go_upon|go_back)
  go_ret
  exact⟨Zm HE.out,rfl⟩
theorem rst_74(old b:Int)(qo:InU old)(qb:InU b)(HL:Hid (∀w,Calls prog 64 #[.int .i64 74] w fun e w'=>e=.returned (.bool true)∧w=w'))(HS:Hid (∀w,Calls prog 30 #[.int .i64 74] w fun e w'=>e=.returned (.int .i64 4)∧w=w'))(w:World):
  Calls prog 62 #[.int .i64 74,.int .u64 old,.int .u64 b] w fun e w'=>e=.returned (.int .u64 (Fld (ZW (LtS (Sgn old 32) (Sgn b 32)) (Sgn b 32) (Sgn old 32)) 0 32))∧w=w':=by
 have HE:Hid (Fld (ZW (LtS (Sgn b 32) (Sgn old 32)) (Sgn old 32) (Sgn b 32)) 0 32=Fld (ZW (LtS (Sgn old 32) (Sgn b 32)) (Sgn b 32) (Sgn old 32)) 0 32):=Lib.hid (by rw[Z1S (Sgn old 32) (Sgn b 32) (Zn _ 32 qo) (Zn _ 32 qb)])
 have QV:InU (ZW (LtS (Sgn b 32) (Sgn old 32)) (Sgn old 32) (Sgn b 32)):=YV _ _ _ (Zn _ 32 qo) (Zn _ 32 qb)
 have HR:=fun w=>YZ (Sgn b 32) (Sgn old 32) (Zn _ 32 qb) (Zn _ 32 qo) w
 cases hl:LtS (Sgn b 32) (Sgn old 32)<;>rw[hl] at HR HE QV<;>have HRR:=Lib.hid HR<;>clear HR
 all_goals
  first|rw[Ka] at HE QV|rw[Kb] at HE QV
  try rw[Ka]
  try rw[Kb]
  go_enter func62,ntmps62
  repeat (first|(with_reducible first|refine tE ?_|refine iS ?_|refine iO ?_)|go_values|go_skip|go_guarded|go_step|go_upon|go_back)
  refine(HL.out _).mono ?_
  rintro e w'⟨rfl,rfl⟩
  simp only[]
  repeat (first|(with_reducible first|refine tE ?_|refine iS ?_|refine iO ?_)|go_values|go_skip|go_guarded|go_step|go_upon|go_back)
  refine(HS.out _).mono ?_
  rintro e w'⟨rfl,rfl⟩
  simp only[]
  repeat (first|(with_reducible first|refine tE ?_|refine iS ?_|refine iO ?_)|go_values|go_skip|go_guarded|go_step|go_upon|go_back)
  refine(Zi _ _ qo.1 qo.2 _).mono ?_
  rintro e w'⟨rfl,rfl⟩
  simp only[]
  repeat (first|(with_reducible first|refine tE ?_|refine iS ?_|refine iO ?_)|go_values|go_skip|go_guarded|go_step|go_upon|go_back)
  refine(Zi _ _ qb.1 qb.2 _).mono ?_
  rintro e w'⟨rfl,rfl⟩
  simp only[]
  repeat (first|(with_reducible first|refine tE ?_|refine iS ?_|refine iO ?_)|go_values|go_skip|go_guarded|go_step|go_upon|go_back)
  refine(Z3 _ _ _ qo.1 qo.2 _).mono ?_
  rintro e w'⟨rfl,rfl⟩
  simp only[]
  repeat (first|(with_reducible first|refine tE ?_|refine iS ?_|refine iO ?_)|go_values|go_skip|go_guarded|go_step|go_upon|go_back)
  refine(Z3 _ _ _ qb.1 qb.2 _).mono ?_
  rintro e w'⟨rfl,rfl⟩
  simp only[]
  repeat (first|(with_reducible first|refine tE ?_|refine iS ?_|refine iO ?_)|go_values|go_skip|go_guarded|go_step|go_upon|go_back)
  refine(HRR.out _).mono ?_
  rintro e w'⟨rfl,rfl⟩
  simp only[]
  repeat (first|(with_reducible first|refine tE ?_|refine iS ?_|refine iO ?_)|go_values|go_skip|go_guarded|go_step|go_upon|go_back)
  refine(Z3 _ _ _ QV.1 QV.2 _).mono ?_
  rintro e w'⟨rfl,rfl⟩
  simp only[]
  repeat (first|(with_reducible first|refine tE ?_|refine iS ?_|refine iO ?_)|go_values|go_skip|go_guarded|go_step|go_upon|go_back)
  go_ret
  exact⟨Zm HE.out,rfl⟩
theorem rst_75(old b:Int)(qo:InU old)(qb:InU b)(HL:Hid (∀w,Calls prog 64 #[.int .i64 75] w fun e w'=>e=.returned (.bool true)∧w=w'))(HS:Hid (∀w,Calls prog 30 #[.int .i64 75] w fun e w'=>e=.returned (.int .i64 4)∧w=w'))(w:World):
  Calls prog 62 #[.int .i64 75,.int .u64 old,.int .u64 b] w fun e w'=>e=.returned (.int .u64 (Fld (J5 (Fld old 0 32) (Fld b 0 32)) 0 32))∧w=w':=by
 have HE:Hid (Fld (min (Fld old 0 32) (Fld b 0 32)) 0 32=Fld (min (Fld old 0 32) (Fld b 0 32)) 0 32):=Lib.hid (rfl)
 have QV:InU (min (Fld old 0 32) (Fld b 0 32)):=J7 _ _ (ZL _ 0 32 qo) (ZL _ 0 32 qb)
 go_enter func62,ntmps62
 repeat (first|(with_reducible first|refine tE ?_|refine iS ?_|refine iO ?_)|go_values|go_skip|go_guarded|go_step|go_upon|go_back)
 refine(HL.out _).mono ?_
 rintro e w'⟨rfl,rfl⟩
 simp only[]
 repeat (first|(with_reducible first|refine tE ?_|refine iS ?_|refine iO ?_)|go_values|go_skip|go_guarded|go_step|go_upon|go_back)
 refine(HS.out _).mono ?_
 rintro e w'⟨rfl,rfl⟩
 simp only[]
 repeat (first|(with_reducible first|refine tE ?_|refine iS ?_|refine iO ?_)|go_values|go_skip|go_guarded|go_step|go_upon|go_back)
 refine(Zi _ _ qo.1 qo.2 _).mono ?_
 rintro e w'⟨rfl,rfl⟩
 simp only[]
 repeat (first|(with_reducible first|refine tE ?_|refine iS ?_|refine iO ?_)|go_values|go_skip|go_guarded|go_step|go_upon|go_back)
 refine(Zi _ _ qb.1 qb.2 _).mono ?_
 rintro e w'⟨rfl,rfl⟩
 simp only[]
 repeat (first|(with_reducible first|refine tE ?_|refine iS ?_|refine iO ?_)|go_values|go_skip|go_guarded|go_step|go_upon|go_back)
 refine(Z3 _ _ _ qo.1 qo.2 _).mono ?_
 rintro e w'⟨rfl,rfl⟩
 simp only[]
 repeat (first|(with_reducible first|refine tE ?_|refine iS ?_|refine iO ?_)|go_values|go_skip|go_guarded|go_step|go_upon|go_back)
 refine(Z3 _ _ _ qb.1 qb.2 _).mono ?_
 rintro e w'⟨rfl,rfl⟩
 simp only[]
 repeat (first|(with_reducible first|refine tE ?_|refine iS ?_|refine iO ?_)|go_values|go_skip|go_guarded|go_step|go_upon|go_back)
 refine(Z3 _ _ _ QV.1 QV.2 _).mono ?_
 rintro e w'⟨rfl,rfl⟩
 simp only[]
 repeat (first|(with_reducible first|refine tE ?_|refine iS ?_|refine iO ?_)|go_values|go_skip|go_guarded|go_step|go_upon|go_back)
 go_ret
 exact⟨Zm HE.out,rfl⟩
theorem rst_76(old b:Int)(qo:InU old)(qb:InU b)(HL:Hid (∀w,Calls prog 64 #[.int .i64 76] w fun e w'=>e=.returned (.bool true)∧w=w'))(HS:Hid (∀w,Calls prog 30 #[.int .i64 76] w fun e w'=>e=.returned (.int .i64 4)∧w=w'))(w:World):
  Calls prog 62 #[.int .i64 76,.int .u64 old,.int .u64 b] w fun e w'=>e=.returned (.int .u64 (Fld (J6 (Fld old 0 32) (Fld b 0 32)) 0 32))∧w=w':=by
 have HE:Hid (Fld (max (Fld old 0 32) (Fld b 0 32)) 0 32=Fld (max (Fld old 0 32) (Fld b 0 32)) 0 32):=Lib.hid (rfl)
 have QV:InU (max (Fld old 0 32) (Fld b 0 32)):=J8 _ _ (ZL _ 0 32 qo) (ZL _ 0 32 qb)
 go_enter func62,ntmps62
 repeat (first|(with_reducible first|refine tE ?_|refine iS ?_|refine iO ?_)|go_values|go_skip|go_guarded|go_step|go_upon|go_back)
 refine(HL.out _).mono ?_
 rintro e w'⟨rfl,rfl⟩
 simp only[]
 repeat (first|(with_reducible first|refine tE ?_|refine iS ?_|refine iO ?_)|go_values|go_skip|go_guarded|go_step|go_upon|go_back)
 refine(HS.out _).mono ?_
 rintro e w'⟨rfl,rfl⟩
 simp only[]
 repeat (first|(with_reducible first|refine tE ?_|refine iS ?_|refine iO ?_)|go_values|go_skip|go_guarded|go_step|go_upon|go_back)
 refine(Zi _ _ qo.1 qo.2 _).mono ?_
 rintro e w'⟨rfl,rfl⟩
 simp only[]
 repeat (first|(with_reducible first|refine tE ?_|refine iS ?_|refine iO ?_)|go_values|go_skip|go_guarded|go_step|go_upon|go_back)
 refine(Zi _ _ qb.1 qb.2 _).mono ?_
 rintro e w'⟨rfl,rfl⟩
 simp only[]
 repeat (first|(with_reducible first|refine tE ?_|refine iS ?_|refine iO ?_)|go_values|go_skip|go_guarded|go_step|go_upon|go_back)
 refine(Z3 _ _ _ qo.1 qo.2 _).mono ?_
 rintro e w'⟨rfl,rfl⟩
 simp only[]
 repeat (first|(with_reducible first|refine tE ?_|refine iS ?_|refine iO ?_)|go_values|go_skip|go_guarded|go_step|go_upon|go_back)
 refine(Z3 _ _ _ qb.1 qb.2 _).mono ?_
 rintro e w'⟨rfl,rfl⟩
 simp only[]
 repeat (first|(with_reducible first|refine tE ?_|refine iS ?_|refine iO ?_)|go_values|go_skip|go_guarded|go_step|go_upon|go_back)
 refine(Z3 _ _ _ QV.1 QV.2 _).mono ?_
 rintro e w'⟨rfl,rfl⟩
 simp only[]
 repeat (first|(with_reducible first|refine tE ?_|refine iS ?_|refine iO ?_)|go_values|go_skip|go_guarded|go_step|go_upon|go_back)
 go_ret
 exact⟨Zm HE.out,rfl⟩
theorem rst_78(old b:Int)(qo:InU old)(qb:InU b)(HL:Hid (∀w,Calls prog 64 #[.int .i64 78] w fun e w'=>e=.returned (.bool true)∧w=w'))(HS:Hid (∀w,Calls prog 30 #[.int .i64 78] w fun e w'=>e=.returned (.int .i64 8)∧w=w'))(w:World):
  Calls prog 62 #[.int .i64 78,.int .u64 old,.int .u64 b] w fun e w'=>e=.returned (.int .u64 (Fld b 0 64))∧w=w':=by
 have HE:Hid (Fld (b) 0 64=Fld b 0 64):=Lib.hid (rfl)
 have QV:InU (b):=qb
 have g1:=Lib.hid (ZS old)
 have g2:=Lib.hid (ZS b)
 have g3:=Lib.hid (YN old qo)
 have g4:=Lib.hid (YN b qb)
 go_enter func62,ntmps62
 repeat (first|(with_reducible first|refine tE ?_|refine iS ?_|refine iO ?_)|go_values|go_skip|go_guarded|go_step|go_upon|go_back)
 refine(HL.out _).mono ?_
 rintro e w'⟨rfl,rfl⟩
 simp only[]
 repeat (first|(with_reducible first|refine tE ?_|refine iS ?_|refine iO ?_)|go_values|go_skip|go_guarded|go_step|go_upon|go_back)
 refine(HS.out _).mono ?_
 rintro e w'⟨rfl,rfl⟩
 simp only[]
 repeat (first|(with_reducible first|refine tE ?_|refine iS ?_|refine iO ?_)|go_values|go_skip|go_guarded|go_step|go_upon|go_back)
 refine(Zi _ _ qo.1 qo.2 _).mono ?_
 rintro e w'⟨rfl,rfl⟩
 rw[g1.out]
 simp only[]
 repeat (first|(with_reducible first|refine tE ?_|refine iS ?_|refine iO ?_)|go_values|go_skip|go_guarded|go_step|go_upon|go_back)
 refine(Zi _ _ qb.1 qb.2 _).mono ?_
 rintro e w'⟨rfl,rfl⟩
 rw[g2.out]
 simp only[]
 repeat (first|(with_reducible first|refine tE ?_|refine iS ?_|refine iO ?_)|go_values|go_skip|go_guarded|go_step|go_upon|go_back)
 refine(Z3 _ _ _ qo.1 qo.2 _).mono ?_
 rintro e w'⟨rfl,rfl⟩
 rw[g3.out]
 simp only[]
 repeat (first|(with_reducible first|refine tE ?_|refine iS ?_|refine iO ?_)|go_values|go_skip|go_guarded|go_step|go_upon|go_back)
 refine(Z3 _ _ _ qb.1 qb.2 _).mono ?_
 rintro e w'⟨rfl,rfl⟩
 rw[g4.out]
 simp only[]
 repeat (first|(with_reducible first|refine tE ?_|refine iS ?_|refine iO ?_)|go_values|go_skip|go_guarded|go_step|go_upon|go_back)
 refine(Z3 _ _ _ QV.1 QV.2 _).mono ?_
 rintro e w'⟨rfl,rfl⟩
 simp only[]
 repeat (first|(with_reducible first|refine tE ?_|refine iS ?_|refine iO ?_)|go_values|go_skip|go_guarded|go_step|go_upon|go_back)
 go_ret
 exact⟨Zm HE.out,rfl⟩
theorem rst_79(old b:Int)(qo:InU old)(qb:InU b)(HL:Hid (∀w,Calls prog 64 #[.int .i64 79] w fun e w'=>e=.returned (.bool true)∧w=w'))(HS:Hid (∀w,Calls prog 30 #[.int .i64 79] w fun e w'=>e=.returned (.int .i64 8)∧w=w'))(w:World):
  Calls prog 62 #[.int .i64 79,.int .u64 old,.int .u64 b] w fun e w'=>e=.returned (.int .u64 (Fld b 0 64))∧w=w':=by
 have HE:Hid (Fld (b) 0 64=Fld b 0 64):=Lib.hid (rfl)
 have QV:InU (b):=qb
 have g1:=Lib.hid (ZS old)
 have g2:=Lib.hid (ZS b)
 have g3:=Lib.hid (YN old qo)
 have g4:=Lib.hid (YN b qb)
 go_enter func62,ntmps62
 repeat (first|(with_reducible first|refine tE ?_|refine iS ?_|refine iO ?_)|go_values|go_skip|go_guarded|go_step|go_upon|go_back)
 refine(HL.out _).mono ?_
 rintro e w'⟨rfl,rfl⟩
 simp only[]
 repeat (first|(with_reducible first|refine tE ?_|refine iS ?_|refine iO ?_)|go_values|go_skip|go_guarded|go_step|go_upon|go_back)
 refine(HS.out _).mono ?_
 rintro e w'⟨rfl,rfl⟩
 simp only[]
 repeat (first|(with_reducible first|refine tE ?_|refine iS ?_|refine iO ?_)|go_values|go_skip|go_guarded|go_step|go_upon|go_back)
 refine(Zi _ _ qo.1 qo.2 _).mono ?_
 rintro e w'⟨rfl,rfl⟩
 rw[g1.out]
 simp only[]
 repeat (first|(with_reducible first|refine tE ?_|refine iS ?_|refine iO ?_)|go_values|go_skip|go_guarded|go_step|go_upon|go_back)
 refine(Zi _ _ qb.1 qb.2 _).mono ?_
 rintro e w'⟨rfl,rfl⟩
 rw[g2.out]
 simp only[]
 repeat (first|(with_reducible first|refine tE ?_|refine iS ?_|refine iO ?_)|go_values|go_skip|go_guarded|go_step|go_upon|go_back)
 refine(Z3 _ _ _ qo.1 qo.2 _).mono ?_
 rintro e w'⟨rfl,rfl⟩
 rw[g3.out]
 simp only[]
 repeat (first|(with_reducible first|refine tE ?_|refine iS ?_|refine iO ?_)|go_values|go_skip|go_guarded|go_step|go_upon|go_back)
 refine(Z3 _ _ _ qb.1 qb.2 _).mono ?_
 rintro e w'⟨rfl,rfl⟩
 rw[g4.out]
 simp only[]
 repeat (first|(with_reducible first|refine tE ?_|refine iS ?_|refine iO ?_)|go_values|go_skip|go_guarded|go_step|go_upon|go_back)
 refine(Z3 _ _ _ QV.1 QV.2 _).mono ?_
 rintro e w'⟨rfl,rfl⟩
 simp only[]
 repeat (first|(with_reducible first|refine tE ?_|refine iS ?_|refine iO ?_)|go_values|go_skip|go_guarded|go_step|go_upon|go_back)
 go_ret
 exact⟨Zm HE.out,rfl⟩
theorem rst_80(old b:Int)(qo:InU old)(qb:InU b)(HL:Hid (∀w,Calls prog 64 #[.int .i64 80] w fun e w'=>e=.returned (.bool true)∧w=w'))(HS:Hid (∀w,Calls prog 30 #[.int .i64 80] w fun e w'=>e=.returned (.int .i64 8)∧w=w'))(w:World):
  Calls prog 62 #[.int .i64 80,.int .u64 old,.int .u64 b] w fun e w'=>e=.returned (.int .u64 (Fld (IntKind.u64.wrap (old+b)) 0 64))∧w=w':=by
 have HE:Hid (Fld (IntKind.u64.wrap (old+b)) 0 64=Fld (IntKind.u64.wrap (old+b)) 0 64):=Lib.hid (rfl)
 have QV:InU (IntKind.u64.wrap (old+b)):=ZF _
 have g1:=Lib.hid (ZS old)
 have g2:=Lib.hid (ZS b)
 have g3:=Lib.hid (YN old qo)
 have g4:=Lib.hid (YN b qb)
 go_enter func62,ntmps62
 repeat (first|(with_reducible first|refine tE ?_|refine iS ?_|refine iO ?_)|go_values|go_skip|go_guarded|go_step|go_upon|go_back)
 refine(HL.out _).mono ?_
 rintro e w'⟨rfl,rfl⟩
 simp only[]
 repeat (first|(with_reducible first|refine tE ?_|refine iS ?_|refine iO ?_)|go_values|go_skip|go_guarded|go_step|go_upon|go_back)
 refine(HS.out _).mono ?_
 rintro e w'⟨rfl,rfl⟩
 simp only[]
 repeat (first|(with_reducible first|refine tE ?_|refine iS ?_|refine iO ?_)|go_values|go_skip|go_guarded|go_step|go_upon|go_back)
 refine(Zi _ _ qo.1 qo.2 _).mono ?_
 rintro e w'⟨rfl,rfl⟩
 rw[g1.out]
 simp only[]
 repeat (first|(with_reducible first|refine tE ?_|refine iS ?_|refine iO ?_)|go_values|go_skip|go_guarded|go_step|go_upon|go_back)
 refine(Zi _ _ qb.1 qb.2 _).mono ?_
 rintro e w'⟨rfl,rfl⟩
 rw[g2.out]
 simp only[]
 repeat (first|(with_reducible first|refine tE ?_|refine iS ?_|refine iO ?_)|go_values|go_skip|go_guarded|go_step|go_upon|go_back)
 refine(Z3 _ _ _ qo.1 qo.2 _).mono ?_
 rintro e w'⟨rfl,rfl⟩
 rw[g3.out]
 simp only[]
 repeat (first|(with_reducible first|refine tE ?_|refine iS ?_|refine iO ?_)|go_values|go_skip|go_guarded|go_step|go_upon|go_back)
 refine(Z3 _ _ _ qb.1 qb.2 _).mono ?_
 rintro e w'⟨rfl,rfl⟩
 rw[g4.out]
 simp only[]
 repeat (first|(with_reducible first|refine tE ?_|refine iS ?_|refine iO ?_)|go_values|go_skip|go_guarded|go_step|go_upon|go_back)
 refine(Z3 _ _ _ QV.1 QV.2 _).mono ?_
 rintro e w'⟨rfl,rfl⟩
 simp only[]
 repeat (first|(with_reducible first|refine tE ?_|refine iS ?_|refine iO ?_)|go_values|go_skip|go_guarded|go_step|go_upon|go_back)
 go_ret
 exact⟨Zm HE.out,rfl⟩
theorem rst_81(old b:Int)(qo:InU old)(qb:InU b)(HL:Hid (∀w,Calls prog 64 #[.int .i64 81] w fun e w'=>e=.returned (.bool true)∧w=w'))(HS:Hid (∀w,Calls prog 30 #[.int .i64 81] w fun e w'=>e=.returned (.int .i64 8)∧w=w'))(w:World):
  Calls prog 62 #[.int .i64 81,.int .u64 old,.int .u64 b] w fun e w'=>e=.returned (.int .u64 (Fld (bits .xor .u64 old b) 0 64))∧w=w':=by
 have HE:Hid (Fld (bits .xor .u64 old b) 0 64=Fld (bits .xor .u64 old b) 0 64):=Lib.hid (rfl)
 have QV:InU (bits .xor .u64 old b):=XN _ _ qo qb
 have g1:=Lib.hid (ZS old)
 have g2:=Lib.hid (ZS b)
 have g3:=Lib.hid (YN old qo)
 have g4:=Lib.hid (YN b qb)
 go_enter func62,ntmps62
 repeat (first|(with_reducible first|refine tE ?_|refine iS ?_|refine iO ?_)|go_values|go_skip|go_guarded|go_step|go_upon|go_back)
 refine(HL.out _).mono ?_
 rintro e w'⟨rfl,rfl⟩
 simp only[]
 repeat (first|(with_reducible first|refine tE ?_|refine iS ?_|refine iO ?_)|go_values|go_skip|go_guarded|go_step|go_upon|go_back)
 refine(HS.out _).mono ?_
 rintro e w'⟨rfl,rfl⟩
 simp only[]
 repeat (first|(with_reducible first|refine tE ?_|refine iS ?_|refine iO ?_)|go_values|go_skip|go_guarded|go_step|go_upon|go_back)
 refine(Zi _ _ qo.1 qo.2 _).mono ?_
 rintro e w'⟨rfl,rfl⟩
 rw[g1.out]
 simp only[]
 repeat (first|(with_reducible first|refine tE ?_|refine iS ?_|refine iO ?_)|go_values|go_skip|go_guarded|go_step|go_upon|go_back)
 refine(Zi _ _ qb.1 qb.2 _).mono ?_
 rintro e w'⟨rfl,rfl⟩
 rw[g2.out]
 simp only[]
 repeat (first|(with_reducible first|refine tE ?_|refine iS ?_|refine iO ?_)|go_values|go_skip|go_guarded|go_step|go_upon|go_back)
 refine(Z3 _ _ _ qo.1 qo.2 _).mono ?_
 rintro e w'⟨rfl,rfl⟩
 rw[g3.out]
 simp only[]
 repeat (first|(with_reducible first|refine tE ?_|refine iS ?_|refine iO ?_)|go_values|go_skip|go_guarded|go_step|go_upon|go_back)
 refine(Z3 _ _ _ qb.1 qb.2 _).mono ?_
 rintro e w'⟨rfl,rfl⟩
 rw[g4.out]
 simp only[]
 repeat (first|(with_reducible first|refine tE ?_|refine iS ?_|refine iO ?_)|go_values|go_skip|go_guarded|go_step|go_upon|go_back)
 refine(Z3 _ _ _ QV.1 QV.2 _).mono ?_
 rintro e w'⟨rfl,rfl⟩
 simp only[]
 repeat (first|(with_reducible first|refine tE ?_|refine iS ?_|refine iO ?_)|go_values|go_skip|go_guarded|go_step|go_upon|go_back)
 go_ret
 exact⟨Zm HE.out,rfl⟩
theorem rst_82(old b:Int)(qo:InU old)(qb:InU b)(HL:Hid (∀w,Calls prog 64 #[.int .i64 82] w fun e w'=>e=.returned (.bool true)∧w=w'))(HS:Hid (∀w,Calls prog 30 #[.int .i64 82] w fun e w'=>e=.returned (.int .i64 8)∧w=w'))(w:World):
  Calls prog 62 #[.int .i64 82,.int .u64 old,.int .u64 b] w fun e w'=>e=.returned (.int .u64 (Fld (bits .and .u64 old b) 0 64))∧w=w':=by
 have HE:Hid (Fld (bits .and .u64 old b) 0 64=Fld (bits .and .u64 old b) 0 64):=Lib.hid (rfl)
 have QV:InU (bits .and .u64 old b):=XM _ _ qo qb
 have g1:=Lib.hid (ZS old)
 have g2:=Lib.hid (ZS b)
 have g3:=Lib.hid (YN old qo)
 have g4:=Lib.hid (YN b qb)
 go_enter func62,ntmps62
 repeat (first|(with_reducible first|refine tE ?_|refine iS ?_|refine iO ?_)|go_values|go_skip|go_guarded|go_step|go_upon|go_back)
 refine(HL.out _).mono ?_
 rintro e w'⟨rfl,rfl⟩
 simp only[]
 repeat (first|(with_reducible first|refine tE ?_|refine iS ?_|refine iO ?_)|go_values|go_skip|go_guarded|go_step|go_upon|go_back)
 refine(HS.out _).mono ?_
 rintro e w'⟨rfl,rfl⟩
 simp only[]
 repeat (first|(with_reducible first|refine tE ?_|refine iS ?_|refine iO ?_)|go_values|go_skip|go_guarded|go_step|go_upon|go_back)
 refine(Zi _ _ qo.1 qo.2 _).mono ?_
 rintro e w'⟨rfl,rfl⟩
 rw[g1.out]
 simp only[]
 repeat (first|(with_reducible first|refine tE ?_|refine iS ?_|refine iO ?_)|go_values|go_skip|go_guarded|go_step|go_upon|go_back)
 refine(Zi _ _ qb.1 qb.2 _).mono ?_
 rintro e w'⟨rfl,rfl⟩
 rw[g2.out]
 simp only[]
 repeat (first|(with_reducible first|refine tE ?_|refine iS ?_|refine iO ?_)|go_values|go_skip|go_guarded|go_step|go_upon|go_back)
 refine(Z3 _ _ _ qo.1 qo.2 _).mono ?_
 rintro e w'⟨rfl,rfl⟩
 rw[g3.out]
 simp only[]
 repeat (first|(with_reducible first|refine tE ?_|refine iS ?_|refine iO ?_)|go_values|go_skip|go_guarded|go_step|go_upon|go_back)
 refine(Z3 _ _ _ qb.1 qb.2 _).mono ?_
 rintro e w'⟨rfl,rfl⟩
 rw[g4.out]
 simp only[]
 repeat (first|(with_reducible first|refine tE ?_|refine iS ?_|refine iO ?_)|go_values|go_skip|go_guarded|go_step|go_upon|go_back)
 refine(Z3 _ _ _ QV.1 QV.2 _).mono ?_
 rintro e w'⟨rfl,rfl⟩
 simp only[]
 repeat (first|(with_reducible first|refine tE ?_|refine iS ?_|refine iO ?_)|go_values|go_skip|go_guarded|go_step|go_upon|go_back)
 go_ret
 exact⟨Zm HE.out,rfl⟩
theorem rst_83(old b:Int)(qo:InU old)(qb:InU b)(HL:Hid (∀w,Calls prog 64 #[.int .i64 83] w fun e w'=>e=.returned (.bool true)∧w=w'))(HS:Hid (∀w,Calls prog 30 #[.int .i64 83] w fun e w'=>e=.returned (.int .i64 8)∧w=w'))(w:World):
  Calls prog 62 #[.int .i64 83,.int .u64 old,.int .u64 b] w fun e w'=>e=.returned (.int .u64 (Fld (bits .or .u64 old b) 0 64))∧w=w':=by
 have HE:Hid (Fld (bits .or .u64 old b) 0 64=Fld (bits .or .u64 old b) 0 64):=Lib.hid (rfl)
 have QV:InU (bits .or .u64 old b):=KK _ _ qo qb
 have g1:=Lib.hid (ZS old)
 have g2:=Lib.hid (ZS b)
 have g3:=Lib.hid (YN old qo)
 have g4:=Lib.hid (YN b qb)
 go_enter func62,ntmps62
 repeat (first|(with_reducible first|refine tE ?_|refine iS ?_|refine iO ?_)|go_values|go_skip|go_guarded|go_step|go_upon|go_back)
 refine(HL.out _).mono ?_
 rintro e w'⟨rfl,rfl⟩
 simp only[]
 repeat (first|(with_reducible first|refine tE ?_|refine iS ?_|refine iO ?_)|go_values|go_skip|go_guarded|go_step|go_upon|go_back)
 refine(HS.out _).mono ?_
 rintro e w'⟨rfl,rfl⟩
 simp only[]
 repeat (first|(with_reducible first|refine tE ?_|refine iS ?_|refine iO ?_)|go_values|go_skip|go_guarded|go_step|go_upon|go_back)
 refine(Zi _ _ qo.1 qo.2 _).mono ?_
 rintro e w'⟨rfl,rfl⟩
 rw[g1.out]
 simp only[]
 repeat (first|(with_reducible first|refine tE ?_|refine iS ?_|refine iO ?_)|go_values|go_skip|go_guarded|go_step|go_upon|go_back)
 refine(Zi _ _ qb.1 qb.2 _).mono ?_
 rintro e w'⟨rfl,rfl⟩
 rw[g2.out]
 simp only[]
 repeat (first|(with_reducible first|refine tE ?_|refine iS ?_|refine iO ?_)|go_values|go_skip|go_guarded|go_step|go_upon|go_back)
 refine(Z3 _ _ _ qo.1 qo.2 _).mono ?_
 rintro e w'⟨rfl,rfl⟩
 rw[g3.out]
 simp only[]
 repeat (first|(with_reducible first|refine tE ?_|refine iS ?_|refine iO ?_)|go_values|go_skip|go_guarded|go_step|go_upon|go_back)
 refine(Z3 _ _ _ qb.1 qb.2 _).mono ?_
 rintro e w'⟨rfl,rfl⟩
 rw[g4.out]
 simp only[]
 repeat (first|(with_reducible first|refine tE ?_|refine iS ?_|refine iO ?_)|go_values|go_skip|go_guarded|go_step|go_upon|go_back)
 refine(Z3 _ _ _ QV.1 QV.2 _).mono ?_
 rintro e w'⟨rfl,rfl⟩
 simp only[]
 repeat (first|(with_reducible first|refine tE ?_|refine iS ?_|refine iO ?_)|go_values|go_skip|go_guarded|go_step|go_upon|go_back)
 go_ret
 exact⟨Zm HE.out,rfl⟩
theorem rst_84(old b:Int)(qo:InU old)(qb:InU b)(HL:Hid (∀w,Calls prog 64 #[.int .i64 84] w fun e w'=>e=.returned (.bool true)∧w=w'))(HS:Hid (∀w,Calls prog 30 #[.int .i64 84] w fun e w'=>e=.returned (.int .i64 8)∧w=w'))(w:World):
  Calls prog 62 #[.int .i64 84,.int .u64 old,.int .u64 b] w fun e w'=>e=.returned (.int .u64 (Fld (ZW (LtS old b) old b) 0 64))∧w=w':=by
 have HE:Hid (Fld (ZW (LtS old b) old b) 0 64=Fld (ZW (LtS old b) old b) 0 64):=Lib.hid (rfl)
 have QV:InU (ZW (LtS old b) old b):=YV _ _ _ qo qb
 have g1:=Lib.hid (ZS old)
 have g2:=Lib.hid (ZS b)
 have g3:=Lib.hid (YN old qo)
 have g4:=Lib.hid (YN b qb)
 have HR:=fun w=>YZ old b qo qb w
 cases hl:LtS old b<;>rw[hl] at HR HE QV<;>have HRR:=Lib.hid HR<;>clear HR
 all_goals
  first|rw[Ka] at HE QV|rw[Kb] at HE QV
  try rw[Ka]
  try rw[Kb]
  go_enter func62,ntmps62
  repeat (first|(with_reducible first|refine tE ?_|refine iS ?_|refine iO ?_)|go_values|go_skip|go_guarded|go_step|go_upon|go_back)
  refine(HL.out _).mono ?_
  rintro e w'⟨rfl,rfl⟩
  simp only[]
  repeat (first|(with_reducible first|refine tE ?_|refine iS ?_|refine iO ?_)|go_values|go_skip|go_guarded|go_step|go_upon|go_back)
  refine(HS.out _).mono ?_
  rintro e w'⟨rfl,rfl⟩
  simp only[]
  repeat (first|(with_reducible first|refine tE ?_|refine iS ?_|refine iO ?_)|go_values|go_skip|go_guarded|go_step|go_upon|go_back)
  refine(Zi _ _ qo.1 qo.2 _).mono ?_
  rintro e w'⟨rfl,rfl⟩
  rw[g1.out]
  simp only[]
  repeat (first|(with_reducible first|refine tE ?_|refine iS ?_|refine iO ?_)|go_values|go_skip|go_guarded|go_step|go_upon|go_back)
  refine(Zi _ _ qb.1 qb.2 _).mono ?_
  rintro e w'⟨rfl,rfl⟩
  rw[g2.out]
  simp only[]
  repeat (first|(with_reducible first|refine tE ?_|refine iS ?_|refine iO ?_)|go_values|go_skip|go_guarded|go_step|go_upon|go_back)
  refine(Z3 _ _ _ qo.1 qo.2 _).mono ?_
  rintro e w'⟨rfl,rfl⟩
  rw[g3.out]
  simp only[]
  repeat (first|(with_reducible first|refine tE ?_|refine iS ?_|refine iO ?_)|go_values|go_skip|go_guarded|go_step|go_upon|go_back)
  refine(Z3 _ _ _ qb.1 qb.2 _).mono ?_
  rintro e w'⟨rfl,rfl⟩
  rw[g4.out]
  simp only[]
  repeat (first|(with_reducible first|refine tE ?_|refine iS ?_|refine iO ?_)|go_values|go_skip|go_guarded|go_step|go_upon|go_back)
  refine(HRR.out _).mono ?_
  rintro e w'⟨rfl,rfl⟩
  simp only[]
  repeat (first|(with_reducible first|refine tE ?_|refine iS ?_|refine iO ?_)|go_values|go_skip|go_guarded|go_step|go_upon|go_back)
  refine(Z3 _ _ _ QV.1 QV.2 _).mono ?_
  rintro e w'⟨rfl,rfl⟩
  simp only[]
  repeat (first|(with_reducible first|refine tE ?_|refine iS ?_|refine iO ?_)|go_values|go_skip|go_guarded|go_step|go_upon|go_back)
  go_ret
  exact⟨Zm HE.out,rfl⟩
theorem rst_85(old b:Int)(qo:InU old)(qb:InU b)(HL:Hid (∀w,Calls prog 64 #[.int .i64 85] w fun e w'=>e=.returned (.bool true)∧w=w'))(HS:Hid (∀w,Calls prog 30 #[.int .i64 85] w fun e w'=>e=.returned (.int .i64 8)∧w=w'))(w:World):
  Calls prog 62 #[.int .i64 85,.int .u64 old,.int .u64 b] w fun e w'=>e=.returned (.int .u64 (Fld (ZW (LtS old b) b old) 0 64))∧w=w':=by
 have HE:Hid (Fld (ZW (LtS b old) old b) 0 64=Fld (ZW (LtS old b) b old) 0 64):=Lib.hid (by rw[Z1S old b qo qb])
 have QV:InU (ZW (LtS b old) old b):=YV _ _ _ qo qb
 have g1:=Lib.hid (ZS old)
 have g2:=Lib.hid (ZS b)
 have g3:=Lib.hid (YN old qo)
 have g4:=Lib.hid (YN b qb)
 have HR:=fun w=>YZ b old qb qo w
 cases hl:LtS b old<;>rw[hl] at HR HE QV<;>have HRR:=Lib.hid HR<;>clear HR
 all_goals
  first|rw[Ka] at HE QV|rw[Kb] at HE QV
  try rw[Ka]
  try rw[Kb]
  go_enter func62,ntmps62
  repeat (first|(with_reducible first|refine tE ?_|refine iS ?_|refine iO ?_)|go_values|go_skip|go_guarded|go_step|go_upon|go_back)
  refine(HL.out _).mono ?_
  rintro e w'⟨rfl,rfl⟩
  simp only[]
  repeat (first|(with_reducible first|refine tE ?_|refine iS ?_|refine iO ?_)|go_values|go_skip|go_guarded|go_step|go_upon|go_back)
  refine(HS.out _).mono ?_
  rintro e w'⟨rfl,rfl⟩
  simp only[]
  repeat (first|(with_reducible first|refine tE ?_|refine iS ?_|refine iO ?_)|go_values|go_skip|go_guarded|go_step|go_upon|go_back)
  refine(Zi _ _ qo.1 qo.2 _).mono ?_
  rintro e w'⟨rfl,rfl⟩
  rw[g1.out]
  simp only[]
  repeat (first|(with_reducible first|refine tE ?_|refine iS ?_|refine iO ?_)|go_values|go_skip|go_guarded|go_step|go_upon|go_back)
  refine(Zi _ _ qb.1 qb.2 _).mono ?_
  rintro e w'⟨rfl,rfl⟩
  rw[g2.out]
  simp only[]
  repeat (first|(with_reducible first|refine tE ?_|refine iS ?_|refine iO ?_)|go_values|go_skip|go_guarded|go_step|go_upon|go_back)
  refine(Z3 _ _ _ qo.1 qo.2 _).mono ?_
  rintro e w'⟨rfl,rfl⟩
  rw[g3.out]
  simp only[]
  repeat (first|(with_reducible first|refine tE ?_|refine iS ?_|refine iO ?_)|go_values|go_skip|go_guarded|go_step|go_upon|go_back)
  refine(Z3 _ _ _ qb.1 qb.2 _).mono ?_
  rintro e w'⟨rfl,rfl⟩
  rw[g4.out]
  simp only[]
  repeat (first|(with_reducible first|refine tE ?_|refine iS ?_|refine iO ?_)|go_values|go_skip|go_guarded|go_step|go_upon|go_back)
  refine(HRR.out _).mono ?_
  rintro e w'⟨rfl,rfl⟩
  simp only[]
  repeat (first|(with_reducible first|refine tE ?_|refine iS ?_|refine iO ?_)|go_values|go_skip|go_guarded|go_step|go_upon|go_back)
  refine(Z3 _ _ _ QV.1 QV.2 _).mono ?_
  rintro e w'⟨rfl,rfl⟩
  simp only[]
  repeat (first|(with_reducible first|refine tE ?_|refine iS ?_|refine iO ?_)|go_values|go_skip|go_guarded|go_step|go_upon|go_back)
  go_ret
  exact⟨Zm HE.out,rfl⟩
theorem rst_86(old b:Int)(qo:InU old)(qb:InU b)(HL:Hid (∀w,Calls prog 64 #[.int .i64 86] w fun e w'=>e=.returned (.bool true)∧w=w'))(HS:Hid (∀w,Calls prog 30 #[.int .i64 86] w fun e w'=>e=.returned (.int .i64 8)∧w=w'))(w:World):
  Calls prog 62 #[.int .i64 86,.int .u64 old,.int .u64 b] w fun e w'=>e=.returned (.int .u64 (Fld (J5 old b) 0 64))∧w=w':=by
 have HE:Hid (Fld (min old b) 0 64=Fld (min old b) 0 64):=Lib.hid (rfl)
 have QV:InU (min old b):=J7 _ _ qo qb
 have g1:=Lib.hid (ZS old)
 have g2:=Lib.hid (ZS b)
 have g3:=Lib.hid (YN old qo)
 have g4:=Lib.hid (YN b qb)
 go_enter func62,ntmps62
 repeat (first|(with_reducible first|refine tE ?_|refine iS ?_|refine iO ?_)|go_values|go_skip|go_guarded|go_step|go_upon|go_back)
 refine(HL.out _).mono ?_
 rintro e w'⟨rfl,rfl⟩
 simp only[]
 repeat (first|(with_reducible first|refine tE ?_|refine iS ?_|refine iO ?_)|go_values|go_skip|go_guarded|go_step|go_upon|go_back)
 refine(HS.out _).mono ?_
 rintro e w'⟨rfl,rfl⟩
 simp only[]
 repeat (first|(with_reducible first|refine tE ?_|refine iS ?_|refine iO ?_)|go_values|go_skip|go_guarded|go_step|go_upon|go_back)
 refine(Zi _ _ qo.1 qo.2 _).mono ?_
 rintro e w'⟨rfl,rfl⟩
 rw[g1.out]
 simp only[]
 repeat (first|(with_reducible first|refine tE ?_|refine iS ?_|refine iO ?_)|go_values|go_skip|go_guarded|go_step|go_upon|go_back)
 refine(Zi _ _ qb.1 qb.2 _).mono ?_
 rintro e w'⟨rfl,rfl⟩
 rw[g2.out]
 simp only[]
 repeat (first|(with_reducible first|refine tE ?_|refine iS ?_|refine iO ?_)|go_values|go_skip|go_guarded|go_step|go_upon|go_back)
 refine(Z3 _ _ _ qo.1 qo.2 _).mono ?_
 rintro e w'⟨rfl,rfl⟩
 rw[g3.out]
 simp only[]
 repeat (first|(with_reducible first|refine tE ?_|refine iS ?_|refine iO ?_)|go_values|go_skip|go_guarded|go_step|go_upon|go_back)
 refine(Z3 _ _ _ qb.1 qb.2 _).mono ?_
 rintro e w'⟨rfl,rfl⟩
 rw[g4.out]
 simp only[]
 repeat (first|(with_reducible first|refine tE ?_|refine iS ?_|refine iO ?_)|go_values|go_skip|go_guarded|go_step|go_upon|go_back)
 refine(Z3 _ _ _ QV.1 QV.2 _).mono ?_
 rintro e w'⟨rfl,rfl⟩
 simp only[]
 repeat (first|(with_reducible first|refine tE ?_|refine iS ?_|refine iO ?_)|go_values|go_skip|go_guarded|go_step|go_upon|go_back)
 go_ret
 exact⟨Zm HE.out,rfl⟩
theorem rst_87(old b:Int)(qo:InU old)(qb:InU b)(HL:Hid (∀w,Calls prog 64 #[.int .i64 87] w fun e w'=>e=.returned (.bool true)∧w=w'))(HS:Hid (∀w,Calls prog 30 #[.int .i64 87] w fun e w'=>e=.returned (.int .i64 8)∧w=w'))(w:World):
  Calls prog 62 #[.int .i64 87,.int .u64 old,.int .u64 b] w fun e w'=>e=.returned (.int .u64 (Fld (J6 old b) 0 64))∧w=w':=by
 have HE:Hid (Fld (max old b) 0 64=Fld (max old b) 0 64):=Lib.hid (rfl)
 have QV:InU (max old b):=J8 _ _ qo qb
 have g1:=Lib.hid (ZS old)
 have g2:=Lib.hid (ZS b)
 have g3:=Lib.hid (YN old qo)
 have g4:=Lib.hid (YN b qb)
 go_enter func62,ntmps62
 repeat (first|(with_reducible first|refine tE ?_|refine iS ?_|refine iO ?_)|go_values|go_skip|go_guarded|go_step|go_upon|go_back)
 refine(HL.out _).mono ?_
 rintro e w'⟨rfl,rfl⟩
 simp only[]
 repeat (first|(with_reducible first|refine tE ?_|refine iS ?_|refine iO ?_)|go_values|go_skip|go_guarded|go_step|go_upon|go_back)
 refine(HS.out _).mono ?_
 rintro e w'⟨rfl,rfl⟩
 simp only[]
 repeat (first|(with_reducible first|refine tE ?_|refine iS ?_|refine iO ?_)|go_values|go_skip|go_guarded|go_step|go_upon|go_back)
 refine(Zi _ _ qo.1 qo.2 _).mono ?_
 rintro e w'⟨rfl,rfl⟩
 rw[g1.out]
 simp only[]
 repeat (first|(with_reducible first|refine tE ?_|refine iS ?_|refine iO ?_)|go_values|go_skip|go_guarded|go_step|go_upon|go_back)
 refine(Zi _ _ qb.1 qb.2 _).mono ?_
 rintro e w'⟨rfl,rfl⟩
 rw[g2.out]
 simp only[]
 repeat (first|(with_reducible first|refine tE ?_|refine iS ?_|refine iO ?_)|go_values|go_skip|go_guarded|go_step|go_upon|go_back)
 refine(Z3 _ _ _ qo.1 qo.2 _).mono ?_
 rintro e w'⟨rfl,rfl⟩
 rw[g3.out]
 simp only[]
 repeat (first|(with_reducible first|refine tE ?_|refine iS ?_|refine iO ?_)|go_values|go_skip|go_guarded|go_step|go_upon|go_back)
 refine(Z3 _ _ _ qb.1 qb.2 _).mono ?_
 rintro e w'⟨rfl,rfl⟩
 rw[g4.out]
 simp only[]
 repeat (first|(with_reducible first|refine tE ?_|refine iS ?_|refine iO ?_)|go_values|go_skip|go_guarded|go_step|go_upon|go_back)
 refine(Z3 _ _ _ QV.1 QV.2 _).mono ?_
 rintro e w'⟨rfl,rfl⟩
 simp only[]
 repeat (first|(with_reducible first|refine tE ?_|refine iS ?_|refine iO ?_)|go_values|go_skip|go_guarded|go_step|go_upon|go_back)
 go_ret
 exact⟨Zm HE.out,rfl⟩
theorem rst_no(op old b:Int)(HL:Hid (∀w,Calls prog 64 #[.int .i64 op] w fun e w'=>e=.returned (.bool false)∧w=w'))(w:World):
  Calls prog 62 #[.int .i64 op,.int .u64 old,.int .u64 b] w fun e w'=>e=.returned (.int .u64 0)∧w=w':=by
 go_enter func62,ntmps62
 repeat (first|(with_reducible first|refine tE ?_|refine iS ?_|refine iO ?_)|go_values|go_skip|go_guarded|go_step|go_upon|go_back)
 refine(HL.out _).mono ?_
 rintro e w'⟨rfl,rfl⟩
 simp only[]
 repeat (first|(with_reducible first|refine tE ?_|refine iS ?_|refine iO ?_)|go_values|go_skip|go_guarded|go_step|go_upon|go_back)
 go_ret
 exact⟨rfl,rfl⟩
theorem XQ(op old b:Int)(qo:InU old)(qb:InU b)(w:World):Calls prog 62 #[.int .i64 op,.int .u64 old,.int .u64 b] w fun e w'=>e=.returned (.int .u64 (StB op old b))∧w=w':=by
 have HL:=fun w=>YD op w
 have HS:=fun w=>YK op w
 unfold StB
 cases hl:Zq op<;>rw[hl] at HL
 ·exact rst_no op old b (Lib.hid HL) w
 rw[if_pos rfl]
 have h:op=18∨op=19∨op=20∨op=21∨op=67∨op=68∨op=69∨op=70∨op=71∨op=72∨op=73∨op=74∨op=75∨op=76∨op=78∨op=79∨op=80∨op=81∨op=82∨op=83∨op=84∨op=85∨op=86∨op=87:=by unfold Zq at hl;simp at hl;omega
 rcases h with rfl|rfl|rfl|rfl|rfl|rfl|rfl|rfl|rfl|rfl|rfl|rfl|rfl|rfl|rfl|rfl|rfl|rfl|rfl|rfl|rfl|rfl|rfl|rfl
 ·rw[show Za 18=1 from by decide] at HS ⊢;rw[show CgB 18 old b=b from by simp only[CgB,Int.reduceEq,↓reduceIte],show(8:Int)*1=8 from by decide];exact rst_18 old b qo qb (Lib.hid HL) (Lib.hid HS) w
 ·rw[show Za 19=2 from by decide] at HS ⊢;rw[show CgB 19 old b=b from by simp only[CgB,Int.reduceEq,↓reduceIte],show(8:Int)*2=16 from by decide];exact rst_19 old b qo qb (Lib.hid HL) (Lib.hid HS) w
 ·rw[show Za 20=4 from by decide] at HS ⊢;rw[show CgB 20 old b=b from by simp only[CgB,Int.reduceEq,↓reduceIte],show(8:Int)*4=32 from by decide];exact rst_20 old b qo qb (Lib.hid HL) (Lib.hid HS) w
 ·rw[show Za 21=8 from by decide] at HS ⊢;rw[show CgB 21 old b=b from by simp only[CgB,Int.reduceEq,↓reduceIte],show(8:Int)*8=64 from by decide];exact rst_21 old b qo qb (Lib.hid HL) (Lib.hid HS) w
 ·rw[show Za 67=4 from by decide] at HS ⊢;rw[show CgB 67 old b=b from by simp only[CgB,Int.reduceEq,↓reduceIte],show(8:Int)*4=32 from by decide];exact rst_67 old b qo qb (Lib.hid HL) (Lib.hid HS) w
 ·rw[show Za 68=4 from by decide] at HS ⊢;rw[show CgB 68 old b=b from by simp only[CgB,Int.reduceEq,↓reduceIte],show(8:Int)*4=32 from by decide];exact rst_68 old b qo qb (Lib.hid HL) (Lib.hid HS) w
 ·rw[show Za 69=4 from by decide] at HS ⊢;rw[cg_69,show(8:Int)*4=32 from by decide];exact rst_69 old b qo qb (Lib.hid HL) (Lib.hid HS) w
 ·rw[show Za 70=4 from by decide] at HS ⊢;rw[cg_70,show(8:Int)*4=32 from by decide];exact rst_70 old b qo qb (Lib.hid HL) (Lib.hid HS) w
 ·rw[show Za 71=4 from by decide] at HS ⊢;rw[cg_71,show(8:Int)*4=32 from by decide];exact rst_71 old b qo qb (Lib.hid HL) (Lib.hid HS) w
 ·rw[show Za 72=4 from by decide] at HS ⊢;rw[cg_72,show(8:Int)*4=32 from by decide];exact rst_72 old b qo qb (Lib.hid HL) (Lib.hid HS) w
 ·rw[show Za 73=4 from by decide] at HS ⊢;rw[cg_73,show(8:Int)*4=32 from by decide];exact rst_73 old b qo qb (Lib.hid HL) (Lib.hid HS) w
 ·rw[show Za 74=4 from by decide] at HS ⊢;rw[cg_74,show(8:Int)*4=32 from by decide];exact rst_74 old b qo qb (Lib.hid HL) (Lib.hid HS) w
 ·rw[show Za 75=4 from by decide] at HS ⊢;rw[cg_75,show(8:Int)*4=32 from by decide];exact rst_75 old b qo qb (Lib.hid HL) (Lib.hid HS) w
 ·rw[show Za 76=4 from by decide] at HS ⊢;rw[cg_76,show(8:Int)*4=32 from by decide];exact rst_76 old b qo qb (Lib.hid HL) (Lib.hid HS) w
 ·rw[show Za 78=8 from by decide] at HS ⊢;rw[show CgB 78 old b=b from by simp only[CgB,Int.reduceEq,↓reduceIte],show(8:Int)*8=64 from by decide];exact rst_78 old b qo qb (Lib.hid HL) (Lib.hid HS) w
 ·rw[show Za 79=8 from by decide] at HS ⊢;rw[show CgB 79 old b=b from by simp only[CgB,Int.reduceEq,↓reduceIte],show(8:Int)*8=64 from by decide];exact rst_79 old b qo qb (Lib.hid HL) (Lib.hid HS) w
 ·rw[show Za 80=8 from by decide] at HS ⊢;rw[cg_80,show(8:Int)*8=64 from by decide];exact rst_80 old b qo qb (Lib.hid HL) (Lib.hid HS) w
 ·rw[show Za 81=8 from by decide] at HS ⊢;rw[cg_81,show(8:Int)*8=64 from by decide];exact rst_81 old b qo qb (Lib.hid HL) (Lib.hid HS) w
 ·rw[show Za 82=8 from by decide] at HS ⊢;rw[cg_82,show(8:Int)*8=64 from by decide];exact rst_82 old b qo qb (Lib.hid HL) (Lib.hid HS) w
 ·rw[show Za 83=8 from by decide] at HS ⊢;rw[cg_83,show(8:Int)*8=64 from by decide];exact rst_83 old b qo qb (Lib.hid HL) (Lib.hid HS) w
 ·rw[show Za 84=8 from by decide] at HS ⊢;rw[cg_84,show(8:Int)*8=64 from by decide];exact rst_84 old b qo qb (Lib.hid HL) (Lib.hid HS) w
 ·rw[show Za 85=8 from by decide] at HS ⊢;rw[cg_85,show(8:Int)*8=64 from by decide];exact rst_85 old b qo qb (Lib.hid HL) (Lib.hid HS) w
 ·rw[show Za 86=8 from by decide] at HS ⊢;rw[cg_86,show(8:Int)*8=64 from by decide];exact rst_86 old b qo qb (Lib.hid HL) (Lib.hid HS) w
 ·rw[show Za 87=8 from by decide] at HS ⊢;rw[cg_87,show(8:Int)*8=64 from by decide];exact rst_87 old b qo qb (Lib.hid HL) (Lib.hid HS) w
end Go.Proofs.YtgpdpaljbiclkaaGreatDoor

/-
  Proved here: what loads give and what is stored, the code's answer and the reference's. Conditions: the numbers are words.
-/
import Derived.Test.YtgpdpaljbiclkaaGreatDoorSzz
import Derived.Test.YtgpdpaljbiclkaaGreatDoorSbc
set_option maxHeartbeats 1000000
set_option maxRecDepth 100000
namespace Go.Proofs.YtgpdpaljbiclkaaGreatDoor
open _root_.Go.Proofs.Tryz
open Go.RowKit
set_option linter.unusedVariables false
def LdB (op raw:Int):Int:=if Zz op=true then(if 15≤op∧op≤17 then Fld raw 0 (8*Za op) else Sgn raw (8*Za op)) else 0
theorem Xp(op:Int):0≤Za op∧Za op≤8:=by unfold Za;repeat (first|split|omega)
theorem ld_no(op raw s:Int)(HL:Hid (∀w,Calls prog 48 #[.int .i64 op] w fun e w'=>e=.returned (.bool false)∧w=w'))(w:World):
  Calls prog 54 #[.int .i64 op,.int .u64 raw] w fun e w'=>e=.returned (.int .u64 (0))∧w=w':=by
 go_enter func54,ntmps54
 repeat (first|(with_reducible first|refine tE ?_|refine iS ?_|refine iO ?_)|go_values|go_skip|go_guarded|go_step|go_upon|go_back|(refine(HL.out _).mono ?_;rintro e w'⟨rfl,rfl⟩;simp only[]))
 go_ret
 exact⟨rfl,rfl⟩
theorem ld_15(raw s:Int)(qr:InU raw)(s0:0≤s)(s1:s≤8)(HL:Hid (∀w,Calls prog 48 #[.int .i64 15] w fun e w'=>e=.returned (.bool true)∧w=w'))(HS:Hid (∀w,Calls prog 52 #[.int .i64 15] w fun e w'=>e=.returned (.int .i64 s)∧w=w'))(w:World):
  Calls prog 54 #[.int .i64 15,.int .u64 raw] w fun e w'=>e=.returned (.int .u64 (Fld raw 0 (8*s)))∧w=w':=by
 go_enter func54,ntmps54
 repeat (first|(with_reducible first|refine tE ?_|refine iS ?_|refine iO ?_)|go_values|go_skip|go_guarded|go_step|go_upon|go_back|(refine(HL.out _).mono ?_;rintro e w'⟨rfl,rfl⟩;simp only[])|(refine(HS.out _).mono ?_;rintro e w'⟨rfl,rfl⟩;simp only[])|(refine(ZE _ _ _ qr.1 qr.2 _).mono ?_;rintro e w'⟨rfl,rfl⟩;simp only[]))
 go_ret
 exact⟨rfl,rfl⟩
theorem ld_16(raw s:Int)(qr:InU raw)(s0:0≤s)(s1:s≤8)(HL:Hid (∀w,Calls prog 48 #[.int .i64 16] w fun e w'=>e=.returned (.bool true)∧w=w'))(HS:Hid (∀w,Calls prog 52 #[.int .i64 16] w fun e w'=>e=.returned (.int .i64 s)∧w=w'))(w:World):
  Calls prog 54 #[.int .i64 16,.int .u64 raw] w fun e w'=>e=.returned (.int .u64 (Fld raw 0 (8*s)))∧w=w':=by
 go_enter func54,ntmps54
 repeat (first|(with_reducible first|refine tE ?_|refine iS ?_|refine iO ?_)|go_values|go_skip|go_guarded|go_step|go_upon|go_back|(refine(HL.out _).mono ?_;rintro e w'⟨rfl,rfl⟩;simp only[])|(refine(HS.out _).mono ?_;rintro e w'⟨rfl,rfl⟩;simp only[])|(refine(ZE _ _ _ qr.1 qr.2 _).mono ?_;rintro e w'⟨rfl,rfl⟩;simp only[]))
 go_ret
 exact⟨rfl,rfl⟩
theorem ld_17(raw s:Int)(qr:InU raw)(s0:0≤s)(s1:s≤8)(HL:Hid (∀w,Calls prog 48 #[.int .i64 17] w fun e w'=>e=.returned (.bool true)∧w=w'))(HS:Hid (∀w,Calls prog 52 #[.int .i64 17] w fun e w'=>e=.returned (.int .i64 s)∧w=w'))(w:World):
  Calls prog 54 #[.int .i64 17,.int .u64 raw] w fun e w'=>e=.returned (.int .u64 (Fld raw 0 (8*s)))∧w=w':=by
 go_enter func54,ntmps54
 repeat (first|(with_reducible first|refine tE ?_|refine iS ?_|refine iO ?_)|go_values|go_skip|go_guarded|go_step|go_upon|go_back|(refine(HL.out _).mono ?_;rintro e w'⟨rfl,rfl⟩;simp only[])|(refine(HS.out _).mono ?_;rintro e w'⟨rfl,rfl⟩;simp only[])|(refine(ZE _ _ _ qr.1 qr.2 _).mono ?_;rintro e w'⟨rfl,rfl⟩;simp only[]))
 go_ret
 exact⟨rfl,rfl⟩
theorem ld_o(op raw s:Int)(h:op≠15∧op≠16∧op≠17)(qr:InU raw)(s0:0≤s)(s1:s≤8)(HL:Hid (∀w,Calls prog 48 #[.int .i64 op] w fun e w'=>e=.returned (.bool true)∧w=w'))(HS:Hid (∀w,Calls prog 52 #[.int .i64 op] w fun e w'=>e=.returned (.int .i64 s)∧w=w'))(w:World):
  Calls prog 54 #[.int .i64 op,.int .u64 raw] w fun e w'=>e=.returned (.int .u64 (Sgn raw (8*s)))∧w=w':=by
 have e15:(op==15)=false:=nB (by omega)
 have e16:(op==16)=false:=nB (by omega)
 have e17:(op==17)=false:=nB (by omega)
 clear h
 go_enter func54,ntmps54
 repeat (first|(with_reducible first|refine tE ?_|refine iS ?_|refine iO ?_)|go_values|go_skip|go_guarded|go_step|go_upon|go_back|(refine(HL.out _).mono ?_;rintro e w'⟨rfl,rfl⟩;simp only[])|(refine(HS.out _).mono ?_;rintro e w'⟨rfl,rfl⟩;simp only[])|(refine(Zr _ _ qr.1 qr.2 _).mono ?_;rintro e w'⟨rfl,rfl⟩;simp only[]))
 go_ret
 exact⟨rfl,rfl⟩
theorem ld_any(op raw:Int)(qr:InU raw)(w:World):Calls prog 54 #[.int .i64 op,.int .u64 raw] w fun e w'=>e=.returned (.int .u64 (LdB op raw))∧w=w':=by
 have HL:=fun w=>ZZ op w
 have HS:=fun w=>Yo op w
 obtain⟨s0,s1⟩:=Xp op
 unfold LdB
 cases hl:Zz op<;>rw[hl] at HL
 ·exact ld_no op raw (Za op) (Lib.hid HL) w
 rw[if_pos rfl]
 by_cases h:op=15∨op=16∨op=17
 ·rw[if_pos (by omega)]
  rcases h with rfl|rfl|rfl
  ·exact ld_15 raw _ qr s0 s1 (Lib.hid HL) (Lib.hid HS) w
  ·exact ld_16 raw _ qr s0 s1 (Lib.hid HL) (Lib.hid HS) w
  ·exact ld_17 raw _ qr s0 s1 (Lib.hid HL) (Lib.hid HS) w
 ·rw[if_neg (by omega)]
  exact ld_o op raw _ (by omega) qr s0 s1 (Lib.hid HL) (Lib.hid HS) w
theorem rld_no(op raw s:Int)(HL:Hid (∀w,Calls prog 63 #[.int .i64 op] w fun e w'=>e=.returned (.bool false)∧w=w'))(HA:Hid (∀w,Calls prog 60 #[.int .i64 op] w fun e w'=>e=.returned (.bool false)∧w=w'))(w:World):
  Calls prog 65 #[.int .i64 op,.int .u64 raw] w fun e w'=>e=.returned (.int .u64 (0))∧w=w':=by
 go_enter func65,ntmps65
 repeat (first|(with_reducible first|refine tE ?_|refine iS ?_|refine iO ?_)|go_values|go_skip|go_guarded|go_step|go_upon|go_back|(refine(HL.out _).mono ?_;rintro e w'⟨rfl,rfl⟩;simp only[])|(refine(HA.out _).mono ?_;rintro e w'⟨rfl,rfl⟩;simp only[]))
 go_ret
 exact⟨rfl,rfl⟩
theorem rld_67(raw:Int)(HL:Hid (∀w,Calls prog 63 #[.int .i64 67] w fun e w'=>e=.returned (.bool false)∧w=w'))(HA:Hid (∀w,Calls prog 60 #[.int .i64 67] w fun e w'=>e=.returned (.bool true)∧w=w'))(w:World):
  Calls prog 65 #[.int .i64 67,.int .u64 raw] w fun e w'=>e=.returned (.int .u64 (0))∧w=w':=by
 go_enter func65,ntmps65
 repeat (first|(with_reducible first|refine tE ?_|refine iS ?_|refine iO ?_)|go_values|go_skip|go_guarded|go_step|go_upon|go_back|(refine(HL.out _).mono ?_;rintro e w'⟨rfl,rfl⟩;simp only[])|(refine(HA.out _).mono ?_;rintro e w'⟨rfl,rfl⟩;simp only[]))
 go_ret
 exact⟨rfl,rfl⟩
theorem rld_78(raw:Int)(HL:Hid (∀w,Calls prog 63 #[.int .i64 78] w fun e w'=>e=.returned (.bool false)∧w=w'))(HA:Hid (∀w,Calls prog 60 #[.int .i64 78] w fun e w'=>e=.returned (.bool true)∧w=w'))(w:World):
  Calls prog 65 #[.int .i64 78,.int .u64 raw] w fun e w'=>e=.returned (.int .u64 (0))∧w=w':=by
 go_enter func65,ntmps65
 repeat (first|(with_reducible first|refine tE ?_|refine iS ?_|refine iO ?_)|go_values|go_skip|go_guarded|go_step|go_upon|go_back|(refine(HL.out _).mono ?_;rintro e w'⟨rfl,rfl⟩;simp only[])|(refine(HA.out _).mono ?_;rintro e w'⟨rfl,rfl⟩;simp only[]))
 go_ret
 exact⟨rfl,rfl⟩
theorem rld_in(op raw s:Int)(k0:15≤op)(k1:op≤17)(g:op≠67∧op≠78)(qr:InU raw)(s0:0≤s)(s1:s≤8)(HL:Hid (∀w,Calls prog 63 #[.int .i64 op] w fun e w'=>e=.returned (.bool true)∧w=w'))(HS:Hid (∀w,Calls prog 30 #[.int .i64 op] w fun e w'=>e=.returned (.int .i64 s)∧w=w'))(w:World):
  Calls prog 65 #[.int .i64 op,.int .u64 raw] w fun e w'=>e=.returned (.int .u64 (Fld raw 0 (8*s)))∧w=w':=by
 have e67:(op==67)=false:=nB (by omega)
 have e78:(op==78)=false:=nB (by omega)
 clear g
 go_enter func65,ntmps65
 repeat (first|(with_reducible first|refine tE ?_|refine iS ?_|refine iO ?_)|go_values|go_skip|go_guarded|go_step|go_upon|go_back|(refine(HL.out _).mono ?_;rintro e w'⟨rfl,rfl⟩;simp only[])|(refine(HS.out _).mono ?_;rintro e w'⟨rfl,rfl⟩;simp only[])|(refine(Z3 _ _ _ qr.1 qr.2 _).mono ?_;rintro e w'⟨rfl,rfl⟩;simp only[]))
 go_ret
 exact⟨rfl,rfl⟩
theorem rld_lo(op raw s:Int)(k0:¬15≤op)(g:op≠67∧op≠78)(qr:InU raw)(s0:0≤s)(s1:s≤8)(HL:Hid (∀w,Calls prog 63 #[.int .i64 op] w fun e w'=>e=.returned (.bool true)∧w=w'))(HS:Hid (∀w,Calls prog 30 #[.int .i64 op] w fun e w'=>e=.returned (.int .i64 s)∧w=w'))(w:World):
  Calls prog 65 #[.int .i64 op,.int .u64 raw] w fun e w'=>e=.returned (.int .u64 (Sgn raw (8*s)))∧w=w':=by
 have e67:(op==67)=false:=nB (by omega)
 have e78:(op==78)=false:=nB (by omega)
 clear g
 go_enter func65,ntmps65
 repeat (first|(with_reducible first|refine tE ?_|refine iS ?_|refine iO ?_)|go_values|go_skip|go_guarded|go_step|go_upon|go_back|(refine(HL.out _).mono ?_;rintro e w'⟨rfl,rfl⟩;simp only[])|(refine(HS.out _).mono ?_;rintro e w'⟨rfl,rfl⟩;simp only[])|(refine(Zi _ _ qr.1 qr.2 _).mono ?_;rintro e w'⟨rfl,rfl⟩;simp only[]))
 go_ret
 exact⟨rfl,rfl⟩
theorem rld_hi(op raw s:Int)(k0:15≤op)(k1:¬op≤17)(g:op≠67∧op≠78)(qr:InU raw)(s0:0≤s)(s1:s≤8)(HL:Hid (∀w,Calls prog 63 #[.int .i64 op] w fun e w'=>e=.returned (.bool true)∧w=w'))(HS:Hid (∀w,Calls prog 30 #[.int .i64 op] w fun e w'=>e=.returned (.int .i64 s)∧w=w'))(w:World):
  Calls prog 65 #[.int .i64 op,.int .u64 raw] w fun e w'=>e=.returned (.int .u64 (Sgn raw (8*s)))∧w=w':=by
 have e67:(op==67)=false:=nB (by omega)
 have e78:(op==78)=false:=nB (by omega)
 clear g
 go_enter func65,ntmps65
 repeat (first|(with_reducible first|refine tE ?_|refine iS ?_|refine iO ?_)|go_values|go_skip|go_guarded|go_step|go_upon|go_back|(refine(HL.out _).mono ?_;rintro e w'⟨rfl,rfl⟩;simp only[])|(refine(HS.out _).mono ?_;rintro e w'⟨rfl,rfl⟩;simp only[])|(refine(Zi _ _ qr.1 qr.2 _).mono ?_;rintro e w'⟨rfl,rfl⟩;simp only[]))
 go_ret
 exact⟨rfl,rfl⟩
theorem KP(op raw:Int)(qr:InU raw)(w:World):Calls prog 65 #[.int .i64 op,.int .u64 raw] w fun e w'=>e=.returned (.int .u64 (LdB op raw))∧w=w':=by
 have HL:=fun w=>YC op w
 have HA:=fun w=>YJ op w
 have HS:=fun w=>YK op w
 obtain⟨s0,s1⟩:=Xp op
 unfold LdB
 cases hl:Zz op<;>rw[hl] at HL
 ·cases ha:ZR op<;>rw[ha] at HA
  ·exact rld_no op raw (Za op) (Lib.hid HL) (Lib.hid HA) w
  ·have h:op=67∨op=78:=by unfold Zz at hl;unfold ZR at ha;simp at hl ha;omega
   rcases h with rfl|rfl
   ·exact rld_67 raw (Lib.hid HL) (Lib.hid HA) w
   ·exact rld_78 raw (Lib.hid HL) (Lib.hid HA) w
 rw[if_pos rfl]
 have g:op≠67∧op≠78:=by unfold Zz at hl;simp at hl;omega
 by_cases k0:15≤op
 ·by_cases k1:op≤17
  ·rw[if_pos ⟨k0,k1⟩]
   exact rld_in op raw _ k0 k1 g qr s0 s1 (Lib.hid HL) (Lib.hid HS) w
  ·rw[if_neg (by omega)]
   exact rld_hi op raw _ k0 k1 g qr s0 s1 (Lib.hid HL) (Lib.hid HS) w
 ·rw[if_neg (by omega)]
  exact rld_lo op raw _ k0 g qr s0 s1 (Lib.hid HL) (Lib.hid HS) w
end Go.Proofs.YtgpdpaljbiclkaaGreatDoor

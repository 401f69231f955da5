/-
  Proved here: what the reference's operations of two numbers of 64 bits give. Conditions: the numbers are words.
-/
import Derived.Test.YtgpdpaljbiclkaaGreatDoorSzz
import Derived.Test.YtgpdpaljbiclkaaGreatDoorSax
set_option maxHeartbeats 1000000
set_option maxRecDepth 100000
namespace Go.Proofs.YtgpdpaljbiclkaaGreatDoor
open _root_.Go.Proofs.Tryz
open Go.RowKit
set_option linter.unusedVariables false
theorem Xt{k:IntKind}{a b:Int}{v:Value}(h:a=b):Ending.returned (.tuple #[.int k a,v])=.returned (.tuple #[.int k b,v]):=by rw[h]
theorem Z2Q(b:Bool)(w:World):Calls prog 104 #[.bool b] w fun e w'=>e=.returned (.int .u64 (Xv b))∧w=w':=Z4L b w
theorem JV(x:Int)(h:InU x):0≤Bt x 63∧Bt x 63≤1:=by rw[JU x h];split<;>omega
theorem bt31(x:Int)(h:InU x):Bt x 31=Bt (Sgn x 32) 63:=by
 rw[JU _ (Zn x 32 h),Z2O x h.1]
 obtain⟨n,rfl⟩:=Int.eq_ofNat_of_zero_le h.1
 unfold Bt
 simp only[Int.toNat_natCast,show((31:Int).toNat)=31 from rfl,show(2:Nat) ^ 31=2147483648 by decide]
 split<;>split<;>omega
theorem JW(x:Int)(h:InU x):0≤Bt x 31∧Bt x 31≤1:=by rw[bt31 x h];exact JV _ (Zn x 32 h)
theorem Z4M(x:Int)(k:Nat)(q:InU x):InU (x / 2 ^ k):=by
 obtain⟨a,b⟩:=q
 have h:(0:Int)<2 ^ k:=Int.pow_pos (by decide)
 exact⟨Int.ediv_nonneg a (Int.le_of_lt h),Int.lt_of_le_of_lt (Int.ediv_le_self _ a) b⟩
theorem Z4N(a c:Int)(qa:InU a)(qc:InU c)(w:World):Calls prog 68 #[.int .i64 31,.int .u64 a,.int .u64 c] w fun e w'=>e=.returned (.tuple #[.int .u64 (IntKind.u64.wrap (a+c)),.bool true])∧w=w':=by
 have m0:0≤c % 64:=by omega
 have m1:c % 64≤63:=by omega
 have hF:=Lib.hid (XE c qc.1)
 go_enter func68,ntmps68
 repeat (first|(with_reducible first|refine tE ?_|refine iS ?_|refine iO ?_)|go_values|go_skip|go_guarded|go_step|go_upon|go_back)
 refine(Z3 _ _ _ qc.1 qc.2 _).mono ?_
 rintro e w'⟨rfl,rfl⟩
 rw[hF.out]
 simp only[]
 repeat (first|(with_reducible first|refine tE ?_|refine iS ?_|refine iO ?_)|go_values|go_skip|go_guarded|go_step|go_upon|go_back)
 go_ret2
 exact⟨rfl,rfl⟩
theorem Z4O(a c:Int)(qa:InU a)(qc:InU c)(w:World):Calls prog 68 #[.int .i64 22,.int .u64 a,.int .u64 c] w fun e w'=>e=.returned (.tuple #[.int .u64 (IntKind.u64.wrap (a+c)),.bool true])∧w=w':=by
 have m0:0≤c % 64:=by omega
 have m1:c % 64≤63:=by omega
 have hF:=Lib.hid (XE c qc.1)
 go_enter func68,ntmps68
 repeat (first|(with_reducible first|refine tE ?_|refine iS ?_|refine iO ?_)|go_values|go_skip|go_guarded|go_step|go_upon|go_back)
 refine(Z3 _ _ _ qc.1 qc.2 _).mono ?_
 rintro e w'⟨rfl,rfl⟩
 rw[hF.out]
 simp only[]
 repeat (first|(with_reducible first|refine tE ?_|refine iS ?_|refine iO ?_)|go_values|go_skip|go_guarded|go_step|go_upon|go_back)
 go_ret2
 exact⟨rfl,rfl⟩
theorem Z4P(a c:Int)(qa:InU a)(qc:InU c)(w:World):Calls prog 68 #[.int .i64 32,.int .u64 a,.int .u64 c] w fun e w'=>e=.returned (.tuple #[.int .u64 (IntKind.u64.wrap (a-c)),.bool true])∧w=w':=by
 have m0:0≤c % 64:=by omega
 have m1:c % 64≤63:=by omega
 have hF:=Lib.hid (XE c qc.1)
 go_enter func68,ntmps68
 repeat (first|(with_reducible first|refine tE ?_|refine iS ?_|refine iO ?_)|go_values|go_skip|go_guarded|go_step|go_upon|go_back)
 refine(Z3 _ _ _ qc.1 qc.2 _).mono ?_
 rintro e w'⟨rfl,rfl⟩
 rw[hF.out]
 simp only[]
 repeat (first|(with_reducible first|refine tE ?_|refine iS ?_|refine iO ?_)|go_values|go_skip|go_guarded|go_step|go_upon|go_back)
 go_ret2
 exact⟨rfl,rfl⟩
theorem Z4Q(a c:Int)(qa:InU a)(qc:InU c)(w:World):Calls prog 68 #[.int .i64 33,.int .u64 a,.int .u64 c] w fun e w'=>e=.returned (.tuple #[.int .u64 (IntKind.u64.wrap (a*2 ^ (c % 64).toNat)),.bool true])∧w=w':=by
 have HR:Hid (Shl a (c % 64).toNat=IntKind.u64.wrap (a*2 ^ (c % 64).toNat)):=Lib.hid (rfl)
 have m0:0≤c % 64:=by omega
 have m1:c % 64≤63:=by omega
 have hF:=Lib.hid (XE c qc.1)
 go_enter func68,ntmps68
 repeat (first|(with_reducible first|refine tE ?_|refine iS ?_|refine iO ?_)|go_values|go_skip|go_guarded|go_step|go_upon|go_back)
 refine(Z3 _ _ _ qc.1 qc.2 _).mono ?_
 rintro e w'⟨rfl,rfl⟩
 rw[hF.out]
 simp only[]
 repeat (first|(with_reducible first|refine tE ?_|refine iS ?_|refine iO ?_)|go_values|go_skip|go_guarded|go_step|go_upon|go_back|(refine(Kp _ _ qa m0 (by omega) _).mono ?_;rintro e w'⟨rfl,rfl⟩;simp only[]))
 go_ret2
 exact⟨Xt HR.out,rfl⟩
theorem Z4R(a c:Int)(qa:InU a)(qc:InU c)(w:World):Calls prog 68 #[.int .i64 28,.int .u64 a,.int .u64 c] w fun e w'=>e=.returned (.tuple #[.int .u64 (IntKind.u64.wrap (a*2 ^ (c % 64).toNat)),.bool true])∧w=w':=by
 have HR:Hid (Shl a (c % 64).toNat=IntKind.u64.wrap (a*2 ^ (c % 64).toNat)):=Lib.hid (rfl)
 have m0:0≤c % 64:=by omega
 have m1:c % 64≤63:=by omega
 have hF:=Lib.hid (XE c qc.1)
 go_enter func68,ntmps68
 repeat (first|(with_reducible first|refine tE ?_|refine iS ?_|refine iO ?_)|go_values|go_skip|go_guarded|go_step|go_upon|go_back)
 refine(Z3 _ _ _ qc.1 qc.2 _).mono ?_
 rintro e w'⟨rfl,rfl⟩
 rw[hF.out]
 simp only[]
 repeat (first|(with_reducible first|refine tE ?_|refine iS ?_|refine iO ?_)|go_values|go_skip|go_guarded|go_step|go_upon|go_back|(refine(Kp _ _ qa m0 (by omega) _).mono ?_;rintro e w'⟨rfl,rfl⟩;simp only[]))
 go_ret2
 exact⟨Xt HR.out,rfl⟩
theorem Z4S(a c:Int)(qa:InU a)(qc:InU c)(w:World):Calls prog 68 #[.int .i64 37,.int .u64 a,.int .u64 c] w fun e w'=>e=.returned (.tuple #[.int .u64 (a / 2 ^ (c % 64).toNat),.bool true])∧w=w':=by
 have m0:0≤c % 64:=by omega
 have m1:c % 64≤63:=by omega
 have hF:=Lib.hid (XE c qc.1)
 go_enter func68,ntmps68
 repeat (first|(with_reducible first|refine tE ?_|refine iS ?_|refine iO ?_)|go_values|go_skip|go_guarded|go_step|go_upon|go_back)
 refine(Z3 _ _ _ qc.1 qc.2 _).mono ?_
 rintro e w'⟨rfl,rfl⟩
 rw[hF.out]
 simp only[]
 repeat (first|(with_reducible first|refine tE ?_|refine iS ?_|refine iO ?_)|go_values|go_skip|go_guarded|go_step|go_upon|go_back|(refine(Xr _ _ qa m0 (by omega) _).mono ?_;rintro e w'⟨rfl,rfl⟩;simp only[]))
 go_ret2
 exact⟨rfl,rfl⟩
theorem Z4T(a c:Int)(qa:InU a)(qc:InU c)(w:World):Calls prog 68 #[.int .i64 29,.int .u64 a,.int .u64 c] w fun e w'=>e=.returned (.tuple #[.int .u64 (a / 2 ^ (c % 64).toNat),.bool true])∧w=w':=by
 have m0:0≤c % 64:=by omega
 have m1:c % 64≤63:=by omega
 have hF:=Lib.hid (XE c qc.1)
 go_enter func68,ntmps68
 repeat (first|(with_reducible first|refine tE ?_|refine iS ?_|refine iO ?_)|go_values|go_skip|go_guarded|go_step|go_upon|go_back)
 refine(Z3 _ _ _ qc.1 qc.2 _).mono ?_
 rintro e w'⟨rfl,rfl⟩
 rw[hF.out]
 simp only[]
 repeat (first|(with_reducible first|refine tE ?_|refine iS ?_|refine iO ?_)|go_values|go_skip|go_guarded|go_step|go_upon|go_back|(refine(Xr _ _ qa m0 (by omega) _).mono ?_;rintro e w'⟨rfl,rfl⟩;simp only[]))
 go_ret2
 exact⟨rfl,rfl⟩
theorem Z4U(a c:Int)(qa:InU a)(qc:InU c)(w:World):Calls prog 68 #[.int .i64 38,.int .u64 a,.int .u64 c] w fun e w'=>e=.returned (.tuple #[.int .u64 (Sar a c 64),.bool true])∧w=w':=by
 have HR:Hid (Asr a (c % 64).toNat=Sar a c 64):=Lib.hid (rfl)
 have m0:0≤c % 64:=by omega
 have m1:c % 64≤63:=by omega
 have hF:=Lib.hid (XE c qc.1)
 obtain⟨t0,t1⟩:=JV a qa
 go_enter func68,ntmps68
 repeat (first|(with_reducible first|refine tE ?_|refine iS ?_|refine iO ?_)|go_values|go_skip|go_guarded|go_step|go_upon|go_back)
 refine(Z3 _ _ _ qc.1 qc.2 _).mono ?_
 rintro e w'⟨rfl,rfl⟩
 rw[hF.out]
 simp only[]
 repeat (first|(with_reducible first|refine tE ?_|refine iS ?_|refine iO ?_)|go_values|go_skip|go_guarded|go_step|go_upon|go_back|(refine(Y2 _ _ qa.1 qa.2 (by decide) (by decide) _).mono ?_;rintro e w'⟨rfl,rfl⟩;simp only[])|(refine(Xs _ _ _ qa (Lib.hid rfl) t0 t1 m0 (by omega) _).mono ?_;rintro e w'⟨rfl,rfl⟩;simp only[]))
 go_ret2
 exact⟨Xt HR.out,rfl⟩
theorem Z4V(a c:Int)(qa:InU a)(qc:InU c)(w:World):Calls prog 68 #[.int .i64 30,.int .u64 a,.int .u64 c] w fun e w'=>e=.returned (.tuple #[.int .u64 (Sar a c 64),.bool true])∧w=w':=by
 have HR:Hid (Asr a (c % 64).toNat=Sar a c 64):=Lib.hid (rfl)
 have m0:0≤c % 64:=by omega
 have m1:c % 64≤63:=by omega
 have hF:=Lib.hid (XE c qc.1)
 obtain⟨t0,t1⟩:=JV a qa
 go_enter func68,ntmps68
 repeat (first|(with_reducible first|refine tE ?_|refine iS ?_|refine iO ?_)|go_values|go_skip|go_guarded|go_step|go_upon|go_back)
 refine(Z3 _ _ _ qc.1 qc.2 _).mono ?_
 rintro e w'⟨rfl,rfl⟩
 rw[hF.out]
 simp only[]
 repeat (first|(with_reducible first|refine tE ?_|refine iS ?_|refine iO ?_)|go_values|go_skip|go_guarded|go_step|go_upon|go_back|(refine(Y2 _ _ qa.1 qa.2 (by decide) (by decide) _).mono ?_;rintro e w'⟨rfl,rfl⟩;simp only[])|(refine(Xs _ _ _ qa (Lib.hid rfl) t0 t1 m0 (by omega) _).mono ?_;rintro e w'⟨rfl,rfl⟩;simp only[]))
 go_ret2
 exact⟨Xt HR.out,rfl⟩
theorem Z4W(a c:Int)(qa:InU a)(qc:InU c)(w:World):Calls prog 68 #[.int .i64 34,.int .u64 a,.int .u64 c] w fun e w'=>e=.returned (.tuple #[.int .u64 (Xv (LtS a c)),.bool true])∧w=w':=by
 have m0:0≤c % 64:=by omega
 have m1:c % 64≤63:=by omega
 have hF:=Lib.hid (XE c qc.1)
 go_enter func68,ntmps68
 repeat (first|(with_reducible first|refine tE ?_|refine iS ?_|refine iO ?_)|go_values|go_skip|go_guarded|go_step|go_upon|go_back)
 refine(Z3 _ _ _ qc.1 qc.2 _).mono ?_
 rintro e w'⟨rfl,rfl⟩
 rw[hF.out]
 simp only[]
 repeat (first|(with_reducible first|refine tE ?_|refine iS ?_|refine iO ?_)|go_values|go_skip|go_guarded|go_step|go_upon|go_back|(refine(YZ _ _ qa qc _).mono ?_;rintro e w'⟨rfl,rfl⟩;simp only[])|(refine(Z2Q _ _).mono ?_;rintro e w'⟨rfl,rfl⟩;simp only[]))
 go_ret2
 exact⟨rfl,rfl⟩
theorem Z4X(a c:Int)(qa:InU a)(qc:InU c)(w:World):Calls prog 68 #[.int .i64 23,.int .u64 a,.int .u64 c] w fun e w'=>e=.returned (.tuple #[.int .u64 (Xv (LtS a c)),.bool true])∧w=w':=by
 have m0:0≤c % 64:=by omega
 have m1:c % 64≤63:=by omega
 have hF:=Lib.hid (XE c qc.1)
 go_enter func68,ntmps68
 repeat (first|(with_reducible first|refine tE ?_|refine iS ?_|refine iO ?_)|go_values|go_skip|go_guarded|go_step|go_upon|go_back)
 refine(Z3 _ _ _ qc.1 qc.2 _).mono ?_
 rintro e w'⟨rfl,rfl⟩
 rw[hF.out]
 simp only[]
 repeat (first|(with_reducible first|refine tE ?_|refine iS ?_|refine iO ?_)|go_values|go_skip|go_guarded|go_step|go_upon|go_back|(refine(YZ _ _ qa qc _).mono ?_;rintro e w'⟨rfl,rfl⟩;simp only[])|(refine(Z2Q _ _).mono ?_;rintro e w'⟨rfl,rfl⟩;simp only[]))
 go_ret2
 exact⟨rfl,rfl⟩
theorem Z4Y(a c:Int)(qa:InU a)(qc:InU c)(w:World):Calls prog 68 #[.int .i64 35,.int .u64 a,.int .u64 c] w fun e w'=>e=.returned (.tuple #[.int .u64 (Xv (LtU a c)),.bool true])∧w=w':=by
 have m0:0≤c % 64:=by omega
 have m1:c % 64≤63:=by omega
 have hF:=Lib.hid (XE c qc.1)
 go_enter func68,ntmps68
 repeat (first|(with_reducible first|refine tE ?_|refine iS ?_|refine iO ?_)|go_values|go_skip|go_guarded|go_step|go_upon|go_back)
 refine(Z3 _ _ _ qc.1 qc.2 _).mono ?_
 rintro e w'⟨rfl,rfl⟩
 rw[hF.out]
 simp only[]
 repeat (first|(with_reducible first|refine tE ?_|refine iS ?_|refine iO ?_)|go_values|go_skip|go_guarded|go_step|go_upon|go_back|(refine(Z2Q (LtU a c) _).mono ?_;rintro e w'⟨rfl,rfl⟩;simp only[]))
 go_ret2
 exact⟨rfl,rfl⟩
theorem Z4Z(a c:Int)(qa:InU a)(qc:InU c)(w:World):Calls prog 68 #[.int .i64 24,.int .u64 a,.int .u64 c] w fun e w'=>e=.returned (.tuple #[.int .u64 (Xv (LtU a c)),.bool true])∧w=w':=by
 have m0:0≤c % 64:=by omega
 have m1:c % 64≤63:=by omega
 have hF:=Lib.hid (XE c qc.1)
 go_enter func68,ntmps68
 repeat (first|(with_reducible first|refine tE ?_|refine iS ?_|refine iO ?_)|go_values|go_skip|go_guarded|go_step|go_upon|go_back)
 refine(Z3 _ _ _ qc.1 qc.2 _).mono ?_
 rintro e w'⟨rfl,rfl⟩
 rw[hF.out]
 simp only[]
 repeat (first|(with_reducible first|refine tE ?_|refine iS ?_|refine iO ?_)|go_values|go_skip|go_guarded|go_step|go_upon|go_back|(refine(Z2Q (LtU a c) _).mono ?_;rintro e w'⟨rfl,rfl⟩;simp only[]))
 go_ret2
 exact⟨rfl,rfl⟩
theorem Z50(a c:Int)(qa:InU a)(qc:InU c)(w:World):Calls prog 68 #[.int .i64 36,.int .u64 a,.int .u64 c] w fun e w'=>e=.returned (.tuple #[.int .u64 (bits .xor .u64 a c),.bool true])∧w=w':=by
 have m0:0≤c % 64:=by omega
 have m1:c % 64≤63:=by omega
 have hF:=Lib.hid (XE c qc.1)
 go_enter func68,ntmps68
 repeat (first|(with_reducible first|refine tE ?_|refine iS ?_|refine iO ?_)|go_values|go_skip|go_guarded|go_step|go_upon|go_back)
 refine(Z3 _ _ _ qc.1 qc.2 _).mono ?_
 rintro e w'⟨rfl,rfl⟩
 rw[hF.out]
 simp only[]
 repeat (first|(with_reducible first|refine tE ?_|refine iS ?_|refine iO ?_)|go_values|go_skip|go_guarded|go_step|go_upon|go_back)
 go_ret2
 exact⟨rfl,rfl⟩
theorem Z51(a c:Int)(qa:InU a)(qc:InU c)(w:World):Calls prog 68 #[.int .i64 25,.int .u64 a,.int .u64 c] w fun e w'=>e=.returned (.tuple #[.int .u64 (bits .xor .u64 a c),.bool true])∧w=w':=by
 have m0:0≤c % 64:=by omega
 have m1:c % 64≤63:=by omega
 have hF:=Lib.hid (XE c qc.1)
 go_enter func68,ntmps68
 repeat (first|(with_reducible first|refine tE ?_|refine iS ?_|refine iO ?_)|go_values|go_skip|go_guarded|go_step|go_upon|go_back)
 refine(Z3 _ _ _ qc.1 qc.2 _).mono ?_
 rintro e w'⟨rfl,rfl⟩
 rw[hF.out]
 simp only[]
 repeat (first|(with_reducible first|refine tE ?_|refine iS ?_|refine iO ?_)|go_values|go_skip|go_guarded|go_step|go_upon|go_back)
 go_ret2
 exact⟨rfl,rfl⟩
theorem Z52(a c:Int)(qa:InU a)(qc:InU c)(w:World):Calls prog 68 #[.int .i64 39,.int .u64 a,.int .u64 c] w fun e w'=>e=.returned (.tuple #[.int .u64 (bits .or .u64 a c),.bool true])∧w=w':=by
 have m0:0≤c % 64:=by omega
 have m1:c % 64≤63:=by omega
 have hF:=Lib.hid (XE c qc.1)
 go_enter func68,ntmps68
 repeat (first|(with_reducible first|refine tE ?_|refine iS ?_|refine iO ?_)|go_values|go_skip|go_guarded|go_step|go_upon|go_back)
 refine(Z3 _ _ _ qc.1 qc.2 _).mono ?_
 rintro e w'⟨rfl,rfl⟩
 rw[hF.out]
 simp only[]
 repeat (first|(with_reducible first|refine tE ?_|refine iS ?_|refine iO ?_)|go_values|go_skip|go_guarded|go_step|go_upon|go_back)
 go_ret2
 exact⟨rfl,rfl⟩
theorem Z53(a c:Int)(qa:InU a)(qc:InU c)(w:World):Calls prog 68 #[.int .i64 26,.int .u64 a,.int .u64 c] w fun e w'=>e=.returned (.tuple #[.int .u64 (bits .or .u64 a c),.bool true])∧w=w':=by
 have m0:0≤c % 64:=by omega
 have m1:c % 64≤63:=by omega
 have hF:=Lib.hid (XE c qc.1)
 go_enter func68,ntmps68
 repeat (first|(with_reducible first|refine tE ?_|refine iS ?_|refine iO ?_)|go_values|go_skip|go_guarded|go_step|go_upon|go_back)
 refine(Z3 _ _ _ qc.1 qc.2 _).mono ?_
 rintro e w'⟨rfl,rfl⟩
 rw[hF.out]
 simp only[]
 repeat (first|(with_reducible first|refine tE ?_|refine iS ?_|refine iO ?_)|go_values|go_skip|go_guarded|go_step|go_upon|go_back)
 go_ret2
 exact⟨rfl,rfl⟩
theorem Z54(a c:Int)(qa:InU a)(qc:InU c)(w:World):Calls prog 68 #[.int .i64 40,.int .u64 a,.int .u64 c] w fun e w'=>e=.returned (.tuple #[.int .u64 (bits .and .u64 a c),.bool true])∧w=w':=by
 have m0:0≤c % 64:=by omega
 have m1:c % 64≤63:=by omega
 have hF:=Lib.hid (XE c qc.1)
 go_enter func68,ntmps68
 repeat (first|(with_reducible first|refine tE ?_|refine iS ?_|refine iO ?_)|go_values|go_skip|go_guarded|go_step|go_upon|go_back)
 refine(Z3 _ _ _ qc.1 qc.2 _).mono ?_
 rintro e w'⟨rfl,rfl⟩
 rw[hF.out]
 simp only[]
 repeat (first|(with_reducible first|refine tE ?_|refine iS ?_|refine iO ?_)|go_values|go_skip|go_guarded|go_step|go_upon|go_back)
 go_ret2
 exact⟨rfl,rfl⟩
theorem Z55(a c:Int)(qa:InU a)(qc:InU c)(w:World):Calls prog 68 #[.int .i64 27,.int .u64 a,.int .u64 c] w fun e w'=>e=.returned (.tuple #[.int .u64 (bits .and .u64 a c),.bool true])∧w=w':=by
 have m0:0≤c % 64:=by omega
 have m1:c % 64≤63:=by omega
 have hF:=Lib.hid (XE c qc.1)
 go_enter func68,ntmps68
 repeat (first|(with_reducible first|refine tE ?_|refine iS ?_|refine iO ?_)|go_values|go_skip|go_guarded|go_step|go_upon|go_back)
 refine(Z3 _ _ _ qc.1 qc.2 _).mono ?_
 rintro e w'⟨rfl,rfl⟩
 rw[hF.out]
 simp only[]
 repeat (first|(with_reducible first|refine tE ?_|refine iS ?_|refine iO ?_)|go_values|go_skip|go_guarded|go_step|go_upon|go_back)
 go_ret2
 exact⟨rfl,rfl⟩
theorem ZH(op a c:Int)(h:op≠31∧op≠22∧op≠32∧op≠33∧op≠28∧op≠37∧op≠29∧op≠38∧op≠30∧op≠34∧op≠23∧op≠35∧op≠24∧op≠36∧op≠25∧op≠39∧op≠26∧op≠40∧op≠27)(qa:InU a)(qc:InU c)(w:World):Calls prog 68 #[.int .i64 op,.int .u64 a,.int .u64 c] w fun e w'=>e=.returned (.tuple #[.int .u64 0,.bool false])∧w=w':=by
 have e31:(op==31)=false:=nB (by omega)
 have e22:(op==22)=false:=nB (by omega)
 have e32:(op==32)=false:=nB (by omega)
 have e33:(op==33)=false:=nB (by omega)
 have e28:(op==28)=false:=nB (by omega)
 have e37:(op==37)=false:=nB (by omega)
 have e29:(op==29)=false:=nB (by omega)
 have e38:(op==38)=false:=nB (by omega)
 have e30:(op==30)=false:=nB (by omega)
 have e34:(op==34)=false:=nB (by omega)
 have e23:(op==23)=false:=nB (by omega)
 have e35:(op==35)=false:=nB (by omega)
 have e24:(op==24)=false:=nB (by omega)
 have e36:(op==36)=false:=nB (by omega)
 have e25:(op==25)=false:=nB (by omega)
 have e39:(op==39)=false:=nB (by omega)
 have e26:(op==26)=false:=nB (by omega)
 have e40:(op==40)=false:=nB (by omega)
 have e27:(op==27)=false:=nB (by omega)
 clear h
 have m0:0≤c % 64:=by omega
 have m1:c % 64≤63:=by omega
 have hF:=Lib.hid (XE c qc.1)
 go_enter func68,ntmps68
 repeat (first|(with_reducible first|refine tE ?_|refine iS ?_|refine iO ?_)|go_values|go_skip|go_guarded|go_step|go_upon|go_back)
 refine(Z3 _ _ _ qc.1 qc.2 _).mono ?_
 rintro e w'⟨rfl,rfl⟩
 rw[hF.out]
 simp only[]
 repeat (first|(with_reducible first|refine tE ?_|refine iS ?_|refine iO ?_)|go_values|go_skip|go_guarded|go_step|go_upon|go_back)
 go_ret2
 exact⟨rfl,rfl⟩
end Go.Proofs.YtgpdpaljbiclkaaGreatDoor

/-
  Proved here: what word the reference has for every instruction: the code's, or none. Conditions: the numbers are ints. ¦ what the small functions on operations answer, the code's and the reference's alike: atomic, loads, stores, size, sets. Condition: the table of codes holds what its text lays.
-/
import Derived.Test.YtgpdpaljbiclkaaGreatDoorSam
import Derived.Test.YtgpdpaljbiclkaaGreatDoorSak
import Derived.Test.YtgpdpaljbiclkaaGreatDoorSah
set_option maxHeartbeats 4000000
set_option maxRecDepth 100000
section
namespace Go.Proofs.YtgpdpaljbiclkaaGreatDoor
open _root_.Go.Proofs.Tryz
open Go.RowKit
set_option linter.unusedVariables false
theorem Z4o(f op o a3 a7 rd rs1 rs2 im:Int)(aq rl:Bool)(f1:1≤f)(f12:f≤12)(o0:0≤o)(o1:o≤127)(a0:0≤a3)(a1:a3≤7)(b0:0≤a7)(b1:a7≤127)(hf:Fine f a3 a7=true)
  (r0:0≤rd) (r1:rd≤31) (s0:0≤rs1) (s1:rs1≤31) (t0:0≤rs2) (t1:rs2≤31) (hrd:rd=oi (rdT f) rd) (hs1:rs1=oi (YP f) rs1) (hs2:rs2=oi (YQ f) rs2) (hq:aq=ob (ZX f) aq) (hl:rl=ob (ZX f) rl) (hm:ZB f im=true)
  (RA:Hid (∀w,Calls prog 67 #[.int .i64 op] w fun e w'=>e=.returned (.agg #[.int .i64 f,.int .i64 o,.int .i64 a3,.int .i64 a7])∧Nw w w'))
  (RG:Hid (∀w,Calls prog 66 #[.agg #[.int .i64 op,.int .i64 rd,.int .i64 rs1,.int .i64 rs2,.int .i64 im,.bool aq,.bool rl]] w fun e w'=>e=.returned (.bool true)∧Nb w w')) (w:World):
  Calls prog 59 #[.agg #[.int .i64 op,.int .i64 rd,.int .i64 rs1,.int .i64 rs2,.int .i64 im,.bool aq,.bool rl]] w fun e w'=>e=.returned (.tuple #[.int .u32 (IntKind.u32.wrap (WW f o a3 a7 rd rs1 rs2 aq rl (IntKind.u64.wrap im))),.int .i64 0])∧Nb w w':=by
 obtain⟨o,rfl⟩:=Int.eq_ofNat_of_zero_le o0
 obtain⟨a3,rfl⟩:=Int.eq_ofNat_of_zero_le a0
 obtain⟨a7,rfl⟩:=Int.eq_ofNat_of_zero_le b0
 unfold Fine at hf
 have hk:f=1∨f=2∨f=3∨f=4∨f=5∨f=6∨f=7∨f=8∨f=9∨f=10∨f=11∨f=12:=by omega
 rcases hk with rfl|rfl|rfl|rfl|rfl|rfl|rfl|rfl|rfl|rfl|rfl|rfl
 ·obtain⟨rd,rfl⟩:=Int.eq_ofNat_of_zero_le r0
  obtain rfl:rs1=0:=hs1
  obtain rfl:rs2=0:=hs2
  obtain rfl:aq=false:=hq
  obtain rfl:rl=false:=hl
  simp at hf
  rw[←rs_1 o a3 a7 rd 0 0 im false false (by omega) (by omega) (by omega) (by omega) (by omega) (by omega) (by omega) (by omega) hm]
  exact rw_1 op o a3 a7 rd 0 0 im false false RA RG w
 ·obtain⟨rd,rfl⟩:=Int.eq_ofNat_of_zero_le r0
  obtain rfl:rs1=0:=hs1
  obtain rfl:rs2=0:=hs2
  obtain rfl:aq=false:=hq
  obtain rfl:rl=false:=hl
  simp at hf
  rw[←rs_2 o a3 a7 rd 0 0 im false false (by omega) (by omega) (by omega) (by omega) (by omega) (by omega) (by omega) (by omega) hm]
  exact rw_2 op o a3 a7 rd 0 0 im false false RA RG w
 ·obtain⟨rd,rfl⟩:=Int.eq_ofNat_of_zero_le r0
  obtain⟨rs1,rfl⟩:=Int.eq_ofNat_of_zero_le s0
  obtain rfl:rs2=0:=hs2
  obtain rfl:aq=false:=hq
  obtain rfl:rl=false:=hl
  simp at hf
  rw[←rs_3 o a3 a7 rd rs1 0 im false false (by omega) (by omega) (by omega) (by omega) (by omega) (by omega) (by omega) hm]
  exact rw_3 op o a3 a7 rd rs1 0 im false false RA RG w
 ·obtain rfl:rd=0:=hrd
  obtain⟨rs1,rfl⟩:=Int.eq_ofNat_of_zero_le s0
  obtain⟨rs2,rfl⟩:=Int.eq_ofNat_of_zero_le t0
  obtain rfl:aq=false:=hq
  obtain rfl:rl=false:=hl
  simp at hf
  rw[←rs_4 o a3 a7 0 rs1 rs2 im false false (by omega) (by omega) (by omega) (by omega) (by omega) (by omega) (by omega) hm]
  exact rw_4 op o a3 a7 0 rs1 rs2 im false false RA RG w
 ·obtain rfl:rd=0:=hrd
  obtain⟨rs1,rfl⟩:=Int.eq_ofNat_of_zero_le s0
  obtain⟨rs2,rfl⟩:=Int.eq_ofNat_of_zero_le t0
  obtain rfl:aq=false:=hq
  obtain rfl:rl=false:=hl
  simp at hf
  rw[←rs_5 o a3 a7 0 rs1 rs2 im false false (by omega) (by omega) (by omega) (by omega) (by omega) (by omega) (by omega) hm]
  exact rw_5 op o a3 a7 0 rs1 rs2 im false false RA RG w
 ·obtain⟨rd,rfl⟩:=Int.eq_ofNat_of_zero_le r0
  obtain⟨rs1,rfl⟩:=Int.eq_ofNat_of_zero_le s0
  obtain rfl:rs2=0:=hs2
  obtain rfl:aq=false:=hq
  obtain rfl:rl=false:=hl
  simp at hf
  rw[←rs_6 o a3 a7 rd rs1 0 im false false (by omega) (by omega) (by omega) (by omega) (by omega) (by omega) (by omega) hm]
  exact rw_6 op o a3 a7 rd rs1 0 im false false RA RG w
 ·obtain⟨rd,rfl⟩:=Int.eq_ofNat_of_zero_le r0
  obtain⟨rs1,rfl⟩:=Int.eq_ofNat_of_zero_le s0
  obtain rfl:rs2=0:=hs2
  obtain rfl:aq=false:=hq
  obtain rfl:rl=false:=hl
  clear hf
  rw[←rs_7 o a3 a7 rd rs1 0 im false false (by omega) (by omega) (by omega) (by omega) (by omega) (by omega) hm]
  exact rw_7 op o a3 a7 rd rs1 0 im false false RA RG w
 ·obtain⟨rd,rfl⟩:=Int.eq_ofNat_of_zero_le r0
  obtain⟨rs1,rfl⟩:=Int.eq_ofNat_of_zero_le s0
  obtain⟨rs2,rfl⟩:=Int.eq_ofNat_of_zero_le t0
  obtain rfl:aq=false:=hq
  obtain rfl:rl=false:=hl
  clear hf
  rw[←rs_8 o a3 a7 rd rs1 rs2 im false false (by omega) (by omega) (by omega) (by omega) (by omega) (by omega) hm]
  exact rw_8 op o a3 a7 rd rs1 rs2 im false false RA RG w
 ·obtain rfl:rd=0:=hrd
  obtain rfl:rs1=0:=hs1
  obtain rfl:rs2=0:=hs2
  obtain rfl:aq=false:=hq
  obtain rfl:rl=false:=hl
  simp at hf
  rw[←rs_9 o a3 a7 0 0 0 im false false (by omega) (by omega) (by omega) (by omega) (by omega) (by omega) (by omega) (by omega) hm]
  exact rw_9 op o a3 a7 0 0 0 im false false RA RG w
 ·obtain rfl:rd=0:=hrd
  obtain rfl:rs1=0:=hs1
  obtain rfl:rs2=0:=hs2
  obtain rfl:aq=false:=hq
  obtain rfl:rl=false:=hl
  simp at hf
  rw[←rs_10 o a3 a7 0 0 0 im false false (by omega) (by omega) (by omega) (by omega) (by omega) (by omega) (by omega) hm]
  exact rw_10 op o a3 a7 0 0 0 im false false RA RG w
 ·obtain⟨rd,rfl⟩:=Int.eq_ofNat_of_zero_le r0
  obtain⟨rs1,rfl⟩:=Int.eq_ofNat_of_zero_le s0
  obtain rfl:rs2=0:=hs2
  simp at hf
  rw[←rs_11 o a3 a7 rd rs1 0 im aq rl (by omega) (by omega) (by omega) (by omega) (by omega) (by omega) (by omega) hm]
  exact rw_11 op o a3 a7 rd rs1 0 im aq rl RA RG w
 ·obtain⟨rd,rfl⟩:=Int.eq_ofNat_of_zero_le r0
  obtain⟨rs1,rfl⟩:=Int.eq_ofNat_of_zero_le s0
  obtain⟨rs2,rfl⟩:=Int.eq_ofNat_of_zero_le t0
  simp at hf
  rw[←rs_12 o a3 a7 rd rs1 rs2 im aq rl (by omega) (by omega) (by omega) (by omega) (by omega) (by omega) (by omega) hm]
  exact rw_12 op o a3 a7 rd rs1 rs2 im aq rl RA RG w
theorem rgoods(op rd rs1 rs2 im:Int)(aq rl:Bool)(v0: -9223372036854775808≤im)(v1:im<9223372036854775808)(w:World):
  Calls prog 66 #[.agg #[.int .i64 op,.int .i64 rd,.int .i64 rs1,.int .i64 rs2,.int .i64 im,.bool aq,.bool rl]] w fun e w'=>e=.returned (.bool (GoodB op rd rs1 rs2 im aq rl))∧Nb w w':=by
 rw[←Z4b]
 exact Z39 op rd rs1 rs2 im aq rl v0 v1 w
theorem Z4p(op rd rs1 rs2 im:Int)(aq rl:Bool)(v0: -9223372036854775808≤im)(v1:im<9223372036854775808)(hg:GoodB op rd rs1 rs2 im aq rl=true)(w:World):
  Calls prog 59 #[.agg #[.int .i64 op,.int .i64 rd,.int .i64 rs1,.int .i64 rs2,.int .i64 im,.bool aq,.bool rl]] w fun e w'=>e=.returned (.tuple #[.int .u32 (Z0z op rd rs1 rs2 im aq rl),.int .i64 0])∧Nb w w':=by
 have hn:=JM hg
 obtain⟨q1,q2,q3⟩:=K0 hg
 have RG:=fun w=>rgoods op rd rs1 rs2 im aq rl v0 v1 w
 rw[hg] at RG
 have hg':=hg
 unfold GoodB at hg'
 obtain⟨f0,f1,o0,o1,a0,a1,b0,b1⟩:=XI op
 have hF:=Z0f op.toNat (by omega)
 rw[show((op.toNat:Nat):Int)=op by omega] at hF
 by_cases c:(Z9 op).1=0
 ·rw[if_pos c] at hg';cases hg'
 rw[if_neg c] at hg'
 simp only[Bool.and_eq_true] at hg'
 obtain⟨e0,e1,e2,e3,e4,e5,e6⟩:=eqi hg'.1
 exact Z4o (Z9 op).1 op (Z9 op).2.1 (Z9 op).2.2.1 (Z9 op).2.2.2 rd rs1 rs2 im aq rl (by omega) f1 o0 o1 a0 a1 b0 b1 hF q1.1 q1.2 q2.1 q2.2 q3.1 q3.2 e1 e2 e3 e5 e6 hg'.2.2.2.2 (Lib.hid (Xc op)) (Lib.hid RG) w
theorem Z6l(op rd rs1 rs2 im:Int)(aq rl:Bool)(v0: -9223372036854775808≤im)(v1:im<9223372036854775808)(hg:GoodB op rd rs1 rs2 im aq rl=false)(w:World):
  Calls prog 59 #[.agg #[.int .i64 op,.int .i64 rd,.int .i64 rs1,.int .i64 rs2,.int .i64 im,.bool aq,.bool rl]] w fun e w'=>e=.returned (.tuple #[.int .u32 0,.int .i64 20])∧Nb w w':=by
 have RG:=fun w=>rgoods op rd rs1 rs2 im aq rl v0 v1 w
 rw[hg] at RG
 have HG:=Lib.hid RG
 clear RG hg v0 v1
 go_enter func59,ntmps59
 go_wp2_with fail
 obtain⟨W1,hW1⟩:∃W1,w.alloc (.cells #[.int .i64 op,.int .i64 rd,.int .i64 rs1,.int .i64 rs2,.int .i64 im,.bool aq,.bool rl] 50)=W1:=⟨_,rfl⟩
 have hN1:Nb w W1:=by rw[←hW1];exact(Nb.refl _).alloc _
 rw[hW1]
 clear hW1
 refine(HG.out _).mono ?_
 rintro e w2⟨rfl,hn2⟩
 go_wp2_with fail
 go_ret2
 exact⟨rfl,hN1.trans hn2⟩
end Go.Proofs.YtgpdpaljbiclkaaGreatDoor
end
section
namespace Go.Proofs.YtgpdpaljbiclkaaGreatDoor
open _root_.Go.Proofs.Tryz
open Go.RowKit
set_option linter.unusedVariables false
theorem bret{a b:Bool}(h:a=b):Ending.returned (.bool a)=.returned (.bool b):=by rw[h]
theorem iret{k:IntKind}{a b:Int}(h:a=b):Ending.returned (.int k a)=.returned (.int k b):=by rw[h]
def ZR (op:Int):Bool:=decide (66≤op∧op≤87)
def Zz (op:Int):Bool:=decide ((11≤op∧op≤17)∨(66≤op∧op≤87∧op≠67∧op≠78))
def Zq (op:Int):Bool:=decide ((18≤op∧op≤21)∨(66≤op∧op≤87∧op≠66∧op≠77))
def Za (op:Int):Int:=if op=11∨op=15∨op=18 then 1 else if op=12∨op=16∨op=19 then 2 else if op=13∨op=17∨op=20 then 4 else if op=14∨op=21 then 8 else if 66≤op∧op≤76 then 4 else if 77≤op∧op≤87 then 8 else 0
theorem Xn(op:Int)(w:World):Calls prog 85 #[.int .i64 op] w fun e w'=>e=.returned (.bool (ZR op))∧w=w':=by
 by_cases c:op<66
 ·have H:Hid (false=ZR op):=(decide_eq_false (by omega)).symm
  have d:decide (66≤op)=false:=by simpa using c
  go_enter func85,ntmps85
  go_wp2_with fail
  go_ret
  exact⟨bret H.out,rfl⟩
 ·by_cases d:87<op
  ·have H:Hid (false=ZR op):=(decide_eq_false (by omega)).symm
   have d1:decide (op≤87)=false:=by simpa using d
   have d2:decide (66≤op)=true:=by simpa using c
   clear c
   go_enter func85,ntmps85
   go_wp2_with fail
   go_ret
   exact⟨bret H.out,rfl⟩
  ·have H:Hid (true=ZR op):=(decide_eq_true (by omega)).symm
   have d1:decide (op≤87)=true:=by simp;omega
   have d2:decide (66≤op)=true:=by simpa using c
   clear c d
   go_enter func85,ntmps85
   go_wp2_with fail
   go_ret
   exact⟨bret H.out,rfl⟩
theorem YJ(op:Int)(w:World):Calls prog 60 #[.int .i64 op] w fun e w'=>e=.returned (.bool (ZR op))∧w=w':=by
 by_cases c:op<66
 ·have H:Hid (false=ZR op):=(decide_eq_false (by omega)).symm
  have d:decide (66≤op)=false:=by simpa using c
  go_enter func60,ntmps60
  go_wp2_with fail
  go_ret
  exact⟨bret H.out,rfl⟩
 ·by_cases d:87<op
  ·have H:Hid (false=ZR op):=(decide_eq_false (by omega)).symm
   have d1:decide (op≤87)=false:=by simpa using d
   have d2:decide (66≤op)=true:=by simpa using c
   clear c
   go_enter func60,ntmps60
   go_wp2_with fail
   go_ret
   exact⟨bret H.out,rfl⟩
  ·have H:Hid (true=ZR op):=(decide_eq_true (by omega)).symm
   have d1:decide (op≤87)=true:=by simp;omega
   have d2:decide (66≤op)=true:=by simpa using c
   clear c d
   go_enter func60,ntmps60
   go_wp2_with fail
   go_ret
   exact⟨bret H.out,rfl⟩
theorem ZZ(op:Int)(w:World):Calls prog 48 #[.int .i64 op] w fun e w'=>e=.returned (.bool (Zz op))∧w=w':=by
 have AT:=Xn op
 have RT:=YJ op
 have hk:(op<11)∨(11≤op∧op≤17)∨(17<op∧op<66)∨(op=67)∨(op=78)∨(66≤op∧op≤87∧op≠67∧op≠78)∨(87<op):=by omega
 rcases hk with hk|hk|hk|hk|hk|hk|hk
 ·have H:Hid (false=Zz op):=(decide_eq_false (by omega)).symm
  have HA:ZR op=false:=decide_eq_false (by omega)
  rw[HA] at AT RT
  clear HA
  have d0:decide (11≤op)=false:=by simp;omega
  clear hk
  have HAT:=Lib.hid AT
  have HRT:=Lib.hid RT
  clear AT RT
  go_enter func48,ntmps48
  go_wp2_with (first|(go_at_call 85;refine(HAT.out _).mono ?_;rintro e w'⟨rfl,rfl⟩)|(go_at_call 60;refine(HRT.out _).mono ?_;rintro e w'⟨rfl,rfl⟩))
  go_ret
  exact⟨bret H.out,rfl⟩
 ·have H:Hid (true=Zz op):=(decide_eq_true (by omega)).symm
  have HA:ZR op=false:=decide_eq_false (by omega)
  rw[HA] at AT RT
  clear HA
  have d0:decide (11≤op)=true:=by simp;omega
  have d1:decide (op≤17)=true:=by simp;omega
  clear hk
  have HAT:=Lib.hid AT
  have HRT:=Lib.hid RT
  clear AT RT
  go_enter func48,ntmps48
  go_wp2_with (first|(go_at_call 85;refine(HAT.out _).mono ?_;rintro e w'⟨rfl,rfl⟩)|(go_at_call 60;refine(HRT.out _).mono ?_;rintro e w'⟨rfl,rfl⟩))
  go_ret
  exact⟨bret H.out,rfl⟩
 ·have H:Hid (false=Zz op):=(decide_eq_false (by omega)).symm
  have HA:ZR op=false:=decide_eq_false (by omega)
  rw[HA] at AT RT
  clear HA
  have d0:decide (11≤op)=true:=by simp;omega
  have d1:decide (op≤17)=false:=by simp;omega
  clear hk
  have HAT:=Lib.hid AT
  have HRT:=Lib.hid RT
  clear AT RT
  go_enter func48,ntmps48
  go_wp2_with (first|(go_at_call 85;refine(HAT.out _).mono ?_;rintro e w'⟨rfl,rfl⟩)|(go_at_call 60;refine(HRT.out _).mono ?_;rintro e w'⟨rfl,rfl⟩))
  go_ret
  exact⟨bret H.out,rfl⟩
 ·have H:Hid (false=Zz op):=(decide_eq_false (by omega)).symm
  have HA:ZR op=true:=decide_eq_true (by omega)
  rw[HA] at AT RT
  clear HA
  subst hk
  have HAT:=Lib.hid AT
  have HRT:=Lib.hid RT
  clear AT RT
  go_enter func48,ntmps48
  go_wp2_with (first|(go_at_call 85;refine(HAT.out _).mono ?_;rintro e w'⟨rfl,rfl⟩)|(go_at_call 60;refine(HRT.out _).mono ?_;rintro e w'⟨rfl,rfl⟩))
  go_ret
  exact⟨bret H.out,rfl⟩
 ·have H:Hid (false=Zz op):=(decide_eq_false (by omega)).symm
  have HA:ZR op=true:=decide_eq_true (by omega)
  rw[HA] at AT RT
  clear HA
  subst hk
  have HAT:=Lib.hid AT
  have HRT:=Lib.hid RT
  clear AT RT
  go_enter func48,ntmps48
  go_wp2_with (first|(go_at_call 85;refine(HAT.out _).mono ?_;rintro e w'⟨rfl,rfl⟩)|(go_at_call 60;refine(HRT.out _).mono ?_;rintro e w'⟨rfl,rfl⟩))
  go_ret
  exact⟨bret H.out,rfl⟩
 ·have H:Hid (true=Zz op):=(decide_eq_true (by omega)).symm
  have HA:ZR op=true:=decide_eq_true (by omega)
  rw[HA] at AT RT
  clear HA
  have d0:decide (11≤op)=true:=by simp;omega
  have d1:decide (op≤17)=false:=by simp;omega
  have n1:(op==67)=false:=by simp;omega
  have n1':(op !=67)=true:=by simp;omega
  have n2:(op==78)=false:=by simp;omega
  have n2':(op !=78)=true:=by simp;omega
  clear hk
  have HAT:=Lib.hid AT
  have HRT:=Lib.hid RT
  clear AT RT
  go_enter func48,ntmps48
  go_wp2_with (first|(go_at_call 85;refine(HAT.out _).mono ?_;rintro e w'⟨rfl,rfl⟩)|(go_at_call 60;refine(HRT.out _).mono ?_;rintro e w'⟨rfl,rfl⟩))
  go_ret
  exact⟨bret H.out,rfl⟩
 ·have H:Hid (false=Zz op):=(decide_eq_false (by omega)).symm
  have HA:ZR op=false:=decide_eq_false (by omega)
  rw[HA] at AT RT
  clear HA
  have d0:decide (11≤op)=true:=by simp;omega
  have d1:decide (op≤17)=false:=by simp;omega
  clear hk
  have HAT:=Lib.hid AT
  have HRT:=Lib.hid RT
  clear AT RT
  go_enter func48,ntmps48
  go_wp2_with (first|(go_at_call 85;refine(HAT.out _).mono ?_;rintro e w'⟨rfl,rfl⟩)|(go_at_call 60;refine(HRT.out _).mono ?_;rintro e w'⟨rfl,rfl⟩))
  go_ret
  exact⟨bret H.out,rfl⟩
theorem YC(op:Int)(w:World):Calls prog 63 #[.int .i64 op] w fun e w'=>e=.returned (.bool (Zz op))∧w=w':=by
 have AT:=Xn op
 have RT:=YJ op
 have hk:(op<11)∨(11≤op∧op≤17)∨(17<op∧op<66)∨(op=67)∨(op=78)∨(66≤op∧op≤87∧op≠67∧op≠78)∨(87<op):=by omega
 rcases hk with hk|hk|hk|hk|hk|hk|hk
 ·have H:Hid (false=Zz op):=(decide_eq_false (by omega)).symm
  have HA:ZR op=false:=decide_eq_false (by omega)
  rw[HA] at AT RT
  clear HA
  have d0:decide (11≤op)=false:=by simp;omega
  clear hk
  have HAT:=Lib.hid AT
  have HRT:=Lib.hid RT
  clear AT RT
  go_enter func63,ntmps63
  go_wp2_with (first|(go_at_call 85;refine(HAT.out _).mono ?_;rintro e w'⟨rfl,rfl⟩)|(go_at_call 60;refine(HRT.out _).mono ?_;rintro e w'⟨rfl,rfl⟩))
  go_ret
  exact⟨bret H.out,rfl⟩
 ·have H:Hid (true=Zz op):=(decide_eq_true (by omega)).symm
  have HA:ZR op=false:=decide_eq_false (by omega)
  rw[HA] at AT RT
  clear HA
  have d0:decide (11≤op)=true:=by simp;omega
  have d1:decide (op≤17)=true:=by simp;omega
  clear hk
  have HAT:=Lib.hid AT
  have HRT:=Lib.hid RT
  clear AT RT
  go_enter func63,ntmps63
  go_wp2_with (first|(go_at_call 85;refine(HAT.out _).mono ?_;rintro e w'⟨rfl,rfl⟩)|(go_at_call 60;refine(HRT.out _).mono ?_;rintro e w'⟨rfl,rfl⟩))
  go_ret
  exact⟨bret H.out,rfl⟩
 ·have H:Hid (false=Zz op):=(decide_eq_false (by omega)).symm
  have HA:ZR op=false:=decide_eq_false (by omega)
  rw[HA] at AT RT
  clear HA
  have d0:decide (11≤op)=true:=by simp;omega
  have d1:decide (op≤17)=false:=by simp;omega
  clear hk
  have HAT:=Lib.hid AT
  have HRT:=Lib.hid RT
  clear AT RT
  go_enter func63,ntmps63
  go_wp2_with (first|(go_at_call 85;refine(HAT.out _).mono ?_;rintro e w'⟨rfl,rfl⟩)|(go_at_call 60;refine(HRT.out _).mono ?_;rintro e w'⟨rfl,rfl⟩))
  go_ret
  exact⟨bret H.out,rfl⟩
 ·have H:Hid (false=Zz op):=(decide_eq_false (by omega)).symm
  have HA:ZR op=true:=decide_eq_true (by omega)
  rw[HA] at AT RT
  clear HA
  subst hk
  have HAT:=Lib.hid AT
  have HRT:=Lib.hid RT
  clear AT RT
  go_enter func63,ntmps63
  go_wp2_with (first|(go_at_call 85;refine(HAT.out _).mono ?_;rintro e w'⟨rfl,rfl⟩)|(go_at_call 60;refine(HRT.out _).mono ?_;rintro e w'⟨rfl,rfl⟩))
  go_ret
  exact⟨bret H.out,rfl⟩
 ·have H:Hid (false=Zz op):=(decide_eq_false (by omega)).symm
  have HA:ZR op=true:=decide_eq_true (by omega)
  rw[HA] at AT RT
  clear HA
  subst hk
  have HAT:=Lib.hid AT
  have HRT:=Lib.hid RT
  clear AT RT
  go_enter func63,ntmps63
  go_wp2_with (first|(go_at_call 85;refine(HAT.out _).mono ?_;rintro e w'⟨rfl,rfl⟩)|(go_at_call 60;refine(HRT.out _).mono ?_;rintro e w'⟨rfl,rfl⟩))
  go_ret
  exact⟨bret H.out,rfl⟩
 ·have H:Hid (true=Zz op):=(decide_eq_true (by omega)).symm
  have HA:ZR op=true:=decide_eq_true (by omega)
  rw[HA] at AT RT
  clear HA
  have d0:decide (11≤op)=true:=by simp;omega
  have d1:decide (op≤17)=false:=by simp;omega
  have n1:(op==67)=false:=by simp;omega
  have n1':(op !=67)=true:=by simp;omega
  have n2:(op==78)=false:=by simp;omega
  have n2':(op !=78)=true:=by simp;omega
  clear hk
  have HAT:=Lib.hid AT
  have HRT:=Lib.hid RT
  clear AT RT
  go_enter func63,ntmps63
  go_wp2_with (first|(go_at_call 85;refine(HAT.out _).mono ?_;rintro e w'⟨rfl,rfl⟩)|(go_at_call 60;refine(HRT.out _).mono ?_;rintro e w'⟨rfl,rfl⟩))
  go_ret
  exact⟨bret H.out,rfl⟩
 ·have H:Hid (false=Zz op):=(decide_eq_false (by omega)).symm
  have HA:ZR op=false:=decide_eq_false (by omega)
  rw[HA] at AT RT
  clear HA
  have d0:decide (11≤op)=true:=by simp;omega
  have d1:decide (op≤17)=false:=by simp;omega
  clear hk
  have HAT:=Lib.hid AT
  have HRT:=Lib.hid RT
  clear AT RT
  go_enter func63,ntmps63
  go_wp2_with (first|(go_at_call 85;refine(HAT.out _).mono ?_;rintro e w'⟨rfl,rfl⟩)|(go_at_call 60;refine(HRT.out _).mono ?_;rintro e w'⟨rfl,rfl⟩))
  go_ret
  exact⟨bret H.out,rfl⟩
theorem Y4(op:Int)(w:World):Calls prog 49 #[.int .i64 op] w fun e w'=>e=.returned (.bool (Zq op))∧w=w':=by
 have AT:=Xn op
 have RT:=YJ op
 have hk:(op<18)∨(18≤op∧op≤21)∨(21<op∧op<66)∨(op=66)∨(op=77)∨(66≤op∧op≤87∧op≠66∧op≠77)∨(87<op):=by omega
 rcases hk with hk|hk|hk|hk|hk|hk|hk
 ·have H:Hid (false=Zq op):=(decide_eq_false (by omega)).symm
  have HA:ZR op=false:=decide_eq_false (by omega)
  rw[HA] at AT RT
  clear HA
  have d0:decide (18≤op)=false:=by simp;omega
  clear hk
  have HAT:=Lib.hid AT
  have HRT:=Lib.hid RT
  clear AT RT
  go_enter func49,ntmps49
  go_wp2_with (first|(go_at_call 85;refine(HAT.out _).mono ?_;rintro e w'⟨rfl,rfl⟩)|(go_at_call 60;refine(HRT.out _).mono ?_;rintro e w'⟨rfl,rfl⟩))
  go_ret
  exact⟨bret H.out,rfl⟩
 ·have H:Hid (true=Zq op):=(decide_eq_true (by omega)).symm
  have HA:ZR op=false:=decide_eq_false (by omega)
  rw[HA] at AT RT
  clear HA
  have d0:decide (18≤op)=true:=by simp;omega
  have d1:decide (op≤21)=true:=by simp;omega
  clear hk
  have HAT:=Lib.hid AT
  have HRT:=Lib.hid RT
  clear AT RT
  go_enter func49,ntmps49
  go_wp2_with (first|(go_at_call 85;refine(HAT.out _).mono ?_;rintro e w'⟨rfl,rfl⟩)|(go_at_call 60;refine(HRT.out _).mono ?_;rintro e w'⟨rfl,rfl⟩))
  go_ret
  exact⟨bret H.out,rfl⟩
 ·have H:Hid (false=Zq op):=(decide_eq_false (by omega)).symm
  have HA:ZR op=false:=decide_eq_false (by omega)
  rw[HA] at AT RT
  clear HA
  have d0:decide (18≤op)=true:=by simp;omega
  have d1:decide (op≤21)=false:=by simp;omega
  clear hk
  have HAT:=Lib.hid AT
  have HRT:=Lib.hid RT
  clear AT RT
  go_enter func49,ntmps49
  go_wp2_with (first|(go_at_call 85;refine(HAT.out _).mono ?_;rintro e w'⟨rfl,rfl⟩)|(go_at_call 60;refine(HRT.out _).mono ?_;rintro e w'⟨rfl,rfl⟩))
  go_ret
  exact⟨bret H.out,rfl⟩
 ·have H:Hid (false=Zq op):=(decide_eq_false (by omega)).symm
  have HA:ZR op=true:=decide_eq_true (by omega)
  rw[HA] at AT RT
  clear HA
  subst hk
  have HAT:=Lib.hid AT
  have HRT:=Lib.hid RT
  clear AT RT
  go_enter func49,ntmps49
  go_wp2_with (first|(go_at_call 85;refine(HAT.out _).mono ?_;rintro e w'⟨rfl,rfl⟩)|(go_at_call 60;refine(HRT.out _).mono ?_;rintro e w'⟨rfl,rfl⟩))
  go_ret
  exact⟨bret H.out,rfl⟩
 ·have H:Hid (false=Zq op):=(decide_eq_false (by omega)).symm
  have HA:ZR op=true:=decide_eq_true (by omega)
  rw[HA] at AT RT
  clear HA
  subst hk
  have HAT:=Lib.hid AT
  have HRT:=Lib.hid RT
  clear AT RT
  go_enter func49,ntmps49
  go_wp2_with (first|(go_at_call 85;refine(HAT.out _).mono ?_;rintro e w'⟨rfl,rfl⟩)|(go_at_call 60;refine(HRT.out _).mono ?_;rintro e w'⟨rfl,rfl⟩))
  go_ret
  exact⟨bret H.out,rfl⟩
 ·have H:Hid (true=Zq op):=(decide_eq_true (by omega)).symm
  have HA:ZR op=true:=decide_eq_true (by omega)
  rw[HA] at AT RT
  clear HA
  have d0:decide (18≤op)=true:=by simp;omega
  have d1:decide (op≤21)=false:=by simp;omega
  have n1:(op==66)=false:=by simp;omega
  have n1':(op !=66)=true:=by simp;omega
  have n2:(op==77)=false:=by simp;omega
  have n2':(op !=77)=true:=by simp;omega
  clear hk
  have HAT:=Lib.hid AT
  have HRT:=Lib.hid RT
  clear AT RT
  go_enter func49,ntmps49
  go_wp2_with (first|(go_at_call 85;refine(HAT.out _).mono ?_;rintro e w'⟨rfl,rfl⟩)|(go_at_call 60;refine(HRT.out _).mono ?_;rintro e w'⟨rfl,rfl⟩))
  go_ret
  exact⟨bret H.out,rfl⟩
 ·have H:Hid (false=Zq op):=(decide_eq_false (by omega)).symm
  have HA:ZR op=false:=decide_eq_false (by omega)
  rw[HA] at AT RT
  clear HA
  have d0:decide (18≤op)=true:=by simp;omega
  have d1:decide (op≤21)=false:=by simp;omega
  clear hk
  have HAT:=Lib.hid AT
  have HRT:=Lib.hid RT
  clear AT RT
  go_enter func49,ntmps49
  go_wp2_with (first|(go_at_call 85;refine(HAT.out _).mono ?_;rintro e w'⟨rfl,rfl⟩)|(go_at_call 60;refine(HRT.out _).mono ?_;rintro e w'⟨rfl,rfl⟩))
  go_ret
  exact⟨bret H.out,rfl⟩
theorem YD(op:Int)(w:World):Calls prog 64 #[.int .i64 op] w fun e w'=>e=.returned (.bool (Zq op))∧w=w':=by
 have AT:=Xn op
 have RT:=YJ op
 have hk:(op<18)∨(18≤op∧op≤21)∨(21<op∧op<66)∨(op=66)∨(op=77)∨(66≤op∧op≤87∧op≠66∧op≠77)∨(87<op):=by omega
 rcases hk with hk|hk|hk|hk|hk|hk|hk
 ·have H:Hid (false=Zq op):=(decide_eq_false (by omega)).symm
  have HA:ZR op=false:=decide_eq_false (by omega)
  rw[HA] at AT RT
  clear HA
  have d0:decide (18≤op)=false:=by simp;omega
  clear hk
  have HAT:=Lib.hid AT
  have HRT:=Lib.hid RT
  clear AT RT
  go_enter func64,ntmps64
  go_wp2_with (first|(go_at_call 85;refine(HAT.out _).mono ?_;rintro e w'⟨rfl,rfl⟩)|(go_at_call 60;refine(HRT.out _).mono ?_;rintro e w'⟨rfl,rfl⟩))
  go_ret
  exact⟨bret H.out,rfl⟩
 ·have H:Hid (true=Zq op):=(decide_eq_true (by omega)).symm
  have HA:ZR op=false:=decide_eq_false (by omega)
  rw[HA] at AT RT
  clear HA
  have d0:decide (18≤op)=true:=by simp;omega
  have d1:decide (op≤21)=true:=by simp;omega
  clear hk
  have HAT:=Lib.hid AT
  have HRT:=Lib.hid RT
  clear AT RT
  go_enter func64,ntmps64
  go_wp2_with (first|(go_at_call 85;refine(HAT.out _).mono ?_;rintro e w'⟨rfl,rfl⟩)|(go_at_call 60;refine(HRT.out _).mono ?_;rintro e w'⟨rfl,rfl⟩))
  go_ret
  exact⟨bret H.out,rfl⟩
 ·have H:Hid (false=Zq op):=(decide_eq_false (by omega)).symm
  have HA:ZR op=false:=decide_eq_false (by omega)
  rw[HA] at AT RT
  clear HA
  have d0:decide (18≤op)=true:=by simp;omega
  have d1:decide (op≤21)=false:=by simp;omega
  clear hk
  have HAT:=Lib.hid AT
  have HRT:=Lib.hid RT
  clear AT RT
  go_enter func64,ntmps64
  go_wp2_with (first|(go_at_call 85;refine(HAT.out _).mono ?_;rintro e w'⟨rfl,rfl⟩)|(go_at_call 60;refine(HRT.out _).mono ?_;rintro e w'⟨rfl,rfl⟩))
  go_ret
  exact⟨bret H.out,rfl⟩
 ·have H:Hid (false=Zq op):=(decide_eq_false (by omega)).symm
  have HA:ZR op=true:=decide_eq_true (by omega)
  rw[HA] at AT RT
  clear HA
  subst hk
  have HAT:=Lib.hid AT
  have HRT:=Lib.hid RT
  clear AT RT
  go_enter func64,ntmps64
  go_wp2_with (first|(go_at_call 85;refine(HAT.out _).mono ?_;rintro e w'⟨rfl,rfl⟩)|(go_at_call 60;refine(HRT.out _).mono ?_;rintro e w'⟨rfl,rfl⟩))
  go_ret
  exact⟨bret H.out,rfl⟩
 ·have H:Hid (false=Zq op):=(decide_eq_false (by omega)).symm
  have HA:ZR op=true:=decide_eq_true (by omega)
  rw[HA] at AT RT
  clear HA
  subst hk
  have HAT:=Lib.hid AT
  have HRT:=Lib.hid RT
  clear AT RT
  go_enter func64,ntmps64
  go_wp2_with (first|(go_at_call 85;refine(HAT.out _).mono ?_;rintro e w'⟨rfl,rfl⟩)|(go_at_call 60;refine(HRT.out _).mono ?_;rintro e w'⟨rfl,rfl⟩))
  go_ret
  exact⟨bret H.out,rfl⟩
 ·have H:Hid (true=Zq op):=(decide_eq_true (by omega)).symm
  have HA:ZR op=true:=decide_eq_true (by omega)
  rw[HA] at AT RT
  clear HA
  have d0:decide (18≤op)=true:=by simp;omega
  have d1:decide (op≤21)=false:=by simp;omega
  have n1:(op==66)=false:=by simp;omega
  have n1':(op !=66)=true:=by simp;omega
  have n2:(op==77)=false:=by simp;omega
  have n2':(op !=77)=true:=by simp;omega
  clear hk
  have HAT:=Lib.hid AT
  have HRT:=Lib.hid RT
  clear AT RT
  go_enter func64,ntmps64
  go_wp2_with (first|(go_at_call 85;refine(HAT.out _).mono ?_;rintro e w'⟨rfl,rfl⟩)|(go_at_call 60;refine(HRT.out _).mono ?_;rintro e w'⟨rfl,rfl⟩))
  go_ret
  exact⟨bret H.out,rfl⟩
 ·have H:Hid (false=Zq op):=(decide_eq_false (by omega)).symm
  have HA:ZR op=false:=decide_eq_false (by omega)
  rw[HA] at AT RT
  clear HA
  have d0:decide (18≤op)=true:=by simp;omega
  have d1:decide (op≤21)=false:=by simp;omega
  clear hk
  have HAT:=Lib.hid AT
  have HRT:=Lib.hid RT
  clear AT RT
  go_enter func64,ntmps64
  go_wp2_with (first|(go_at_call 85;refine(HAT.out _).mono ?_;rintro e w'⟨rfl,rfl⟩)|(go_at_call 60;refine(HRT.out _).mono ?_;rintro e w'⟨rfl,rfl⟩))
  go_ret
  exact⟨bret H.out,rfl⟩
theorem Yo(op:Int)(w:World):Calls prog 52 #[.int .i64 op] w fun e w'=>e=.returned (.int .i64 (Za op))∧w=w':=by
 have AT:=Xn op
 have RT:=YJ op
 have hk:op=11∨op=12∨op=13∨op=14∨op=15∨op=16∨op=17∨op=18∨op=19∨op=20∨op=21∨(66≤op∧op≤76)∨(77≤op∧op≤87)∨((op<11∨21<op)∧(op<66∨87<op)):=by omega
 rcases hk with rfl|rfl|rfl|rfl|rfl|rfl|rfl|rfl|rfl|rfl|rfl|hk|hk|hk
 ·clear AT RT
  go_enter func52,ntmps52
  go_wp2_with fail
  go_ret
  exact⟨rfl,rfl⟩
 ·clear AT RT
  go_enter func52,ntmps52
  go_wp2_with fail
  go_ret
  exact⟨rfl,rfl⟩
 ·clear AT RT
  go_enter func52,ntmps52
  go_wp2_with fail
  go_ret
  exact⟨rfl,rfl⟩
 ·clear AT RT
  go_enter func52,ntmps52
  go_wp2_with fail
  go_ret
  exact⟨rfl,rfl⟩
 ·clear AT RT
  go_enter func52,ntmps52
  go_wp2_with fail
  go_ret
  exact⟨rfl,rfl⟩
 ·clear AT RT
  go_enter func52,ntmps52
  go_wp2_with fail
  go_ret
  exact⟨rfl,rfl⟩
 ·clear AT RT
  go_enter func52,ntmps52
  go_wp2_with fail
  go_ret
  exact⟨rfl,rfl⟩
 ·clear AT RT
  go_enter func52,ntmps52
  go_wp2_with fail
  go_ret
  exact⟨rfl,rfl⟩
 ·clear AT RT
  go_enter func52,ntmps52
  go_wp2_with fail
  go_ret
  exact⟨rfl,rfl⟩
 ·clear AT RT
  go_enter func52,ntmps52
  go_wp2_with fail
  go_ret
  exact⟨rfl,rfl⟩
 ·clear AT RT
  go_enter func52,ntmps52
  go_wp2_with fail
  go_ret
  exact⟨rfl,rfl⟩
 ·have H:Hid ((4:Int)=Za op):=Lib.hid (show(4:Int)=Za op by unfold Za;(repeat' split)<;>omega)
  have HA:ZR op=true:=decide_eq_true (by omega)
  rw[HA] at AT RT
  clear HA
  have n11:(op==11)=false:=by simp;omega
  have n12:(op==12)=false:=by simp;omega
  have n13:(op==13)=false:=by simp;omega
  have n14:(op==14)=false:=by simp;omega
  have n15:(op==15)=false:=by simp;omega
  have n16:(op==16)=false:=by simp;omega
  have n17:(op==17)=false:=by simp;omega
  have n18:(op==18)=false:=by simp;omega
  have n19:(op==19)=false:=by simp;omega
  have n20:(op==20)=false:=by simp;omega
  have n21:(op==21)=false:=by simp;omega
  have dl:decide (op<77)=true:=by simp;omega
  clear hk
  have HAT:=Lib.hid AT
  have HRT:=Lib.hid RT
  clear AT RT
  go_enter func52,ntmps52
  go_wp2_with (first|(go_at_call 85;refine(HAT.out _).mono ?_;rintro e w'⟨rfl,rfl⟩)|(go_at_call 60;refine(HRT.out _).mono ?_;rintro e w'⟨rfl,rfl⟩))
  go_ret
  exact⟨iret H.out,rfl⟩
 ·have H:Hid ((8:Int)=Za op):=Lib.hid (show(8:Int)=Za op by unfold Za;(repeat' split)<;>omega)
  have HA:ZR op=true:=decide_eq_true (by omega)
  rw[HA] at AT RT
  clear HA
  have n11:(op==11)=false:=by simp;omega
  have n12:(op==12)=false:=by simp;omega
  have n13:(op==13)=false:=by simp;omega
  have n14:(op==14)=false:=by simp;omega
  have n15:(op==15)=false:=by simp;omega
  have n16:(op==16)=false:=by simp;omega
  have n17:(op==17)=false:=by simp;omega
  have n18:(op==18)=false:=by simp;omega
  have n19:(op==19)=false:=by simp;omega
  have n20:(op==20)=false:=by simp;omega
  have n21:(op==21)=false:=by simp;omega
  have dl:decide (op<77)=false:=by simp;omega
  clear hk
  have HAT:=Lib.hid AT
  have HRT:=Lib.hid RT
  clear AT RT
  go_enter func52,ntmps52
  go_wp2_with (first|(go_at_call 85;refine(HAT.out _).mono ?_;rintro e w'⟨rfl,rfl⟩)|(go_at_call 60;refine(HRT.out _).mono ?_;rintro e w'⟨rfl,rfl⟩))
  go_ret
  exact⟨iret H.out,rfl⟩
 ·have H:Hid ((0:Int)=Za op):=Lib.hid (show(0:Int)=Za op by unfold Za;(repeat' split)<;>omega)
  have HA:ZR op=false:=decide_eq_false (by omega)
  rw[HA] at AT RT
  clear HA
  have n11:(op==11)=false:=by simp;omega
  have n12:(op==12)=false:=by simp;omega
  have n13:(op==13)=false:=by simp;omega
  have n14:(op==14)=false:=by simp;omega
  have n15:(op==15)=false:=by simp;omega
  have n16:(op==16)=false:=by simp;omega
  have n17:(op==17)=false:=by simp;omega
  have n18:(op==18)=false:=by simp;omega
  have n19:(op==19)=false:=by simp;omega
  have n20:(op==20)=false:=by simp;omega
  have n21:(op==21)=false:=by simp;omega
  clear hk
  have HAT:=Lib.hid AT
  have HRT:=Lib.hid RT
  clear AT RT
  go_enter func52,ntmps52
  go_wp2_with (first|(go_at_call 85;refine(HAT.out _).mono ?_;rintro e w'⟨rfl,rfl⟩)|(go_at_call 60;refine(HRT.out _).mono ?_;rintro e w'⟨rfl,rfl⟩))
  go_ret
  exact⟨iret H.out,rfl⟩
theorem YK(op:Int)(w:World):Calls prog 30 #[.int .i64 op] w fun e w'=>e=.returned (.int .i64 (Za op))∧w=w':=by
 have AT:=Xn op
 have RT:=YJ op
 have hk:op=11∨op=12∨op=13∨op=14∨op=15∨op=16∨op=17∨op=18∨op=19∨op=20∨op=21∨(66≤op∧op≤76)∨(77≤op∧op≤87)∨((op<11∨21<op)∧(op<66∨87<op)):=by omega
 rcases hk with rfl|rfl|rfl|rfl|rfl|rfl|rfl|rfl|rfl|rfl|rfl|hk|hk|hk
 ·clear AT RT
  go_enter func30,ntmps30
  go_wp2_with fail
  go_ret
  exact⟨rfl,rfl⟩
 ·clear AT RT
  go_enter func30,ntmps30
  go_wp2_with fail
  go_ret
  exact⟨rfl,rfl⟩
 ·clear AT RT
  go_enter func30,ntmps30
  go_wp2_with fail
  go_ret
  exact⟨rfl,rfl⟩
 ·clear AT RT
  go_enter func30,ntmps30
  go_wp2_with fail
  go_ret
  exact⟨rfl,rfl⟩
 ·clear AT RT
  go_enter func30,ntmps30
  go_wp2_with fail
  go_ret
  exact⟨rfl,rfl⟩
 ·clear AT RT
  go_enter func30,ntmps30
  go_wp2_with fail
  go_ret
  exact⟨rfl,rfl⟩
 ·clear AT RT
  go_enter func30,ntmps30
  go_wp2_with fail
  go_ret
  exact⟨rfl,rfl⟩
 ·clear AT RT
  go_enter func30,ntmps30
  go_wp2_with fail
  go_ret
  exact⟨rfl,rfl⟩
 ·clear AT RT
  go_enter func30,ntmps30
  go_wp2_with fail
  go_ret
  exact⟨rfl,rfl⟩
 ·clear AT RT
  go_enter func30,ntmps30
  go_wp2_with fail
  go_ret
  exact⟨rfl,rfl⟩
 ·clear AT RT
  go_enter func30,ntmps30
  go_wp2_with fail
  go_ret
  exact⟨rfl,rfl⟩
 ·have H:Hid ((4:Int)=Za op):=Lib.hid (show(4:Int)=Za op by unfold Za;(repeat' split)<;>omega)
  have HA:ZR op=true:=decide_eq_true (by omega)
  rw[HA] at AT RT
  clear HA
  have n11:(op==11)=false:=by simp;omega
  have n12:(op==12)=false:=by simp;omega
  have n13:(op==13)=false:=by simp;omega
  have n14:(op==14)=false:=by simp;omega
  have n15:(op==15)=false:=by simp;omega
  have n16:(op==16)=false:=by simp;omega
  have n17:(op==17)=false:=by simp;omega
  have n18:(op==18)=false:=by simp;omega
  have n19:(op==19)=false:=by simp;omega
  have n20:(op==20)=false:=by simp;omega
  have n21:(op==21)=false:=by simp;omega
  have dl:decide (op<77)=true:=by simp;omega
  clear hk
  have HAT:=Lib.hid AT
  have HRT:=Lib.hid RT
  clear AT RT
  go_enter func30,ntmps30
  go_wp2_with (first|(go_at_call 85;refine(HAT.out _).mono ?_;rintro e w'⟨rfl,rfl⟩)|(go_at_call 60;refine(HRT.out _).mono ?_;rintro e w'⟨rfl,rfl⟩))
  go_ret
  exact⟨iret H.out,rfl⟩
 ·have H:Hid ((8:Int)=Za op):=Lib.hid (show(8:Int)=Za op by unfold Za;(repeat' split)<;>omega)
  have HA:ZR op=true:=decide_eq_true (by omega)
  rw[HA] at AT RT
  clear HA
  have n11:(op==11)=false:=by simp;omega
  have n12:(op==12)=false:=by simp;omega
  have n13:(op==13)=false:=by simp;omega
  have n14:(op==14)=false:=by simp;omega
  have n15:(op==15)=false:=by simp;omega
  have n16:(op==16)=false:=by simp;omega
  have n17:(op==17)=false:=by simp;omega
  have n18:(op==18)=false:=by simp;omega
  have n19:(op==19)=false:=by simp;omega
  have n20:(op==20)=false:=by simp;omega
  have n21:(op==21)=false:=by simp;omega
  have dl:decide (op<77)=false:=by simp;omega
  clear hk
  have HAT:=Lib.hid AT
  have HRT:=Lib.hid RT
  clear AT RT
  go_enter func30,ntmps30
  go_wp2_with (first|(go_at_call 85;refine(HAT.out _).mono ?_;rintro e w'⟨rfl,rfl⟩)|(go_at_call 60;refine(HRT.out _).mono ?_;rintro e w'⟨rfl,rfl⟩))
  go_ret
  exact⟨iret H.out,rfl⟩
 ·have H:Hid ((0:Int)=Za op):=Lib.hid (show(0:Int)=Za op by unfold Za;(repeat' split)<;>omega)
  have HA:ZR op=false:=decide_eq_false (by omega)
  rw[HA] at AT RT
  clear HA
  have n11:(op==11)=false:=by simp;omega
  have n12:(op==12)=false:=by simp;omega
  have n13:(op==13)=false:=by simp;omega
  have n14:(op==14)=false:=by simp;omega
  have n15:(op==15)=false:=by simp;omega
  have n16:(op==16)=false:=by simp;omega
  have n17:(op==17)=false:=by simp;omega
  have n18:(op==18)=false:=by simp;omega
  have n19:(op==19)=false:=by simp;omega
  have n20:(op==20)=false:=by simp;omega
  have n21:(op==21)=false:=by simp;omega
  clear hk
  have HAT:=Lib.hid AT
  have HRT:=Lib.hid RT
  clear AT RT
  go_enter func30,ntmps30
  go_wp2_with (first|(go_at_call 85;refine(HAT.out _).mono ?_;rintro e w'⟨rfl,rfl⟩)|(go_at_call 60;refine(HRT.out _).mono ?_;rintro e w'⟨rfl,rfl⟩))
  go_ret
  exact⟨iret H.out,rfl⟩
theorem Z4q(op rd rs1 rs2 im:Int)(aq rl:Bool)(v0: -9223372036854775808≤im)(v1:im<9223372036854775808)(w:World)(hC:Cod w):
  Calls prog 26 #[.agg #[.int .i64 op,.int .i64 rd,.int .i64 rs1,.int .i64 rs2,.int .i64 im,.bool aq,.bool rl]] w fun e w'=>e=.returned (.int .i64 (if GoodB op rd rs1 rs2 im aq rl=true then rd else 0))∧Nb w w':=by
 have GA:=fun w (hC:Cod w)=>XZ op rd rs1 rs2 im aq rl v0 v1 w hC
 generalize GoodB op rd rs1 rs2 im aq rl=g at*
 have HGA:=Lib.hid GA
 clear GA
 go_enter func26,ntmps26
 go_wp2_with fail
 obtain⟨W1,hW1⟩:∃W1,w.alloc (.cells #[.int .i64 op,.int .i64 rd,.int .i64 rs1,.int .i64 rs2,.int .i64 im,.bool aq,.bool rl] 50)=W1:=⟨_,rfl⟩
 have hb1:=Z0 w _ hW1 rfl
 have hN1:Nb w W1:=by rw[←hW1];exact(Nb.refl _).alloc _
 rw[hW1]
 clear hW1
 refine(HGA.out _ (hC.of_nb hN1)).mono ?_
 rintro e w3⟨rfl,hn3⟩
 have hN3:=hN1.trans hn3
 obtain⟨n3,c0,c1,c2,c3,c4,c5,c6⟩:=Z4 (hn3.block hb1)
 clear hb1 hN1 hn3 hC
 cases g
 ·go_wp2_with fail
  go_ret
  exact⟨rfl,hN3⟩
 ·go_wp2_with fail
  go_ret
  exact⟨rfl,hN3⟩
end Go.Proofs.YtgpdpaljbiclkaaGreatDoor
end

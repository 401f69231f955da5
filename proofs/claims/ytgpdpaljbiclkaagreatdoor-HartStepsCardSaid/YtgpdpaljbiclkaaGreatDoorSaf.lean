/-
  Proved here: which numbers a form may have, in the code and in the reference. Conditions: the form is one; the number is an int. ¦ which instructions may be, by the code. Conditions: the table of codes holds what its text lays; the numbers are ints.
-/
import Derived.Test.YtgpdpaljbiclkaaGreatDoorSac
import Derived.Test.YtgpdpaljbiclkaaGreatDoorSae
import Derived.Lib.QuietBelow
set_option maxHeartbeats 4000000
set_option maxRecDepth 100000
section
namespace Go.Proofs.YtgpdpaljbiclkaaGreatDoor
open Tryz
open Go.RowKit
set_option linter.unusedVariables false
def ZB (f v:Int):Bool:=
 if f=1 then(v.tmod 4096==0) && X7 v 32 else if f=2 then(v.tmod 2==0) && X7 v 21 else if f=4 then(v.tmod 2==0) && X7 v 13
 else if f=3 then X7 v 12 else if f=5 then X7 v 12 else if f=6 then decide (0≤v) && decide (v≤63) else if f=7 then decide (0≤v) && decide (v≤31)
 else if f=9 then decide (0≤v) && decide (v≤255) else v==0
theorem may_0(v:Int)(v0: -9223372036854775808≤v)(v1:v<9223372036854775808)(w:World):Calls prog 75 #[.int .u32 0,.int .i64 v] w fun e w'=>e=.returned (.bool (ZB 0 v))∧w=w':=by
 go_enter func75,ntmps75
 go_wp2_with fail
 go_ret
 exact⟨rfl,rfl⟩
theorem may_1(v:Int)(v0: -9223372036854775808≤v)(v1:v<9223372036854775808)(w:World):Calls prog 75 #[.int .u32 1048576,.int .i64 v] w fun e w'=>e=.returned (.bool (ZB 1 v))∧w=w':=by
 cases c:(v.tmod 4096==0)
 ·have H:Hid (false=ZB 1 v):=by unfold ZB;simp only[reduceIte,Int.reduceEq,c];rfl
  go_enter func75,ntmps75
  go_wp2_with fail
  go_ret
  exact⟨Zw H.out,rfl⟩
 ·have H:Hid (X7 v 32=ZB 1 v):=by unfold ZB;simp only[reduceIte,Int.reduceEq,c];rfl
  go_enter func75,ntmps75
  go_wp2_with fail
  refine(sg_1 _).mono ?_
  rintro e w'⟨rfl,rfl⟩
  go_wp2_with fail
  refine(XY _ _ v0 v1 _).mono ?_
  rintro e w'⟨rfl,rfl⟩
  go_wp2_with fail
  go_ret
  exact⟨Zw H.out,rfl⟩
theorem may_2(v:Int)(v0: -9223372036854775808≤v)(v1:v<9223372036854775808)(w:World):Calls prog 75 #[.int .u32 2097152,.int .i64 v] w fun e w'=>e=.returned (.bool (ZB 2 v))∧w=w':=by
 cases c:(v.tmod 2==0)
 ·have H:Hid (false=ZB 2 v):=by unfold ZB;simp only[reduceIte,Int.reduceEq,c];rfl
  go_enter func75,ntmps75
  go_wp2_with fail
  go_ret
  exact⟨Zw H.out,rfl⟩
 ·have H:Hid (X7 v 21=ZB 2 v):=by unfold ZB;simp only[reduceIte,Int.reduceEq,c];rfl
  go_enter func75,ntmps75
  go_wp2_with fail
  refine(sg_2 _).mono ?_
  rintro e w'⟨rfl,rfl⟩
  go_wp2_with fail
  refine(XY _ _ v0 v1 _).mono ?_
  rintro e w'⟨rfl,rfl⟩
  go_wp2_with fail
  go_ret
  exact⟨Zw H.out,rfl⟩
theorem may_3(v:Int)(v0: -9223372036854775808≤v)(v1:v<9223372036854775808)(w:World):Calls prog 75 #[.int .u32 3145728,.int .i64 v] w fun e w'=>e=.returned (.bool (ZB 3 v))∧w=w':=by
 have H:Hid (X7 v 12=ZB 3 v):=Lib.hid rfl
 go_enter func75,ntmps75
 go_wp2_with fail
 refine(sg_3 _).mono ?_
 rintro e w'⟨rfl,rfl⟩
 go_wp2_with fail
 refine(XY _ _ v0 v1 _).mono ?_
 rintro e w'⟨rfl,rfl⟩
 go_wp2_with fail
 go_ret
 exact⟨Zw H.out,rfl⟩
theorem may_4(v:Int)(v0: -9223372036854775808≤v)(v1:v<9223372036854775808)(w:World):Calls prog 75 #[.int .u32 4194304,.int .i64 v] w fun e w'=>e=.returned (.bool (ZB 4 v))∧w=w':=by
 cases c:(v.tmod 2==0)
 ·have H:Hid (false=ZB 4 v):=by unfold ZB;simp only[reduceIte,Int.reduceEq,c];rfl
  go_enter func75,ntmps75
  go_wp2_with fail
  go_ret
  exact⟨Zw H.out,rfl⟩
 ·have H:Hid (X7 v 13=ZB 4 v):=by unfold ZB;simp only[reduceIte,Int.reduceEq,c];rfl
  go_enter func75,ntmps75
  go_wp2_with fail
  refine(sg_4 _).mono ?_
  rintro e w'⟨rfl,rfl⟩
  go_wp2_with fail
  refine(XY _ _ v0 v1 _).mono ?_
  rintro e w'⟨rfl,rfl⟩
  go_wp2_with fail
  go_ret
  exact⟨Zw H.out,rfl⟩
theorem may_5(v:Int)(v0: -9223372036854775808≤v)(v1:v<9223372036854775808)(w:World):Calls prog 75 #[.int .u32 5242880,.int .i64 v] w fun e w'=>e=.returned (.bool (ZB 5 v))∧w=w':=by
 have H:Hid (X7 v 12=ZB 5 v):=Lib.hid rfl
 go_enter func75,ntmps75
 go_wp2_with fail
 refine(sg_5 _).mono ?_
 rintro e w'⟨rfl,rfl⟩
 go_wp2_with fail
 refine(XY _ _ v0 v1 _).mono ?_
 rintro e w'⟨rfl,rfl⟩
 go_wp2_with fail
 go_ret
 exact⟨Zw H.out,rfl⟩
theorem may_6(v:Int)(v0: -9223372036854775808≤v)(v1:v<9223372036854775808)(w:World):Calls prog 75 #[.int .u32 6291456,.int .i64 v] w fun e w'=>e=.returned (.bool (ZB 6 v))∧w=w':=by
 by_cases c:0≤v
 ·have H:Hid (decide (v≤63)=ZB 6 v):=by show _=(decide (0≤v) && decide (v≤63));rw[decide_eq_true c];rfl
  go_enter func75,ntmps75
  go_wp2_with fail
  go_ret
  exact⟨Zw H.out,rfl⟩
 ·have H:Hid (false=ZB 6 v):=by show _=(decide (0≤v) && decide (v≤63));rw[decide_eq_false c];rfl
  go_enter func75,ntmps75
  go_wp2_with fail
  go_ret
  exact⟨Zw H.out,rfl⟩
theorem may_7(v:Int)(v0: -9223372036854775808≤v)(v1:v<9223372036854775808)(w:World):Calls prog 75 #[.int .u32 7340032,.int .i64 v] w fun e w'=>e=.returned (.bool (ZB 7 v))∧w=w':=by
 by_cases c:0≤v
 ·have H:Hid (decide (v≤31)=ZB 7 v):=by show _=(decide (0≤v) && decide (v≤31));rw[decide_eq_true c];rfl
  go_enter func75,ntmps75
  go_wp2_with fail
  go_ret
  exact⟨Zw H.out,rfl⟩
 ·have H:Hid (false=ZB 7 v):=by show _=(decide (0≤v) && decide (v≤31));rw[decide_eq_false c];rfl
  go_enter func75,ntmps75
  go_wp2_with fail
  go_ret
  exact⟨Zw H.out,rfl⟩
theorem may_8(v:Int)(v0: -9223372036854775808≤v)(v1:v<9223372036854775808)(w:World):Calls prog 75 #[.int .u32 8388608,.int .i64 v] w fun e w'=>e=.returned (.bool (ZB 8 v))∧w=w':=by
 go_enter func75,ntmps75
 go_wp2_with fail
 go_ret
 exact⟨rfl,rfl⟩
theorem may_9(v:Int)(v0: -9223372036854775808≤v)(v1:v<9223372036854775808)(w:World):Calls prog 75 #[.int .u32 9437184,.int .i64 v] w fun e w'=>e=.returned (.bool (ZB 9 v))∧w=w':=by
 by_cases c:0≤v
 ·have H:Hid (decide (v≤255)=ZB 9 v):=by show _=(decide (0≤v) && decide (v≤255));rw[decide_eq_true c];rfl
  go_enter func75,ntmps75
  go_wp2_with fail
  go_ret
  exact⟨Zw H.out,rfl⟩
 ·have H:Hid (false=ZB 9 v):=by show _=(decide (0≤v) && decide (v≤255));rw[decide_eq_false c];rfl
  go_enter func75,ntmps75
  go_wp2_with fail
  go_ret
  exact⟨Zw H.out,rfl⟩
theorem may_10(v:Int)(v0: -9223372036854775808≤v)(v1:v<9223372036854775808)(w:World):Calls prog 75 #[.int .u32 10485760,.int .i64 v] w fun e w'=>e=.returned (.bool (ZB 10 v))∧w=w':=by
 go_enter func75,ntmps75
 go_wp2_with fail
 go_ret
 exact⟨rfl,rfl⟩
theorem may_11(v:Int)(v0: -9223372036854775808≤v)(v1:v<9223372036854775808)(w:World):Calls prog 75 #[.int .u32 11534336,.int .i64 v] w fun e w'=>e=.returned (.bool (ZB 11 v))∧w=w':=by
 go_enter func75,ntmps75
 go_wp2_with fail
 go_ret
 exact⟨rfl,rfl⟩
theorem may_12(v:Int)(v0: -9223372036854775808≤v)(v1:v<9223372036854775808)(w:World):Calls prog 75 #[.int .u32 12582912,.int .i64 v] w fun e w'=>e=.returned (.bool (ZB 12 v))∧w=w':=by
 go_enter func75,ntmps75
 go_wp2_with fail
 go_ret
 exact⟨rfl,rfl⟩
theorem rmay_0(v:Int)(v0: -9223372036854775808≤v)(v1:v<9223372036854775808)(w:World):Calls prog 100 #[.int .i64 0,.int .i64 v] w fun e w'=>e=.returned (.bool (ZB 0 v))∧w=w':=by
 go_enter func100,ntmps100
 go_wp2_with fail
 go_ret
 exact⟨rfl,rfl⟩
theorem rmay_1(v:Int)(v0: -9223372036854775808≤v)(v1:v<9223372036854775808)(w:World):Calls prog 100 #[.int .i64 1,.int .i64 v] w fun e w'=>e=.returned (.bool (ZB 1 v))∧w=w':=by
 cases c:(v.tmod 4096==0)
 ·have H:Hid (false=ZB 1 v):=by unfold ZB;simp only[reduceIte,Int.reduceEq,c];rfl
  go_enter func100,ntmps100
  go_wp2_with fail
  go_ret
  exact⟨Zw H.out,rfl⟩
 ·have H:Hid (X7 v 32=ZB 1 v):=by unfold ZB;simp only[reduceIte,Int.reduceEq,c];rfl
  go_enter func100,ntmps100
  go_wp2_with fail
  refine(XA _ _ v0 v1 _).mono ?_
  rintro e w'⟨rfl,rfl⟩
  go_wp2_with fail
  go_ret
  exact⟨Zw H.out,rfl⟩
theorem rmay_2(v:Int)(v0: -9223372036854775808≤v)(v1:v<9223372036854775808)(w:World):Calls prog 100 #[.int .i64 2,.int .i64 v] w fun e w'=>e=.returned (.bool (ZB 2 v))∧w=w':=by
 cases c:(v.tmod 2==0)
 ·have H:Hid (false=ZB 2 v):=by unfold ZB;simp only[reduceIte,Int.reduceEq,c];rfl
  go_enter func100,ntmps100
  go_wp2_with fail
  go_ret
  exact⟨Zw H.out,rfl⟩
 ·have H:Hid (X7 v 21=ZB 2 v):=by unfold ZB;simp only[reduceIte,Int.reduceEq,c];rfl
  go_enter func100,ntmps100
  go_wp2_with fail
  refine(XA _ _ v0 v1 _).mono ?_
  rintro e w'⟨rfl,rfl⟩
  go_wp2_with fail
  go_ret
  exact⟨Zw H.out,rfl⟩
theorem rmay_3(v:Int)(v0: -9223372036854775808≤v)(v1:v<9223372036854775808)(w:World):Calls prog 100 #[.int .i64 3,.int .i64 v] w fun e w'=>e=.returned (.bool (ZB 3 v))∧w=w':=by
 have H:Hid (X7 v 12=ZB 3 v):=Lib.hid rfl
 go_enter func100,ntmps100
 go_wp2_with fail
 refine(XA _ _ v0 v1 _).mono ?_
 rintro e w'⟨rfl,rfl⟩
 go_wp2_with fail
 go_ret
 exact⟨Zw H.out,rfl⟩
theorem rmay_4(v:Int)(v0: -9223372036854775808≤v)(v1:v<9223372036854775808)(w:World):Calls prog 100 #[.int .i64 4,.int .i64 v] w fun e w'=>e=.returned (.bool (ZB 4 v))∧w=w':=by
 cases c:(v.tmod 2==0)
 ·have H:Hid (false=ZB 4 v):=by unfold ZB;simp only[reduceIte,Int.reduceEq,c];rfl
  go_enter func100,ntmps100
  go_wp2_with fail
  go_ret
  exact⟨Zw H.out,rfl⟩
 ·have H:Hid (X7 v 13=ZB 4 v):=by unfold ZB;simp only[reduceIte,Int.reduceEq,c];rfl
  go_enter func100,ntmps100
  go_wp2_with fail
  refine(XA _ _ v0 v1 _).mono ?_
  rintro e w'⟨rfl,rfl⟩
  go_wp2_with fail
  go_ret
  exact⟨Zw H.out,rfl⟩
theorem rmay_5(v:Int)(v0: -9223372036854775808≤v)(v1:v<9223372036854775808)(w:World):Calls prog 100 #[.int .i64 5,.int .i64 v] w fun e w'=>e=.returned (.bool (ZB 5 v))∧w=w':=by
 have H:Hid (X7 v 12=ZB 5 v):=Lib.hid rfl
 go_enter func100,ntmps100
 go_wp2_with fail
 refine(XA _ _ v0 v1 _).mono ?_
 rintro e w'⟨rfl,rfl⟩
 go_wp2_with fail
 go_ret
 exact⟨Zw H.out,rfl⟩
theorem rmay_6(v:Int)(v0: -9223372036854775808≤v)(v1:v<9223372036854775808)(w:World):Calls prog 100 #[.int .i64 6,.int .i64 v] w fun e w'=>e=.returned (.bool (ZB 6 v))∧w=w':=by
 by_cases c:0≤v
 ·have H:Hid (decide (v≤63)=ZB 6 v):=by show _=(decide (0≤v) && decide (v≤63));rw[decide_eq_true c];rfl
  go_enter func100,ntmps100
  go_wp2_with fail
  go_ret
  exact⟨Zw H.out,rfl⟩
 ·have H:Hid (false=ZB 6 v):=by show _=(decide (0≤v) && decide (v≤63));rw[decide_eq_false c];rfl
  go_enter func100,ntmps100
  go_wp2_with fail
  go_ret
  exact⟨Zw H.out,rfl⟩
theorem rmay_7(v:Int)(v0: -9223372036854775808≤v)(v1:v<9223372036854775808)(w:World):Calls prog 100 #[.int .i64 7,.int .i64 v] w fun e w'=>e=.returned (.bool (ZB 7 v))∧w=w':=by
 by_cases c:0≤v
 ·have H:Hid (decide (v≤31)=ZB 7 v):=by show _=(decide (0≤v) && decide (v≤31));rw[decide_eq_true c];rfl
  go_enter func100,ntmps100
  go_wp2_with fail
  go_ret
  exact⟨Zw H.out,rfl⟩
 ·have H:Hid (false=ZB 7 v):=by show _=(decide (0≤v) && decide (v≤31));rw[decide_eq_false c];rfl
  go_enter func100,ntmps100
  go_wp2_with fail
  go_ret
  exact⟨Zw H.out,rfl⟩
theorem rmay_8(v:Int)(v0: -9223372036854775808≤v)(v1:v<9223372036854775808)(w:World):Calls prog 100 #[.int .i64 8,.int .i64 v] w fun e w'=>e=.returned (.bool (ZB 8 v))∧w=w':=by
 go_enter func100,ntmps100
 go_wp2_with fail
 go_ret
 exact⟨rfl,rfl⟩
theorem rmay_9(v:Int)(v0: -9223372036854775808≤v)(v1:v<9223372036854775808)(w:World):Calls prog 100 #[.int .i64 9,.int .i64 v] w fun e w'=>e=.returned (.bool (ZB 9 v))∧w=w':=by
 by_cases c:0≤v
 ·have H:Hid (decide (v≤255)=ZB 9 v):=by show _=(decide (0≤v) && decide (v≤255));rw[decide_eq_true c];rfl
  go_enter func100,ntmps100
  go_wp2_with fail
  go_ret
  exact⟨Zw H.out,rfl⟩
 ·have H:Hid (false=ZB 9 v):=by show _=(decide (0≤v) && decide (v≤255));rw[decide_eq_false c];rfl
  go_enter func100,ntmps100
  go_wp2_with fail
  go_ret
  exact⟨Zw H.out,rfl⟩
theorem Z66(v:Int)(v0: -9223372036854775808≤v)(v1:v<9223372036854775808)(w:World):Calls prog 100 #[.int .i64 10,.int .i64 v] w fun e w'=>e=.returned (.bool (ZB 10 v))∧w=w':=by
 go_enter func100,ntmps100
 go_wp2_with fail
 go_ret
 exact⟨rfl,rfl⟩
theorem Z67(v:Int)(v0: -9223372036854775808≤v)(v1:v<9223372036854775808)(w:World):Calls prog 100 #[.int .i64 11,.int .i64 v] w fun e w'=>e=.returned (.bool (ZB 11 v))∧w=w':=by
 go_enter func100,ntmps100
 go_wp2_with fail
 go_ret
 exact⟨rfl,rfl⟩
theorem Z68(v:Int)(v0: -9223372036854775808≤v)(v1:v<9223372036854775808)(w:World):Calls prog 100 #[.int .i64 12,.int .i64 v] w fun e w'=>e=.returned (.bool (ZB 12 v))∧w=w':=by
 go_enter func100,ntmps100
 go_wp2_with fail
 go_ret
 exact⟨rfl,rfl⟩
theorem Ki(f:Int)(h0:0≤f)(h1:f≤12)(v:Int)(v0: -9223372036854775808≤v)(v1:v<9223372036854775808)(w:World):Calls prog 75 #[.int .u32 (1048576*f),.int .i64 v] w fun e w'=>e=.returned (.bool (ZB f v))∧w=w':=by
 obtain⟨n,rfl⟩:=Int.eq_ofNat_of_zero_le h0
 match n,h1 with
 |0,_=>exact may_0 v v0 v1 w
 |1,_=>exact may_1 v v0 v1 w
 |2,_=>exact may_2 v v0 v1 w
 |3,_=>exact may_3 v v0 v1 w
 |4,_=>exact may_4 v v0 v1 w
 |5,_=>exact may_5 v v0 v1 w
 |6,_=>exact may_6 v v0 v1 w
 |7,_=>exact may_7 v v0 v1 w
 |8,_=>exact may_8 v v0 v1 w
 |9,_=>exact may_9 v v0 v1 w
 |10,_=>exact may_10 v v0 v1 w
 |11,_=>exact may_11 v v0 v1 w
 |12,_=>exact may_12 v v0 v1 w
 |n+13,h=>exact absurd h (by omega)
theorem Z45(f:Int)(h0:0≤f)(h1:f≤12)(v:Int)(v0: -9223372036854775808≤v)(v1:v<9223372036854775808)(w:World):Calls prog 100 #[.int .i64 f,.int .i64 v] w fun e w'=>e=.returned (.bool (ZB f v))∧w=w':=by
 obtain⟨n,rfl⟩:=Int.eq_ofNat_of_zero_le h0
 match n,h1 with
 |0,_=>exact rmay_0 v v0 v1 w
 |1,_=>exact rmay_1 v v0 v1 w
 |2,_=>exact rmay_2 v v0 v1 w
 |3,_=>exact rmay_3 v v0 v1 w
 |4,_=>exact rmay_4 v v0 v1 w
 |5,_=>exact rmay_5 v v0 v1 w
 |6,_=>exact rmay_6 v v0 v1 w
 |7,_=>exact rmay_7 v v0 v1 w
 |8,_=>exact rmay_8 v v0 v1 w
 |9,_=>exact rmay_9 v v0 v1 w
 |10,_=>exact Z66 v v0 v1 w
 |11,_=>exact Z67 v v0 v1 w
 |12,_=>exact Z68 v v0 v1 w
 |n+13,h=>exact absurd h (by omega)
end Go.Proofs.YtgpdpaljbiclkaaGreatDoor
end
section
namespace Go.Proofs.YtgpdpaljbiclkaaGreatDoor
open Tryz
open Go.RowKit Go.Sort
set_option linter.unusedVariables false
theorem XJ(a b c d:Int)(W:World):(Instr.field 88 (.agg #[.int .u32 a,.int .u64 b,.int .u64 c,.int .u64 d]) 0).run prog W=.ok (.int .u32 a) W:=by kernel_rfl
def EqI (op rd rs1 rs2 im:Int) (aq rl:Bool) (op' rd' rs1' rs2' im':Int) (aq' rl':Bool):Bool:=(op==op') && ((rd==rd') && ((rs1==rs1') && ((rs2==rs2') && ((im==im') && ((aq==aq') && (rl==rl'))))))
theorem eq7(op rd rs1 rs2 im:Int)(aq rl:Bool)(op' rd' rs1' rs2' im':Int)(aq' rl':Bool)(W:World):
  (binOp .eql 50 (.agg #[.int .i64 op,.int .i64 rd,.int .i64 rs1,.int .i64 rs2,.int .i64 im,.bool aq,.bool rl]) (.agg #[.int .i64 op',.int .i64 rd',.int .i64 rs1',.int .i64 rs2',.int .i64 im',.bool aq',.bool rl'])).run prog W=.ok (.bool (EqI op rd rs1 rs2 im aq rl op' rd' rs1' rs2' im' aq' rl')) W:=by
 rw[run_eql_struct,run_equalIn_agg W 9999 50 _ _ (by kernel_rfl) (by kernel_rfl)]
 simp[go_sem,underlying50,underlying3,underlying4]
 unfold EqI
 repeat' split
 all_goals simp_all
attribute [local go_sem ↓] eq7
def Z2A (f op rd rs1 rs2 im:Int) (aq rl:Bool):Bool:=EqI op rd rs1 rs2 im aq rl op (oi (rdT f) rd) (oi (YP f) rs1) (oi (YQ f) rs2) (oi (Zp f) im) (ob (ZX f) aq) (ob (ZX f) rl)
def Nb (w w':World):Prop:=Below w.heap.size w w'
theorem Nw.b{a b:World}(h:Nw a b):Nb a b:=h.1
theorem Nb.refl(w:World):Nb w w:=Below.refl _ _
theorem Nb.trans{a b c:World}(h:Nb a b)(k:Nb b c):Nb a c:=Below.trans h (Below.mono k (Below.size h))
theorem Nb.alloc{a b:World}(h:Nb a b)(o:Obj):Nb a (b.alloc o):=Below.alloc h (Below.size h) o
theorem Nb.size{a b:World}(h:Nb a b):a.heap.size≤b.heap.size:=Below.size h
theorem Nb.block{a b:World}(h:Nb a b){n:Nat}{o:Obj}(k:a.heap[n]? =some o):b.heap[n]? =some o:=(Below.block h n (lt_of_block k)).trans k
theorem Nb.cell{a b:World}(h:Nb a b){p:Addr}{v:Value}(k:a.cell? p=some v):b.cell? p=some v:=(Below.cell h (block_lt_of_cell k)).trans k
theorem Cod.of_nb{a b:World}(h:Cod a)(k:Nb a b):Cod b:=⟨Nat.lt_of_lt_of_le h.1 k.size,fun i hi=>k.cell (h.2 i hi)⟩
theorem Ye{P:Program}{f:FuncId}{args:Array Value}{w:World}{d:Nat}{os:Array Obj}{v:Value}
  (h:Calls P f args (grow (redrawn w d) os) fun e w'=>e=.returned v∧Nw (grow (redrawn w d) os) w'):Calls P f args (grow (redrawn w d) os) fun e w''=>e=.returned v∧∃p:Regrown,w''=grow (redrawn w p.d) p.os:=
 Calls.regrown_of (h.mono fun _ _ ⟨he,hn⟩=>⟨he,hn.1⟩)
theorem ZV{P:Program}{f:FuncId}{args:Array Value}{w:World}{d:Nat}{os:Array Obj}{v:Value}
  (h:Calls P f args (grow (redrawn w d) os) fun e w'=>e=.returned v∧grow (redrawn w d) os=w'):Calls P f args (grow (redrawn w d) os) fun e w''=>e=.returned v∧∃p:Regrown,w''=grow (redrawn w p.d) p.os:=
 Calls.regrown_of (h.mono fun _ _ ⟨he,hn⟩=>⟨he,hn ▸ Below.refl _ _⟩)
theorem Z69
  (op rd rs1 rs2 im:Int) (aq rl:Bool) (v0: -9223372036854775808≤im) (v1:im<9223372036854775808) (w:World) (hC:Cod w) (f:Int) (hf:Hid ((Z9 op).1=f)) (f1:1≤f) (f2:f≤12)
  (hE:EqI op rd rs1 rs2 im aq rl op (oi (rdT f) rd) (oi (YP f) rs1) (oi (YQ f) rs2) (oi (Zp f) im) (ob (ZX f) aq) (ob (ZX f) rl)=false):
  Calls prog 37 #[.agg #[.int .i64 op,.int .i64 rd,.int .i64 rs1,.int .i64 rs2,.int .i64 im,.bool aq,.bool rl]] w fun e w'=>e=.returned (.bool false)∧Nb w w':=by
 have f0:0≤f:=by omega
 go_enter func37,ntmps37
 go_wp2_with fail
 obtain⟨W1,hW⟩:∃W1,w.alloc (.cells #[.int .i64 op,.int .i64 rd,.int .i64 rs1,.int .i64 rs2,.int .i64 im,.bool aq,.bool rl] 50)=W1:=⟨_,rfl⟩
 have hS:=KD w _ _ _ _ _ _ _ 50 hW rfl
 have hC1:Cod W1:=hC.of_nw hS.1
 rw[hW]
 clear hW hC
 refine(X1 op W1 hC1).mono ?_
 rintro e w2⟨rfl,hn⟩
 rw[hf.out]
 obtain⟨n1,n2,c0,c1,c2,c3,c4,c5,c6⟩:=JG hn hS
 clear hS hn hC1
 have hfd:=XJ (1048576*f) (Z9 op).2.1 (Z9 op).2.2.1 (Z9 op).2.2.2
 have g1:(1048576*f !=0)=true:=by rw[bne_iff_ne];omega
 go_wp2_with fail
 have d0:=cell_regrown c0
 have d1:=cell_regrown c1
 have d2:=cell_regrown c2
 have d3:=cell_regrown c3
 have d4:=cell_regrown c4
 have d5:=cell_regrown c5
 have d6:=cell_regrown c6
 clear c0 c1 c2 c3 c4 c5 c6
 refine wp_region_quiet_below (by kernel_rfl) (by kernel_rfl) ?_
 repeat (quiet_step ((first|(go_at_call 73;exact Ye (Xm f op rd rs1 rs2 im aq rl f0 f2 _))|(go_at_call 74;exact ZV (Kh _ _))|(go_at_call 75;exact ZV (Ki f f0 f2 im v0 v1 _)))))
 refine wpQuiet_nil ?_
 intro _ hw'
 obtain⟨⟨dq,osq⟩,hw''⟩:=hw'
 subst hw''
 go_wp2_with fail
 go_ret
 exact⟨rfl,n1.b.trans (below_regrown w2 dq osq)⟩
theorem Z6a
  (op rd rs1 rs2 im:Int) (aq rl:Bool) (v0: -9223372036854775808≤im) (v1:im<9223372036854775808) (w:World) (hC:Cod w) (f:Int) (hf:Hid ((Z9 op).1=f)) (f1:1≤f) (f2:f≤12)
  (hE:EqI op rd rs1 rs2 im aq rl op (oi (rdT f) rd) (oi (YP f) rs1) (oi (YQ f) rs2) (oi (Zp f) im) (ob (ZX f) aq) (ob (ZX f) rl)=true) (h1:Yw rd=false):
  Calls prog 37 #[.agg #[.int .i64 op,.int .i64 rd,.int .i64 rs1,.int .i64 rs2,.int .i64 im,.bool aq,.bool rl]] w fun e w'=>e=.returned (.bool false)∧Nb w w':=by
 have f0:0≤f:=by omega
 go_enter func37,ntmps37
 go_wp2_with fail
 obtain⟨W1,hW⟩:∃W1,w.alloc (.cells #[.int .i64 op,.int .i64 rd,.int .i64 rs1,.int .i64 rs2,.int .i64 im,.bool aq,.bool rl] 50)=W1:=⟨_,rfl⟩
 have hS:=KD w _ _ _ _ _ _ _ 50 hW rfl
 have hC1:Cod W1:=hC.of_nw hS.1
 rw[hW]
 clear hW hC
 refine(X1 op W1 hC1).mono ?_
 rintro e w2⟨rfl,hn⟩
 rw[hf.out]
 obtain⟨n1,n2,c0,c1,c2,c3,c4,c5,c6⟩:=JG hn hS
 clear hS hn hC1
 have hfd:=XJ (1048576*f) (Z9 op).2.1 (Z9 op).2.2.1 (Z9 op).2.2.2
 have g1:(1048576*f !=0)=true:=by rw[bne_iff_ne];omega
 go_wp2_with fail
 have d0:=cell_regrown c0
 have d1:=cell_regrown c1
 have d2:=cell_regrown c2
 have d3:=cell_regrown c3
 have d4:=cell_regrown c4
 have d5:=cell_regrown c5
 have d6:=cell_regrown c6
 clear c0 c1 c2 c3 c4 c5 c6
 refine wp_region_quiet_below (by kernel_rfl) (by kernel_rfl) ?_
 repeat (quiet_step ((first|(go_at_call 73;exact Ye (Xm f op rd rs1 rs2 im aq rl f0 f2 _))|(go_at_call 74;exact ZV (Kh _ _))|(go_at_call 75;exact ZV (Ki f f0 f2 im v0 v1 _)))))
 refine wpQuiet_nil ?_
 intro _ hw'
 obtain⟨⟨dq,osq⟩,hw''⟩:=hw'
 subst hw''
 go_wp2_with fail
 go_ret
 exact⟨rfl,n1.b.trans (below_regrown w2 dq osq)⟩
theorem Z6b
  (op rd rs1 rs2 im:Int) (aq rl:Bool) (v0: -9223372036854775808≤im) (v1:im<9223372036854775808) (w:World) (hC:Cod w) (f:Int) (hf:Hid ((Z9 op).1=f)) (f1:1≤f) (f2:f≤12)
  (hE:EqI op rd rs1 rs2 im aq rl op (oi (rdT f) rd) (oi (YP f) rs1) (oi (YQ f) rs2) (oi (Zp f) im) (ob (ZX f) aq) (ob (ZX f) rl)=true) (h1:Yw rd=true) (h2:Yw rs1=false):
  Calls prog 37 #[.agg #[.int .i64 op,.int .i64 rd,.int .i64 rs1,.int .i64 rs2,.int .i64 im,.bool aq,.bool rl]] w fun e w'=>e=.returned (.bool false)∧Nb w w':=by
 have f0:0≤f:=by omega
 go_enter func37,ntmps37
 go_wp2_with fail
 obtain⟨W1,hW⟩:∃W1,w.alloc (.cells #[.int .i64 op,.int .i64 rd,.int .i64 rs1,.int .i64 rs2,.int .i64 im,.bool aq,.bool rl] 50)=W1:=⟨_,rfl⟩
 have hS:=KD w _ _ _ _ _ _ _ 50 hW rfl
 have hC1:Cod W1:=hC.of_nw hS.1
 rw[hW]
 clear hW hC
 refine(X1 op W1 hC1).mono ?_
 rintro e w2⟨rfl,hn⟩
 rw[hf.out]
 obtain⟨n1,n2,c0,c1,c2,c3,c4,c5,c6⟩:=JG hn hS
 clear hS hn hC1
 have hfd:=XJ (1048576*f) (Z9 op).2.1 (Z9 op).2.2.1 (Z9 op).2.2.2
 have g1:(1048576*f !=0)=true:=by rw[bne_iff_ne];omega
 go_wp2_with fail
 have d0:=cell_regrown c0
 have d1:=cell_regrown c1
 have d2:=cell_regrown c2
 have d3:=cell_regrown c3
 have d4:=cell_regrown c4
 have d5:=cell_regrown c5
 have d6:=cell_regrown c6
 clear c0 c1 c2 c3 c4 c5 c6
 refine wp_region_quiet_below (by kernel_rfl) (by kernel_rfl) ?_
 repeat (quiet_step ((first|(go_at_call 73;exact Ye (Xm f op rd rs1 rs2 im aq rl f0 f2 _))|(go_at_call 74;exact ZV (Kh _ _))|(go_at_call 75;exact ZV (Ki f f0 f2 im v0 v1 _)))))
 refine wpQuiet_nil ?_
 intro _ hw'
 obtain⟨⟨dq,osq⟩,hw''⟩:=hw'
 subst hw''
 go_wp2_with fail
 go_ret
 exact⟨rfl,n1.b.trans (below_regrown w2 dq osq)⟩
theorem Z6c
  (op rd rs1 rs2 im:Int) (aq rl:Bool) (v0: -9223372036854775808≤im) (v1:im<9223372036854775808) (w:World) (hC:Cod w) (f:Int) (hf:Hid ((Z9 op).1=f)) (f1:1≤f) (f2:f≤12)
  (hE:EqI op rd rs1 rs2 im aq rl op (oi (rdT f) rd) (oi (YP f) rs1) (oi (YQ f) rs2) (oi (Zp f) im) (ob (ZX f) aq) (ob (ZX f) rl)=true) (h1:Yw rd=true) (h2:Yw rs1=true) (h3:Yw rs2=false):
  Calls prog 37 #[.agg #[.int .i64 op,.int .i64 rd,.int .i64 rs1,.int .i64 rs2,.int .i64 im,.bool aq,.bool rl]] w fun e w'=>e=.returned (.bool false)∧Nb w w':=by
 have f0:0≤f:=by omega
 go_enter func37,ntmps37
 go_wp2_with fail
 obtain⟨W1,hW⟩:∃W1,w.alloc (.cells #[.int .i64 op,.int .i64 rd,.int .i64 rs1,.int .i64 rs2,.int .i64 im,.bool aq,.bool rl] 50)=W1:=⟨_,rfl⟩
 have hS:=KD w _ _ _ _ _ _ _ 50 hW rfl
 have hC1:Cod W1:=hC.of_nw hS.1
 rw[hW]
 clear hW hC
 refine(X1 op W1 hC1).mono ?_
 rintro e w2⟨rfl,hn⟩
 rw[hf.out]
 obtain⟨n1,n2,c0,c1,c2,c3,c4,c5,c6⟩:=JG hn hS
 clear hS hn hC1
 have hfd:=XJ (1048576*f) (Z9 op).2.1 (Z9 op).2.2.1 (Z9 op).2.2.2
 have g1:(1048576*f !=0)=true:=by rw[bne_iff_ne];omega
 go_wp2_with fail
 have d0:=cell_regrown c0
 have d1:=cell_regrown c1
 have d2:=cell_regrown c2
 have d3:=cell_regrown c3
 have d4:=cell_regrown c4
 have d5:=cell_regrown c5
 have d6:=cell_regrown c6
 clear c0 c1 c2 c3 c4 c5 c6
 refine wp_region_quiet_below (by kernel_rfl) (by kernel_rfl) ?_
 repeat (quiet_step ((first|(go_at_call 73;exact Ye (Xm f op rd rs1 rs2 im aq rl f0 f2 _))|(go_at_call 74;exact ZV (Kh _ _))|(go_at_call 75;exact ZV (Ki f f0 f2 im v0 v1 _)))))
 refine wpQuiet_nil ?_
 intro _ hw'
 obtain⟨⟨dq,osq⟩,hw''⟩:=hw'
 subst hw''
 go_wp2_with fail
 go_ret
 exact⟨rfl,n1.b.trans (below_regrown w2 dq osq)⟩
theorem Z6d
  (op rd rs1 rs2 im:Int) (aq rl:Bool) (v0: -9223372036854775808≤im) (v1:im<9223372036854775808) (w:World) (hC:Cod w) (f:Int) (hf:Hid ((Z9 op).1=f)) (f1:1≤f) (f2:f≤12)
  (hE:EqI op rd rs1 rs2 im aq rl op (oi (rdT f) rd) (oi (YP f) rs1) (oi (YQ f) rs2) (oi (Zp f) im) (ob (ZX f) aq) (ob (ZX f) rl)=true) (h1:Yw rd=true) (h2:Yw rs1=true) (h3:Yw rs2=true) (h4:ZB f im=false):
  Calls prog 37 #[.agg #[.int .i64 op,.int .i64 rd,.int .i64 rs1,.int .i64 rs2,.int .i64 im,.bool aq,.bool rl]] w fun e w'=>e=.returned (.bool false)∧Nb w w':=by
 have f0:0≤f:=by omega
 go_enter func37,ntmps37
 go_wp2_with fail
 obtain⟨W1,hW⟩:∃W1,w.alloc (.cells #[.int .i64 op,.int .i64 rd,.int .i64 rs1,.int .i64 rs2,.int .i64 im,.bool aq,.bool rl] 50)=W1:=⟨_,rfl⟩
 have hS:=KD w _ _ _ _ _ _ _ 50 hW rfl
 have hC1:Cod W1:=hC.of_nw hS.1
 rw[hW]
 clear hW hC
 refine(X1 op W1 hC1).mono ?_
 rintro e w2⟨rfl,hn⟩
 rw[hf.out]
 obtain⟨n1,n2,c0,c1,c2,c3,c4,c5,c6⟩:=JG hn hS
 clear hS hn hC1
 have hfd:=XJ (1048576*f) (Z9 op).2.1 (Z9 op).2.2.1 (Z9 op).2.2.2
 have g1:(1048576*f !=0)=true:=by rw[bne_iff_ne];omega
 go_wp2_with fail
 have d0:=cell_regrown c0
 have d1:=cell_regrown c1
 have d2:=cell_regrown c2
 have d3:=cell_regrown c3
 have d4:=cell_regrown c4
 have d5:=cell_regrown c5
 have d6:=cell_regrown c6
 clear c0 c1 c2 c3 c4 c5 c6
 refine wp_region_quiet_below (by kernel_rfl) (by kernel_rfl) ?_
 repeat (quiet_step ((first|(go_at_call 73;exact Ye (Xm f op rd rs1 rs2 im aq rl f0 f2 _))|(go_at_call 74;exact ZV (Kh _ _))|(go_at_call 75;exact ZV (Ki f f0 f2 im v0 v1 _)))))
 refine wpQuiet_nil ?_
 intro _ hw'
 obtain⟨⟨dq,osq⟩,hw''⟩:=hw'
 subst hw''
 go_wp2_with fail
 go_ret
 exact⟨rfl,n1.b.trans (below_regrown w2 dq osq)⟩
theorem Z6e
  (op rd rs1 rs2 im:Int) (aq rl:Bool) (v0: -9223372036854775808≤im) (v1:im<9223372036854775808) (w:World) (hC:Cod w) (f:Int) (hf:Hid ((Z9 op).1=f)) (f1:1≤f) (f2:f≤12)
  (hE:EqI op rd rs1 rs2 im aq rl op (oi (rdT f) rd) (oi (YP f) rs1) (oi (YQ f) rs2) (oi (Zp f) im) (ob (ZX f) aq) (ob (ZX f) rl)=true) (h1:Yw rd=true) (h2:Yw rs1=true) (h3:Yw rs2=true) (h4:ZB f im=true):
  Calls prog 37 #[.agg #[.int .i64 op,.int .i64 rd,.int .i64 rs1,.int .i64 rs2,.int .i64 im,.bool aq,.bool rl]] w fun e w'=>e=.returned (.bool true)∧Nb w w':=by
 have f0:0≤f:=by omega
 go_enter func37,ntmps37
 go_wp2_with fail
 obtain⟨W1,hW⟩:∃W1,w.alloc (.cells #[.int .i64 op,.int .i64 rd,.int .i64 rs1,.int .i64 rs2,.int .i64 im,.bool aq,.bool rl] 50)=W1:=⟨_,rfl⟩
 have hS:=KD w _ _ _ _ _ _ _ 50 hW rfl
 have hC1:Cod W1:=hC.of_nw hS.1
 rw[hW]
 clear hW hC
 refine(X1 op W1 hC1).mono ?_
 rintro e w2⟨rfl,hn⟩
 rw[hf.out]
 obtain⟨n1,n2,c0,c1,c2,c3,c4,c5,c6⟩:=JG hn hS
 clear hS hn hC1
 have hfd:=XJ (1048576*f) (Z9 op).2.1 (Z9 op).2.2.1 (Z9 op).2.2.2
 have g1:(1048576*f !=0)=true:=by rw[bne_iff_ne];omega
 go_wp2_with fail
 have d0:=cell_regrown c0
 have d1:=cell_regrown c1
 have d2:=cell_regrown c2
 have d3:=cell_regrown c3
 have d4:=cell_regrown c4
 have d5:=cell_regrown c5
 have d6:=cell_regrown c6
 clear c0 c1 c2 c3 c4 c5 c6
 refine wp_region_quiet_below (by kernel_rfl) (by kernel_rfl) ?_
 repeat (quiet_step ((first|(go_at_call 73;exact Ye (Xm f op rd rs1 rs2 im aq rl f0 f2 _))|(go_at_call 74;exact ZV (Kh _ _))|(go_at_call 75;exact ZV (Ki f f0 f2 im v0 v1 _)))))
 refine wpQuiet_nil ?_
 intro _ hw'
 obtain⟨⟨dq,osq⟩,hw''⟩:=hw'
 subst hw''
 go_wp2_with fail
 go_ret
 exact⟨rfl,n1.b.trans (below_regrown w2 dq osq)⟩
end Go.Proofs.YtgpdpaljbiclkaaGreatDoor
end

/-
  Proved here: what word the reference has for an instruction that may be, form by form. Conditions: the operation's row has that form.
-/
import Derived.Test.YtgpdpaljbiclkaaGreatDoorSal
set_option maxHeartbeats 4000000
set_option maxRecDepth 100000
namespace Go.Proofs.YtgpdpaljbiclkaaGreatDoor
open _root_.Go.Proofs.Tryz
open Go.RowKit
set_option linter.unusedVariables false
attribute [local go_sem ↓] Z26 Z47 Z48 Z49
theorem Nb.drewN{a b:World}(h:Nb a b)(n:Nat):Nb a (b.drewN n):=Below.trans h ⟨rfl,rfl,rfl,Nat.le_refl _,fun _ _=>rfl⟩
theorem Yi(v low n at_:Int)(w:World):Calls prog 95 #[.int .i64 v,.int .i64 low,.int .i64 n,.int .i64 at_] w fun e w'=>e=.returned (.int .u64 (Z7 v low n at_))∧w'=w:=(Yn v low n at_ w).mono fun _ _ ⟨he,hw⟩=>⟨he,hw.symm⟩
theorem Yj(b:Bool)(at_:Int)(w:World):Calls prog 96 #[.bool b,.int .i64 at_] w fun e w'=>e=.returned (.int .u64 (Xf b at_))∧w'=w:=(Yu b at_ w).mono fun _ _ ⟨he,hw⟩=>⟨he,hw.symm⟩
theorem rw_1(op o a3 a7 rd rs1 rs2 im:Int)(aq rl:Bool)(RA:Hid (∀w,Calls prog 67 #[.int .i64 op] w fun e w'=>e=.returned (.agg #[.int .i64 1,.int .i64 o,.int .i64 a3,.int .i64 a7])∧Nw w w'))
  (RG:Hid (∀w,Calls prog 66 #[.agg #[.int .i64 op,.int .i64 rd,.int .i64 0,.int .i64 0,.int .i64 im,.bool false,.bool false]] w fun e w'=>e=.returned (.bool true)∧Nb w w')) (w:World):
  Calls prog 59 #[.agg #[.int .i64 op,.int .i64 rd,.int .i64 0,.int .i64 0,.int .i64 im,.bool false,.bool false]] w fun e w'=>e=.returned (.tuple #[.int .u32 (IntKind.u32.wrap (IntKind.u64.wrap (IntKind.u64.wrap (IntKind.u64.wrap (IntKind.u64.wrap (IntKind.u64.wrap (IntKind.u64.wrap o+Z7 a3 0 3 12)+Z7 rd 0 5 7)+Z7 0 0 5 15)+Z7 0 0 5 20)+Z7 im 12 20 12))),.int .i64 0])∧Nb w w':=by
 go_enter func59,ntmps59
 go_wp2_with fail
 obtain⟨W1,hW1⟩:∃W1,w.alloc (.cells #[.int .i64 op,.int .i64 rd,.int .i64 0,.int .i64 0,.int .i64 im,.bool false,.bool false] 50)=W1:=⟨_,rfl⟩
 have hb1:=Z0 w _ hW1 rfl
 have hN1:Nb w W1:=by rw[←hW1];exact(Nb.refl _).alloc _
 rw[hW1]
 clear hW1
 refine(RG.out _).mono ?_
 rintro e w2⟨rfl,hn2⟩
 have hN2:=hN1.trans hn2
 have hb2:=hn2.block hb1
 clear hN1 hn2 hb1
 obtain⟨n4,c0,c1,c2,c3,c4,c5,c6⟩:=Z4 hb2
 go_wp2_with fail
 refine(RA.out _).mono ?_
 rintro e w3⟨rfl,hn3⟩
 have hN3:=hN2.trans hn3.b
 have hb3:=hn3.b.block hb2
 clear n4 c0 c1 c2 c3 c4 c5 c6 hb2 hN2 hn3
 obtain⟨W4,hW4⟩:∃W4,w3.alloc (.cells #[.int .i64 1,.int .i64 o,.int .i64 a3,.int .i64 a7] 105)=W4:=⟨_,rfl⟩
 have hb4:=Z0 w3 _ hW4 rfl
 have hN4:Nb w W4:=by rw[←hW4];exact hN3.alloc _
 have hn4:Nb w3 W4:=by rw[←hW4];exact(Nb.refl _).alloc _
 have hc4:=hn4.block hb3
 clear hb3 hN3 hn4
 obtain⟨n5,d0,d1,d2,d3⟩:=Yg hb4
 obtain⟨n4,c0,c1,c2,c3,c4,c5,c6⟩:=Z4 hc4
 have HB:=Lib.hid hb4
 have HC:=Lib.hid hc4
 clear hb4 hc4 RA RG
 go_wp2_with fail
 go_quiet ((first|(go_at_call 95;exact Calls.quiet_of_same (Yi _ _ _ _ _))|(go_at_call 96;exact Calls.quiet_of_same (Yj _ _ _))))
 have g5:Nb W4 (W4.drewN nq):=(Nb.refl _).drewN _
 have hN5:=hN4.trans g5
 have hb5:=g5.block HB.out
 have hc5:=g5.block HC.out
 clear HB HC n4 n5 c0 c1 c2 c3 c4 c5 c6 d0 d1 d2 d3 g5 hN4
 generalize W4.drewN nq=W5 at*
 obtain⟨n5,d0,d1,d2,d3⟩:=Yg hb5
 obtain⟨n4,c0,c1,c2,c3,c4,c5,c6⟩:=Z4 hc5
 clear hb5 hc5
 go_wp2_with fail
 repeat (first|(refine(Yn _ _ _ _ _).mono ?_;rintro e w'⟨rfl,rfl⟩;go_wp2_with fail)|(refine(Yu _ _ _).mono ?_;rintro e w'⟨rfl,rfl⟩;go_wp2_with fail)|(go_quiet ((first|(go_at_call 95;exact Calls.quiet_of_same (Yi _ _ _ _ _))|(go_at_call 96;exact Calls.quiet_of_same (Yj _ _ _))));go_wp2_with fail))
 go_ret2
 exact⟨rfl,by first|exact hN5|exact hN5.drewN _|exact(hN5.drewN _).drewN _⟩
theorem rw_2(op o a3 a7 rd rs1 rs2 im:Int)(aq rl:Bool)(RA:Hid (∀w,Calls prog 67 #[.int .i64 op] w fun e w'=>e=.returned (.agg #[.int .i64 2,.int .i64 o,.int .i64 a3,.int .i64 a7])∧Nw w w'))
  (RG:Hid (∀w,Calls prog 66 #[.agg #[.int .i64 op,.int .i64 rd,.int .i64 0,.int .i64 0,.int .i64 im,.bool false,.bool false]] w fun e w'=>e=.returned (.bool true)∧Nb w w')) (w:World):
  Calls prog 59 #[.agg #[.int .i64 op,.int .i64 rd,.int .i64 0,.int .i64 0,.int .i64 im,.bool false,.bool false]] w fun e w'=>e=.returned (.tuple #[.int .u32 (IntKind.u32.wrap (IntKind.u64.wrap (IntKind.u64.wrap (IntKind.u64.wrap (IntKind.u64.wrap (IntKind.u64.wrap (IntKind.u64.wrap (IntKind.u64.wrap (IntKind.u64.wrap (IntKind.u64.wrap o+Z7 a3 0 3 12)+Z7 rd 0 5 7)+Z7 0 0 5 15)+Z7 0 0 5 20)+Z7 im 20 1 31)+Z7 im 1 10 21)+Z7 im 11 1 20)+Z7 im 12 8 12))),.int .i64 0])∧Nb w w':=by
 go_enter func59,ntmps59
 go_wp2_with fail
 obtain⟨W1,hW1⟩:∃W1,w.alloc (.cells #[.int .i64 op,.int .i64 rd,.int .i64 0,.int .i64 0,.int .i64 im,.bool false,.bool false] 50)=W1:=⟨_,rfl⟩
 have hb1:=Z0 w _ hW1 rfl
 have hN1:Nb w W1:=by rw[←hW1];exact(Nb.refl _).alloc _
 rw[hW1]
 clear hW1
 refine(RG.out _).mono ?_
 rintro e w2⟨rfl,hn2⟩
 have hN2:=hN1.trans hn2
 have hb2:=hn2.block hb1
 clear hN1 hn2 hb1
 obtain⟨n4,c0,c1,c2,c3,c4,c5,c6⟩:=Z4 hb2
 go_wp2_with fail
 refine(RA.out _).mono ?_
 rintro e w3⟨rfl,hn3⟩
 have hN3:=hN2.trans hn3.b
 have hb3:=hn3.b.block hb2
 clear n4 c0 c1 c2 c3 c4 c5 c6 hb2 hN2 hn3
 obtain⟨W4,hW4⟩:∃W4,w3.alloc (.cells #[.int .i64 2,.int .i64 o,.int .i64 a3,.int .i64 a7] 105)=W4:=⟨_,rfl⟩
 have hb4:=Z0 w3 _ hW4 rfl
 have hN4:Nb w W4:=by rw[←hW4];exact hN3.alloc _
 have hn4:Nb w3 W4:=by rw[←hW4];exact(Nb.refl _).alloc _
 have hc4:=hn4.block hb3
 clear hb3 hN3 hn4
 obtain⟨n5,d0,d1,d2,d3⟩:=Yg hb4
 obtain⟨n4,c0,c1,c2,c3,c4,c5,c6⟩:=Z4 hc4
 have HB:=Lib.hid hb4
 have HC:=Lib.hid hc4
 clear hb4 hc4 RA RG
 go_wp2_with fail
 go_quiet ((first|(go_at_call 95;exact Calls.quiet_of_same (Yi _ _ _ _ _))|(go_at_call 96;exact Calls.quiet_of_same (Yj _ _ _))))
 have g5:Nb W4 (W4.drewN nq):=(Nb.refl _).drewN _
 have hN5:=hN4.trans g5
 have hb5:=g5.block HB.out
 have hc5:=g5.block HC.out
 clear HB HC n4 n5 c0 c1 c2 c3 c4 c5 c6 d0 d1 d2 d3 g5 hN4
 generalize W4.drewN nq=W5 at*
 obtain⟨n5,d0,d1,d2,d3⟩:=Yg hb5
 obtain⟨n4,c0,c1,c2,c3,c4,c5,c6⟩:=Z4 hc5
 clear hb5 hc5
 go_wp2_with fail
 repeat (first|(refine(Yn _ _ _ _ _).mono ?_;rintro e w'⟨rfl,rfl⟩;go_wp2_with fail)|(refine(Yu _ _ _).mono ?_;rintro e w'⟨rfl,rfl⟩;go_wp2_with fail)|(go_quiet ((first|(go_at_call 95;exact Calls.quiet_of_same (Yi _ _ _ _ _))|(go_at_call 96;exact Calls.quiet_of_same (Yj _ _ _))));go_wp2_with fail))
 go_ret2
 exact⟨rfl,by first|exact hN5|exact hN5.drewN _|exact(hN5.drewN _).drewN _⟩
theorem rw_3(op o a3 a7 rd rs1 rs2 im:Int)(aq rl:Bool)(RA:Hid (∀w,Calls prog 67 #[.int .i64 op] w fun e w'=>e=.returned (.agg #[.int .i64 3,.int .i64 o,.int .i64 a3,.int .i64 a7])∧Nw w w'))
  (RG:Hid (∀w,Calls prog 66 #[.agg #[.int .i64 op,.int .i64 rd,.int .i64 rs1,.int .i64 0,.int .i64 im,.bool false,.bool false]] w fun e w'=>e=.returned (.bool true)∧Nb w w')) (w:World):
  Calls prog 59 #[.agg #[.int .i64 op,.int .i64 rd,.int .i64 rs1,.int .i64 0,.int .i64 im,.bool false,.bool false]] w fun e w'=>e=.returned (.tuple #[.int .u32 (IntKind.u32.wrap (IntKind.u64.wrap (IntKind.u64.wrap (IntKind.u64.wrap (IntKind.u64.wrap (IntKind.u64.wrap (IntKind.u64.wrap o+Z7 a3 0 3 12)+Z7 rd 0 5 7)+Z7 rs1 0 5 15)+Z7 0 0 5 20)+Z7 im 0 12 20))),.int .i64 0])∧Nb w w':=by
 go_enter func59,ntmps59
 go_wp2_with fail
 obtain⟨W1,hW1⟩:∃W1,w.alloc (.cells #[.int .i64 op,.int .i64 rd,.int .i64 rs1,.int .i64 0,.int .i64 im,.bool false,.bool false] 50)=W1:=⟨_,rfl⟩
 have hb1:=Z0 w _ hW1 rfl
 have hN1:Nb w W1:=by rw[←hW1];exact(Nb.refl _).alloc _
 rw[hW1]
 clear hW1
 refine(RG.out _).mono ?_
 rintro e w2⟨rfl,hn2⟩
 have hN2:=hN1.trans hn2
 have hb2:=hn2.block hb1
 clear hN1 hn2 hb1
 obtain⟨n4,c0,c1,c2,c3,c4,c5,c6⟩:=Z4 hb2
 go_wp2_with fail
 refine(RA.out _).mono ?_
 rintro e w3⟨rfl,hn3⟩
 have hN3:=hN2.trans hn3.b
 have hb3:=hn3.b.block hb2
 clear n4 c0 c1 c2 c3 c4 c5 c6 hb2 hN2 hn3
 obtain⟨W4,hW4⟩:∃W4,w3.alloc (.cells #[.int .i64 3,.int .i64 o,.int .i64 a3,.int .i64 a7] 105)=W4:=⟨_,rfl⟩
 have hb4:=Z0 w3 _ hW4 rfl
 have hN4:Nb w W4:=by rw[←hW4];exact hN3.alloc _
 have hn4:Nb w3 W4:=by rw[←hW4];exact(Nb.refl _).alloc _
 have hc4:=hn4.block hb3
 clear hb3 hN3 hn4
 obtain⟨n5,d0,d1,d2,d3⟩:=Yg hb4
 obtain⟨n4,c0,c1,c2,c3,c4,c5,c6⟩:=Z4 hc4
 have HB:=Lib.hid hb4
 have HC:=Lib.hid hc4
 clear hb4 hc4 RA RG
 go_wp2_with fail
 go_quiet ((first|(go_at_call 95;exact Calls.quiet_of_same (Yi _ _ _ _ _))|(go_at_call 96;exact Calls.quiet_of_same (Yj _ _ _))))
 have g5:Nb W4 (W4.drewN nq):=(Nb.refl _).drewN _
 have hN5:=hN4.trans g5
 have hb5:=g5.block HB.out
 have hc5:=g5.block HC.out
 clear HB HC n4 n5 c0 c1 c2 c3 c4 c5 c6 d0 d1 d2 d3 g5 hN4
 generalize W4.drewN nq=W5 at*
 obtain⟨n5,d0,d1,d2,d3⟩:=Yg hb5
 obtain⟨n4,c0,c1,c2,c3,c4,c5,c6⟩:=Z4 hc5
 clear hb5 hc5
 go_wp2_with fail
 repeat (first|(refine(Yn _ _ _ _ _).mono ?_;rintro e w'⟨rfl,rfl⟩;go_wp2_with fail)|(refine(Yu _ _ _).mono ?_;rintro e w'⟨rfl,rfl⟩;go_wp2_with fail)|(go_quiet ((first|(go_at_call 95;exact Calls.quiet_of_same (Yi _ _ _ _ _))|(go_at_call 96;exact Calls.quiet_of_same (Yj _ _ _))));go_wp2_with fail))
 go_ret2
 exact⟨rfl,by first|exact hN5|exact hN5.drewN _|exact(hN5.drewN _).drewN _⟩
theorem rw_4(op o a3 a7 rd rs1 rs2 im:Int)(aq rl:Bool)(RA:Hid (∀w,Calls prog 67 #[.int .i64 op] w fun e w'=>e=.returned (.agg #[.int .i64 4,.int .i64 o,.int .i64 a3,.int .i64 a7])∧Nw w w'))
  (RG:Hid (∀w,Calls prog 66 #[.agg #[.int .i64 op,.int .i64 0,.int .i64 rs1,.int .i64 rs2,.int .i64 im,.bool false,.bool false]] w fun e w'=>e=.returned (.bool true)∧Nb w w')) (w:World):
  Calls prog 59 #[.agg #[.int .i64 op,.int .i64 0,.int .i64 rs1,.int .i64 rs2,.int .i64 im,.bool false,.bool false]] w fun e w'=>e=.returned (.tuple #[.int .u32 (IntKind.u32.wrap (IntKind.u64.wrap (IntKind.u64.wrap (IntKind.u64.wrap (IntKind.u64.wrap (IntKind.u64.wrap (IntKind.u64.wrap (IntKind.u64.wrap (IntKind.u64.wrap (IntKind.u64.wrap o+Z7 a3 0 3 12)+Z7 0 0 5 7)+Z7 rs1 0 5 15)+Z7 rs2 0 5 20)+Z7 im 12 1 31)+Z7 im 5 6 25)+Z7 im 1 4 8)+Z7 im 11 1 7))),.int .i64 0])∧Nb w w':=by
 go_enter func59,ntmps59
 go_wp2_with fail
 obtain⟨W1,hW1⟩:∃W1,w.alloc (.cells #[.int .i64 op,.int .i64 0,.int .i64 rs1,.int .i64 rs2,.int .i64 im,.bool false,.bool false] 50)=W1:=⟨_,rfl⟩
 have hb1:=Z0 w _ hW1 rfl
 have hN1:Nb w W1:=by rw[←hW1];exact(Nb.refl _).alloc _
 rw[hW1]
 clear hW1
 refine(RG.out _).mono ?_
 rintro e w2⟨rfl,hn2⟩
 have hN2:=hN1.trans hn2
 have hb2:=hn2.block hb1
 clear hN1 hn2 hb1
 obtain⟨n4,c0,c1,c2,c3,c4,c5,c6⟩:=Z4 hb2
 go_wp2_with fail
 refine(RA.out _).mono ?_
 rintro e w3⟨rfl,hn3⟩
 have hN3:=hN2.trans hn3.b
 have hb3:=hn3.b.block hb2
 clear n4 c0 c1 c2 c3 c4 c5 c6 hb2 hN2 hn3
 obtain⟨W4,hW4⟩:∃W4,w3.alloc (.cells #[.int .i64 4,.int .i64 o,.int .i64 a3,.int .i64 a7] 105)=W4:=⟨_,rfl⟩
 have hb4:=Z0 w3 _ hW4 rfl
 have hN4:Nb w W4:=by rw[←hW4];exact hN3.alloc _
 have hn4:Nb w3 W4:=by rw[←hW4];exact(Nb.refl _).alloc _
 have hc4:=hn4.block hb3
 clear hb3 hN3 hn4
 obtain⟨n5,d0,d1,d2,d3⟩:=Yg hb4
 obtain⟨n4,c0,c1,c2,c3,c4,c5,c6⟩:=Z4 hc4
 have HB:=Lib.hid hb4
 have HC:=Lib.hid hc4
 clear hb4 hc4 RA RG
 go_wp2_with fail
 go_quiet ((first|(go_at_call 95;exact Calls.quiet_of_same (Yi _ _ _ _ _))|(go_at_call 96;exact Calls.quiet_of_same (Yj _ _ _))))
 have g5:Nb W4 (W4.drewN nq):=(Nb.refl _).drewN _
 have hN5:=hN4.trans g5
 have hb5:=g5.block HB.out
 have hc5:=g5.block HC.out
 clear HB HC n4 n5 c0 c1 c2 c3 c4 c5 c6 d0 d1 d2 d3 g5 hN4
 generalize W4.drewN nq=W5 at*
 obtain⟨n5,d0,d1,d2,d3⟩:=Yg hb5
 obtain⟨n4,c0,c1,c2,c3,c4,c5,c6⟩:=Z4 hc5
 clear hb5 hc5
 go_wp2_with fail
 repeat (first|(refine(Yn _ _ _ _ _).mono ?_;rintro e w'⟨rfl,rfl⟩;go_wp2_with fail)|(refine(Yu _ _ _).mono ?_;rintro e w'⟨rfl,rfl⟩;go_wp2_with fail)|(go_quiet ((first|(go_at_call 95;exact Calls.quiet_of_same (Yi _ _ _ _ _))|(go_at_call 96;exact Calls.quiet_of_same (Yj _ _ _))));go_wp2_with fail))
 go_ret2
 exact⟨rfl,by first|exact hN5|exact hN5.drewN _|exact(hN5.drewN _).drewN _⟩
theorem rw_5(op o a3 a7 rd rs1 rs2 im:Int)(aq rl:Bool)(RA:Hid (∀w,Calls prog 67 #[.int .i64 op] w fun e w'=>e=.returned (.agg #[.int .i64 5,.int .i64 o,.int .i64 a3,.int .i64 a7])∧Nw w w'))
  (RG:Hid (∀w,Calls prog 66 #[.agg #[.int .i64 op,.int .i64 0,.int .i64 rs1,.int .i64 rs2,.int .i64 im,.bool false,.bool false]] w fun e w'=>e=.returned (.bool true)∧Nb w w')) (w:World):
  Calls prog 59 #[.agg #[.int .i64 op,.int .i64 0,.int .i64 rs1,.int .i64 rs2,.int .i64 im,.bool false,.bool false]] w fun e w'=>e=.returned (.tuple #[.int .u32 (IntKind.u32.wrap (IntKind.u64.wrap (IntKind.u64.wrap (IntKind.u64.wrap (IntKind.u64.wrap (IntKind.u64.wrap (IntKind.u64.wrap (IntKind.u64.wrap o+Z7 a3 0 3 12)+Z7 0 0 5 7)+Z7 rs1 0 5 15)+Z7 rs2 0 5 20)+Z7 im 5 7 25)+Z7 im 0 5 7))),.int .i64 0])∧Nb w w':=by
 go_enter func59,ntmps59
 go_wp2_with fail
 obtain⟨W1,hW1⟩:∃W1,w.alloc (.cells #[.int .i64 op,.int .i64 0,.int .i64 rs1,.int .i64 rs2,.int .i64 im,.bool false,.bool false] 50)=W1:=⟨_,rfl⟩
 have hb1:=Z0 w _ hW1 rfl
 have hN1:Nb w W1:=by rw[←hW1];exact(Nb.refl _).alloc _
 rw[hW1]
 clear hW1
 refine(RG.out _).mono ?_
 rintro e w2⟨rfl,hn2⟩
 have hN2:=hN1.trans hn2
 have hb2:=hn2.block hb1
 clear hN1 hn2 hb1
 obtain⟨n4,c0,c1,c2,c3,c4,c5,c6⟩:=Z4 hb2
 go_wp2_with fail
 refine(RA.out _).mono ?_
 rintro e w3⟨rfl,hn3⟩
 have hN3:=hN2.trans hn3.b
 have hb3:=hn3.b.block hb2
 clear n4 c0 c1 c2 c3 c4 c5 c6 hb2 hN2 hn3
 obtain⟨W4,hW4⟩:∃W4,w3.alloc (.cells #[.int .i64 5,.int .i64 o,.int .i64 a3,.int .i64 a7] 105)=W4:=⟨_,rfl⟩
 have hb4:=Z0 w3 _ hW4 rfl
 have hN4:Nb w W4:=by rw[←hW4];exact hN3.alloc _
 have hn4:Nb w3 W4:=by rw[←hW4];exact(Nb.refl _).alloc _
 have hc4:=hn4.block hb3
 clear hb3 hN3 hn4
 obtain⟨n5,d0,d1,d2,d3⟩:=Yg hb4
 obtain⟨n4,c0,c1,c2,c3,c4,c5,c6⟩:=Z4 hc4
 have HB:=Lib.hid hb4
 have HC:=Lib.hid hc4
 clear hb4 hc4 RA RG
 go_wp2_with fail
 go_quiet ((first|(go_at_call 95;exact Calls.quiet_of_same (Yi _ _ _ _ _))|(go_at_call 96;exact Calls.quiet_of_same (Yj _ _ _))))
 have g5:Nb W4 (W4.drewN nq):=(Nb.refl _).drewN _
 have hN5:=hN4.trans g5
 have hb5:=g5.block HB.out
 have hc5:=g5.block HC.out
 clear HB HC n4 n5 c0 c1 c2 c3 c4 c5 c6 d0 d1 d2 d3 g5 hN4
 generalize W4.drewN nq=W5 at*
 obtain⟨n5,d0,d1,d2,d3⟩:=Yg hb5
 obtain⟨n4,c0,c1,c2,c3,c4,c5,c6⟩:=Z4 hc5
 clear hb5 hc5
 go_wp2_with fail
 repeat (first|(refine(Yn _ _ _ _ _).mono ?_;rintro e w'⟨rfl,rfl⟩;go_wp2_with fail)|(refine(Yu _ _ _).mono ?_;rintro e w'⟨rfl,rfl⟩;go_wp2_with fail)|(go_quiet ((first|(go_at_call 95;exact Calls.quiet_of_same (Yi _ _ _ _ _))|(go_at_call 96;exact Calls.quiet_of_same (Yj _ _ _))));go_wp2_with fail))
 go_ret2
 exact⟨rfl,by first|exact hN5|exact hN5.drewN _|exact(hN5.drewN _).drewN _⟩
theorem rw_6(op o a3 a7 rd rs1 rs2 im:Int)(aq rl:Bool)(RA:Hid (∀w,Calls prog 67 #[.int .i64 op] w fun e w'=>e=.returned (.agg #[.int .i64 6,.int .i64 o,.int .i64 a3,.int .i64 a7])∧Nw w w'))
  (RG:Hid (∀w,Calls prog 66 #[.agg #[.int .i64 op,.int .i64 rd,.int .i64 rs1,.int .i64 0,.int .i64 im,.bool false,.bool false]] w fun e w'=>e=.returned (.bool true)∧Nb w w')) (w:World):
  Calls prog 59 #[.agg #[.int .i64 op,.int .i64 rd,.int .i64 rs1,.int .i64 0,.int .i64 im,.bool false,.bool false]] w fun e w'=>e=.returned (.tuple #[.int .u32 (IntKind.u32.wrap (IntKind.u64.wrap (IntKind.u64.wrap (IntKind.u64.wrap (IntKind.u64.wrap (IntKind.u64.wrap (IntKind.u64.wrap (IntKind.u64.wrap o+Z7 a3 0 3 12)+Z7 rd 0 5 7)+Z7 rs1 0 5 15)+Z7 0 0 5 20)+Z7 a7 0 7 25)+Z7 im 0 6 20))),.int .i64 0])∧Nb w w':=by
 go_enter func59,ntmps59
 go_wp2_with fail
 obtain⟨W1,hW1⟩:∃W1,w.alloc (.cells #[.int .i64 op,.int .i64 rd,.int .i64 rs1,.int .i64 0,.int .i64 im,.bool false,.bool false] 50)=W1:=⟨_,rfl⟩
 have hb1:=Z0 w _ hW1 rfl
 have hN1:Nb w W1:=by rw[←hW1];exact(Nb.refl _).alloc _
 rw[hW1]
 clear hW1
 refine(RG.out _).mono ?_
 rintro e w2⟨rfl,hn2⟩
 have hN2:=hN1.trans hn2
 have hb2:=hn2.block hb1
 clear hN1 hn2 hb1
 obtain⟨n4,c0,c1,c2,c3,c4,c5,c6⟩:=Z4 hb2
 go_wp2_with fail
 refine(RA.out _).mono ?_
 rintro e w3⟨rfl,hn3⟩
 have hN3:=hN2.trans hn3.b
 have hb3:=hn3.b.block hb2
 clear n4 c0 c1 c2 c3 c4 c5 c6 hb2 hN2 hn3
 obtain⟨W4,hW4⟩:∃W4,w3.alloc (.cells #[.int .i64 6,.int .i64 o,.int .i64 a3,.int .i64 a7] 105)=W4:=⟨_,rfl⟩
 have hb4:=Z0 w3 _ hW4 rfl
 have hN4:Nb w W4:=by rw[←hW4];exact hN3.alloc _
 have hn4:Nb w3 W4:=by rw[←hW4];exact(Nb.refl _).alloc _
 have hc4:=hn4.block hb3
 clear hb3 hN3 hn4
 obtain⟨n5,d0,d1,d2,d3⟩:=Yg hb4
 obtain⟨n4,c0,c1,c2,c3,c4,c5,c6⟩:=Z4 hc4
 have HB:=Lib.hid hb4
 have HC:=Lib.hid hc4
 clear hb4 hc4 RA RG
 go_wp2_with fail
 go_quiet ((first|(go_at_call 95;exact Calls.quiet_of_same (Yi _ _ _ _ _))|(go_at_call 96;exact Calls.quiet_of_same (Yj _ _ _))))
 have g5:Nb W4 (W4.drewN nq):=(Nb.refl _).drewN _
 have hN5:=hN4.trans g5
 have hb5:=g5.block HB.out
 have hc5:=g5.block HC.out
 clear HB HC n4 n5 c0 c1 c2 c3 c4 c5 c6 d0 d1 d2 d3 g5 hN4
 generalize W4.drewN nq=W5 at*
 obtain⟨n5,d0,d1,d2,d3⟩:=Yg hb5
 obtain⟨n4,c0,c1,c2,c3,c4,c5,c6⟩:=Z4 hc5
 clear hb5 hc5
 go_wp2_with fail
 repeat (first|(refine(Yn _ _ _ _ _).mono ?_;rintro e w'⟨rfl,rfl⟩;go_wp2_with fail)|(refine(Yu _ _ _).mono ?_;rintro e w'⟨rfl,rfl⟩;go_wp2_with fail)|(go_quiet ((first|(go_at_call 95;exact Calls.quiet_of_same (Yi _ _ _ _ _))|(go_at_call 96;exact Calls.quiet_of_same (Yj _ _ _))));go_wp2_with fail))
 go_ret2
 exact⟨rfl,by first|exact hN5|exact hN5.drewN _|exact(hN5.drewN _).drewN _⟩
theorem rw_7(op o a3 a7 rd rs1 rs2 im:Int)(aq rl:Bool)(RA:Hid (∀w,Calls prog 67 #[.int .i64 op] w fun e w'=>e=.returned (.agg #[.int .i64 7,.int .i64 o,.int .i64 a3,.int .i64 a7])∧Nw w w'))
  (RG:Hid (∀w,Calls prog 66 #[.agg #[.int .i64 op,.int .i64 rd,.int .i64 rs1,.int .i64 0,.int .i64 im,.bool false,.bool false]] w fun e w'=>e=.returned (.bool true)∧Nb w w')) (w:World):
  Calls prog 59 #[.agg #[.int .i64 op,.int .i64 rd,.int .i64 rs1,.int .i64 0,.int .i64 im,.bool false,.bool false]] w fun e w'=>e=.returned (.tuple #[.int .u32 (IntKind.u32.wrap (IntKind.u64.wrap (IntKind.u64.wrap (IntKind.u64.wrap (IntKind.u64.wrap (IntKind.u64.wrap (IntKind.u64.wrap (IntKind.u64.wrap o+Z7 a3 0 3 12)+Z7 rd 0 5 7)+Z7 rs1 0 5 15)+Z7 0 0 5 20)+Z7 a7 0 7 25)+Z7 im 0 6 20))),.int .i64 0])∧Nb w w':=by
 go_enter func59,ntmps59
 go_wp2_with fail
 obtain⟨W1,hW1⟩:∃W1,w.alloc (.cells #[.int .i64 op,.int .i64 rd,.int .i64 rs1,.int .i64 0,.int .i64 im,.bool false,.bool false] 50)=W1:=⟨_,rfl⟩
 have hb1:=Z0 w _ hW1 rfl
 have hN1:Nb w W1:=by rw[←hW1];exact(Nb.refl _).alloc _
 rw[hW1]
 clear hW1
 refine(RG.out _).mono ?_
 rintro e w2⟨rfl,hn2⟩
 have hN2:=hN1.trans hn2
 have hb2:=hn2.block hb1
 clear hN1 hn2 hb1
 obtain⟨n4,c0,c1,c2,c3,c4,c5,c6⟩:=Z4 hb2
 go_wp2_with fail
 refine(RA.out _).mono ?_
 rintro e w3⟨rfl,hn3⟩
 have hN3:=hN2.trans hn3.b
 have hb3:=hn3.b.block hb2
 clear n4 c0 c1 c2 c3 c4 c5 c6 hb2 hN2 hn3
 obtain⟨W4,hW4⟩:∃W4,w3.alloc (.cells #[.int .i64 7,.int .i64 o,.int .i64 a3,.int .i64 a7] 105)=W4:=⟨_,rfl⟩
 have hb4:=Z0 w3 _ hW4 rfl
 have hN4:Nb w W4:=by rw[←hW4];exact hN3.alloc _
 have hn4:Nb w3 W4:=by rw[←hW4];exact(Nb.refl _).alloc _
 have hc4:=hn4.block hb3
 clear hb3 hN3 hn4
 obtain⟨n5,d0,d1,d2,d3⟩:=Yg hb4
 obtain⟨n4,c0,c1,c2,c3,c4,c5,c6⟩:=Z4 hc4
 have HB:=Lib.hid hb4
 have HC:=Lib.hid hc4
 clear hb4 hc4 RA RG
 go_wp2_with fail
 go_quiet ((first|(go_at_call 95;exact Calls.quiet_of_same (Yi _ _ _ _ _))|(go_at_call 96;exact Calls.quiet_of_same (Yj _ _ _))))
 have g5:Nb W4 (W4.drewN nq):=(Nb.refl _).drewN _
 have hN5:=hN4.trans g5
 have hb5:=g5.block HB.out
 have hc5:=g5.block HC.out
 clear HB HC n4 n5 c0 c1 c2 c3 c4 c5 c6 d0 d1 d2 d3 g5 hN4
 generalize W4.drewN nq=W5 at*
 obtain⟨n5,d0,d1,d2,d3⟩:=Yg hb5
 obtain⟨n4,c0,c1,c2,c3,c4,c5,c6⟩:=Z4 hc5
 clear hb5 hc5
 go_wp2_with fail
 repeat (first|(refine(Yn _ _ _ _ _).mono ?_;rintro e w'⟨rfl,rfl⟩;go_wp2_with fail)|(refine(Yu _ _ _).mono ?_;rintro e w'⟨rfl,rfl⟩;go_wp2_with fail)|(go_quiet ((first|(go_at_call 95;exact Calls.quiet_of_same (Yi _ _ _ _ _))|(go_at_call 96;exact Calls.quiet_of_same (Yj _ _ _))));go_wp2_with fail))
 go_ret2
 exact⟨rfl,by first|exact hN5|exact hN5.drewN _|exact(hN5.drewN _).drewN _⟩
theorem rw_8(op o a3 a7 rd rs1 rs2 im:Int)(aq rl:Bool)(RA:Hid (∀w,Calls prog 67 #[.int .i64 op] w fun e w'=>e=.returned (.agg #[.int .i64 8,.int .i64 o,.int .i64 a3,.int .i64 a7])∧Nw w w'))
  (RG:Hid (∀w,Calls prog 66 #[.agg #[.int .i64 op,.int .i64 rd,.int .i64 rs1,.int .i64 rs2,.int .i64 im,.bool false,.bool false]] w fun e w'=>e=.returned (.bool true)∧Nb w w')) (w:World):
  Calls prog 59 #[.agg #[.int .i64 op,.int .i64 rd,.int .i64 rs1,.int .i64 rs2,.int .i64 im,.bool false,.bool false]] w fun e w'=>e=.returned (.tuple #[.int .u32 (IntKind.u32.wrap (IntKind.u64.wrap (IntKind.u64.wrap (IntKind.u64.wrap (IntKind.u64.wrap (IntKind.u64.wrap (IntKind.u64.wrap o+Z7 a3 0 3 12)+Z7 rd 0 5 7)+Z7 rs1 0 5 15)+Z7 rs2 0 5 20)+Z7 a7 0 7 25))),.int .i64 0])∧Nb w w':=by
 go_enter func59,ntmps59
 go_wp2_with fail
 obtain⟨W1,hW1⟩:∃W1,w.alloc (.cells #[.int .i64 op,.int .i64 rd,.int .i64 rs1,.int .i64 rs2,.int .i64 im,.bool false,.bool false] 50)=W1:=⟨_,rfl⟩
 have hb1:=Z0 w _ hW1 rfl
 have hN1:Nb w W1:=by rw[←hW1];exact(Nb.refl _).alloc _
 rw[hW1]
 clear hW1
 refine(RG.out _).mono ?_
 rintro e w2⟨rfl,hn2⟩
 have hN2:=hN1.trans hn2
 have hb2:=hn2.block hb1
 clear hN1 hn2 hb1
 obtain⟨n4,c0,c1,c2,c3,c4,c5,c6⟩:=Z4 hb2
 go_wp2_with fail
 refine(RA.out _).mono ?_
 rintro e w3⟨rfl,hn3⟩
 have hN3:=hN2.trans hn3.b
 have hb3:=hn3.b.block hb2
 clear n4 c0 c1 c2 c3 c4 c5 c6 hb2 hN2 hn3
 obtain⟨W4,hW4⟩:∃W4,w3.alloc (.cells #[.int .i64 8,.int .i64 o,.int .i64 a3,.int .i64 a7] 105)=W4:=⟨_,rfl⟩
 have hb4:=Z0 w3 _ hW4 rfl
 have hN4:Nb w W4:=by rw[←hW4];exact hN3.alloc _
 have hn4:Nb w3 W4:=by rw[←hW4];exact(Nb.refl _).alloc _
 have hc4:=hn4.block hb3
 clear hb3 hN3 hn4
 obtain⟨n5,d0,d1,d2,d3⟩:=Yg hb4
 obtain⟨n4,c0,c1,c2,c3,c4,c5,c6⟩:=Z4 hc4
 have HB:=Lib.hid hb4
 have HC:=Lib.hid hc4
 clear hb4 hc4 RA RG
 go_wp2_with fail
 go_quiet ((first|(go_at_call 95;exact Calls.quiet_of_same (Yi _ _ _ _ _))|(go_at_call 96;exact Calls.quiet_of_same (Yj _ _ _))))
 have g5:Nb W4 (W4.drewN nq):=(Nb.refl _).drewN _
 have hN5:=hN4.trans g5
 have hb5:=g5.block HB.out
 have hc5:=g5.block HC.out
 clear HB HC n4 n5 c0 c1 c2 c3 c4 c5 c6 d0 d1 d2 d3 g5 hN4
 generalize W4.drewN nq=W5 at*
 obtain⟨n5,d0,d1,d2,d3⟩:=Yg hb5
 obtain⟨n4,c0,c1,c2,c3,c4,c5,c6⟩:=Z4 hc5
 clear hb5 hc5
 go_wp2_with fail
 repeat (first|(refine(Yn _ _ _ _ _).mono ?_;rintro e w'⟨rfl,rfl⟩;go_wp2_with fail)|(refine(Yu _ _ _).mono ?_;rintro e w'⟨rfl,rfl⟩;go_wp2_with fail)|(go_quiet ((first|(go_at_call 95;exact Calls.quiet_of_same (Yi _ _ _ _ _))|(go_at_call 96;exact Calls.quiet_of_same (Yj _ _ _))));go_wp2_with fail))
 go_ret2
 exact⟨rfl,by first|exact hN5|exact hN5.drewN _|exact(hN5.drewN _).drewN _⟩
theorem rw_9(op o a3 a7 rd rs1 rs2 im:Int)(aq rl:Bool)(RA:Hid (∀w,Calls prog 67 #[.int .i64 op] w fun e w'=>e=.returned (.agg #[.int .i64 9,.int .i64 o,.int .i64 a3,.int .i64 a7])∧Nw w w'))
  (RG:Hid (∀w,Calls prog 66 #[.agg #[.int .i64 op,.int .i64 0,.int .i64 0,.int .i64 0,.int .i64 im,.bool false,.bool false]] w fun e w'=>e=.returned (.bool true)∧Nb w w')) (w:World):
  Calls prog 59 #[.agg #[.int .i64 op,.int .i64 0,.int .i64 0,.int .i64 0,.int .i64 im,.bool false,.bool false]] w fun e w'=>e=.returned (.tuple #[.int .u32 (IntKind.u32.wrap (IntKind.u64.wrap (IntKind.u64.wrap (IntKind.u64.wrap (IntKind.u64.wrap (IntKind.u64.wrap (IntKind.u64.wrap o+Z7 a3 0 3 12)+Z7 0 0 5 7)+Z7 0 0 5 15)+Z7 0 0 5 20)+Z7 im 0 8 20))),.int .i64 0])∧Nb w w':=by
 go_enter func59,ntmps59
 go_wp2_with fail
 obtain⟨W1,hW1⟩:∃W1,w.alloc (.cells #[.int .i64 op,.int .i64 0,.int .i64 0,.int .i64 0,.int .i64 im,.bool false,.bool false] 50)=W1:=⟨_,rfl⟩
 have hb1:=Z0 w _ hW1 rfl
 have hN1:Nb w W1:=by rw[←hW1];exact(Nb.refl _).alloc _
 rw[hW1]
 clear hW1
 refine(RG.out _).mono ?_
 rintro e w2⟨rfl,hn2⟩
 have hN2:=hN1.trans hn2
 have hb2:=hn2.block hb1
 clear hN1 hn2 hb1
 obtain⟨n4,c0,c1,c2,c3,c4,c5,c6⟩:=Z4 hb2
 go_wp2_with fail
 refine(RA.out _).mono ?_
 rintro e w3⟨rfl,hn3⟩
 have hN3:=hN2.trans hn3.b
 have hb3:=hn3.b.block hb2
 clear n4 c0 c1 c2 c3 c4 c5 c6 hb2 hN2 hn3
 obtain⟨W4,hW4⟩:∃W4,w3.alloc (.cells #[.int .i64 9,.int .i64 o,.int .i64 a3,.int .i64 a7] 105)=W4:=⟨_,rfl⟩
 have hb4:=Z0 w3 _ hW4 rfl
 have hN4:Nb w W4:=by rw[←hW4];exact hN3.alloc _
 have hn4:Nb w3 W4:=by rw[←hW4];exact(Nb.refl _).alloc _
 have hc4:=hn4.block hb3
 clear hb3 hN3 hn4
 obtain⟨n5,d0,d1,d2,d3⟩:=Yg hb4
 obtain⟨n4,c0,c1,c2,c3,c4,c5,c6⟩:=Z4 hc4
 have HB:=Lib.hid hb4
 have HC:=Lib.hid hc4
 clear hb4 hc4 RA RG
 go_wp2_with fail
 go_quiet ((first|(go_at_call 95;exact Calls.quiet_of_same (Yi _ _ _ _ _))|(go_at_call 96;exact Calls.quiet_of_same (Yj _ _ _))))
 have g5:Nb W4 (W4.drewN nq):=(Nb.refl _).drewN _
 have hN5:=hN4.trans g5
 have hb5:=g5.block HB.out
 have hc5:=g5.block HC.out
 clear HB HC n4 n5 c0 c1 c2 c3 c4 c5 c6 d0 d1 d2 d3 g5 hN4
 generalize W4.drewN nq=W5 at*
 obtain⟨n5,d0,d1,d2,d3⟩:=Yg hb5
 obtain⟨n4,c0,c1,c2,c3,c4,c5,c6⟩:=Z4 hc5
 clear hb5 hc5
 go_wp2_with fail
 repeat (first|(refine(Yn _ _ _ _ _).mono ?_;rintro e w'⟨rfl,rfl⟩;go_wp2_with fail)|(refine(Yu _ _ _).mono ?_;rintro e w'⟨rfl,rfl⟩;go_wp2_with fail)|(go_quiet ((first|(go_at_call 95;exact Calls.quiet_of_same (Yi _ _ _ _ _))|(go_at_call 96;exact Calls.quiet_of_same (Yj _ _ _))));go_wp2_with fail))
 go_ret2
 exact⟨rfl,by first|exact hN5|exact hN5.drewN _|exact(hN5.drewN _).drewN _⟩
theorem rw_10(op o a3 a7 rd rs1 rs2 im:Int)(aq rl:Bool)(RA:Hid (∀w,Calls prog 67 #[.int .i64 op] w fun e w'=>e=.returned (.agg #[.int .i64 10,.int .i64 o,.int .i64 a3,.int .i64 a7])∧Nw w w'))
  (RG:Hid (∀w,Calls prog 66 #[.agg #[.int .i64 op,.int .i64 0,.int .i64 0,.int .i64 0,.int .i64 im,.bool false,.bool false]] w fun e w'=>e=.returned (.bool true)∧Nb w w')) (w:World):
  Calls prog 59 #[.agg #[.int .i64 op,.int .i64 0,.int .i64 0,.int .i64 0,.int .i64 im,.bool false,.bool false]] w fun e w'=>e=.returned (.tuple #[.int .u32 (IntKind.u32.wrap (IntKind.u64.wrap (IntKind.u64.wrap (IntKind.u64.wrap (IntKind.u64.wrap (IntKind.u64.wrap (IntKind.u64.wrap o+Z7 a3 0 3 12)+Z7 0 0 5 7)+Z7 0 0 5 15)+Z7 0 0 5 20)+Z7 a7 0 12 20))),.int .i64 0])∧Nb w w':=by
 go_enter func59,ntmps59
 go_wp2_with fail
 obtain⟨W1,hW1⟩:∃W1,w.alloc (.cells #[.int .i64 op,.int .i64 0,.int .i64 0,.int .i64 0,.int .i64 im,.bool false,.bool false] 50)=W1:=⟨_,rfl⟩
 have hb1:=Z0 w _ hW1 rfl
 have hN1:Nb w W1:=by rw[←hW1];exact(Nb.refl _).alloc _
 rw[hW1]
 clear hW1
 refine(RG.out _).mono ?_
 rintro e w2⟨rfl,hn2⟩
 have hN2:=hN1.trans hn2
 have hb2:=hn2.block hb1
 clear hN1 hn2 hb1
 obtain⟨n4,c0,c1,c2,c3,c4,c5,c6⟩:=Z4 hb2
 go_wp2_with fail
 refine(RA.out _).mono ?_
 rintro e w3⟨rfl,hn3⟩
 have hN3:=hN2.trans hn3.b
 have hb3:=hn3.b.block hb2
 clear n4 c0 c1 c2 c3 c4 c5 c6 hb2 hN2 hn3
 obtain⟨W4,hW4⟩:∃W4,w3.alloc (.cells #[.int .i64 10,.int .i64 o,.int .i64 a3,.int .i64 a7] 105)=W4:=⟨_,rfl⟩
 have hb4:=Z0 w3 _ hW4 rfl
 have hN4:Nb w W4:=by rw[←hW4];exact hN3.alloc _
 have hn4:Nb w3 W4:=by rw[←hW4];exact(Nb.refl _).alloc _
 have hc4:=hn4.block hb3
 clear hb3 hN3 hn4
 obtain⟨n5,d0,d1,d2,d3⟩:=Yg hb4
 obtain⟨n4,c0,c1,c2,c3,c4,c5,c6⟩:=Z4 hc4
 have HB:=Lib.hid hb4
 have HC:=Lib.hid hc4
 clear hb4 hc4 RA RG
 go_wp2_with fail
 go_quiet ((first|(go_at_call 95;exact Calls.quiet_of_same (Yi _ _ _ _ _))|(go_at_call 96;exact Calls.quiet_of_same (Yj _ _ _))))
 have g5:Nb W4 (W4.drewN nq):=(Nb.refl _).drewN _
 have hN5:=hN4.trans g5
 have hb5:=g5.block HB.out
 have hc5:=g5.block HC.out
 clear HB HC n4 n5 c0 c1 c2 c3 c4 c5 c6 d0 d1 d2 d3 g5 hN4
 generalize W4.drewN nq=W5 at*
 obtain⟨n5,d0,d1,d2,d3⟩:=Yg hb5
 obtain⟨n4,c0,c1,c2,c3,c4,c5,c6⟩:=Z4 hc5
 clear hb5 hc5
 go_wp2_with fail
 repeat (first|(refine(Yn _ _ _ _ _).mono ?_;rintro e w'⟨rfl,rfl⟩;go_wp2_with fail)|(refine(Yu _ _ _).mono ?_;rintro e w'⟨rfl,rfl⟩;go_wp2_with fail)|(go_quiet ((first|(go_at_call 95;exact Calls.quiet_of_same (Yi _ _ _ _ _))|(go_at_call 96;exact Calls.quiet_of_same (Yj _ _ _))));go_wp2_with fail))
 go_ret2
 exact⟨rfl,by first|exact hN5|exact hN5.drewN _|exact(hN5.drewN _).drewN _⟩
theorem rw_11(op o a3 a7 rd rs1 rs2 im:Int)(aq rl:Bool)(RA:Hid (∀w,Calls prog 67 #[.int .i64 op] w fun e w'=>e=.returned (.agg #[.int .i64 11,.int .i64 o,.int .i64 a3,.int .i64 a7])∧Nw w w'))
  (RG:Hid (∀w,Calls prog 66 #[.agg #[.int .i64 op,.int .i64 rd,.int .i64 rs1,.int .i64 0,.int .i64 im,.bool aq,.bool rl]] w fun e w'=>e=.returned (.bool true)∧Nb w w')) (w:World):
  Calls prog 59 #[.agg #[.int .i64 op,.int .i64 rd,.int .i64 rs1,.int .i64 0,.int .i64 im,.bool aq,.bool rl]] w fun e w'=>e=.returned (.tuple #[.int .u32 (IntKind.u32.wrap (IntKind.u64.wrap (IntKind.u64.wrap (IntKind.u64.wrap (IntKind.u64.wrap (IntKind.u64.wrap (IntKind.u64.wrap (IntKind.u64.wrap (IntKind.u64.wrap o+Z7 a3 0 3 12)+Z7 rd 0 5 7)+Z7 rs1 0 5 15)+Z7 0 0 5 20)+Z7 a7 0 5 27)+Xf aq 26)+Xf rl 25))),.int .i64 0])∧Nb w w':=by
 go_enter func59,ntmps59
 go_wp2_with fail
 obtain⟨W1,hW1⟩:∃W1,w.alloc (.cells #[.int .i64 op,.int .i64 rd,.int .i64 rs1,.int .i64 0,.int .i64 im,.bool aq,.bool rl] 50)=W1:=⟨_,rfl⟩
 have hb1:=Z0 w _ hW1 rfl
 have hN1:Nb w W1:=by rw[←hW1];exact(Nb.refl _).alloc _
 rw[hW1]
 clear hW1
 refine(RG.out _).mono ?_
 rintro e w2⟨rfl,hn2⟩
 have hN2:=hN1.trans hn2
 have hb2:=hn2.block hb1
 clear hN1 hn2 hb1
 obtain⟨n4,c0,c1,c2,c3,c4,c5,c6⟩:=Z4 hb2
 go_wp2_with fail
 refine(RA.out _).mono ?_
 rintro e w3⟨rfl,hn3⟩
 have hN3:=hN2.trans hn3.b
 have hb3:=hn3.b.block hb2
 clear n4 c0 c1 c2 c3 c4 c5 c6 hb2 hN2 hn3
 obtain⟨W4,hW4⟩:∃W4,w3.alloc (.cells #[.int .i64 11,.int .i64 o,.int .i64 a3,.int .i64 a7] 105)=W4:=⟨_,rfl⟩
 have hb4:=Z0 w3 _ hW4 rfl
 have hN4:Nb w W4:=by rw[←hW4];exact hN3.alloc _
 have hn4:Nb w3 W4:=by rw[←hW4];exact(Nb.refl _).alloc _
 have hc4:=hn4.block hb3
 clear hb3 hN3 hn4
 obtain⟨n5,d0,d1,d2,d3⟩:=Yg hb4
 obtain⟨n4,c0,c1,c2,c3,c4,c5,c6⟩:=Z4 hc4
 have HB:=Lib.hid hb4
 have HC:=Lib.hid hc4
 clear hb4 hc4 RA RG
 go_wp2_with fail
 go_quiet ((first|(go_at_call 95;exact Calls.quiet_of_same (Yi _ _ _ _ _))|(go_at_call 96;exact Calls.quiet_of_same (Yj _ _ _))))
 have g5:Nb W4 (W4.drewN nq):=(Nb.refl _).drewN _
 have hN5:=hN4.trans g5
 have hb5:=g5.block HB.out
 have hc5:=g5.block HC.out
 clear HB HC n4 n5 c0 c1 c2 c3 c4 c5 c6 d0 d1 d2 d3 g5 hN4
 generalize W4.drewN nq=W5 at*
 obtain⟨n5,d0,d1,d2,d3⟩:=Yg hb5
 obtain⟨n4,c0,c1,c2,c3,c4,c5,c6⟩:=Z4 hc5
 clear hb5 hc5
 go_wp2_with fail
 repeat (first|(refine(Yn _ _ _ _ _).mono ?_;rintro e w'⟨rfl,rfl⟩;go_wp2_with fail)|(refine(Yu _ _ _).mono ?_;rintro e w'⟨rfl,rfl⟩;go_wp2_with fail)|(go_quiet ((first|(go_at_call 95;exact Calls.quiet_of_same (Yi _ _ _ _ _))|(go_at_call 96;exact Calls.quiet_of_same (Yj _ _ _))));go_wp2_with fail))
 go_ret2
 exact⟨rfl,by first|exact hN5|exact hN5.drewN _|exact(hN5.drewN _).drewN _⟩
theorem rw_12(op o a3 a7 rd rs1 rs2 im:Int)(aq rl:Bool)(RA:Hid (∀w,Calls prog 67 #[.int .i64 op] w fun e w'=>e=.returned (.agg #[.int .i64 12,.int .i64 o,.int .i64 a3,.int .i64 a7])∧Nw w w'))
  (RG:Hid (∀w,Calls prog 66 #[.agg #[.int .i64 op,.int .i64 rd,.int .i64 rs1,.int .i64 rs2,.int .i64 im,.bool aq,.bool rl]] w fun e w'=>e=.returned (.bool true)∧Nb w w')) (w:World):
  Calls prog 59 #[.agg #[.int .i64 op,.int .i64 rd,.int .i64 rs1,.int .i64 rs2,.int .i64 im,.bool aq,.bool rl]] w fun e w'=>e=.returned (.tuple #[.int .u32 (IntKind.u32.wrap (IntKind.u64.wrap (IntKind.u64.wrap (IntKind.u64.wrap (IntKind.u64.wrap (IntKind.u64.wrap (IntKind.u64.wrap (IntKind.u64.wrap (IntKind.u64.wrap o+Z7 a3 0 3 12)+Z7 rd 0 5 7)+Z7 rs1 0 5 15)+Z7 rs2 0 5 20)+Z7 a7 0 5 27)+Xf aq 26)+Xf rl 25))),.int .i64 0])∧Nb w w':=by
 go_enter func59,ntmps59
 go_wp2_with fail
 obtain⟨W1,hW1⟩:∃W1,w.alloc (.cells #[.int .i64 op,.int .i64 rd,.int .i64 rs1,.int .i64 rs2,.int .i64 im,.bool aq,.bool rl] 50)=W1:=⟨_,rfl⟩
 have hb1:=Z0 w _ hW1 rfl
 have hN1:Nb w W1:=by rw[←hW1];exact(Nb.refl _).alloc _
 rw[hW1]
 clear hW1
 refine(RG.out _).mono ?_
 rintro e w2⟨rfl,hn2⟩
 have hN2:=hN1.trans hn2
 have hb2:=hn2.block hb1
 clear hN1 hn2 hb1
 obtain⟨n4,c0,c1,c2,c3,c4,c5,c6⟩:=Z4 hb2
 go_wp2_with fail
 refine(RA.out _).mono ?_
 rintro e w3⟨rfl,hn3⟩
 have hN3:=hN2.trans hn3.b
 have hb3:=hn3.b.block hb2
 clear n4 c0 c1 c2 c3 c4 c5 c6 hb2 hN2 hn3
 obtain⟨W4,hW4⟩:∃W4,w3.alloc (.cells #[.int .i64 12,.int .i64 o,.int .i64 a3,.int .i64 a7] 105)=W4:=⟨_,rfl⟩
 have hb4:=Z0 w3 _ hW4 rfl
 have hN4:Nb w W4:=by rw[←hW4];exact hN3.alloc _
 have hn4:Nb w3 W4:=by rw[←hW4];exact(Nb.refl _).alloc _
 have hc4:=hn4.block hb3
 clear hb3 hN3 hn4
 obtain⟨n5,d0,d1,d2,d3⟩:=Yg hb4
 obtain⟨n4,c0,c1,c2,c3,c4,c5,c6⟩:=Z4 hc4
 have HB:=Lib.hid hb4
 have HC:=Lib.hid hc4
 clear hb4 hc4 RA RG
 go_wp2_with fail
 go_quiet ((first|(go_at_call 95;exact Calls.quiet_of_same (Yi _ _ _ _ _))|(go_at_call 96;exact Calls.quiet_of_same (Yj _ _ _))))
 have g5:Nb W4 (W4.drewN nq):=(Nb.refl _).drewN _
 have hN5:=hN4.trans g5
 have hb5:=g5.block HB.out
 have hc5:=g5.block HC.out
 clear HB HC n4 n5 c0 c1 c2 c3 c4 c5 c6 d0 d1 d2 d3 g5 hN4
 generalize W4.drewN nq=W5 at*
 obtain⟨n5,d0,d1,d2,d3⟩:=Yg hb5
 obtain⟨n4,c0,c1,c2,c3,c4,c5,c6⟩:=Z4 hc5
 clear hb5 hc5
 go_wp2_with fail
 repeat (first|(refine(Yn _ _ _ _ _).mono ?_;rintro e w'⟨rfl,rfl⟩;go_wp2_with fail)|(refine(Yu _ _ _).mono ?_;rintro e w'⟨rfl,rfl⟩;go_wp2_with fail)|(go_quiet ((first|(go_at_call 95;exact Calls.quiet_of_same (Yi _ _ _ _ _))|(go_at_call 96;exact Calls.quiet_of_same (Yj _ _ _))));go_wp2_with fail))
 go_ret2
 exact⟨rfl,by first|exact hN5|exact hN5.drewN _|exact(hN5.drewN _).drewN _⟩
end Go.Proofs.YtgpdpaljbiclkaaGreatDoor

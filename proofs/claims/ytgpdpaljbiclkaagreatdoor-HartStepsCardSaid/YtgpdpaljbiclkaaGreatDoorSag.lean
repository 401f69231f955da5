/-
  Proved here: which instructions may be, and what word an instruction has, by the code. Conditions: the table of codes holds what its text lays; the numbers are ints. ¦ what the condition on the table of codes gives, and the frame of the laws on instructions. Condition: the table of codes holds what its text lays. ¦ an instruction that comes in as an argument is seven plain values, and reads as such. No condition. ¦ what Row of the reference answers for every operation: the row of its table. No condition.
-/
import Derived.Test.YtgpdpaljbiclkaaGreatDoorSaf
import Derived.Test.YtgpdpaljbiclkaaGreatDoorSad
import Derived.Test.YtgpdpaljbiclkaaGreatDoorRows
import Derived.ProofKit
import Derived.LaidMore
import Derived.OpenShut
import Derived.Stop.Joined
import Derived.Lib.LaidTab
import Derived.Lib.SmallJoins
import Derived.Great.Walk
import Derived.Deep.WholeRow
import Derived.Deep.Cut
set_option maxHeartbeats 4000000
set_option maxRecDepth 100000
section
namespace Go.Proofs.YtgpdpaljbiclkaaGreatDoor
open _root_.Go.Proofs.Tryz
open Go.RowKit Go.Sort
set_option linter.unusedVariables false
theorem Z37(op rd rs1 rs2 im:Int)(aq rl:Bool)(w:World)(hC:Cod w)(hf:Hid ((Z9 op).1=0)):
  Calls prog 37 #[.agg #[.int .i64 op,.int .i64 rd,.int .i64 rs1,.int .i64 rs2,.int .i64 im,.bool aq,.bool rl]] w fun e w'=>e=.returned (.bool false)∧Nb w w':=by
 go_enter func37,ntmps37
 go_wp2_with fail
 obtain⟨W1,hW⟩:∃W1,w.alloc (.cells #[.int .i64 op,.int .i64 rd,.int .i64 rs1,.int .i64 rs2,.int .i64 im,.bool aq,.bool rl] 50)=W1:=⟨_,rfl⟩
 have hS:=KD w _ _ _ _ _ _ _ 50 hW rfl
 have hC1:Cod W1:=hC.of_nw hS.1
 rw[hW]
 clear hW hC
 refine(X1 op W1 hC1).mono ?_
 rintro e w2⟨rfl,hn⟩
 rw[hf.out]
 obtain⟨n1,n2,c0,c1,c2,c3,c4,c5,c6⟩:=JG hn hS
 clear hS hn hC1
 have hfd:=XJ 0 (Z9 op).2.1 (Z9 op).2.2.1 (Z9 op).2.2.2
 go_wp2_with fail
 refine wp_region_quiet_below (by kernel_rfl) (by kernel_rfl) ?_
 repeat (quiet_step (fail))
 refine wpQuiet_nil ?_
 intro _ hw'
 obtain⟨⟨dq,osq⟩,hw''⟩:=hw'
 subst hw''
 go_wp2_with fail
 go_ret
 exact⟨rfl,n1.b.trans (below_regrown w2 dq osq)⟩
def GoodB (op rd rs1 rs2 im:Int) (aq rl:Bool):Bool:=if (Z9 op).1=0 then false else Z2A (Z9 op).1 op rd rs1 rs2 im aq rl && (Yw rd && (Yw rs1 && (Yw rs2 && ZB (Z9 op).1 im)))
theorem XZ(op rd rs1 rs2 im:Int)(aq rl:Bool)(v0: -9223372036854775808≤im)(v1:im<9223372036854775808)(w:World)(hC:Cod w):
  Calls prog 37 #[.agg #[.int .i64 op,.int .i64 rd,.int .i64 rs1,.int .i64 rs2,.int .i64 im,.bool aq,.bool rl]] w fun e w'=>e=.returned (.bool (GoodB op rd rs1 rs2 im aq rl))∧Nb w w':=by
 have hr:=XI op
 by_cases h:(Z9 op).1=0
 ·rw[show GoodB op rd rs1 rs2 im aq rl=false from if_pos h]
  exact Z37 op rd rs1 rs2 im aq rl w hC h
 ·have e:GoodB op rd rs1 rs2 im aq rl=(Z2A (Z9 op).1 op rd rs1 rs2 im aq rl && (Yw rd && (Yw rs1 && (Yw rs2 && ZB (Z9 op).1 im)))):=if_neg h
  rw[e]
  have f1:1≤(Z9 op).1:=by omega
  cases hE:Z2A (Z9 op).1 op rd rs1 rs2 im aq rl
  ·exact Z69 op rd rs1 rs2 im aq rl v0 v1 w hC _ rfl f1 hr.2.1 hE
  ·cases h1:Yw rd
   ·exact Z6a op rd rs1 rs2 im aq rl v0 v1 w hC _ rfl f1 hr.2.1 hE h1
   ·cases h2:Yw rs1
    ·exact Z6b op rd rs1 rs2 im aq rl v0 v1 w hC _ rfl f1 hr.2.1 hE h1 h2
    ·cases h3:Yw rs2
     ·exact Z6c op rd rs1 rs2 im aq rl v0 v1 w hC _ rfl f1 hr.2.1 hE h1 h2 h3
     ·cases h4:ZB (Z9 op).1 im
      ·exact Z6d op rd rs1 rs2 im aq rl v0 v1 w hC _ rfl f1 hr.2.1 hE h1 h2 h3 h4
      ·exact Z6e op rd rs1 rs2 im aq rl v0 v1 w hC _ rfl f1 hr.2.1 hE h1 h2 h3 h4
theorem J0{r:Int}(h:Yw r=true):0≤r∧r≤31:=by unfold Yw at h;simpa using h
theorem K0{op rd rs1 rs2 im:Int}{aq rl:Bool}(h:GoodB op rd rs1 rs2 im aq rl=true):(0≤rd∧rd≤31)∧(0≤rs1∧rs1≤31)∧(0≤rs2∧rs2≤31):=by
 unfold GoodB at h
 split at h
 ·cases h
 ·simp only[Bool.and_eq_true] at h
  exact⟨J0 h.2.1,J0 h.2.2.1,J0 h.2.2.2.1⟩
theorem ret2{k:IntKind}{a b:Int}{c:Value}(h:a=b):Ending.returned (.tuple #[.int k a,c])=.returned (.tuple #[.int k b,c]):=by rw[h]
def W64 (op rd rs1 rs2 im:Int) (aq rl:Bool):Int:=
 bits .or .u64 (bits .or .u64 (Wd (Z9 op).1 (Z9 op).2.1 (Z9 op).2.2.1 (Z9 op).2.2.2) (FW rd rs1 rs2 aq rl)) (IW (Z9 op).1 (IntKind.u64.wrap im))
def Z0z (op rd rs1 rs2 im:Int) (aq rl:Bool):Int:=IntKind.u32.wrap (W64 op rd rs1 rs2 im aq rl)
theorem Z46(op rd rs1 rs2 im:Int)(aq rl:Bool)(v0: -9223372036854775808≤im)(v1:im<9223372036854775808)(hg:GoodB op rd rs1 rs2 im aq rl=false)(w:World)(hC:Cod w):
  Calls prog 16 #[.agg #[.int .i64 op,.int .i64 rd,.int .i64 rs1,.int .i64 rs2,.int .i64 im,.bool aq,.bool rl]] w fun e w'=>e=.returned (.tuple #[.int .u32 0,.int .i64 20])∧Nb w w':=by
 go_enter func16,ntmps16
 go_wp2_with fail
 obtain⟨W1,hW⟩:∃W1,w.alloc (.cells #[.int .i64 op,.int .i64 rd,.int .i64 rs1,.int .i64 rs2,.int .i64 im,.bool aq,.bool rl] 50)=W1:=⟨_,rfl⟩
 have hS:=KD w _ _ _ _ _ _ _ 50 hW rfl
 have hC1:Cod W1:=hC.of_nw hS.1
 rw[hW]
 clear hW hC
 refine(XZ op rd rs1 rs2 im aq rl v0 v1 W1 hC1).mono ?_
 rintro e w2⟨rfl,hn⟩
 go_wp2_with fail
 go_ret2
 exact⟨rfl,hS.1.b.trans hn⟩
theorem Z2B(op rd rs1 rs2 im:Int)(aq rl:Bool)(v0: -9223372036854775808≤im)(v1:im<9223372036854775808)(hg:GoodB op rd rs1 rs2 im aq rl=true)(w:World)(hC:Cod w):
  Calls prog 16 #[.agg #[.int .i64 op,.int .i64 rd,.int .i64 rs1,.int .i64 rs2,.int .i64 im,.bool aq,.bool rl]] w fun e w'=>e=.returned (.tuple #[.int .u32 (Z0z op rd rs1 rs2 im aq rl),.int .i64 0])∧Nb w w':=by
 obtain⟨⟨p0,p1⟩,⟨q0,q1⟩,⟨r0,r1⟩⟩:=K0 hg
 go_enter func16,ntmps16
 go_wp2_with fail
 obtain⟨W1,hW⟩:∃W1,w.alloc (.cells #[.int .i64 op,.int .i64 rd,.int .i64 rs1,.int .i64 rs2,.int .i64 im,.bool aq,.bool rl] 50)=W1:=⟨_,rfl⟩
 have hS:=KD w _ _ _ _ _ _ _ 50 hW rfl
 have hC1:Cod W1:=hC.of_nw hS.1
 rw[hW]
 clear hW hC
 refine(XZ op rd rs1 rs2 im aq rl v0 v1 W1 hC1).mono ?_
 rintro e w2⟨rfl,hn⟩
 have hC2:=hC1.of_nb hn
 have hN:=hS.1.b.trans hn
 obtain⟨n1,n2,c0,c1,c2,c3,c4,c5,c6⟩:=hS
 have c0:=hn.cell c0
 have c1:=hn.cell c1
 have c2:=hn.cell c2
 have c3:=hn.cell c3
 have c4:=hn.cell c4
 have c5:=hn.cell c5
 have c6:=hn.cell c6
 obtain⟨s0,s1,t0,t1,u0,u1,x0,x1⟩:=XI op
 go_wp2_with fail
 refine(X1 op w2 hC2).mono ?_
 rintro e w3⟨rfl,hn3⟩
 have hN3:=hN.trans hn3.b
 have k0:=hn3.b.cell c0
 have k1:=hn3.b.cell c1
 have k2:=hn3.b.cell c2
 have k3:=hn3.b.cell c3
 have k4:=hn3.b.cell c4
 have k5:=hn3.b.cell c5
 have k6:=hn3.b.cell c6
 clear c0 c1 c2 c3 c4 c5 c6
 generalize hF:(Z9 op).1=f at*
 generalize hO:(Z9 op).2.1=o at*
 generalize hA:(Z9 op).2.2.1=a3 at*
 generalize hB:(Z9 op).2.2.2=a7 at*
 have HW:Hid (Z0z op rd rs1 rs2 im aq rl=IntKind.u32.wrap (bits .or .u64 (bits .or .u64 (Wd f o a3 a7) (FW rd rs1 rs2 aq rl)) (IW f (IntKind.u64.wrap im)))):=by subst hF hO hA hB;exact rfl
 clear hF hO hA hB
 go_wp2_with fail
 obtain⟨W4,hW4⟩:∃W4,w3.alloc (.cells #[.int .u32 (1048576*f),.int .u64 o,.int .u64 a3,.int .u64 a7] 88)=W4:=⟨_,rfl⟩
 have hH:=Z1i w3 _ _ _ _ 88 hW4 rfl
 rw[hW4]
 clear hW4
 obtain⟨h0,h1,e0,e1,e2,e3⟩:=hH
 have d0:=cell_regrown (h0.b.cell k0)
 have d1:=cell_regrown (h0.b.cell k1)
 have d2:=cell_regrown (h0.b.cell k2)
 have d3:=cell_regrown (h0.b.cell k3)
 have d4:=cell_regrown (h0.b.cell k4)
 have d5:=cell_regrown (h0.b.cell k5)
 have d6:=cell_regrown (h0.b.cell k6)
 have d7:=cell_regrown e0
 have d8:=cell_regrown e1
 have d9:=cell_regrown e2
 have da:=cell_regrown e3
 clear k0 k1 k2 k3 k4 k5 k6 e0 e1 e2 e3 hC1 hC2 n1 n2 hn hn3 h1
 refine wp_region_quiet_below (by kernel_rfl) (by kernel_rfl) ?_
 repeat (quiet_step ((first|(go_at_call 39;exact Ye (wd_any f o a3 a7 s0 s1 t0 (by omega) u0 (by omega) x0 (by omega) _))|(go_at_call 40;exact Ye (fw_any op rd rs1 rs2 im aq rl p0 p1 q0 q1 r0 r1 _))|(go_at_call 41;exact Ye (iw_any f im s0 s1 _)))))
 refine wpQuiet_nil ?_
 intro _ hw'
 obtain⟨⟨dq,osq⟩,hw''⟩:=hw'
 subst hw''
 go_wp2_with fail
 go_ret2
 exact⟨ret2 HW.out.symm,(hN3.trans h0.b).trans (below_regrown W4 dq osq)⟩
end Go.Proofs.YtgpdpaljbiclkaaGreatDoor
end
section
namespace Go.Proofs.YtgpdpaljbiclkaaGreatDoor
open _root_.Go.Proofs.Tryz
open Go.ChangeShapes Go.WideShapes Go.ChangeAt Go.RowKit
set_option linter.unusedVariables false
theorem own:ownKnob Tryz.prog.godebug=none:=by kernel_rfl
def Ji:List (String×DataW Unit):=[("postbag/inst.codes",Rows.laid_postbag_inst_codes)]
theorem Jj{W:World}(h:laidMetH prog Ji W):Cod W:=by
 rw[MakeChecks.laidMetH_plain _ _ _ (by kernel_rfl)] at h
 have h':laidMet prog [("postbag/inst.codes",Lib.tabData .u32 codeTab)] W:=h
 have hT:=Lib.tabIs_of_head (g:= 0) (t:= 113) (e:= 53) (n:=88) (by kernel_rfl) (by kernel_rfl) underlying113 underlying53 (by kernel_rfl) (by kernel_rfl) h'
 have hc:∀i,i<88→W.cell? ⟨0,i,none⟩=some (.int .u32 (codeAt i)):=fun i hi=>hT.cell (by kernel_rfl) i (by show i<codeTab.length;exact hi)
 exact⟨block_lt_of_cell (hc 0 (by decide)),hc⟩
theorem Z1k(os:Os)(args:Array Value):laidMetH prog Ji ((World.doorLaid prog 400 os).forCall (fun _ _=>0) ⟨#[],args,[]⟩).memory:=
 laidMetH_of_parts3 (fuel:=8) (laidMet_of_run' 8 (by kernel_rfl) (by kernel_rfl)) (by kernel_rfl) (by kernel_rfl)
theorem JH{x:Int}(h:(Lit.int .i64 x).wf=true): -9223372036854775808≤x∧x<9223372036854775808:=by
 simp[Lit.wf,IntKind.min,IntKind.max,IntKind.signed,IntKind.bits] at h
 omega
section
variable {H:Type} {enc:TypeId×Value→H} {P:Program}
theorem JI{f:Func}{s:ChangeSpec}{apart fresh handsOn again:Bool}{W W':World}{args:Array Value}{v:Value}{ds gs:List (DataW H)}{before pa pv:List MemPlace}
  (hW:DataW.Whole enc P f.params.toList s.vars apart W args.toList ds gs before)
  (hres:∀(b:Nat) (sp:Nat→Bool) (hd:Bool),DataW.TrodAll enc P W' b sp hd f.resultTypes.toList (v.resultList f.resultTypes.size) (s.fn H (ds++gs)).results [])
  (hargs:∀sp:Nat→Bool,(∀p ∈ before,sp p.block=true)→DataW.TrodAll enc P W' 0 sp true f.params.toList args.toList (s.fn H (ds++gs)).args pa)
  (hvars:∀sp:Nat→Bool,(∀p ∈ before,sp p.block=true)→DataW.TrodVars enc P W' sp s.vars (s.fn H (ds++gs)).vars pv)
  (hps:before=pa++pv) (hb:Below W.heap.size W W')
  (hok:∀(j:Nat) (t:TypeId) (r:Value),f.resultTypes[j]? =some t→(v.resultList f.resultTypes.size)[j]? =some r→Value.okWide P W' .any 0 t r):
  s.post enc P f apart fresh handsOn again W args v W':=by
 have hlt:∀p ∈ before,p.block<W.heap.size:=fun p hp=>hW.lt p hp
 have hold:∀p ∈ before,(fun b=>decide (b<W.heap.size)) p.block=true:=fun p hp=>by simpa using hlt p hp
 refine⟨ds,gs,before,[],pa,pv,hW,hres _ _ _,hargs _ hold,hvars _ hold,World.keptBut_mono (fun p hp=>⟨hp,?_⟩) (hb.frame (· ∈ before)),fun _=> ?_⟩
 ·rw[hps,List.mem_append] at hp
  exact Or.inr hp
 ·obtain⟨_,_,_,_,_,hz,hn⟩:=hW
  refine⟨hok,_,_,([]++pa)++pv,⟨[]++pa,pv,trodAll_append (hargs _ (fun _ _=>rfl)) (hres _ _ _),hvars _ (fun _ _=>rfl),rfl,?_,?_⟩,?_⟩
  ·intro b off hp
   have hin:MemPlace.cell b off ∈ before:=by rw[hps];simpa using hp
   rw[hb.frozen (hlt _ hin)]
   exact hz b off hin
  ·intro ha
   have:=hn ha
   rw[hps] at this
   simpa using this
  ·intro p hp _
   rw[hps]
   simpa using hp
end
end Go.Proofs.YtgpdpaljbiclkaaGreatDoor
end
section
namespace Go.Proofs.YtgpdpaljbiclkaaGreatDoor
open _root_.Go.Proofs.Tryz
open Go.ChangeShapes Go.WideShapes Go.ChangeAt Go.RowKit Go.Joins Go.Deep
set_option linter.unusedVariables false
section
variable {H:Type} {enc:TypeId×Value→H} {P:Program} {w:World} {base:Nat} {spare:Nat→Bool} {held:Bool}
end
section
variable {H:Type} {enc:TypeId×Value→H} {w:World} {base:Nat} {spare:Nat→Bool} {held:Bool}
theorem J1{fuel:Nat}{v:Value}{y:DataW H×List MemPlace}(h:DataW.trod enc prog w base spare held fuel 3 [v]=some y):∃x,v=.int .i64 x∧y=(.lit (.int .i64 x),[])∧(Lit.int .i64 x).wf=true:=by
 obtain⟨a,e0,rfl,wa⟩:=DataW.trod_int underlying3 h
 simp at e0
 exact⟨a,e0,rfl,wa⟩
theorem Z0A{fuel:Nat}{v:Value}{y:DataW H×List MemPlace}(h:DataW.trod enc prog w base spare held fuel 4 [v]=some y):∃x,v=.bool x∧y=(.lit (.bool x),[]):=by
 obtain⟨a,e0,rfl⟩:=DataW.trod_bool underlying4 h
 simp at e0
 exact⟨a,e0,rfl⟩
theorem Z6f: Tryz.prog.cellsOf 50 =7:=by kernel_rfl
end
end Go.Proofs.YtgpdpaljbiclkaaGreatDoor
end
section
namespace Go.Proofs.YtgpdpaljbiclkaaGreatDoor
open _root_.Go.Proofs.Tryz
open Go.RowKit Go.Great
set_option linter.unusedVariables false
def Yb (x:R4):List Value:=[.int .i64 x.1,.int .i64 x.2.1,.int .i64 x.2.2.1,.int .i64 x.2.2.2]
def r4Op (pos:String) (d:Nat) (x:R4):Oper:=
 {dst:=some d,op:= .build 105 #[(0,.const (.int .i64 x.1)),(1,.const (.int .i64 x.2.1)),(2,.const (.int .i64 x.2.2.1)),(3,.const (.int .i64 x.2.2.2))],type:= 105,pos:=pos,after:= #[],guard:= .none}
def Z2C (pos:String):Nat→List R4→List Oper
 |_,[]=>[]
 |d,x::xs=>r4Op pos d x::Z2C pos (d+1) xs
def posOf:List Oper→String
 |o::_=>o.pos
 |[]=> ""
theorem JJ{P:Program}{ops:Array Oper}{rest:List Oper}{w:World}{Q:Exit→Act→World→Prop}(pos:String)
  (hb:∀x y z u:Int,P.built 105 [(0,.int .i64 x),(1,.int .i64 y),(2,.int .i64 z),(3,.int .i64 u)]=some #[.int .i64 x,.int .i64 y,.int .i64 z,.int .i64 u]):
  ∀(xs:List R4) (d:Nat) (a:Act),d+xs.length≤a.tmps.size→
   (∀a':Act,a'.tmps.size=a.tmps.size→a'.defers=a.defers→(∀i (h:i<xs.length),a'.eval (.tmp (d+i))=.agg (Yb xs[i]).toArray)→
    (∀j,j<d→a'.eval (.tmp j)=a.eval (.tmp j))→wpList P ops Q rest a' w)→
   wpList P ops Q (Z2C pos d xs++rest) a w
 |[],d,a,_,h=>h a rfl rfl (fun i hi=>absurd hi (by simp)) (fun _ _=>rfl)
 |x::xs,d,a,hd,h=>by
  have hlt:d<a.tmps.size:=by simp at hd;omega
  show wpList P ops Q (r4Op pos d x::(Z2C pos (d+1) xs++rest)) a w
  refine wpList_buildTo rfl 105 _ rfl (some d) rfl (Yb x).toArray (by simpa[Act.eval,Yb] using hb x.1 x.2.1 x.2.2.1 x.2.2.2) ?_
  refine JJ pos hb xs (d+1) _ (by rw[Act.size_put];simp at hd;omega) fun a' hs hdf hev hlow=> ?_
  refine h a' (hs.trans (Act.size_put _ _ _)) (hdf.trans (Act.defers_put' _ _ _)) (fun i hi=> ?_) (fun j hj=> ?_)
  ·cases i with
   |zero=>rw[Nat.add_zero,hlow d (by omega),Act.eval_put_same _ _ _ hlt];rfl
   |succ i=>
    have:=hev i (by simpa using hi)
    rw[show d+(i+1)=d+1+i by omega,this]
    rfl
  ·rw[hlow j (by omega),Act.eval_put_ne _ _ _ _ (by omega)]
theorem Z0B{P:Program}{ops:Array Oper}{w:World}{Q:Exit→Act→World→Prop}{l:List Oper}{a:Act}(hl:l=Z2C (posOf l) 4 rowTab++l.drop 87)
  (hb:∀x y z u:Int,P.built 105 [(0,.int .i64 x),(1,.int .i64 y),(2,.int .i64 z),(3,.int .i64 u)]=some #[.int .i64 x,.int .i64 y,.int .i64 z,.int .i64 u])
  (hz:4+rowTab.length≤a.tmps.size)
  (h:∀a':Act,a'.tmps.size=a.tmps.size→a'.defers=a.defers→(∀i (h:i<rowTab.length),a'.eval (.tmp (4+i))=.agg (Yb rowTab[i]).toArray)→
    (∀j,j<4→a'.eval (.tmp j)=a.eval (.tmp j))→wpList P ops Q (l.drop 87) a' w):wpList P ops Q l a w:=by
 rw[hl]
 exact JJ _ hb rowTab 4 a hz h
def rowCells:Array Value:=(rowTab.flatMap Yb).toArray
theorem Z0C{P:Program}{ops:Array Oper}{rest:List Oper}{o:Oper}{a:Act}{w:World}{Q:Exit→Act→World→Prop}(hg:o.guard=.none)(parts:Array (Nat×Operand))(ho:o.op=.build 137 parts)(hd:o.dst=some 91)
  (hparts:parts.toList=(List.range 87).map fun i=>(i,Operand.tmp (4+i)))
  (hev:∀i (h:i<rowTab.length),a.eval (.tmp (4+i))=.agg (Yb rowTab[i]).toArray)
  (hb:P.built 137 ((List.range 87).map fun i=>(i,Value.agg (Yb (rowTab.getD i (0,0,0,0))).toArray))=some rowCells)
  (h:wpList P ops Q rest (a.put (some 91) (.agg rowCells)) w):wpList P ops Q (o::rest) a w:=by
 refine wpList_buildTo hg 137 parts ho (some 91) hd rowCells ?_ h
 rw[Array.toList_map,hparts,List.map_map,←hb]
 congr 1
 apply List.map_congr_left
 intro i hi
 have hi':i<rowTab.length:=List.mem_range.1 hi
 show(i,a.eval (.tmp (4+i)))=_
 rw[hev i hi',List.getD_eq_getElem?_getD,List.getElem?_eq_getElem hi']
 rfl
theorem flat4:∀(l:List R4) (i j:Nat),j<4→i<l.length→(l.flatMap Yb)[i*4+j]? =(Yb (l.getD i (0,0,0,0)))[j]?
 |[],i,j,_,h=>absurd h (by simp)
 |x::l,0,j,hj,_=>by
  rw[List.flatMap_cons,Nat.zero_mul,Nat.zero_add,List.getElem?_append_left (by simpa[Yb] using hj)];rfl
 |x::l,i+1,j,hj,h=>by
  have:=flat4 l i j hj (by simpa using h)
  rw[List.flatMap_cons,List.getElem?_append_right (by simp[Yb];omega)]
  have e:(i+1)*4+j-(Yb x).length=i*4+j:=by simp[Yb];omega
  rw[e,this];rfl
theorem Z0D(op:Int)(j:Nat)(hj:j<4)(h0:1≤op)(h1:op≤87):rowCells[(op.toNat-1)*4+j]? =(Yb (Z9 op))[j]? :=by
 rw[Z61 op h0 h1,←flat4 rowTab (op.toNat-1) j hj (by show _<87;omega)]
 simp[rowCells]
theorem XS{α:Type}{n:Nat}{l:List α}(h:l.length=n+8):∃a b c d e f g i r,l=a::b::c::d::e::f::g::i::r∧r.length=n:=by
 match l,h with
 |a::b::c::d::e::f::g::i::r,h=>exact⟨a,b,c,d,e,f,g,i,r,rfl,by simpa using h⟩
theorem Z38(a:Act)(v0 v2 v3:Value)(hs:a.tmps.size=103)(hd:a.defers=[])(e0:a.eval (.tmp 0)=v0)(e2:a.eval (.tmp 2)=v2)(e3:a.eval (.tmp 3)=v3):
  ∃x1 x4 x5 x6 x7 x8 x9 x10 x11 x12 x13 x14 x15 x16 x17 x18 x19 x20 x21 x22 x23 x24 x25 x26 x27 x28 x29 x30 x31 x32 x33 x34 x35 x36 x37 x38 x39 x40 x41 x42 x43 x44 x45 x46 x47 x48 x49 x50 x51 x52 x53 x54 x55 x56 x57 x58 x59 x60 x61 x62 x63 x64 x65 x66 x67 x68 x69 x70 x71 x72 x73 x74 x75 x76 x77 x78 x79 x80 x81 x82 x83 x84 x85 x86 x87 x88 x89 x90 x91 x92 x93 x94 x95 x96 x97 x98 x99 x100 x101 x102,a= {tmps:= #[v0,x1,v2,v3,x4,x5,x6,x7,x8,x9,x10,x11,x12,x13,x14,x15,x16,x17,x18,x19,x20,x21,x22,x23,x24,x25,x26,x27,x28,x29,x30,x31,x32,x33,x34,x35,x36,x37,x38,x39,x40,x41,x42,x43,x44,x45,x46,x47,x48,x49,x50,x51,x52,x53,x54,x55,x56,x57,x58,x59,x60,x61,x62,x63,x64,x65,x66,x67,x68,x69,x70,x71,x72,x73,x74,x75,x76,x77,x78,x79,x80,x81,x82,x83,x84,x85,x86,x87,x88,x89,x90,x91,x92,x93,x94,x95,x96,x97,x98,x99,x100,x101,x102],defers:=[]}:=by
 obtain⟨⟨l⟩,d⟩:=a
 obtain rfl:d=[]:=hd
 have hl:l.length=103:=hs
 clear hs
 obtain⟨x0,x1,x2,x3,x4,x5,x6,x7,r0,rfl,h0⟩:=XS (n:=95) (l:=l) hl
 obtain⟨x8,x9,x10,x11,x12,x13,x14,x15,r1,rfl,h1⟩:=XS (n:=87) (l:=r0) h0
 obtain⟨x16,x17,x18,x19,x20,x21,x22,x23,r2,rfl,h2⟩:=XS (n:=79) (l:=r1) h1
 obtain⟨x24,x25,x26,x27,x28,x29,x30,x31,r3,rfl,h3⟩:=XS (n:=71) (l:=r2) h2
 obtain⟨x32,x33,x34,x35,x36,x37,x38,x39,r4,rfl,h4⟩:=XS (n:=63) (l:=r3) h3
 obtain⟨x40,x41,x42,x43,x44,x45,x46,x47,r5,rfl,h5⟩:=XS (n:=55) (l:=r4) h4
 obtain⟨x48,x49,x50,x51,x52,x53,x54,x55,r6,rfl,h6⟩:=XS (n:=47) (l:=r5) h5
 obtain⟨x56,x57,x58,x59,x60,x61,x62,x63,r7,rfl,h7⟩:=XS (n:=39) (l:=r6) h6
 obtain⟨x64,x65,x66,x67,x68,x69,x70,x71,r8,rfl,h8⟩:=XS (n:=31) (l:=r7) h7
 obtain⟨x72,x73,x74,x75,x76,x77,x78,x79,r9,rfl,h9⟩:=XS (n:=23) (l:=r8) h8
 obtain⟨x80,x81,x82,x83,x84,x85,x86,x87,r10,rfl,h10⟩:=XS (n:=15) (l:=r9) h9
 obtain⟨x88,x89,x90,x91,x92,x93,x94,x95,r11,rfl,h11⟩:=XS (n:=7) (l:=r10) h10
 match r11,h11 with
 |[x96,x97,x98,x99,x100,x101,x102],_=>
  subst e0 e2 e3
  exact⟨_,_,_,_,_,_,_,_,_,_,_,_,_,_,_,_,_,_,_,_,_,_,_,_,_,_,_,_,_,_,_,_,_,_,_,_,_,_,_,_,_,_,_,_,_,_,_,_,_,_,_,_,_,_,_,_,_,_,_,_,_,_,_,_,_,_,_,_,_,_,_,_,_,_,_,_,_,_,_,_,_,_,_,_,_,_,_,_,_,_,_,_,_,_,_,_,_,_,_,_,rfl⟩
theorem Xc(op:Int)(w:World):
  Calls prog 67 #[.int .i64 op] w fun e w'=>e=.returned (.agg #[.int .i64 (Z9 op).1,.int .i64 (Z9 op).2.1,.int .i64 (Z9 op).2.2.1,.int .i64 (Z9 op).2.2.2])∧Nw w w':=by
 go_enter func67,ntmps67
 go_upto_region 1 with(fail)
 apply wp_region_list
 refine Z0B (by as_aux_lemma=>kernel_rfl) (fun _ _ _ _=>by kernel_rfl) (Nat.le_of_ble_eq_true (by kernel_rfl)) ?_
 intro a' hs hd hev hlow
 have hs':a'.tmps.size=103:=hs.trans (by kernel_rfl)
 have hd':a'.defers=[]:=hd
 have h0:a'.eval (.tmp 0)=.int .i64 op:=hlow 0 (by decide)
 have h2:a'.eval (.tmp 2)=.pointer (some ⟨w.heap.size,0,none⟩):=hlow 2 (by decide)
 clear hs hd hlow
 refine Z0C rfl _ rfl rfl (by as_aux_lemma=>kernel_rfl) hev (by as_aux_lemma=>kernel_rfl) ?_
 clear hev
 generalize hW:w.alloc (.cells #[.int .i64 0,.int .i64 0,.int .i64 0,.int .i64 0] 105)=W1
 refine wpList_allocTo rfl (some 3) rfl (.pointer (some ⟨W1.heap.size,0,none⟩)) (.cells (Array.replicate 348 (.int .i64 0)) 137) (by as_aux_lemma=>kernel_rfl) ?_
 refine wpList_store_rowTo rfl 137 (.tmp 3) (.tmp 91) rfl rfl W1.heap.size rowCells (Act.eval_put_same _ _ _ (by rw[Act.size_put,hs'];decide)) ?_ 137 (Array.replicate 348 (.int .i64 0)) (heap_alloc_new _ _) (by kernel_rfl) (by kernel_rfl) (by kernel_rfl) ?_
 ·rw[Act.eval_put_ne _ _ _ _ (by decide),Act.eval_put_same _ _ _ (by rw[hs'];decide)]
 refine wpList_nil ?_
 rename_i hK
 refine hK _ _ ?_
 clear hK
 rw[World.setRow_alloc_new]
 have s3:((a'.put (some 91) (Value.agg rowCells)).put (some 3) (Value.pointer (some ⟨W1.heap.size,0,none⟩))).tmps.size=103:=by rw[Act.size_put,Act.size_put,hs']
 obtain⟨x1,x4,x5,x6,x7,x8,x9,x10,x11,x12,x13,x14,x15,x16,x17,x18,x19,x20,x21,x22,x23,x24,x25,x26,x27,x28,x29,x30,x31,x32,x33,x34,x35,x36,x37,x38,x39,x40,x41,x42,x43,x44,x45,x46,x47,x48,x49,x50,x51,x52,x53,x54,x55,x56,x57,x58,x59,x60,x61,x62,x63,x64,x65,x66,x67,x68,x69,x70,x71,x72,x73,x74,x75,x76,x77,x78,x79,x80,x81,x82,x83,x84,x85,x86,x87,x88,x89,x90,x91,x92,x93,x94,x95,x96,x97,x98,x99,x100,x101,x102,ha⟩:=Z38 _ (.int .i64 op) (.pointer (some ⟨w.heap.size,0,none⟩)) (.pointer (some ⟨W1.heap.size,0,none⟩)) s3 (by rw[Act.defers_put',Act.defers_put',hd'])
  (by rw[Act.eval_put_ne _ _ _ _ (by decide),Act.eval_put_ne _ _ _ _ (by decide),h0]) (by rw[Act.eval_put_ne _ _ _ _ (by decide),Act.eval_put_ne _ _ _ _ (by decide),h2])
  (Act.eval_put_same _ _ _ (by rw[Act.size_put,hs'];decide))
 rw[ha]
 clear ha s3 h0 h2 hs' hd'
 subst hW
 by_cases h:op<1∨87<op
 ·have E:=Lib.hid (Z0y op h)
  generalize rowCells=T
  by_cases c:op<1
  ·clear h
   go_wp2
   exact bodyPost_ret (v:= .agg #[.int .i64 0,.int .i64 0,.int .i64 0,.int .i64 0]) (by simp[results,results67,go_sem]) rfl ⟨by rw[E.out],((Nw.refl _).alloc _ _).alloc _ _⟩
  ·have c':87<op:=by omega
   clear h
   go_wp2
   exact bodyPost_ret (v:= .agg #[.int .i64 0,.int .i64 0,.int .i64 0,.int .i64 0]) (by simp[results,results67,go_sem]) rfl ⟨by rw[E.out],((Nw.refl _).alloc _ _).alloc _ _⟩
 ·have f0:1≤op:=by omega
  have f1:op≤87:=by omega
  have t0:rowCells[(op.toNat-1)*4]? =some (.int .i64 (Z9 op).1):=Z0D op 0 (by decide) f0 f1
  have t1:rowCells[(op.toNat-1)*4+1]? =some (.int .i64 (Z9 op).2.1):=Z0D op 1 (by decide) f0 f1
  have t2:rowCells[(op.toNat-1)*4+2]? =some (.int .i64 (Z9 op).2.2.1):=Z0D op 2 (by decide) f0 f1
  have t3:rowCells[(op.toNat-1)*4+3]? =some (.int .i64 (Z9 op).2.2.2):=Z0D op 3 (by decide) f0 f1
  generalize rowCells=T at*
  obtain⟨r0,e0⟩:∃r,r=(Z9 op).1:=⟨_,rfl⟩
  obtain⟨r1,e1⟩:∃r,r=(Z9 op).2.1:=⟨_,rfl⟩
  obtain⟨r2,e2⟩:∃r,r=(Z9 op).2.2.1:=⟨_,rfl⟩
  obtain⟨r3,e3⟩:∃r,r=(Z9 op).2.2.2:=⟨_,rfl⟩
  rw[←e0] at t0
  rw[←e1] at t1
  rw[←e2] at t2
  rw[←e3] at t3
  have E0:=Lib.hid e0
  have E1:=Lib.hid e1
  have E2:=Lib.hid e2
  have E3:=Lib.hid e3
  clear e0 e1 e2 e3
  clear h
  go_wp2
  exact bodyPost_ret (v:= .agg #[.int .i64 r0,.int .i64 r1,.int .i64 r2,.int .i64 r3]) (by simp[results,results67,go_sem]) rfl ⟨by rw[E0.out,E1.out,E2.out,E3.out],((Nw.refl _).alloc _ _).alloc _ _⟩
end Go.Proofs.YtgpdpaljbiclkaaGreatDoor
end

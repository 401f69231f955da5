/-
  Proved here: whatever stands at its place, and whatever its registers have, a hart does what the document says, or has its error, and nothing changes, by the code of hart; a nil memory has its error; and the example of the chapter stands. No condition.
-/
import Derived.Test.YtgpdpaljbiclkaaGreatDoorSbs
import Derived.Test.YtgpdpaljbiclkaaGreatDoorSbt
import Derived.Deep.QuietTactic
import Derived.Test.YtgpdpaljbiclkaaGreatDoorCards
import Derived.Test.YtgpdpaljbiclkaaGreatDoorTie
import Derived.SevenTiedAt
set_option maxHeartbeats 8000000
set_option maxRecDepth 100000
namespace Go.Proofs.YtgpdpaljbiclkaaGreatDoor.hartSteps
open _root_.Go.Proofs.Tryz
open Go.ChangeShapes Go.WideShapes Go.ChangeAt Go.RowKit
set_option linter.unusedVariables false
set_option linter.unusedSimpArgs false
attribute [-go_sem] run_eql_struct
theorem Z2t{w w':World}{A:Option Addr}{xs:By}(h:Src w A xs)(hb:Nb w w'):Src w' A xs:=by
 intro h0
 obtain⟨ad,hA,hc⟩:=h h0
 exact⟨ad,hA,fun j v hv=>hb.cell (hc j v hv)⟩
theorem Z5O{w:World}{A:Option Addr}{xs:By}(h:Src w A xs)(h0:0<xs.length):∀ad,A=some ad→ad.block<w.heap.size:=by
 intro ad hA
 obtain⟨ad',hA',hc⟩:=h h0
 rw[hA] at hA'
 obtain rfl:=Option.some.inj hA'
 have h1:=hc 0 (.int .u8 (xs[0].toNat:Int)) (by unfold Lib.byteCells;rw[List.getElem?_map,List.getElem?_eq_getElem h0];rfl)
 have h2:(ad.add 0).block=ad.block:=by unfold Addr.add;split<;>rfl
 rw[←h2]
 exact World.block_lt_of_cell? w _ h1
theorem walk(h:HV)(size:Int)(A:Option Addr)(b off cap:Nat)(is:List In7)(A2:Option Addr)(cap2:Nat)(xs:By)(hh:HOk h)(hs:InR size)(hl:is.length≤9223372036854775807)(hI:∀i ∈ is,InR i.2.2.2.2.1)(hAd:0<is.length→A=some ⟨b,off,none⟩)(hxl:xs.length≤9223372036854775807)(hxc:xs.length≤cap2)(w:World)(hC0:Cod w)(hC2:Hid (Ins w b off is))(hSr:Hid (Src w A2 xs)):
  Calls prog 3 #[hA h,.int .i64 size,.slice A is.length cap,.slice A2 xs.length cap2] w fun e w'=>e=.returned (.bool true)∧Below w.heap.size w w':=by
 have hlen:=Lib.hid (show(hC h).toArray.size=36 by rw[List.size_toArray];exact Zv (by exact hh.len))
 unfold hA
 by_cases h2:(200:Int)<(is.length:Int)
 ·go_enter func3,ntmps3
  go_upto_region 1 with(fail)
  obtain⟨W1,w1e⟩:∃W1,w.alloc (Obj.cells (hC h).toArray 25)=W1:=⟨_,rfl⟩
  have n1:Nb w W1:=by rw[←w1e];exact(Nb.refl _).alloc _
  rw[w1e]
  clear w1e
  go_wp2_with fail
  refine(Xq _ (hC0.of_nb n1)).mono ?_
  rintro e w2⟨rfl,n2⟩
  go_wp2_with fail
  go_ret
  exact⟨rfl,n1.trans n2⟩
 by_cases h3:(500:Int)<(xs.length:Int)
 ·go_enter func3,ntmps3
  go_upto_region 1 with(fail)
  obtain⟨W1,w1e⟩:∃W1,w.alloc (Obj.cells (hC h).toArray 25)=W1:=⟨_,rfl⟩
  have n1:Nb w W1:=by rw[←w1e];exact(Nb.refl _).alloc _
  rw[w1e]
  clear w1e
  go_wp2_with fail
  refine(Xq _ (hC0.of_nb n1)).mono ?_
  rintro e w2⟨rfl,n2⟩
  go_wp2_with fail
  go_ret
  exact⟨rfl,n1.trans n2⟩
 have hl2:is.length≤200:=by omega
 have hl3:xs.length≤500:=by omega
 go_enter func3,ntmps3
 go_upto_region 1 with(fail)
 obtain⟨W1,w1e⟩:∃W1,w.alloc (Obj.cells (hC h).toArray 25)=W1:=⟨_,rfl⟩
 have n1:Nb w W1:=by rw[←w1e];exact(Nb.refl _).alloc _
 have kH:W1.heap[w.heap.size]? =some (.cells (hC h).toArray 25 (0,0)):=by rw[←w1e];exact Zd _ _ rfl
 rw[w1e]
 clear w1e
 have HL:=Lib.hid (Z04 size hs is (by omega) hI A b off cap hAd W1 (hC0.of_nb n1) (Lib.hid (hC2.out.nb n1)))
 have hbl:=Je (sizeN size) is
 have hsl:=Z03 size
 unfold KS at HL
 generalize laidB (sizeN size) is=bs at*
 generalize sizeN size=sz at*
 have hz:=Zf kH
 have hbh:bs.length≤16777216:=by omega
 have hsz2:=Lib.hid hsl
 have hbl':=Lib.hid hbl
 have hfar:=Lib.hid (fun h0=>Z5O hSr.out h0)
 obtain⟨at_,hat⟩:∃at_:Nat,4*is.length=at_:=⟨_,rfl⟩
 have hat2:(4:Int)*(is.length:Int)=(at_:Int):=by omega
 have hat3:at_≤1000:=by omega
 have hat':=Lib.hid hat2
 clear hI hAd hC2 hsl hbl hat hat2
 go_wp2_with fail
 refine(HL.out).mono ?_
 rintro e w2⟨rfl,hM,hR,n2⟩
 have nn:=n1.trans n2
 have kH2:=n2.block kH
 have hlm:=hM.lt
 have hlr:=hR.lt
 have hz1:=Nb.size n1
 clear HL kH n1 n2
 have HP:=Lib.hid (Z5F (W1.heap.size+1) W1.heap.size bs xs at_ A2 cap2 hat3 hl3 hxc hbh w2 hM (Z2t hSr.out nn))
 go_upto_region 7 with(fail)
 rw[hat'.out]
 go_wp2_with fail
 refine(HP.out).mono ?_
 rintro e w3⟨⟨E1,rfl⟩,hM3,g3⟩
 have kH3:=(g3.block _ (Zf kH2) (by intro e;injection e with e;omega)).trans kH2
 have hR3:=hR.grown g3 (by intro e;injection e with e;omega) (by intro e;injection e with e;omega)
 have n3:Nb w w3:=Ya nn g3 nn.size (by omega)
 have hz3:=g3.size
 clear HP kH2 hM hR nn g3
 have HQ:=Lib.hid (Z5G (W1.heap.size+3) (W1.heap.size+2) bs xs at_ A2 cap2 hat3 hl3 hxc hbh w3 hR3 (Z2t hSr.out n3) (fun h0 ad hA=>by have:=hfar.out h0 ad hA;omega))
 go_wp2_with fail
 refine(HQ.out).mono ?_
 rintro e w4⟨⟨E2,rfl⟩,hR4,g4⟩
 have kH4:=(g4.block _ (Zf kH3) (by intro e;injection e with e;omega)).trans kH3
 have hM4:=hM3.grown g4 (by intro e;injection e with e;omega) (by intro e;injection e with e;omega)
 have n4:Nb w w4:=Ya n3 g4 n3.size (by omega)
 have hz4:=g4.size
 have hbp:(putB bs at_ xs).length=sz:=(Z5v bs xs at_ (by omega)).trans hbl'.out
 generalize putB bs (at_:Int) xs=bp at*
 have hsz3:=hsz2.out
 have HX:=Lib.hid (Z1O h (W1.heap.size+1) W1.heap.size bp hh (by omega) w4 (hC0.of_nb n4) hM4)
 have HY:=Lib.hid (fun w1 hm=>Z0p h (W1.heap.size+3) (W1.heap.size+2) bp hh (by omega) w1 hm)
 have HN:=Lib.hid (fun w1=>Z5M h hh.len w1)
 unfold hA at HN
 have hok:=Jy h bp hh
 have hbl1:=Lib.hid ((K8 h bp hh).trans hbp)
 unfold XO at HX
 unfold Jz at HY
 generalize stepS h bp=R at*
 obtain⟨x,E,bs1⟩:=R
 dsimp only at HX HY hok hbl1
 have hlenx:=Lib.hid (show(hC x).toArray.size=36 by rw[List.size_toArray];exact Zv (by exact hok.len))
 have honex:=Lib.hid (Zu (ZI x))
 have honeh:=Lib.hid (Zu (ZI h))
 clear HQ kH3 hM3 hR3 n3 g4 hbp hbh hsz3 hSr hfar hat'
 go_wp2_with (first|refine wpList_load_row rfl 25 (.tmp 4) rfl w.heap.size rfl 25 (hC h).toArray (0,0) _ kH4 underlying25 rfl (by rw[ZA,hlen.out]) ?_)
 refine(HX.out).mono ?_
 rintro e w5⟨rfl,hM5,g5⟩
 have kH5:=(g5.block _ (Zf kH4) (by intro e;injection e with e;omega)).trans kH4
 have hR5:=hR4.grown g5 (by intro e;injection e with e;omega) (by intro e;injection e with e;omega)
 have n5:Nb w w5:=Ya n4 g5 n4.size (by omega)
 have hz5:=g5.size
 clear HX kH4 hM4 hR4 n4 g5
 go_upto_region 10 with(first
  |refine wpList_store_row rfl 25 (.tmp 12) (.tmp 51) rfl w5.heap.size (hC x).toArray rfl rfl 25 Z8 (heap_alloc_new w5 _) (by rw[ZA,hlenx.out]) (by rw[hlenx.out];rfl) honex.out ?_)
 obtain⟨W6,we⟩:∃W,(w5.alloc (Obj.cells Z8 25)).setRow w5.heap.size (hC x).toArray=W:=⟨_,rfl⟩
 have mm:Nb w5 W6:=by rw[←we];exact((Nb.refl _).alloc _).setRow (Nat.le_refl _) _
 have kX:W6.heap[w5.heap.size]? =some (.cells (hC x).toArray 25 (0,0)):=by rw[←we];exact setRow_heap _ _ _ _ _ _ (heap_alloc_new w5 _)
 change Code.wp _ _ _ _ ((w5.alloc (Obj.cells Z8 25)).setRow w5.heap.size (hC x).toArray)
 rw[we]
 clear we
 have kH6:=mm.block kH5
 have hM6:=hM5.nb mm
 have hR6:=hR5.nb mm
 have n6:=n5.trans mm
 have hz6:=Zf kX
 clear kH5 hM5 hR5 n5 mm
 go_wp2_with (first|refine wpList_load_row rfl 25 (.tmp 4) rfl w.heap.size rfl 25 (hC h).toArray (0,0) _ kH6 underlying25 rfl (by rw[ZA,hlen.out]) ?_)
 refine(HY.out _ hR6).mono ?_
 rintro e w7⟨rfl,hR7,g7⟩
 have kX7:=(g7.block _ (Zf kX) (by intro e;injection e with e;omega)).trans kX
 have kH7:=(g7.block _ (Zf kH6) (by intro e;injection e with e;omega)).trans kH6
 have hM7:=hM6.grown g7 (by intro e;injection e with e;omega) (by intro e;injection e with e;omega)
 have n7:Nb w w7:=Ya n6 g7 n6.size (by omega)
 clear HY kH6 hM6 hR6 n6 g7 kX
 go_upto_region 11 with(first
  |refine wpList_store_row rfl 38 (.tmp 14) (.tmp 57) rfl w7.heap.size (hC x).toArray rfl rfl 38 Z8 (heap_alloc_new w7 _) (by rw[Zk,hlenx.out]) (by rw[hlenx.out];rfl) honex.out ?_)
 obtain⟨W8,we⟩:∃W,(w7.alloc (Obj.cells Z8 38)).setRow w7.heap.size (hC x).toArray=W:=⟨_,rfl⟩
 have mm:Nb w7 W8:=by rw[←we];exact((Nb.refl _).alloc _).setRow (Nat.le_refl _) _
 have kY:W8.heap[w7.heap.size]? =some (.cells (hC x).toArray 38 (0,0)):=by rw[←we];exact setRow_heap _ _ _ _ _ _ (heap_alloc_new w7 _)
 change Code.wp _ _ _ _ ((w7.alloc (Obj.cells Z8 38)).setRow w7.heap.size (hC x).toArray)
 rw[we]
 clear we
 have kX8:=mm.block kX7
 have kH8:=mm.block kH7
 have hM8:=hM7.nb mm
 have hR8:=hR7.nb mm
 have n8:=n7.trans mm
 clear kX7 kH7 hM7 hR7 n7 mm
 go_wp2_with (first|refine wpList_load_row rfl 25 (.tmp 4) rfl w.heap.size rfl 25 (hC h).toArray (0,0) _ kH8 underlying25 rfl (by rw[ZA,hlen.out]) ?_)
 refine(HN.out _).mono ?_
 rintro e w9⟨rfl,m9⟩
 have kX9:=m9.block kX8
 have kY9:=m9.block kY
 have hM9:=hM8.nb m9
 have hR9:=hR8.nb m9
 have n9:=n8.trans m9
 clear HN kX8 kH8 hM8 hR8 n8 m9 kY
 go_upto_region 12 with(first
  |refine wpList_store_row rfl 25 (.tmp 16) (.tmp 62) rfl w9.heap.size (hC h).toArray rfl rfl 25 Z8 (heap_alloc_new w9 _) (by rw[ZA,hlen.out]) (by rw[hlen.out];rfl) honeh.out ?_)
 obtain⟨Wa,we⟩:∃W,(w9.alloc (Obj.cells Z8 25)).setRow w9.heap.size (hC h).toArray=W:=⟨_,rfl⟩
 have mm:Nb w9 Wa:=by rw[←we];exact((Nb.refl _).alloc _).setRow (Nat.le_refl _) _
 have kN:Wa.heap[w9.heap.size]? =some (.cells (hC h).toArray 25 (0,0)):=by rw[←we];exact setRow_heap _ _ _ _ _ _ (heap_alloc_new w9 _)
 change Code.wp _ _ _ _ ((w9.alloc (Obj.cells Z8 25)).setRow w9.heap.size (hC h).toArray)
 rw[we]
 clear we
 have kXa:=mm.block kX9
 have kYa:=mm.block kY9
 have hMa:=hM9.nb mm
 have hRa:=hR9.nb mm
 have na:=n9.trans mm
 clear kX9 kY9 hM9 hR9 n9 mm kN
 have hgd: Tryz.prog.eqGuardType Tryz.prog.depth 38 =false:=by kernel_rfl
 obtain⟨r,hr,hiff⟩:=eq38 x x hok.len hok.len Wa
 obtain rfl:r=true:=hiff.2 rfl
 have HS:=Lib.hid (Z1W (W1.heap.size+1) W1.heap.size (W1.heap.size+3) (W1.heap.size+2) sz bs1 hbl1.out (by have:=hsz2.out;omega) Wa hMa hRa)
 clear hiff hMa hRa
 go_wp2_with (first
  |refine wpList_load_row rfl 25 (.tmp 12) rfl w5.heap.size rfl 25 (hC x).toArray (0,0) _ kXa underlying25 rfl (by rw[ZA,hlenx.out]) ?_
  |refine wpList_load_row rfl 38 (.tmp 14) rfl w7.heap.size rfl 38 (hC x).toArray (0,0) _ kYa underlying38 rfl (by rw[Zk,hlenx.out]) ?_)
 refine(HS.out).mono ?_
 rintro e wb⟨rfl,nb⟩
 have nbw:=na.trans nb
 go_wp2_with fail
 refine(Xq _ (hC0.of_nb nbw)).mono ?_
 rintro e wc⟨rfl,nc⟩
 go_wp2_with fail
 go_ret
 exact⟨rfl,nbw.trans nc⟩
theorem lifted(os:Os)(started:os.Started)(H:Type)(enc:TypeId×Value→H):
  ReturnsInHanded {} Tryz.checked os 3 .any (fun w args=>(Rows.hartStepsSpec.pre enc prog Tryz.f3 [] false w args∧laidMetH prog Ji w)∧sizedMet enc prog Tryz.f3 (OpenSpec.ofChange Rows.hartStepsSpec) false w args)
   (Rows.hartStepsSpec.post enc prog Tryz.f3 false true false false):=by
 refine returnsInHanded_of_change_and (C:= Tryz.checked) (X:=fun w _=>laidMetH prog Ji w) (fun _ _ _ hh h=>h.of_heap hh) own started (by kernel_rfl) func3
  (ChangeSpec.witness_shaped (enc:=enc) (C:= Tryz.checked) (os:=os) (X:=fun w _=>laidMetH prog Ji w) false (World.doorLaid prog 400 os) #[.agg #[.int .u64 0,.int .u64 0,.int .u64 0,.int .u64 0,.int .u64 0,.int .u64 0,.int .u64 0,.int .u64 0,.int .u64 0,.int .u64 0,.int .u64 0,.int .u64 0,.int .u64 0,.int .u64 0,.int .u64 0,.int .u64 0,.int .u64 0,.int .u64 0,.int .u64 0,.int .u64 0,.int .u64 0,.int .u64 0,.int .u64 0,.int .u64 0,.int .u64 0,.int .u64 0,.int .u64 0,.int .u64 0,.int .u64 0,.int .u64 0,.int .u64 0,.int .u64 0,.int .u64 0,.bool false,.int .u64 0,.int .i64 0],.int .i64 0,.slice none 0 0,.slice none 0 0] 8 rfl (World.shaped_of_RefB (by kernel_rfl) (by kernel_rfl)) (by kernel_rfl) (by kernel_rfl) (by kernel_rfl) (Z1k os _)) ?_
 intro W base args ds gs before hval0 hW _ _ hL _
 have hval:∀(j:Nat) t v,Tryz.f3.params[j]? =some t→args[j]? =some v→Value.okWide prog W .any base t v:=hval0
 have hW':=hW
 obtain⟨p,q,hA0,hV,rfl,hfz,hnd⟩:=hW
 have hA1:DataW.TrodAll enc prog W 0 (fun _=>true) true Tryz.f3.params.toList args.toList ds p:=hA0
 have hA:=hA1
 rw[Tryz.params3] at hA hval
 obtain⟨v0,vs0,d0,ds0,p0,q0,hargs0,rfl,-,h0,r0⟩:=trodAll_cons hA
 obtain⟨v1,vs1,d1,ds1,p1,q1,hargs1,rfl,-,h1,r1⟩:=trodAll_cons r0
 obtain⟨v2,vs2,d2,ds2,p2,q2,hargs2,rfl,-,h2,r2⟩:=trodAll_cons r1
 obtain⟨v3,vs3,d3,ds3,p3,q3,hargs3,rfl,-,h3,r3⟩:=trodAll_cons r2
 obtain⟨rfl,rfl,-⟩:=trodAll_nil r3
 obtain rfl:args= #[v0,v1,v2,v3]:=by cases args;simp_all
 obtain⟨rfl,rfl⟩:=trodVars_none hV
 obtain⟨hh0,rfl,hr0⟩:=Z0q (hval 0 25 v0 rfl rfl) h0
 obtain⟨n1,rfl,-,-,w1⟩:=open_int underlying3 (hval 1 3 v1 rfl rfl) h1
 obtain⟨A2,b2,off2,cap2,is2,rfl,hAd2,hI2,hR2,hl2⟩:=Z00 (hval 2 26 v2 rfl rfl) h2
 obtain⟨A3,cap3,bs3,rfl,hl3,hc3,hI3⟩:=Z2q (hval 3 27 v3 rfl rfl) h3
 clear hval0
 simp only[List.append_nil] at hW'
 refine(walk hh0 n1 A2 b2 off2 cap2 is2 A3 cap3 bs3 hr0 (JH w1) hl2 hR2 hAd2 hl3 hc3 W (Jj hL) (Lib.hid hI2) (Lib.hid hI3)).mono fun e W' ⟨he,hg⟩=> ?_
 subst he
 exact⟨_,rfl,JI (pa:=p) (pv:=[]) hW' (fun _ _ _=>(trodAll_cons_mk (shut_bool underlying4 _) trodAll_mk0))
  (fun sp hsp=>Jc (by kernel_rfl) hg hA1 (fun t ht=>by
   have h0:(Tryz.f3.params.toList.all fun t=> Tryz.prog.readableRec t && decide (t< Tryz.prog.types.size))=true:=by kernel_rfl
   have h1:=List.all_eq_true.1 h0 t ht
   rw[Bool.and_eq_true,decide_eq_true_eq] at h1
   exact h1) (fun x hx=>hW'.lt x hx) hsp)
  (fun _ _=>rfl) (by simp) hg (ok_one (by kernel_rfl) rfl (okWide_bool_mk underlying4 _))⟩
theorem over:Rows.HartStepsSaid:=
 OpenClaim.holds_of_wide 3 Tryz.f3 rfl rfl rfl rfl rfl rfl rfl ⟨rfl,rfl,rfl,rfl,rfl⟩ rfl rfl rfl rfl rfl (by kernel_rfl) func3 (by kernel_rfl)
  (of_decide_eq_true (by kernel_rfl)) (by unfold Func.isWrapper;first|(rw[if_pos (by decide+kernel)];kernel_rfl)|(rw[if_neg (by decide+kernel)];exact⟨rfl,rfl⟩))
  (fun os started H enc _=>lifted os started H enc)
theorem proved:Rows.HartStepsCardSaid:=
 Claim7.holds_tied_plain_at .later [] [.data] true (true,"4ada75fdf70179cc017121791a2f8c0b4127b5720d23fa8b2f85344d43d17018") false
  over (fun _ h=>by cases h) (by kernel_rfl) (fun _ h=>by cases h) hartSteps_row_tie rfl ⟨rfl,rfl⟩ (by kernel_rfl) rfl
  (fun f fn hf hfn=>by
   obtain rfl:f= 3 :=Option.some.inj ((show Tryz.prog.funcNamed "postbag/postbaglaw06.HartSteps" =some 3 by kernel_rfl).symm.trans hf)|>.symm
   obtain rfl:fn= Tryz.f3 :=(Option.some.inj (func3.symm.trans hfn)).symm
   exact⟨by kernel_rfl,fun j t ht=>by
    rw[Tryz.params3] at ht
    have hm:t ∈ [25,3,26,27]:=by simpa using Array.mem_of_getElem? ht
    have hall:([25,3,26,27].all fun u=> !Tryz.prog.wantsStandIn u)=true:=by kernel_rfl
    exact(show Tryz.prog.wantsStandIn t=false by simpa using List.all_eq_true.1 hall t hm)⟩)
  (by kernel_rfl)
#print axioms proved
end Go.Proofs.YtgpdpaljbiclkaaGreatDoor.hartSteps

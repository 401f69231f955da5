/-
  Proved here: a hart does one instruction behind the other, up to the first error, as the document's does: hart, count, error and bytes; and the example of the chapter stands. No condition.
-/
import Derived.Test.YtgpdpaljbiclkaaGreatDoorSbs
import Derived.Test.YtgpdpaljbiclkaaGreatDoorSbt
import Derived.Deep.QuietTactic
import Derived.Test.YtgpdpaljbiclkaaGreatDoorCards
import Derived.Test.YtgpdpaljbiclkaaGreatDoorTie
import Derived.SevenTiedAt
set_option maxHeartbeats 8000000
set_option maxRecDepth 100000
namespace Go.Proofs.YtgpdpaljbiclkaaGreatDoor.hartRuns
open _root_.Go.Proofs.Tryz
open Go.ChangeShapes Go.WideShapes Go.ChangeAt Go.RowKit
set_option linter.unusedVariables false
set_option linter.unusedSimpArgs false
attribute [-go_sem] run_eql_struct
theorem Z5N(a:Int):∃n:Nat,wrap64 ((IntKind.u64.wrap a).tmod 120)=(n:Int)∧n<120:=by
 have h0:0≤IntKind.u64.wrap a:=by rw[IntKind.wrap_u64];omega
 rw[Int.tmod_eq_emod_of_nonneg h0]
 refine⟨(IntKind.u64.wrap a % 120).toNat,?_,by omega⟩
 unfold wrap64
 omega
theorem walk(h:HV)(size:Int)(A:Option Addr)(b off cap:Nat)(is:List In7)(most:Int)(hh:HOk h)(hs:InR size)(hl:is.length≤9223372036854775807)(hI:∀i ∈ is,InR i.2.2.2.2.1)(hAd:0<is.length→A=some ⟨b,off,none⟩)(ha:InR most)(w:World)(hC0:Cod w)(hC2:Hid (Ins w b off is)):
  Calls prog 4 #[hA h,.int .i64 size,.slice A is.length cap,.int .i64 most] w fun e w'=>e=.returned (.bool true)∧Below w.heap.size w w':=by
 have hlen:=Lib.hid (show(hC h).toArray.size=36 by rw[List.size_toArray];exact Zv (by exact hh.len))
 obtain⟨n,hn0,hn120⟩:=Z5N most
 have hn:=Lib.hid hn0
 clear hn0
 unfold InR at ha
 unfold hA
 by_cases h2:(200:Int)<(is.length:Int)
 ·go_enter func4,ntmps4
  go_upto_region 1 with(fail)
  obtain⟨W1,w1e⟩:∃W1,w.alloc (Obj.cells (hC h).toArray 25)=W1:=⟨_,rfl⟩
  have n1:Nb w W1:=by rw[←w1e];exact(Nb.refl _).alloc _
  rw[w1e]
  clear w1e
  go_wp2_with fail
  refine(Xq _ (hC0.of_nb n1)).mono ?_
  rintro e w2⟨rfl,n2⟩
  go_wp2_with fail
  go_ret
  exact⟨rfl,n1.trans n2⟩
 have hl2:is.length≤200:=by omega
 go_enter func4,ntmps4
 go_upto_region 1 with(fail)
 obtain⟨W1,w1e⟩:∃W1,w.alloc (Obj.cells (hC h).toArray 25)=W1:=⟨_,rfl⟩
 have n1:Nb w W1:=by rw[←w1e];exact(Nb.refl _).alloc _
 have kH:W1.heap[w.heap.size]? =some (.cells (hC h).toArray 25 (0,0)):=by rw[←w1e];exact Zd _ _ rfl
 rw[w1e]
 clear w1e
 have HL:=Lib.hid (Z04 size hs is (by omega) hI A b off cap hAd W1 (hC0.of_nb n1) (Lib.hid (hC2.out.nb n1)))
 have hbl:=Je (sizeN size) is
 have hsl:=Z03 size
 unfold KS at HL
 generalize laidB (sizeN size) is=bs at*
 generalize sizeN size=sz at*
 have hz:=Zf kH
 have hbh:bs.length≤16777216:=by omega
 have hsz2:=Lib.hid hsl
 have hbl':=Lib.hid hbl
 clear hI hAd hC2 hsl hbl
 go_wp2_with fail
 rw[hn.out]
 refine(HL.out).mono ?_
 rintro e w2⟨rfl,hM,hR,n2⟩
 have nn:=n1.trans n2
 have kH2:=n2.block kH
 have hlm:=hM.lt
 have hlr:=hR.lt
 clear HL kH n1 n2
 have HX:=Lib.hid (Z2Y h (W1.heap.size+1) W1.heap.size bs n (by omega) hh hbh w2 (hC0.of_nb nn) hM)
 have HY:=Lib.hid (fun w1 hm=>Z5E h (W1.heap.size+3) (W1.heap.size+2) bs n (by omega) hh hbh w1 hm)
 have hok:=Z5m n 0 h bs hh
 unfold Z11 at HX
 unfold Z10 at HY
 generalize runS n 0 h bs=R at*
 obtain⟨x,i,E,bs1⟩:=R
 dsimp only at HX HY hok
 obtain⟨hokx,hbl1⟩:=hok
 have hlenx:=Lib.hid (show(hC x).toArray.size=36 by rw[List.size_toArray];exact Zv (by exact hokx.len))
 have honex:=Lib.hid (Zu (ZI x))
 have hbl1':=Lib.hid (hbl1.trans hbl'.out)
 clear hbl1 hbh
 go_wp2_with (first|refine wpList_load_row rfl 25 (.tmp 4) rfl w.heap.size rfl 25 (hC h).toArray (0,0) _ kH2 underlying25 rfl (by rw[ZA,hlen.out]) ?_)
 refine(HX.out).mono ?_
 rintro e w3⟨rfl,hM3,g3⟩
 have kH3:=(g3.block _ (Zf kH2) (by intro e;injection e with e;omega)).trans kH2
 have hR3:=hR.grown g3 (by intro e;injection e with e;omega) (by intro e;injection e with e;omega)
 have n3:Nb w w3:=Ya nn g3 nn.size (by omega)
 have hz3:=g3.size
 clear HX kH2 hM hR nn g3
 go_upto_region 8 with(first
  |refine wpList_store_row rfl 25 (.tmp 12) (.tmp 39) rfl w3.heap.size (hC x).toArray rfl rfl 25 Z8 (heap_alloc_new w3 _) (by rw[ZA,hlenx.out]) (by rw[hlenx.out];rfl) honex.out ?_)
 obtain⟨W4,we⟩:∃W,(w3.alloc (Obj.cells Z8 25)).setRow w3.heap.size (hC x).toArray=W:=⟨_,rfl⟩
 have mm:Nb w3 W4:=by rw[←we];exact((Nb.refl _).alloc _).setRow (Nat.le_refl _) _
 have kX:W4.heap[w3.heap.size]? =some (.cells (hC x).toArray 25 (0,0)):=by rw[←we];exact setRow_heap _ _ _ _ _ _ (heap_alloc_new w3 _)
 change Code.wp _ _ _ _ ((w3.alloc (Obj.cells Z8 25)).setRow w3.heap.size (hC x).toArray)
 rw[we]
 clear we
 have kH4:=mm.block kH3
 have hM4:=hM3.nb mm
 have hR4:=hR3.nb mm
 have n4:=n3.trans mm
 have hz4:=Zf kX
 clear kH3 hM3 hR3 n3 mm
 go_wp2_with (first|refine wpList_load_row rfl 25 (.tmp 4) rfl w.heap.size rfl 25 (hC h).toArray (0,0) _ kH4 underlying25 rfl (by rw[ZA,hlen.out]) ?_)
 refine(HY.out _ hR4).mono ?_
 rintro e w5⟨rfl,hR5,g5⟩
 have kX5:=(g5.block _ (Zf kX) (by intro e;injection e with e;omega)).trans kX
 have hM5:=hM4.grown g5 (by intro e;injection e with e;omega) (by intro e;injection e with e;omega)
 have n5:Nb w w5:=Ya n4 g5 n4.size (by omega)
 clear HY kH4 hM4 hR4 n4 g5 kX
 go_upto_region 9 with(first
  |refine wpList_store_row rfl 38 (.tmp 15) (.tmp 47) rfl w5.heap.size (hC x).toArray rfl rfl 38 Z8 (heap_alloc_new w5 _) (by rw[Zk,hlenx.out]) (by rw[hlenx.out];rfl) honex.out ?_)
 obtain⟨W6,we⟩:∃W,(w5.alloc (Obj.cells Z8 38)).setRow w5.heap.size (hC x).toArray=W:=⟨_,rfl⟩
 have mm:Nb w5 W6:=by rw[←we];exact((Nb.refl _).alloc _).setRow (Nat.le_refl _) _
 have kY:W6.heap[w5.heap.size]? =some (.cells (hC x).toArray 38 (0,0)):=by rw[←we];exact setRow_heap _ _ _ _ _ _ (heap_alloc_new w5 _)
 change Code.wp _ _ _ _ ((w5.alloc (Obj.cells Z8 38)).setRow w5.heap.size (hC x).toArray)
 rw[we]
 clear we
 have kX6:=mm.block kX5
 have hM6:=hM5.nb mm
 have hR6:=hR5.nb mm
 have n6:=n5.trans mm
 clear kX5 hM5 hR5 n5 mm
 have hgd: Tryz.prog.eqGuardType Tryz.prog.depth 38 =false:=by kernel_rfl
 obtain⟨r,hr,hiff⟩:=eq38 x x hokx.len hokx.len W6
 obtain rfl:r=true:=hiff.2 rfl
 have HS:=Lib.hid (Z1W (W1.heap.size+1) W1.heap.size (W1.heap.size+3) (W1.heap.size+2) sz bs1 hbl1'.out (by have:=hsz2.out;omega) W6 hM6 hR6)
 clear hiff hM6 hR6
 go_wp2_with (first
  |refine wpList_load_row rfl 25 (.tmp 12) rfl w3.heap.size rfl 25 (hC x).toArray (0,0) _ kX6 underlying25 rfl (by rw[ZA,hlenx.out]) ?_
  |refine wpList_load_row rfl 38 (.tmp 15) rfl w5.heap.size rfl 38 (hC x).toArray (0,0) _ kY underlying38 rfl (by rw[Zk,hlenx.out]) ?_)
 refine(HS.out).mono ?_
 rintro e w7⟨rfl,n7⟩
 have n7w:=n6.trans n7
 go_wp2_with fail
 refine(Xq _ (hC0.of_nb n7w)).mono ?_
 rintro e w8⟨rfl,n8⟩
 go_wp2_with fail
 go_ret
 exact⟨rfl,n7w.trans n8⟩
theorem lifted(os:Os)(started:os.Started)(H:Type)(enc:TypeId×Value→H):
  ReturnsInHanded {} Tryz.checked os 4 .any (fun w args=>(Rows.hartRunsSpec.pre enc prog Tryz.f4 [] false w args∧laidMetH prog Ji w)∧sizedMet enc prog Tryz.f4 (OpenSpec.ofChange Rows.hartRunsSpec) false w args)
   (Rows.hartRunsSpec.post enc prog Tryz.f4 false true false false):=by
 refine returnsInHanded_of_change_and (C:= Tryz.checked) (X:=fun w _=>laidMetH prog Ji w) (fun _ _ _ hh h=>h.of_heap hh) own started (by kernel_rfl) func4
  (ChangeSpec.witness_shaped (enc:=enc) (C:= Tryz.checked) (os:=os) (X:=fun w _=>laidMetH prog Ji w) false (World.doorLaid prog 400 os) #[.agg #[.int .u64 0,.int .u64 0,.int .u64 0,.int .u64 0,.int .u64 0,.int .u64 0,.int .u64 0,.int .u64 0,.int .u64 0,.int .u64 0,.int .u64 0,.int .u64 0,.int .u64 0,.int .u64 0,.int .u64 0,.int .u64 0,.int .u64 0,.int .u64 0,.int .u64 0,.int .u64 0,.int .u64 0,.int .u64 0,.int .u64 0,.int .u64 0,.int .u64 0,.int .u64 0,.int .u64 0,.int .u64 0,.int .u64 0,.int .u64 0,.int .u64 0,.int .u64 0,.int .u64 0,.bool false,.int .u64 0,.int .i64 0],.int .i64 0,.slice none 0 0,.int .i64 0] 8 rfl (World.shaped_of_RefB (by kernel_rfl) (by kernel_rfl)) (by kernel_rfl) (by kernel_rfl) (by kernel_rfl) (Z1k os _)) ?_
 intro W base args ds gs before hval0 hW _ _ hL _
 have hval:∀(j:Nat) t v,Tryz.f4.params[j]? =some t→args[j]? =some v→Value.okWide prog W .any base t v:=hval0
 have hW':=hW
 obtain⟨p,q,hA0,hV,rfl,hfz,hnd⟩:=hW
 have hA1:DataW.TrodAll enc prog W 0 (fun _=>true) true Tryz.f4.params.toList args.toList ds p:=hA0
 have hA:=hA1
 rw[Tryz.params4] at hA hval
 obtain⟨v0,vs0,d0,ds0,p0,q0,hargs0,rfl,-,h0,r0⟩:=trodAll_cons hA
 obtain⟨v1,vs1,d1,ds1,p1,q1,hargs1,rfl,-,h1,r1⟩:=trodAll_cons r0
 obtain⟨v2,vs2,d2,ds2,p2,q2,hargs2,rfl,-,h2,r2⟩:=trodAll_cons r1
 obtain⟨v3,vs3,d3,ds3,p3,q3,hargs3,rfl,-,h3,r3⟩:=trodAll_cons r2
 obtain⟨rfl,rfl,-⟩:=trodAll_nil r3
 obtain rfl:args= #[v0,v1,v2,v3]:=by cases args;simp_all
 obtain⟨rfl,rfl⟩:=trodVars_none hV
 obtain⟨hh0,rfl,hr0⟩:=Z0q (hval 0 25 v0 rfl rfl) h0
 obtain⟨n1,rfl,-,-,w1⟩:=open_int underlying3 (hval 1 3 v1 rfl rfl) h1
 obtain⟨A2,b2,off2,cap2,is2,rfl,hAd2,hI2,hR2,hl2⟩:=Z00 (hval 2 26 v2 rfl rfl) h2
 obtain⟨n3,rfl,-,-,w3⟩:=open_int underlying3 (hval 3 3 v3 rfl rfl) h3
 clear hval0
 simp only[List.append_nil] at hW'
 refine(walk hh0 n1 A2 b2 off2 cap2 is2 n3 hr0 (JH w1) hl2 hR2 hAd2 (JH w3) W (Jj hL) (Lib.hid hI2)).mono fun e W' ⟨he,hg⟩=> ?_
 subst he
 exact⟨_,rfl,JI (pa:=p) (pv:=[]) hW' (fun _ _ _=>(trodAll_cons_mk (shut_bool underlying4 _) trodAll_mk0))
  (fun sp hsp=>Jc (by kernel_rfl) hg hA1 (fun t ht=>by
   have h0:(Tryz.f4.params.toList.all fun t=> Tryz.prog.readableRec t && decide (t< Tryz.prog.types.size))=true:=by kernel_rfl
   have h1:=List.all_eq_true.1 h0 t ht
   rw[Bool.and_eq_true,decide_eq_true_eq] at h1
   exact h1) (fun x hx=>hW'.lt x hx) hsp)
  (fun _ _=>rfl) (by simp) hg (ok_one (by kernel_rfl) rfl (okWide_bool_mk underlying4 _))⟩
theorem over:Rows.HartRunsSaid:=
 OpenClaim.holds_of_wide 4 Tryz.f4 rfl rfl rfl rfl rfl rfl rfl ⟨rfl,rfl,rfl,rfl,rfl⟩ rfl rfl rfl rfl rfl (by kernel_rfl) func4 (by kernel_rfl)
  (of_decide_eq_true (by kernel_rfl)) (by unfold Func.isWrapper;first|(rw[if_pos (by decide+kernel)];kernel_rfl)|(rw[if_neg (by decide+kernel)];exact⟨rfl,rfl⟩))
  (fun os started H enc _=>lifted os started H enc)
theorem proved:Rows.HartRunsCardSaid:=
 Claim7.holds_tied_plain_at .later [] [.data] true (true,"4ada75fdf70179cc017121791a2f8c0b4127b5720d23fa8b2f85344d43d17018") false
  over (fun _ h=>by cases h) (by kernel_rfl) (fun _ h=>by cases h) hartRuns_row_tie rfl ⟨rfl,rfl⟩ (by kernel_rfl) rfl
  (fun f fn hf hfn=>by
   obtain rfl:f= 4 :=Option.some.inj ((show Tryz.prog.funcNamed "postbag/postbaglaw06.HartRuns" =some 4 by kernel_rfl).symm.trans hf)|>.symm
   obtain rfl:fn= Tryz.f4 :=(Option.some.inj (func4.symm.trans hfn)).symm
   exact⟨by kernel_rfl,fun j t ht=>by
    rw[Tryz.params4] at ht
    have hm:t ∈ [25,3,26,3]:=by simpa using Array.mem_of_getElem? ht
    have hall:([25,3,26,3].all fun u=> !Tryz.prog.wantsStandIn u)=true:=by kernel_rfl
    exact(show Tryz.prog.wantsStandIn t=false by simpa using List.all_eq_true.1 hall t hm)⟩)
  (by kernel_rfl)
#print axioms proved
end Go.Proofs.YtgpdpaljbiclkaaGreatDoor.hartRuns

/-
  Proved here: what Laid of the laws answers: two memories of the same bytes, the instructions' words from the beginning on. Conditions: there are at most 1000 instructions; the table of codes holds what its text lays. ¦ what Run of the code answers. Conditions: the hart's numbers are words; the memory is one that a call made, of at most 2^24 bytes; the table of codes holds what its text lays. ¦ the chapter's example stands: what lives of the laws answers. Conditions: the table of codes holds what its text lays. ¦ what the code answers of a memory that no call made. Conditions: none. ¦ what fetched and Step of the code answer where there is no memory. Conditions: there are 32 registers.
-/
import Derived.Test.YtgpdpaljbiclkaaGreatDoorSbs
import Derived.Test.YtgpdpaljbiclkaaGreatDoorSbj
import Derived.Test.YtgpdpaljbiclkaaGreatDoorSbl
import Derived.Test.YtgpdpaljbiclkaaGreatDoorSbr
import Derived.Test.YtgpdpaljbiclkaaGreatDoorSbi
import Derived.Deep.RegionLaw
set_option maxHeartbeats 4000000
set_option maxRecDepth 100000
section
namespace Go.Proofs.YtgpdpaljbiclkaaGreatDoor
open _root_.Go.Proofs.Tryz
open Go.RowKit
set_option linter.unusedVariables false
set_option linter.unusedSimpArgs false
def sizeN (size:Int):Nat:=(64+(IntKind.u64.wrap size) % 2000).toNat
theorem Z03(size:Int):64≤sizeN size∧sizeN size≤2063:=by
 unfold sizeN
 have h0:0≤IntKind.u64.wrap size:=by rw[IntKind.wrap_u64];omega
 omega
theorem Z5I(size:Int):wrap64 (64+wrap64 ((IntKind.u64.wrap size).tmod 2000))=(sizeN size:Int):=by
 have h0:0≤IntKind.u64.wrap size:=by rw[IntKind.wrap_u64];omega
 rw[Int.tmod_eq_emod_of_nonneg h0]
 unfold sizeN wrap64
 omega
def laidB (n:Nat) (is:List In7):By:=laidN (List.replicate n 0) is is.length
theorem Je(n:Nat)(is:List In7):(laidB n is).length=n:=by unfold laidB;rw[Z0o,List.length_replicate]
def KS (n:Nat) (is:List In7) (w:World) (e:Ending) (w':World):Prop:=
 e=.returned (.tuple #[.pointer (some ⟨w.heap.size+1,0,none⟩),.pointer (some ⟨w.heap.size+3,0,none⟩)])∧Mem 85 w' (w.heap.size+1) w.heap.size (laidB n is)∧Mem 62 w' (w.heap.size+3) (w.heap.size+2) (laidB n is)∧Nb w w'
theorem enc_i(i:In7)(hi:InR i.2.2.2.2.1)(w:World)(hC:Cod w):
  Calls prog 16 #[.agg #[.int .i64 i.1,.int .i64 i.2.1,.int .i64 i.2.2.1,.int .i64 i.2.2.2.1,.int .i64 i.2.2.2.2.1,.bool i.2.2.2.2.2.1,.bool i.2.2.2.2.2.2]] w fun e w'=>(∃E:Int,e=.returned (.tuple #[.int .u32 (if E=0 then encI i else 0),.int .i64 E])∧(E=0∨E=20∧encI i=0))∧Nb w w':=by
 cases hg:GoodB i.1 i.2.1 i.2.2.1 i.2.2.2.1 i.2.2.2.2.1 i.2.2.2.2.2.1 i.2.2.2.2.2.2 with
 |true=>
  refine(Z2B _ _ _ _ _ _ _ hi.1 hi.2 hg w hC).mono fun e w' ⟨h1,h2⟩=>⟨⟨0,?_,.inl rfl⟩,h2⟩
  rw[h1]
  unfold encI
  rw[if_pos rfl,if_pos hg]
 |false=>
  refine(Z46 _ _ _ _ _ _ _ hi.1 hi.2 hg w hC).mono fun e w' ⟨h1,h2⟩=>⟨⟨20,?_,.inr ⟨rfl,if_neg (by rw[hg];decide)⟩⟩,h2⟩
  rw[h1,if_neg (by decide)]
theorem Z04(size:Int)(hs:InR size)(is:List In7)(hl:is.length≤1000)(hI:∀i ∈ is,InR i.2.2.2.2.1)(A:Option Addr)(b off cap:Nat)(hA:0<is.length→A=some ⟨b,off,none⟩)(w:World)(hC0:Cod w)(hC:Hid (Ins w b off is)):
  Calls prog 6 #[.int .i64 size,.slice A is.length cap] w (KS (sizeN size) is w):=by
 have hK:=Lib.hid (Z5I size)
 have hK1:=Z03 size
 unfold KS
 generalize sizeN size=n at*
 unfold InR at hs
 go_enter func6,ntmps6
 go_wp2_with fail
 rw[hK.out]
 refine(Z84 n (by omega) _).mono ?_
 rintro e w1⟨rfl,hM,hb,hz⟩
 have hN1:Nb w w1:=hb
 go_wp2_with fail
 refine(Z5q n (by omega) _).mono ?_
 rintro e w2⟨rfl,hR,hb2,hz2⟩
 have hM2:=hM.nb hb2
 have hN2:Nb w w2:=hN1.trans hb2
 rw[hz] at hR hz2
 rw[hz]
 clear hM hb hb2 hN1
 go_wp2_with fail
 go_loopw [27] (fun i wr=>∃k:Nat,k≤is.length∧i=.int .i64 k∧Mem 85 wr (w.heap.size+1) w.heap.size (laidN (List.replicate n 0) is k)∧Mem 62 wr (w.heap.size+3) (w.heap.size+2) (laidN (List.replicate n 0) is k)∧Nb w wr) (fun i _=>is.length-(intOf i).toNat)
 case atStart=>exact⟨0,Nat.zero_le _,rfl,hM2,hR,hN2⟩
 case round=>
  obtain⟨k,hk,rfl,hMr,hRr,hN⟩:=hrel
  clear hM2 hR hN2 hz2
  by_cases hlt:k<is.length
  ·obtain rfl:=hA (by omega)
   have hi:is[k]? =some is[k]:=List.getElem?_eq_getElem hlt
   obtain⟨c0,c1,c2,c3,c4,c5,c6⟩:=(hC.out.nb hN).at_ k _ hi
   have hx:=Lib.hid (show laidN (List.replicate n 0) is (k+1)=stB (laidN (List.replicate n 0) is k) (4*(k:Int)) 4 (encI is[k]) from by
    show stB (laidN (List.replicate n 0) is k) (4*(k:Int)) 4 (encI (is.getD k z7))=_
    rw[List.getD_eq_getElem?_getD,hi];rfl)
   have him:=hI is[k] (List.getElem_mem hlt)
   have hlen:=Z0o (List.replicate n 0) is k
   rw[List.length_replicate] at hlen
   have he1:=Z8e is[k]
   have HE:=Lib.hid fun w1=>enc_i is[k] him w1
   generalize is[k]=i at*
   generalize laidN (List.replicate n 0) is k=B at*
   have hlt2:(k:Int)<(is.length:Int):=by omega
   clear hk hi hI him
   go_wp2_with fail
   have hN1:Nb w (wr.alloc (Obj.cells #[.int .i64 i.1,.int .i64 i.2.1,.int .i64 i.2.2.1,.int .i64 i.2.2.2.1,.int .i64 i.2.2.2.2.1,.bool i.2.2.2.2.2.1,.bool i.2.2.2.2.2.2] 50)):=hN.alloc _
   have nA:Nb wr (wr.alloc (Obj.cells #[.int .i64 i.1,.int .i64 i.2.1,.int .i64 i.2.2.1,.int .i64 i.2.2.2.1,.int .i64 i.2.2.2.2.1,.bool i.2.2.2.2.2.1,.bool i.2.2.2.2.2.2] 50)):=(Nb.refl _).alloc _
   refine(HE.out _ (hC0.of_nb hN1)).mono ?_
   rintro e w3⟨⟨E,rfl,hE⟩,n3⟩
   have hN3:=hN1.trans n3
   have hM3:=(hMr.nb nA).nb n3
   have hR3:=(hRr.nb nA).nb n3
   clear hMr hRr hN hN1 nA n3 HE c0 c1 c2 c3 c4 c5 c6
   have hlm:=hM3.lt
   have hlr:=hR3.lt
   have HM:=Lib.hid (KY (w.heap.size+1) w.heap.size B (4*(k:Int)) 4 (encI i) (by omega) (by omega) he1.1 (by rw[hlen];omega) w3 hM3)
   have HRf:=Lib.hid fun w4 hm=>YG (w.heap.size+3) (w.heap.size+2) B (4*(k:Int)) 4 (encI i) (by omega) (by omega) he1.1 (by omega) (by rw[hlen];omega) w4 hm
   rw[←hx.out] at HM
   have HRg:=fun w4 hm=>HRf.out w4 hm
   rw[←hx.out] at HRg
   clear HRf
   obtain⟨B2,hB2⟩:∃B2,laidN (List.replicate n 0) is (k+1)=B2:=⟨_,rfl⟩
   rw[hB2] at HM HRg
   replace HRg:=Lib.hid HRg
   have hB:=Lib.hid hB2
   clear hB2 hx
   rcases hE with rfl|⟨rfl,he0⟩
   ·rw[if_pos rfl]
    generalize encI i=V at*
    go_wp2_with fail
    refine(HM.out).mono ?_
    rintro e w4⟨rfl,hM4,g4⟩
    have hR4:=hR3.grown g4 (by intro e;injection e with e;omega) (by intro e;injection e with e;omega)
    have hN4:Nb w w4:=Ya hN3 g4 hN3.size (Nat.le_refl _)
    go_wp2_with fail
    refine(HRg.out _ hR4).mono ?_
    rintro e w5⟨rfl,hR5,g5⟩
    have hM5:=hM4.grown g5 (by intro e;injection e with e;omega) (by intro e;injection e with e;omega)
    have hN5:Nb w w5:=Ya hN4 g5 hN4.size (by omega)
    clear hM3 hR3 hR4 hM4 hN3 hN4 g4 g5 HM HRg
    go_wp2_with fail
    exact⟨⟨k+1,hlt,rfl,by rw[hB.out];exact hM5,by rw[hB.out];exact hR5,hN5⟩,by simp[intOf];omega⟩
   ·rw[if_neg (by decide)]
    rw[he0] at HM HRg
    clear he1 he0
    go_wp2_with fail
    refine(HM.out).mono ?_
    rintro e w4⟨rfl,hM4,g4⟩
    have hR4:=hR3.grown g4 (by intro e;injection e with e;omega) (by intro e;injection e with e;omega)
    have hN4:Nb w w4:=Ya hN3 g4 hN3.size (Nat.le_refl _)
    go_wp2_with fail
    refine(HRg.out _ hR4).mono ?_
    rintro e w5⟨rfl,hR5,g5⟩
    have hM5:=hM4.grown g5 (by intro e;injection e with e;omega) (by intro e;injection e with e;omega)
    have hN5:Nb w w5:=Ya hN4 g5 hN4.size (by omega)
    clear hM3 hR3 hR4 hM4 hN3 hN4 g4 g5 HM HRg
    go_wp2_with fail
    exact⟨⟨k+1,hlt,rfl,by rw[hB.out];exact hM5,by rw[hB.out];exact hR5,hN5⟩,by simp[intOf];omega⟩
  ·obtain rfl:k=is.length:=by omega
   clear hk hlt
   go_wp2_with fail
   go_ret2
   exact⟨rfl,hMr,hRr,hN⟩
end Go.Proofs.YtgpdpaljbiclkaaGreatDoor
end
section
namespace Go.Proofs.YtgpdpaljbiclkaaGreatDoor
open _root_.Go.Proofs.Tryz
open Go.RowKit
set_option linter.unusedVariables false
set_option linter.unusedSimpArgs false
def Z11 (n:Nat) (h:HV) (bs:By) (p q:Nat) (w:World) (e:Ending) (w':World):Prop:=
 e=.returned (.tuple #[hA (runS n 0 h bs).1,.int .i64 ((runS n 0 h bs).2.1:Int),.int .i64 (runS n 0 h bs).2.2.1])∧Mem 85 w' p q (runS n 0 h bs).2.2.2∧w.grownBy w' (some q)
theorem Z12{h:HV}{w W1:World}{p q g:Nat}{bs:By}{old:Array Value}(hg:w.grownBy W1 (some q))(hM:Mem 85 W1 p q bs)(k0:W1.heap[g]? =some (.cells old 25 (0,0)))(hlen:(hC h).toArray.size=36)(hgw:w.heap.size≤g)
  (tmps:Array Value) (v E:Int) (hp:tmps.getD 6 undef=.pointer (some ⟨g,0,none⟩)) (h7:tmps.getD 7 undef=.int .i64 v) (h8:tmps.getD 8 undef=.int .i64 E):
  bodyPost prog Tryz.f12 (fun e w'=>e=.returned (.tuple #[.agg (hC h).toArray,.int .i64 v,.int .i64 E])∧Mem 85 w' p q bs∧w.grownBy w' (some q)) Exit.ret {tmps:=tmps,defers:=[]} (W1.setRow g (hC h).toArray):=by
 have k2:=setRow_heap W1 g _ (hC h).toArray 25 _ k0
 have hpg:p≠g:=by
  rintro rfl
  have:=hM.1.symm.trans k0
  simp at this
 have hqg:q≠g:=by
  rintro rfl
  have:=hM.2.symm.trans k0
  simp at this
 refine bodyPost_ret (Z0Q rfl _ _ g _ hp (Z09 g _ _ _ _ k2 hlen)) rfl ⟨by rw[h7,h8],⟨(setRow_other W1 g p _ hpg).trans hM.1,(setRow_other W1 g q _ hqg).trans hM.2⟩,?_⟩
 exact⟨hg.os,hg.tape,hg.output,Nat.le_trans hg.size (by simp[World.setRow]),fun k hk hr=>(setRow_other W1 g k _ (by omega)).trans (hg.block k hk hr)⟩
theorem Z5J{w a c:World}{q:Nat}(g:w.grownBy a (some q))(k:a.grownBy c (some q)):w.grownBy c (some q):=
 ⟨k.os.trans g.os,k.tape.trans g.tape,k.output.trans g.output,Nat.le_trans g.size k.size,fun i hi hr=>(k.block i (Nat.lt_of_lt_of_le hi g.size) hr).trans (g.block i hi hr)⟩
attribute [-go_sem] run_eql_struct
theorem Z2Y(h:HV)(p q:Nat)(bs:By)(n:Nat)(hn:n<4611686018427387904)(hh:HOk h)(hl:bs.length≤16777216)(w:World)(hC0:Cod w)(hM:Mem 85 w p q bs):
  Calls prog 12 #[hA h,.pointer (some ⟨p,0,none⟩),.int .i64 (n:Int)] w (Z11 n h bs p q w):=by
 have hMlt:=hM.lt
 have hok0:=Lib.hid hh
 obtain⟨R,hR⟩:∃R,runS n 0 h bs=R:=⟨_,rfl⟩
 have hR':=Lib.hid hR
 unfold Z11
 rw[hR]
 clear hR hh
 unfold hA
 go_enter func12,ntmps12
 go_upto_region 1 with(fail)
 obtain⟨W1,w1e⟩:∃W1,(w.alloc (Obj.cells (hC h).toArray 25)).alloc (Obj.cells Z8 25)=W1:=⟨_,rfl⟩
 have n1:Nb w W1:=by rw[←w1e];exact((Nb.refl _).alloc _).alloc _
 have kH:W1.heap[w.heap.size]? =some (.cells (hC h).toArray 25 (0,0)):=by rw[←w1e];exact Zo (Zd _ _ rfl) _
 have kZ:W1.heap[w.heap.size+1]? =some (.cells Z8 25 (0,0)):=by rw[←w1e];exact Zd _ _ (by simp)
 change Code.wp _ _ _ _ ((w.alloc (Obj.cells (hC h).toArray 25)).alloc (Obj.cells Z8 25))
 rw[w1e]
 clear w1e
 go_wp2_with fail
 go_loopw [13] (fun i wr=>∃(k:Nat) (h1:HV) (b1:By),k≤n∧i=.int .i64 k∧Hid (HOk h1)∧Hid (b1.length=bs.length)∧Hid (runS (n-k) k h1 b1=R)∧Hid (wr.heap[w.heap.size]? =some (.cells (hC h1).toArray 25 (0,0)))∧Hid (wr.heap[w.heap.size+1]? =some (.cells Z8 25 (0,0)))∧Mem 85 wr p q b1∧Cod wr∧w.grownBy wr (some q)) (fun i _=>n-(intOf i).toNat)
 case atStart=>exact⟨0,h,bs,Nat.zero_le _,rfl,hok0,Lib.hid rfl,hR',Lib.hid kH,Lib.hid kZ,hM.nb n1,hC0.of_nb n1,n1.grown_none⟩
 case round=>
  obtain⟨k,h1,b1,hk,rfl,hok,hbl,hrun,kH1,kZ1,hMr,hCr,gr⟩:=hrel
  clear kH kZ n1 hR' hok0
  have hlen1:=Lib.hid (show(hC h1).toArray.size=36 by rw[List.size_toArray];exact Zv (by exact hok.out.len))
  have hone1:=Lib.hid (Zu (ZI h1))
  by_cases hlt:k<n
  ·have hlt2:(k:Int)<(n:Int):=by omega
   have HS:=Lib.hid (Z1O h1 p q b1 hok.out (by rw[hbl.out];exact hl) wr hCr hMr)
   unfold XO at HS
   go_wp2_with (first|refine wpList_load_row rfl 25 (.tmp 3) rfl w.heap.size rfl 25 (hC h1).toArray (0,0) _ kH1.out underlying25 rfl (by rw[ZA,hlen1.out]) ?_)
   refine(HS.out).mono ?_
   rintro e w2⟨rfl,hM2,g2⟩
   have kH2:=(g2.block _ (Zf kH1.out) (by intro e;injection e with e;omega)).trans kH1.out
   have kZ2:=(g2.block _ (Zf kZ1.out) (by intro e;injection e with e;omega)).trans kZ1.out
   have gg:=Z5J gr g2
   have cod2:=hCr.grown hMr g2
   have hok2:=Lib.hid (Jy h1 b1 hok.out)
   have hlen2:=Lib.hid (show(hC (stepS h1 b1).1).toArray.size=36 by rw[List.size_toArray];exact Zv (by exact hok2.out.len))
   have hone2:=Lib.hid (Zu (ZI (stepS h1 b1).1))
   clear HS
   go_upto_region 5 with(first
    |refine wpList_store_row rfl 25 (.tmp 10) (.tmp 20) rfl w2.heap.size (hC (stepS h1 b1).1).toArray rfl rfl 25 Z8 (heap_alloc_new w2 _) (by rw[ZA,hlen2.out]) (by rw[hlen2.out];rfl) hone2.out ?_)
   obtain⟨W3,w3e⟩:∃W3,(w2.alloc (Obj.cells Z8 25)).setRow w2.heap.size (hC (stepS h1 b1).1).toArray=W3:=⟨_,rfl⟩
   have n3:Nb w2 W3:=by rw[←w3e];exact((Nb.refl _).alloc _).setRow (Nat.le_refl _) _
   have kX:W3.heap[w2.heap.size]? =some (.cells (hC (stepS h1 b1).1).toArray 25 (0,0)):=by rw[←w3e];exact setRow_heap _ _ _ _ _ _ (heap_alloc_new w2 _)
   change Code.wp _ _ _ _ ((w2.alloc (Obj.cells Z8 25)).setRow w2.heap.size (hC (stepS h1 b1).1).toArray)
   rw[w3e]
   clear w3e
   have kH3:=n3.block kH2
   have kZ3:=n3.block kZ2
   have hM3:=hM2.nb n3
   have g3:=YF gg n3
   have cod3:=cod2.of_nb n3
   have hz2:=Nat.lt_of_lt_of_le (Zf kZ1.out) g2.size
   clear kH2 kZ2 hM2 cod2 gg
   have hm:n-k=(n-(k+1))+1:=by omega
   rw[hm] at hrun
   by_cases he:(stepS h1 b1).2.1=0
   ·have he':((stepS h1 b1).2.1 !=0)=false:=by rw[he];rfl
    obtain⟨r,hr,hiff⟩:=Z8n (stepS h1 b1).1 h1 hok2.out.len hok.out.len W3
    have hgd: Tryz.prog.eqGuardType Tryz.prog.depth 25 =false:=by kernel_rfl
    cases r with
    |true=>
     have hst:=hiff.1 rfl
     have hsb:=Z1P h1 b1 hok.out he hst
     have hRe:=Z3B h1 b1 he hst hsb (n-(k+1)+1) k
     rw[show k+(n-(k+1)+1)=n by omega] at hRe
     have hRe2:=hrun.out.symm.trans hRe
     subst hRe2
     rw[hsb] at hM3
     clear hrun hiff hst hsb hRe hm he
     go_wp2_with (first
      |refine wpList_load_row rfl 25 (.tmp 10) rfl w2.heap.size rfl 25 (hC (stepS h1 b1).1).toArray (0,0) _ kX underlying25 rfl (by rw[ZA,hlen2.out]) ?_
      |refine wpList_load_row rfl 25 (.tmp 3) rfl w.heap.size rfl 25 (hC h1).toArray (0,0) _ kH3 underlying25 rfl (by rw[ZA,hlen1.out]) ?_
      |refine wpList_store_row rfl 25 (.tmp 6) (.tmp 32) rfl (w.heap.size+1) (hC h1).toArray rfl rfl 25 _ kZ3 (by rw[ZA,hlen1.out]) (by rw[hlen1.out];rfl) hone1.out ?_)
     exact Z12 g3 hM3 kZ3 hlen1.out (by omega) _ _ _ rfl rfl rfl
    |false=>
     have hrun2:runS (n-(k+1)) (k+1) (stepS h1 b1).1 (stepS h1 b1).2.2=R:=by
      have:=hrun.out
      unfold runS at this
      rwa [if_pos he] at this
     have hrun3:=Lib.hid hrun2
     clear hrun hiff hm he hrun2
     go_upto_region 9 with(first
      |refine wpList_load_row rfl 25 (.tmp 10) rfl w2.heap.size rfl 25 (hC (stepS h1 b1).1).toArray (0,0) _ kX underlying25 rfl (by rw[ZA,hlen2.out]) ?_
      |refine wpList_load_row rfl 25 (.tmp 3) rfl w.heap.size rfl 25 (hC h1).toArray (0,0) _ kH3 underlying25 rfl (by rw[ZA,hlen1.out]) ?_
      |refine wpList_store_row rfl 25 (.tmp 3) (.tmp 30) rfl w.heap.size (hC (stepS h1 b1).1).toArray rfl rfl 25 _ kH3 (by rw[ZA,hlen2.out]) (by rw[hlen1.out,hlen2.out]) hone2.out ?_)
     obtain⟨W4,w4e⟩:∃W4,W3.setRow w.heap.size (hC (stepS h1 b1).1).toArray=W4:=⟨_,rfl⟩
     have kH4:W4.heap[w.heap.size]? =some (.cells (hC (stepS h1 b1).1).toArray 25 (0,0)):=by rw[←w4e];exact setRow_heap _ _ _ _ _ _ kH3
     have oth:∀j,j≠w.heap.size→W4.heap[j]? =W3.heap[j]? :=fun j hj=>by rw[←w4e];exact setRow_other W3 _ j _ hj
     have kZ4:=(oth _ (by omega)).trans kZ3
     have hM4:Mem 85 W4 p q (stepS h1 b1).2.2:=⟨(oth _ (by omega)).trans hM3.1,(oth _ (by omega)).trans hM3.2⟩
     have g4:w.grownBy W4 (some q):=by
      rw[←w4e]
      exact⟨g3.os,g3.tape,g3.output,Nat.le_trans g3.size (by simp[World.setRow]),fun j hj hr=>(setRow_other W3 _ j _ (by omega)).trans (g3.block j hj hr)⟩
     have cod4:=hC0.grown hM g4
     have hbl2:=Lib.hid ((K8 h1 b1 hok.out).trans hbl.out)
     rw[w4e]
     clear w4e oth kH3 kZ3 hM3 g3 kX hr cod3
     go_wp2_with fail
     exact⟨⟨k+1,(stepS h1 b1).1,(stepS h1 b1).2.2,by omega,rfl,hok2,hbl2,hrun3,Lib.hid kH4,Lib.hid kZ4,hM4,cod4,g4⟩,by simp[intOf];omega⟩
   ·have he':((stepS h1 b1).2.1 !=0)=true:=by simp[bne,he]
    have hRe:R=(h1,k,(stepS h1 b1).2.1,(stepS h1 b1).2.2):=by
     have:=hrun.out.symm
     unfold runS at this
     rwa [if_neg he] at this
    subst hRe
    clear hrun he hm
    go_wp2_with (first
     |refine wpList_load_row rfl 25 (.tmp 3) rfl w.heap.size rfl 25 (hC h1).toArray (0,0) _ kH3 underlying25 rfl (by rw[ZA,hlen1.out]) ?_
     |refine wpList_store_row rfl 25 (.tmp 6) (.tmp 24) rfl (w.heap.size+1) (hC h1).toArray rfl rfl 25 _ kZ3 (by rw[ZA,hlen1.out]) (by rw[hlen1.out];rfl) hone1.out ?_)
    exact Z12 g3 hM3 kZ3 hlen1.out (by omega) _ _ _ rfl rfl rfl
  ·obtain rfl:k=n:=by omega
   have hRe:R=(h1,k,0,b1):=by
    have:=hrun.out.symm
    rwa [Nat.sub_self] at this
   subst hRe
   clear hrun
   go_wp2_with (first
    |refine wpList_load_row rfl 25 (.tmp 3) rfl w.heap.size rfl 25 (hC h1).toArray (0,0) _ kH1.out underlying25 rfl (by rw[ZA,hlen1.out]) ?_
    |refine wpList_store_row rfl 25 (.tmp 6) (.tmp 32) rfl (w.heap.size+1) (hC h1).toArray rfl rfl 25 _ kZ1.out (by rw[ZA,hlen1.out]) (by rw[hlen1.out];rfl) hone1.out ?_)
   exact Z12 gr hMr kZ1.out hlen1.out (by omega) _ _ _ rfl rfl rfl
end Go.Proofs.YtgpdpaljbiclkaaGreatDoor
end
section
namespace Go.Proofs.YtgpdpaljbiclkaaGreatDoor
open _root_.Go.Proofs.Tryz
open Go.RowKit
set_option linter.unusedVariables false
set_option linter.unusedSimpArgs false
def exI:List In7:=[(22,1,0,0,5,false,false),(31,2,1,1,0,false,false),(51,0,0,0,0,false,false)]
def h0:HV:=⟨0,List.replicate 32 0,false,0,0⟩
theorem h0_ok:HOk h0:=⟨rfl,Xi,fun v hv=>by rw[List.eq_of_mem_replicate hv];exact Xi,Xi,Z2S⟩
def exB:By:=laidB 64 exI
theorem ex_run:((runS 10 0 h0 exB).2.1==2 && ((runS 10 0 h0 exB).2.2.1==60 && ((runS 10 0 h0 exB).1.x.getD 2 0==10 && (runS 10 0 h0 exB).1.pc==8)))=true:=by decide+kernel
theorem cellX{w:World}{g:Nat}{h:HV}(kH:w.heap[g]? =some (.cells (hC h).toArray 25 (0,0)))(r:Nat)(v:Int)(hr:h.x[r]? =some v):w.cell? ⟨g,1+r,none⟩=some (.int .u64 v):=by
 have hl:r<h.x.length:=(List.getElem?_eq_some_iff.1 hr).1
 rw[cell_of_row _ _ _ _ _ _ kH,List.getElem?_toArray,Nat.add_comm]
 unfold hC
 rw[List.getElem?_cons_succ,List.getElem?_append_left (by rw[YW];exact hl)]
 unfold xV
 rw[List.getElem?_map,hr]
 rfl
theorem ex_ins{w:World}{B:Nat}(k:w.heap[B]? =some (.cells #[.int .i64 22,.int .i64 1,.int .i64 0,.int .i64 0,.int .i64 5,.bool false,.bool false,.int .i64 31,.int .i64 2,.int .i64 1,.int .i64 1,.int .i64 0,.bool false,.bool false,.int .i64 51,.int .i64 0,.int .i64 0,.int .i64 0,.int .i64 0,.bool false,.bool false] 50 (0,0))):Ins w B 0 exI:=by
 intro j hj
 have hc:∀m v,(#[.int .i64 22,.int .i64 1,.int .i64 0,.int .i64 0,.int .i64 5,.bool false,.bool false,.int .i64 31,.int .i64 2,.int .i64 1,.int .i64 1,.int .i64 0,.bool false,.bool false,.int .i64 51,.int .i64 0,.int .i64 0,.int .i64 0,.int .i64 0,.bool false,.bool false]:Array Value)[m]? =some v→w.cell? ⟨B,m,none⟩=some v:=fun m v hv=>(cell_of_row _ _ m _ _ _ k).trans hv
 have h3:j=0∨j=1∨j=2:=by have:exI.length=3:=rfl;omega
 rcases h3 with rfl|rfl|rfl
 ·exact⟨_,rfl,hc 0 _ rfl,hc 1 _ rfl,hc 2 _ rfl,hc 3 _ rfl,hc 4 _ rfl,hc 5 _ rfl,hc 6 _ rfl⟩
 ·exact⟨_,rfl,hc 7 _ rfl,hc 8 _ rfl,hc 9 _ rfl,hc 10 _ rfl,hc 11 _ rfl,hc 12 _ rfl,hc 13 _ rfl⟩
 ·exact⟨_,rfl,hc 14 _ rfl,hc 15 _ rfl,hc 16 _ rfl,hc 17 _ rfl,hc 18 _ rfl,hc 19 _ rfl,hc 20 _ rfl⟩
theorem h0_eq:hA h0=.agg Z8:=rfl
theorem Xq(w:World)(hC0:Cod w):Calls prog 5 #[] w fun e w'=>e=.returned (.bool true)∧Nb w w':=by
 have hr:=ex_run
 simp only[Bool.and_eq_true,beq_iff_eq] at hr
 obtain⟨r1,r2,r3,r4⟩:=hr
 have hk:=Z5m 10 0 h0 exB h0_ok
 go_enter func5,ntmps5
 go_wp2_with fail
 obtain⟨W1,w1e⟩:∃W1,w.alloc (Obj.cells #[.int .i64 22,.int .i64 1,.int .i64 0,.int .i64 0,.int .i64 5,.bool false,.bool false,.int .i64 31,.int .i64 2,.int .i64 1,.int .i64 1,.int .i64 0,.bool false,.bool false,.int .i64 51,.int .i64 0,.int .i64 0,.int .i64 0,.int .i64 0,.bool false,.bool false] 50)=W1:=⟨_,rfl⟩
 have n1:Nb w W1:=by rw[←w1e];exact(Nb.refl _).alloc _
 have kI:W1.heap[w.heap.size]? =some (.cells #[.int .i64 22,.int .i64 1,.int .i64 0,.int .i64 0,.int .i64 5,.bool false,.bool false,.int .i64 31,.int .i64 2,.int .i64 1,.int .i64 1,.int .i64 0,.bool false,.bool false,.int .i64 51,.int .i64 0,.int .i64 0,.int .i64 0,.int .i64 0,.bool false,.bool false] 50 (0,0)):=by rw[←w1e];exact Zd _ _ rfl
 rw[w1e]
 clear w1e
 have hIns:=Lib.hid (ex_ins kI)
 have hIR:∀i ∈ exI,InR i.2.2.2.2.1:=by
  intro i hi
  unfold exI at hi
  simp at hi
  rcases hi with rfl|rfl|rfl<;>exact⟨by decide,by decide⟩
 have HL:=Lib.hid (Z04 0 ⟨by decide,by decide⟩ exI (by decide) hIR (some ⟨w.heap.size,0,none⟩) w.heap.size 0 3 (fun _=>rfl) W1 (hC0.of_nb n1) hIns)
 unfold KS at HL
 have hsz:sizeN 0=64:=by decide
 rw[hsz] at HL
 have hbl:exB.length=64:=Je 64 exI
 have HL2:=Lib.hid (show Calls prog 6 #[.int .i64 0,.slice (some ⟨w.heap.size,0,none⟩) 3 3] W1 fun e w'=>e=.returned (.tuple #[.pointer (some ⟨W1.heap.size+1,0,none⟩),.pointer (some ⟨W1.heap.size+3,0,none⟩)])∧Mem 85 w' (W1.heap.size+1) W1.heap.size exB∧Mem 62 w' (W1.heap.size+3) (W1.heap.size+2) exB∧Nb W1 w' from HL.out)
 clear HL hIR hIns hsz kI
 refine(HL2.out).mono ?_
 rintro e w2⟨rfl,hM,-,n2⟩
 have nn:=n1.trans n2
 have HR:=Z2Y h0 (W1.heap.size+1) W1.heap.size exB 10 (by decide) h0_ok (by rw[hbl];decide) w2 (hC0.of_nb nn) hM
 unfold Z11 at HR
 have hz1:=Nb.size n1
 have hokx:=hk.1
 generalize runS 10 0 h0 exB=R at*
 obtain⟨x,i,E,bs1⟩:=R
 dsimp only at HR r1 r2 r3 r4 hokx
 subst r1
 subst r2
 rw[h0_eq] at HR
 replace HR:=Lib.hid HR
 have hlenx:=Lib.hid (show(hC x).toArray.size=36 by rw[List.size_toArray];exact Zv (by exact hokx.len))
 have honex:=Lib.hid (Zu (ZI x))
 clear hk HL2
 go_wp2_with fail
 refine(HR.out).mono ?_
 rintro e w3⟨rfl,hM3,g3⟩
 have n3:Nb w w3:=Ya nn g3 nn.size hz1
 clear HR g3 hM3 hM
 go_upto_region 3 with(first
  |refine wpList_store_row rfl 25 (.tmp 3) (.tmp 18) rfl w3.heap.size (hC x).toArray rfl rfl 25 Z8 (heap_alloc_new w3 _) (by rw[ZA,hlenx.out]) (by rw[hlenx.out];rfl) honex.out ?_)
 obtain⟨W4,w4e⟩:∃W4,(w3.alloc (Obj.cells Z8 25)).setRow w3.heap.size (hC x).toArray=W4:=⟨_,rfl⟩
 have n4:Nb w3 W4:=by rw[←w4e];exact((Nb.refl _).alloc _).setRow (Nat.le_refl _) _
 have kX:W4.heap[w3.heap.size]? =some (.cells (hC x).toArray 25 (0,0)):=by rw[←w4e];exact setRow_heap _ _ _ _ _ _ (heap_alloc_new w3 _)
 change Code.wp _ _ _ _ ((w3.alloc (Obj.cells Z8 25)).setRow w3.heap.size (hC x).toArray)
 rw[w4e]
 clear w4e
 obtain⟨c0,-⟩:=YE kX (by exact hokx.len)
 have c3:W4.cell? ⟨w3.heap.size,3,none⟩=some (.int .u64 10):=cellX kX 2 10 (by
  rw[List.getD_eq_getElem?_getD,List.getElem?_eq_getElem (by rw[hokx.len];decide)] at r3
  rw[List.getElem?_eq_getElem (by rw[hokx.len];decide)]
  exact congrArg some r3)
 rw[r4] at c0
 clear kX
 go_wp2_with fail
 go_ret
 exact⟨rfl,n3.trans n4⟩
end Go.Proofs.YtgpdpaljbiclkaaGreatDoor
end
section
namespace Go.Proofs.YtgpdpaljbiclkaaGreatDoor
open _root_.Go.Proofs.Tryz
open Go.RowKit
set_option linter.unusedVariables false
set_option linter.unusedSimpArgs false
def Unmade (w:World) (m:Value):Prop:=m=.pointer none∨∃q,m=.pointer (some ⟨q,0,none⟩)∧w.cell? ⟨q,0,none⟩=some (.slice none 0 0)
theorem Z3J(m:Value)(w:World)(h:Unmade w m):Calls prog 44 #[m] w fun e w'=>e=.returned (.bool false)∧w=w':=by
 rcases h with rfl|⟨q,rfl,hc⟩
 all_goals
  go_enter func44,ntmps44
  go_wp2
  go_ret
  exact⟨rfl,rfl⟩
theorem Z5K(m:Value)(a k:Int)(w:World)(h:Unmade w m):Calls prog 42 #[m,.int .u64 a,.int .i64 k] w fun e w'=>e=.returned (.tuple #[.slice none 0 0,.int .i64 1])∧w=w':=by
 have H:=Lib.hid (Z3J m w h)
 clear h
 go_enter func42,ntmps42
 go_wp2_with fail
 refine(H.out).mono ?_
 rintro e w'⟨rfl,rfl⟩
 go_wp2_with fail
 go_ret2
 exact⟨rfl,rfl⟩
theorem Z3K(m:Value)(a k:Int)(w:World)(h:Unmade w m):Calls prog 45 #[m,.int .u64 a,.int .i64 k] w fun e w'=>e=.returned (.tuple #[.int .u64 0,.int .i64 1])∧w=w':=by
 have H:=Lib.hid (Z5K m a k w h)
 clear h
 go_enter func45,ntmps45
 go_wp2_with fail
 refine(H.out).mono ?_
 rintro e w'⟨rfl,rfl⟩
 go_wp2_with fail
 go_ret2
 exact⟨rfl,rfl⟩
end Go.Proofs.YtgpdpaljbiclkaaGreatDoor
end
section
namespace Go.Proofs.YtgpdpaljbiclkaaGreatDoor
open _root_.Go.Proofs.Tryz
open Go.RowKit
set_option linter.unusedVariables false
set_option linter.unusedSimpArgs false
theorem Z8r(pc:Int)(w:World):Calls prog 21 #[.int .u64 pc,.pointer none] w fun e w'=>e=.returned (.tuple #[i7A z7,.int .i64 1])∧Nb w w':=by
 have HL:=Lib.hid fun w1=>Z3K (.pointer none) pc 4 w1 (.inl rfl)
 go_enter func21,ntmps21
 go_upto_region 1 with(fail)
 obtain⟨W1,h1⟩:∃W1,w.alloc (Obj.cells #[.int .i64 0,.int .i64 0,.int .i64 0,.int .i64 0,.int .i64 0,.bool false,.bool false] 50)=W1:=⟨_,rfl⟩
 have n1:Nb w W1:=by rw[←h1];exact(Nb.refl _).alloc _
 have k0:W1.heap[w.heap.size]? =some (.cells #[.int .i64 0,.int .i64 0,.int .i64 0,.int .i64 0,.int .i64 0,.bool false,.bool false] 50 (0,0)):=by rw[←h1];exact Zd _ _ rfl
 rw[h1]
 clear h1
 go_wp2_with fail
 refine(HL.out W1).mono ?_
 rintro e w'⟨rfl,rfl⟩
 go_wp2_with (refine wpList_store_row rfl 50 (.tmp 4) (.tmp 17) rfl w.heap.size #[.int .i64 0,.int .i64 0,.int .i64 0,.int .i64 0,.int .i64 0,.bool false,.bool false] rfl rfl 50 _ k0 (by kernel_rfl) rfl (by kernel_rfl) ?_)
 exact Kq n1 k0 _ z7 1 rfl rfl
theorem Z5L{h:HV}{w W1:World}{g:Nat}{old:Array Value}(hb:Nb w W1)(k0:W1.heap[g]? =some (.cells old 25 (0,0)))(hlen:(hC h).toArray.size=36)(hgw:w.heap.size≤g)
  (tmps:Array Value) (E:Int) (hp:tmps.getD 4 undef=.pointer (some ⟨g,0,none⟩)) (h5:tmps.getD 5 undef=.int .i64 E):
  bodyPost prog Tryz.f9 (fun e w'=>e=.returned (.tuple #[.agg (hC h).toArray,.int .i64 E])∧Nb w w') Exit.ret {tmps:=tmps,defers:=[]} (W1.setRow g (hC h).toArray):=by
 have k2:=setRow_heap W1 g _ (hC h).toArray 25 _ k0
 exact bodyPost_ret (Z0P rfl _ _ g _ hp (Z09 g _ _ _ _ k2 hlen)) rfl ⟨by rw[h5],hb.setRow hgw _⟩
theorem Z5M(h:HV)(hk:h.x.length=32)(w:World):
  Calls prog 9 #[hA h,.pointer none] w fun e w'=>e=.returned (.tuple #[hA h,.int .i64 1])∧Nb w w':=by
 have HF:=Lib.hid fun w1=>Z8r h.pc w1
 have hlen2:=Lib.hid (show(hC h).toArray.size=36 by rw[List.size_toArray];exact Zv hk)
 have hone:=Lib.hid (Zu (ZI h))
 have hlen:=Lib.hid hk
 clear hk
 obtain⟨i,hi⟩:∃i,z7=i:=⟨_,rfl⟩
 rw[hi] at HF
 clear hi
 unfold hA
 go_enter func9,ntmps9
 go_upto_region 1 with(fail)
 obtain⟨W1,w1e⟩:∃W1,(w.alloc (Obj.cells (hC h).toArray 25)).alloc (Obj.cells Z8 25)=W1:=⟨_,rfl⟩
 have n1:Nb w W1:=by rw[←w1e];exact((Nb.refl _).alloc _).alloc _
 have kH:W1.heap[w.heap.size]? =some (.cells (hC h).toArray 25 (0,0)):=by rw[←w1e];exact Zo (Zd _ _ rfl) _
 have kZ:W1.heap[w.heap.size+1]? =some (.cells Z8 25 (0,0)):=by rw[←w1e];exact Zd _ _ (by simp)
 change Code.wp _ _ _ _ ((w.alloc (Obj.cells (hC h).toArray 25)).alloc (Obj.cells Z8 25))
 rw[w1e]
 clear w1e
 obtain⟨cP,-⟩:=YE kH hlen.out
 go_wp2_with fail
 refine(HF.out _).mono ?_
 rintro e w2⟨rfl,n2⟩
 have nn:=n1.trans n2
 replace kH:=n2.block kH
 replace kZ:=n2.block kZ
 rw[Z0T]
 clear cP HF n1 n2
 go_upto_region 2 with(first
  |refine wpList_store_row rfl 50 (.tmp 6) (.tmp 18) rfl w2.heap.size (iC i) rfl rfl 50 _ (heap_alloc_new w2 _) (by rw[X3,Yp]) rfl (Xa i) ?_)
 obtain⟨W3,w3e⟩:∃W3,(w2.alloc (Obj.cells #[.int .i64 0,.int .i64 0,.int .i64 0,.int .i64 0,.int .i64 0,.bool false,.bool false] 50)).setRow w2.heap.size (iC i)=W3:=⟨_,rfl⟩
 have n3:Nb w2 W3:=by rw[←w3e];exact((Nb.refl _).alloc _).setRow (Nat.le_refl _) _
 have kI:W3.heap[w2.heap.size]? =some (.cells (iC i) 50 (0,0)):=by rw[←w3e];exact setRow_heap _ _ _ _ _ _ (heap_alloc_new w2 _)
 have zz:=Below.size nn
 rw[w3e]
 clear w3e
 replace kH:=n3.block kH
 replace kZ:=n3.block kZ
 have n4:=nn.trans n3
 clear n3 nn
 go_wp2_with (first
  |refine wpList_load_row rfl 25 (.tmp 2) rfl w.heap.size rfl 25 (hC h).toArray (0,0) _ kH underlying25 rfl (by rw[ZA,hlen2.out]) ?_
  |refine wpList_store_row rfl 25 (.tmp 4) (.tmp 22) rfl (w.heap.size+1) (hC h).toArray rfl rfl 25 _ kZ (by rw[ZA,hlen2.out]) (by rw[hlen2.out];rfl) hone.out ?_)
 exact Z5L n4 kZ hlen2.out (by omega) _ _ rfl rfl
end Go.Proofs.YtgpdpaljbiclkaaGreatDoor
end

/-
  Proved here: what Step of the reference answers: what the code's does. Conditions: the hart's numbers are words; the memory is one that a call made, of at most 2^24 bytes.
-/
import Derived.Test.YtgpdpaljbiclkaaGreatDoorSbm
import Derived.Test.YtgpdpaljbiclkaaGreatDoorSbp
set_option maxHeartbeats 8000000
set_option maxRecDepth 100000
namespace Go.Proofs.YtgpdpaljbiclkaaGreatDoor
open _root_.Go.Proofs.Tryz
open Go.RowKit
set_option linter.unusedVariables false
set_option linter.unusedSimpArgs false
theorem Z2j{w W:World}{q:Nat}(h:w.grownBy W (some q)){B:Nat}(hB:w.heap.size≤B)(cs:Array Value):w.grownBy (W.setRow B cs) (some q):=
 ⟨h.os,h.tape,h.output,Nat.le_trans h.size (by simp[World.setRow]),fun k hk hr=>(setRow_other W B k _ (by omega)).trans (h.block k hk hr)⟩
def Jz (h:HV) (bs:By) (p q:Nat) (w:World) (e:Ending) (w':World):Prop:=
 e=.returned (.tuple #[.agg (hC (stepS h bs).1).toArray,.int .i64 (stepS h bs).2.1])∧Mem 62 w' p q (stepS h bs).2.2∧w.grownBy w' (some q)
theorem YT{h:HV}{w W1:World}{p q g:Nat}{bs:By}{old:Array Value}(hg:w.grownBy W1 (some q))(hM:Mem 62 W1 p q bs)(k0:W1.heap[g]? =some (.cells old 38 (0,0)))(hlen:(hC h).toArray.size=36)(hgw:w.heap.size≤g)
  (tmps:Array Value) (E:Int) (hp:tmps.getD 4 undef=.pointer (some ⟨g,0,none⟩)) (h5:tmps.getD 5 undef=.int .i64 E):
  bodyPost prog Tryz.f10 (fun e w'=>e=.returned (.tuple #[.agg (hC h).toArray,.int .i64 E])∧Mem 62 w' p q bs∧w.grownBy w' (some q)) Exit.ret {tmps:=tmps,defers:=[]} (W1.setRow g (hC h).toArray):=by
 have k2:=setRow_heap W1 g _ (hC h).toArray 38 _ k0
 have hpg:p≠g:=by
  rintro rfl
  have:=hM.1.symm.trans k0
  simp at this
 have hqg:q≠g:=by
  rintro rfl
  have:=hM.2.symm.trans k0
  simp at this
 refine bodyPost_ret (Z0P rfl _ _ g _ hp (Xz g _ _ _ _ k2 hlen)) rfl ⟨by rw[h5],⟨(setRow_other W1 g p _ hpg).trans hM.1,(setRow_other W1 g q _ hqg).trans hM.2⟩,?_⟩
 exact⟨hg.os,hg.tape,hg.output,Nat.le_trans hg.size (by simp[World.setRow]),fun k hk hr=>(setRow_other W1 g k _ (by omega)).trans (hg.block k hk hr)⟩
theorem X5(u:Int)(u0:0≤u)(u1:u<4294967296)(w:World):
  Calls prog 28 #[.int .u32 u] w fun e w'=>e=.returned (.tuple #[.agg (iC ((Xy u).getD z7)),.int .i64 (if (Xy u).isSome=true then 0 else 21)])∧Nb w w':=
 (Z5y u u0 u1 w).mono fun e w' ⟨h1,h2⟩=>⟨JX h1,h2⟩
theorem XR(x:Int):0≤IntKind.u32.wrap x∧IntKind.u32.wrap x<4294967296:=by rw[IntKind.wrap_u32];omega
theorem Y9{w:World}{B:Nat}{i:In7}(k:w.heap[B]? =some (.cells (iC i) 50 (0,0))):
  w.cell? ⟨B,0,none⟩=some (.int .i64 i.1)∧w.cell? ⟨B,1,none⟩=some (.int .i64 i.2.1)∧w.cell? ⟨B,2,none⟩=some (.int .i64 i.2.2.1)∧w.cell? ⟨B,3,none⟩=some (.int .i64 i.2.2.2.1):=
 ⟨cell_of_row _ _ _ _ _ _ k,cell_of_row _ _ _ _ _ _ k,cell_of_row _ _ _ _ _ _ k,cell_of_row _ _ _ _ _ _ k⟩
theorem Z5z(h:HV)(p q:Nat)(bs:By)(hh:HOk h)(hl:bs.length≤16777216)(hf:flt bs.length h.pc 4≠0)(w:World)(hM:Mem 62 w p q bs):
  Calls prog 10 #[.agg (hC h).toArray,.pointer (some ⟨p,0,none⟩)] w fun e w'=>e=.returned (.tuple #[.agg (hC h).toArray,.int .i64 (flt bs.length h.pc 4)])∧Mem 62 w' p q bs∧w.grownBy w' (some q):=by
 have hlen:=Lib.hid (show(hC h).toArray.size=36 by rw[List.size_toArray];exact Zv (by exact hh.len))
 have hone:=Lib.hid (Zu (ZI h))
 have hpc:=hh.pc
 have hMlt:=hM.lt
 have HLd:=fun w1 hm=>Y8 p q bs h.pc 4 hpc.1 hpc.2 hl w1 hm
 replace HLd:=Lib.hid HLd
 have hf':(flt bs.length h.pc 4 !=0)=true:=bne_iff_ne.2 hf
 clear hf
 go_enter func10,ntmps10
 go_upto_region 1 with(fail)
 obtain⟨W1,w1e⟩:∃W1,(w.alloc (Obj.cells (hC h).toArray 38)).alloc (Obj.cells Z8 38)=W1:=⟨_,rfl⟩
 have n1:Nb w W1:=by rw[←w1e];exact((Nb.refl _).alloc _).alloc _
 have hz1:w.heap.size+2≤W1.heap.size:=by rw[←w1e];simp
 have kH1:W1.heap[w.heap.size]? =some (.cells (hC h).toArray 38 (0,0)):=by rw[←w1e];exact Zo (Zd _ _ rfl) _
 have kZ1:W1.heap[w.heap.size+1]? =some (.cells Z8 38 (0,0)):=by rw[←w1e];exact Zd _ _ (by simp)
 change Code.wp _ _ _ _ ((w.alloc (Obj.cells (hC h).toArray 38)).alloc (Obj.cells Z8 38))
 rw[w1e]
 clear w1e
 go_upto_region 2 with(first
  |refine wpList_load_row rfl 38 (.tmp 2) rfl w.heap.size rfl 38 (hC h).toArray (0,0) _ kH1 underlying38 rfl (by rw[Zk,hlen.out]) ?_
  |refine wpList_store_row rfl 38 (.tmp 6) (.tmp 13) rfl W1.heap.size (hC h).toArray rfl rfl 38 Z8 (heap_alloc_new W1 _) (by rw[Zk,hlen.out]) (by rw[hlen.out];rfl) hone.out ?_)
 obtain⟨W2,w2e⟩:∃W2,(W1.alloc (Obj.cells Z8 38)).setRow W1.heap.size (hC h).toArray=W2:=⟨_,rfl⟩
 have m2:Nb W1 W2:=by rw[←w2e];exact((Nb.refl _).alloc _).setRow (Nat.le_refl _) _
 have kW2:W2.heap[W1.heap.size]? =some (.cells (hC h).toArray 38 (0,0)):=by rw[←w2e];exact setRow_heap _ _ _ _ _ _ (heap_alloc_new W1 _)
 change Code.wp _ _ _ _ ((W1.alloc (Obj.cells Z8 38)).setRow W1.heap.size (hC h).toArray)
 rw[w2e]
 clear w2e
 have kH2:=m2.block kH1
 have kZ2:=m2.block kZ1
 have n2:=n1.trans m2
 have hM2:=hM.nb n2
 clear kH1 kZ1 n1 m2
 obtain⟨cP,-⟩:=ZG kH2 (by exact hh.len)
 go_wp2_with fail
 refine(HLd.out _ hM2).mono ?_
 rintro e w'⟨rfl,rfl⟩
 clear HLd
 have gg:w.grownBy W2 (some q):=Nb.grown_none n2
 go_wp2_with (first
  |refine wpList_load_row rfl 38 (.tmp 6) rfl W1.heap.size rfl 38 (hC h).toArray (0,0) _ kW2 underlying38 rfl (by rw[Zk,hlen.out]) ?_
  |refine wpList_store_row rfl 38 (.tmp 4) (.tmp 23) rfl (w.heap.size+1) (hC h).toArray rfl rfl 38 _ kZ2 (by rw[Zk,hlen.out]) (by rw[hlen.out];rfl) hone.out ?_)
 exact YT gg hM2 kZ2 hlen.out (by omega) _ _ rfl rfl
theorem Z5A(h:HV)(p q:Nat)(bs:By)(hh:HOk h)(hl:bs.length≤16777216)(hf:flt bs.length h.pc 4=0)(hd:Xy (IntKind.u32.wrap (ldV bs h.pc 4))=none)(w:World)(hM:Mem 62 w p q bs):
  Calls prog 10 #[.agg (hC h).toArray,.pointer (some ⟨p,0,none⟩)] w fun e w'=>e=.returned (.tuple #[.agg (hC h).toArray,.int .i64 (21)])∧Mem 62 w' p q bs∧w.grownBy w' (some q):=by
 have hlen:=Lib.hid (show(hC h).toArray.size=36 by rw[List.size_toArray];exact Zv (by exact hh.len))
 have hone:=Lib.hid (Zu (ZI h))
 have hpc:=hh.pc
 have hMlt:=hM.lt
 have HLd:=fun w1 hm=>Y8 p q bs h.pc 4 hpc.1 hpc.2 hl w1 hm
 rw[hf] at HLd
 replace HLd:=Lib.hid HLd
 have hu:=XR (ldV bs h.pc 4)
 have HD:=fun w1=>X5 _ hu.1 hu.2 w1
 have hvi:=Yl bs h.pc 4
 rw[hd] at HD
 replace HD:=Lib.hid (show ∀w1,Calls prog 28 #[.int .u32 (IntKind.u32.wrap (ldV bs h.pc 4))] w1 fun e w'=>e=.returned (.tuple #[.agg (iC z7),.int .i64 21])∧Nb w1 w' from HD)
 generalize z7=i at*
 clear hd hf
 go_enter func10,ntmps10
 go_upto_region 1 with(fail)
 obtain⟨W1,w1e⟩:∃W1,(w.alloc (Obj.cells (hC h).toArray 38)).alloc (Obj.cells Z8 38)=W1:=⟨_,rfl⟩
 have n1:Nb w W1:=by rw[←w1e];exact((Nb.refl _).alloc _).alloc _
 have hz1:w.heap.size+2≤W1.heap.size:=by rw[←w1e];simp
 have kH1:W1.heap[w.heap.size]? =some (.cells (hC h).toArray 38 (0,0)):=by rw[←w1e];exact Zo (Zd _ _ rfl) _
 have kZ1:W1.heap[w.heap.size+1]? =some (.cells Z8 38 (0,0)):=by rw[←w1e];exact Zd _ _ (by simp)
 change Code.wp _ _ _ _ ((w.alloc (Obj.cells (hC h).toArray 38)).alloc (Obj.cells Z8 38))
 rw[w1e]
 clear w1e
 go_upto_region 2 with(first
  |refine wpList_load_row rfl 38 (.tmp 2) rfl w.heap.size rfl 38 (hC h).toArray (0,0) _ kH1 underlying38 rfl (by rw[Zk,hlen.out]) ?_
  |refine wpList_store_row rfl 38 (.tmp 6) (.tmp 13) rfl W1.heap.size (hC h).toArray rfl rfl 38 Z8 (heap_alloc_new W1 _) (by rw[Zk,hlen.out]) (by rw[hlen.out];rfl) hone.out ?_)
 obtain⟨W2,w2e⟩:∃W2,(W1.alloc (Obj.cells Z8 38)).setRow W1.heap.size (hC h).toArray=W2:=⟨_,rfl⟩
 have m2:Nb W1 W2:=by rw[←w2e];exact((Nb.refl _).alloc _).setRow (Nat.le_refl _) _
 have kW2:W2.heap[W1.heap.size]? =some (.cells (hC h).toArray 38 (0,0)):=by rw[←w2e];exact setRow_heap _ _ _ _ _ _ (heap_alloc_new W1 _)
 change Code.wp _ _ _ _ ((W1.alloc (Obj.cells Z8 38)).setRow W1.heap.size (hC h).toArray)
 rw[w2e]
 clear w2e
 have kH2:=m2.block kH1
 have kZ2:=m2.block kZ1
 have n2:=n1.trans m2
 have hM2:=hM.nb n2
 clear kH1 kZ1 n1 m2
 obtain⟨cP,-⟩:=ZG kH2 (by exact hh.len)
 go_wp2_with fail
 refine(HLd.out _ hM2).mono ?_
 rintro e w'⟨rfl,rfl⟩
 clear HLd
 go_wp2_with fail
 refine(HD.out _).mono ?_
 rintro e w3⟨rfl,m3⟩
 go_upto_region 6 with(refine wpList_store_row rfl 50 (.tmp 9) (.tmp 29) rfl w3.heap.size (iC i) rfl rfl 50 _ (heap_alloc_new w3 _) (by rw[X3,Yp]) rfl (Xa i) ?_)
 obtain⟨W4,w4e⟩:∃W4,(w3.alloc (Obj.cells #[.int .i64 0,.int .i64 0,.int .i64 0,.int .i64 0,.int .i64 0,.bool false,.bool false] 50)).setRow w3.heap.size (iC i)=W4:=⟨_,rfl⟩
 have m4:Nb w3 W4:=by rw[←w4e];exact((Nb.refl _).alloc _).setRow (Nat.le_refl _) _
 have kI4:W4.heap[w3.heap.size]? =some (.cells (iC i) 50 (0,0)):=by rw[←w4e];exact setRow_heap _ _ _ _ _ _ (heap_alloc_new w3 _)
 change Code.wp _ _ _ _ ((w3.alloc (Obj.cells #[.int .i64 0,.int .i64 0,.int .i64 0,.int .i64 0,.int .i64 0,.bool false,.bool false] 50)).setRow w3.heap.size (iC i))
 rw[w4e]
 clear w4e
 have hz3:=m3.size
 have m34:=m3.trans m4
 have kH4:=m34.block kH2
 have kZ4:=m34.block kZ2
 have kW4:=m34.block kW2
 have n4:=n2.trans m34
 have hM4:=hM.nb n4
 have hzw:=Zf kW2
 clear kH2 kZ2 kW2 n2 m3 m4 m34 hM2 HD cP
 obtain⟨cP,-⟩:=ZG kH4 (by exact hh.len)
 obtain⟨c0,c1,c2,c3⟩:=Y9 kI4
 have gg:w.grownBy W4 (some q):=Nb.grown_none n4
 go_wp2_with (first
  |refine wpList_load_row rfl 38 (.tmp 6) rfl W1.heap.size rfl 38 (hC h).toArray (0,0) _ kW4 underlying38 rfl (by rw[Zk,hlen.out]) ?_
  |refine wpList_store_row rfl 38 (.tmp 4) (.tmp 33) rfl (w.heap.size+1) (hC h).toArray rfl rfl 38 _ kZ4 (by rw[Zk,hlen.out]) (by rw[hlen.out];rfl) hone.out ?_)
 exact YT gg hM4 kZ4 hlen.out (by omega) _ _ rfl rfl
theorem Z2k(h:HV)(p q:Nat)(bs:By)(hh:HOk h)(hl:bs.length≤16777216)(i:In7)(hf:flt bs.length h.pc 4=0)(hd:Xy (IntKind.u32.wrap (ldV bs h.pc 4))=some i)(ho:(i.1==51)=true)(w:World)(hM:Mem 62 w p q bs):
  Calls prog 10 #[.agg (hC h).toArray,.pointer (some ⟨p,0,none⟩)] w fun e w'=>e=.returned (.tuple #[.agg (hC h).toArray,.int .i64 (60)])∧Mem 62 w' p q bs∧w.grownBy w' (some q):=by
 have hlen:=Lib.hid (show(hC h).toArray.size=36 by rw[List.size_toArray];exact Zv (by exact hh.len))
 have hone:=Lib.hid (Zu (ZI h))
 have hpc:=hh.pc
 have hMlt:=hM.lt
 have HLd:=fun w1 hm=>Y8 p q bs h.pc 4 hpc.1 hpc.2 hl w1 hm
 rw[hf] at HLd
 replace HLd:=Lib.hid HLd
 have hu:=XR (ldV bs h.pc 4)
 have HD:=fun w1=>X5 _ hu.1 hu.2 w1
 have hvi:=Yl bs h.pc 4
 rw[hd] at HD
 replace HD:=Lib.hid (show ∀w1,Calls prog 28 #[.int .u32 (IntKind.u32.wrap (ldV bs h.pc 4))] w1 fun e w'=>e=.returned (.tuple #[.agg (iC i),.int .i64 0])∧Nb w1 w' from HD)
 clear hd hf
 go_enter func10,ntmps10
 go_upto_region 1 with(fail)
 obtain⟨W1,w1e⟩:∃W1,(w.alloc (Obj.cells (hC h).toArray 38)).alloc (Obj.cells Z8 38)=W1:=⟨_,rfl⟩
 have n1:Nb w W1:=by rw[←w1e];exact((Nb.refl _).alloc _).alloc _
 have hz1:w.heap.size+2≤W1.heap.size:=by rw[←w1e];simp
 have kH1:W1.heap[w.heap.size]? =some (.cells (hC h).toArray 38 (0,0)):=by rw[←w1e];exact Zo (Zd _ _ rfl) _
 have kZ1:W1.heap[w.heap.size+1]? =some (.cells Z8 38 (0,0)):=by rw[←w1e];exact Zd _ _ (by simp)
 change Code.wp _ _ _ _ ((w.alloc (Obj.cells (hC h).toArray 38)).alloc (Obj.cells Z8 38))
 rw[w1e]
 clear w1e
 go_upto_region 2 with(first
  |refine wpList_load_row rfl 38 (.tmp 2) rfl w.heap.size rfl 38 (hC h).toArray (0,0) _ kH1 underlying38 rfl (by rw[Zk,hlen.out]) ?_
  |refine wpList_store_row rfl 38 (.tmp 6) (.tmp 13) rfl W1.heap.size (hC h).toArray rfl rfl 38 Z8 (heap_alloc_new W1 _) (by rw[Zk,hlen.out]) (by rw[hlen.out];rfl) hone.out ?_)
 obtain⟨W2,w2e⟩:∃W2,(W1.alloc (Obj.cells Z8 38)).setRow W1.heap.size (hC h).toArray=W2:=⟨_,rfl⟩
 have m2:Nb W1 W2:=by rw[←w2e];exact((Nb.refl _).alloc _).setRow (Nat.le_refl _) _
 have kW2:W2.heap[W1.heap.size]? =some (.cells (hC h).toArray 38 (0,0)):=by rw[←w2e];exact setRow_heap _ _ _ _ _ _ (heap_alloc_new W1 _)
 change Code.wp _ _ _ _ ((W1.alloc (Obj.cells Z8 38)).setRow W1.heap.size (hC h).toArray)
 rw[w2e]
 clear w2e
 have kH2:=m2.block kH1
 have kZ2:=m2.block kZ1
 have n2:=n1.trans m2
 have hM2:=hM.nb n2
 clear kH1 kZ1 n1 m2
 obtain⟨cP,-⟩:=ZG kH2 (by exact hh.len)
 go_wp2_with fail
 refine(HLd.out _ hM2).mono ?_
 rintro e w'⟨rfl,rfl⟩
 clear HLd
 go_wp2_with fail
 refine(HD.out _).mono ?_
 rintro e w3⟨rfl,m3⟩
 go_upto_region 6 with(refine wpList_store_row rfl 50 (.tmp 9) (.tmp 29) rfl w3.heap.size (iC i) rfl rfl 50 _ (heap_alloc_new w3 _) (by rw[X3,Yp]) rfl (Xa i) ?_)
 obtain⟨W4,w4e⟩:∃W4,(w3.alloc (Obj.cells #[.int .i64 0,.int .i64 0,.int .i64 0,.int .i64 0,.int .i64 0,.bool false,.bool false] 50)).setRow w3.heap.size (iC i)=W4:=⟨_,rfl⟩
 have m4:Nb w3 W4:=by rw[←w4e];exact((Nb.refl _).alloc _).setRow (Nat.le_refl _) _
 have kI4:W4.heap[w3.heap.size]? =some (.cells (iC i) 50 (0,0)):=by rw[←w4e];exact setRow_heap _ _ _ _ _ _ (heap_alloc_new w3 _)
 change Code.wp _ _ _ _ ((w3.alloc (Obj.cells #[.int .i64 0,.int .i64 0,.int .i64 0,.int .i64 0,.int .i64 0,.bool false,.bool false] 50)).setRow w3.heap.size (iC i))
 rw[w4e]
 clear w4e
 have hz3:=m3.size
 have m34:=m3.trans m4
 have kH4:=m34.block kH2
 have kZ4:=m34.block kZ2
 have kW4:=m34.block kW2
 have n4:=n2.trans m34
 have hM4:=hM.nb n4
 have hzw:=Zf kW2
 clear kH2 kZ2 kW2 n2 m3 m4 m34 hM2 HD cP
 obtain⟨cP,-⟩:=ZG kH4 (by exact hh.len)
 obtain⟨c0,c1,c2,c3⟩:=Y9 kI4
 have gg:w.grownBy W4 (some q):=Nb.grown_none n4
 go_wp2_with (first
  |refine wpList_load_row rfl 38 (.tmp 6) rfl W1.heap.size rfl 38 (hC h).toArray (0,0) _ kW4 underlying38 rfl (by rw[Zk,hlen.out]) ?_
  |refine wpList_store_row rfl 38 (.tmp 4) (.tmp 42) rfl (w.heap.size+1) (hC h).toArray rfl rfl 38 _ kZ4 (by rw[Zk,hlen.out]) (by rw[hlen.out];rfl) hone.out ?_)
 exact YT gg hM4 kZ4 hlen.out (by omega) _ _ rfl rfl
theorem Z2l(h:HV)(p q:Nat)(bs:By)(hh:HOk h)(hl:bs.length≤16777216)(i:In7)(hf:flt bs.length h.pc 4=0)(hd:Xy (IntKind.u32.wrap (ldV bs h.pc 4))=some i)(ho:(i.1==51)=false)(ho2:(i.1==52)=true)(w:World)(hM:Mem 62 w p q bs):
  Calls prog 10 #[.agg (hC h).toArray,.pointer (some ⟨p,0,none⟩)] w fun e w'=>e=.returned (.tuple #[.agg (hC h).toArray,.int .i64 (60)])∧Mem 62 w' p q bs∧w.grownBy w' (some q):=by
 have hlen:=Lib.hid (show(hC h).toArray.size=36 by rw[List.size_toArray];exact Zv (by exact hh.len))
 have hone:=Lib.hid (Zu (ZI h))
 have hpc:=hh.pc
 have hMlt:=hM.lt
 have HLd:=fun w1 hm=>Y8 p q bs h.pc 4 hpc.1 hpc.2 hl w1 hm
 rw[hf] at HLd
 replace HLd:=Lib.hid HLd
 have hu:=XR (ldV bs h.pc 4)
 have HD:=fun w1=>X5 _ hu.1 hu.2 w1
 have hvi:=Yl bs h.pc 4
 rw[hd] at HD
 replace HD:=Lib.hid (show ∀w1,Calls prog 28 #[.int .u32 (IntKind.u32.wrap (ldV bs h.pc 4))] w1 fun e w'=>e=.returned (.tuple #[.agg (iC i),.int .i64 0])∧Nb w1 w' from HD)
 clear hd hf
 go_enter func10,ntmps10
 go_upto_region 1 with(fail)
 obtain⟨W1,w1e⟩:∃W1,(w.alloc (Obj.cells (hC h).toArray 38)).alloc (Obj.cells Z8 38)=W1:=⟨_,rfl⟩
 have n1:Nb w W1:=by rw[←w1e];exact((Nb.refl _).alloc _).alloc _
 have hz1:w.heap.size+2≤W1.heap.size:=by rw[←w1e];simp
 have kH1:W1.heap[w.heap.size]? =some (.cells (hC h).toArray 38 (0,0)):=by rw[←w1e];exact Zo (Zd _ _ rfl) _
 have kZ1:W1.heap[w.heap.size+1]? =some (.cells Z8 38 (0,0)):=by rw[←w1e];exact Zd _ _ (by simp)
 change Code.wp _ _ _ _ ((w.alloc (Obj.cells (hC h).toArray 38)).alloc (Obj.cells Z8 38))
 rw[w1e]
 clear w1e
 go_upto_region 2 with(first
  |refine wpList_load_row rfl 38 (.tmp 2) rfl w.heap.size rfl 38 (hC h).toArray (0,0) _ kH1 underlying38 rfl (by rw[Zk,hlen.out]) ?_
  |refine wpList_store_row rfl 38 (.tmp 6) (.tmp 13) rfl W1.heap.size (hC h).toArray rfl rfl 38 Z8 (heap_alloc_new W1 _) (by rw[Zk,hlen.out]) (by rw[hlen.out];rfl) hone.out ?_)
 obtain⟨W2,w2e⟩:∃W2,(W1.alloc (Obj.cells Z8 38)).setRow W1.heap.size (hC h).toArray=W2:=⟨_,rfl⟩
 have m2:Nb W1 W2:=by rw[←w2e];exact((Nb.refl _).alloc _).setRow (Nat.le_refl _) _
 have kW2:W2.heap[W1.heap.size]? =some (.cells (hC h).toArray 38 (0,0)):=by rw[←w2e];exact setRow_heap _ _ _ _ _ _ (heap_alloc_new W1 _)
 change Code.wp _ _ _ _ ((W1.alloc (Obj.cells Z8 38)).setRow W1.heap.size (hC h).toArray)
 rw[w2e]
 clear w2e
 have kH2:=m2.block kH1
 have kZ2:=m2.block kZ1
 have n2:=n1.trans m2
 have hM2:=hM.nb n2
 clear kH1 kZ1 n1 m2
 obtain⟨cP,-⟩:=ZG kH2 (by exact hh.len)
 go_wp2_with fail
 refine(HLd.out _ hM2).mono ?_
 rintro e w'⟨rfl,rfl⟩
 clear HLd
 go_wp2_with fail
 refine(HD.out _).mono ?_
 rintro e w3⟨rfl,m3⟩
 go_upto_region 6 with(refine wpList_store_row rfl 50 (.tmp 9) (.tmp 29) rfl w3.heap.size (iC i) rfl rfl 50 _ (heap_alloc_new w3 _) (by rw[X3,Yp]) rfl (Xa i) ?_)
 obtain⟨W4,w4e⟩:∃W4,(w3.alloc (Obj.cells #[.int .i64 0,.int .i64 0,.int .i64 0,.int .i64 0,.int .i64 0,.bool false,.bool false] 50)).setRow w3.heap.size (iC i)=W4:=⟨_,rfl⟩
 have m4:Nb w3 W4:=by rw[←w4e];exact((Nb.refl _).alloc _).setRow (Nat.le_refl _) _
 have kI4:W4.heap[w3.heap.size]? =some (.cells (iC i) 50 (0,0)):=by rw[←w4e];exact setRow_heap _ _ _ _ _ _ (heap_alloc_new w3 _)
 change Code.wp _ _ _ _ ((w3.alloc (Obj.cells #[.int .i64 0,.int .i64 0,.int .i64 0,.int .i64 0,.int .i64 0,.bool false,.bool false] 50)).setRow w3.heap.size (iC i))
 rw[w4e]
 clear w4e
 have hz3:=m3.size
 have m34:=m3.trans m4
 have kH4:=m34.block kH2
 have kZ4:=m34.block kZ2
 have kW4:=m34.block kW2
 have n4:=n2.trans m34
 have hM4:=hM.nb n4
 have hzw:=Zf kW2
 clear kH2 kZ2 kW2 n2 m3 m4 m34 hM2 HD cP
 obtain⟨cP,-⟩:=ZG kH4 (by exact hh.len)
 obtain⟨c0,c1,c2,c3⟩:=Y9 kI4
 have gg:w.grownBy W4 (some q):=Nb.grown_none n4
 go_wp2_with (first
  |refine wpList_load_row rfl 38 (.tmp 6) rfl W1.heap.size rfl 38 (hC h).toArray (0,0) _ kW4 underlying38 rfl (by rw[Zk,hlen.out]) ?_
  |refine wpList_store_row rfl 38 (.tmp 4) (.tmp 42) rfl (w.heap.size+1) (hC h).toArray rfl rfl 38 _ kZ4 (by rw[Zk,hlen.out]) (by rw[hlen.out];rfl) hone.out ?_)
 exact YT gg hM4 kZ4 hlen.out (by omega) _ _ rfl rfl
theorem Z8j(h:HV)(p q:Nat)(bs:By)(hh:HOk h)(hl:bs.length≤16777216)(i:In7)(E:Int)(H1:HV)(V1:Int)(hf:flt bs.length h.pc 4=0)(hd:Xy (IntKind.u32.wrap (ldV bs h.pc 4))=some i)(ho:(i.1==51)=false)(ho2:(i.1==52)=false)(hr:(0≤i.2.1∧i.2.1<32)∧(0≤i.2.2.1∧i.2.2.1<32)∧(0≤i.2.2.2.1∧i.2.2.2.1<32))(hs:0<Za i.1)(hE:E≠0)(HT:∀w1,Mem 62 w1 p q bs→Calls prog 31 #[.agg (hC h).toArray,.pointer (some ⟨p,0,none⟩),.agg (iC i),.int .u64 (rg h.x i.2.2.2.1.toNat)] w1 (Kx V1 H1 E bs p q w1))(hk1:H1.x.length=32)(w:World)(hM:Mem 62 w p q bs):
  Calls prog 10 #[.agg (hC h).toArray,.pointer (some ⟨p,0,none⟩)] w fun e w'=>e=.returned (.tuple #[.agg (hC h).toArray,.int .i64 (E)])∧Mem 62 w' p q bs∧w.grownBy w' (some q):=by
 have hlen:=Lib.hid (show(hC h).toArray.size=36 by rw[List.size_toArray];exact Zv (by exact hh.len))
 have hone:=Lib.hid (Zu (ZI h))
 have hpc:=hh.pc
 have hMlt:=hM.lt
 have HLd:=fun w1 hm=>Y8 p q bs h.pc 4 hpc.1 hpc.2 hl w1 hm
 rw[hf] at HLd
 replace HLd:=Lib.hid HLd
 have hu:=XR (ldV bs h.pc 4)
 have HD:=fun w1=>X5 _ hu.1 hu.2 w1
 have hvi:=Yl bs h.pc 4
 replace HT:=Lib.hid HT
 unfold Kx at HT
 have hE':(E !=0)=true:=bne_iff_ne.2 hE
 have hlen1:=Lib.hid (show(hC H1).toArray.size=36 by rw[List.size_toArray];exact Zv hk1)
 have hone1:=Lib.hid (Zu (ZI H1))
 clear hE hk1
 rw[hd] at HD
 replace HD:=Lib.hid (show ∀w1,Calls prog 28 #[.int .u32 (IntKind.u32.wrap (ldV bs h.pc 4))] w1 fun e w'=>e=.returned (.tuple #[.agg (iC i),.int .i64 0])∧Nb w1 w' from HD)
 have HR1:=Lib.hid fun w1=>YM h hh.len i.2.2.1 hr.2.1.1 hr.2.1.2 w1
 have HR2:=Lib.hid fun w1=>YM h hh.len i.2.2.2.1 hr.2.2.1 hr.2.2.2 w1
 have HZ:=Lib.hid (YK i.1)
 have q1:=YO hh.x i.2.2.1.toNat
 have q2:=YO hh.x i.2.2.2.1.toNat
 generalize rg h.x i.2.2.1.toNat=a at*
 generalize rg h.x i.2.2.2.1.toNat=b at*
 clear hd hf
 go_enter func10,ntmps10
 go_upto_region 1 with(fail)
 obtain⟨W1,w1e⟩:∃W1,(w.alloc (Obj.cells (hC h).toArray 38)).alloc (Obj.cells Z8 38)=W1:=⟨_,rfl⟩
 have n1:Nb w W1:=by rw[←w1e];exact((Nb.refl _).alloc _).alloc _
 have hz1:w.heap.size+2≤W1.heap.size:=by rw[←w1e];simp
 have kH1:W1.heap[w.heap.size]? =some (.cells (hC h).toArray 38 (0,0)):=by rw[←w1e];exact Zo (Zd _ _ rfl) _
 have kZ1:W1.heap[w.heap.size+1]? =some (.cells Z8 38 (0,0)):=by rw[←w1e];exact Zd _ _ (by simp)
 change Code.wp _ _ _ _ ((w.alloc (Obj.cells (hC h).toArray 38)).alloc (Obj.cells Z8 38))
 rw[w1e]
 clear w1e
 go_upto_region 2 with(first
  |refine wpList_load_row rfl 38 (.tmp 2) rfl w.heap.size rfl 38 (hC h).toArray (0,0) _ kH1 underlying38 rfl (by rw[Zk,hlen.out]) ?_
  |refine wpList_store_row rfl 38 (.tmp 6) (.tmp 13) rfl W1.heap.size (hC h).toArray rfl rfl 38 Z8 (heap_alloc_new W1 _) (by rw[Zk,hlen.out]) (by rw[hlen.out];rfl) hone.out ?_)
 obtain⟨W2,w2e⟩:∃W2,(W1.alloc (Obj.cells Z8 38)).setRow W1.heap.size (hC h).toArray=W2:=⟨_,rfl⟩
 have m2:Nb W1 W2:=by rw[←w2e];exact((Nb.refl _).alloc _).setRow (Nat.le_refl _) _
 have kW2:W2.heap[W1.heap.size]? =some (.cells (hC h).toArray 38 (0,0)):=by rw[←w2e];exact setRow_heap _ _ _ _ _ _ (heap_alloc_new W1 _)
 change Code.wp _ _ _ _ ((W1.alloc (Obj.cells Z8 38)).setRow W1.heap.size (hC h).toArray)
 rw[w2e]
 clear w2e
 have kH2:=m2.block kH1
 have kZ2:=m2.block kZ1
 have n2:=n1.trans m2
 have hM2:=hM.nb n2
 clear kH1 kZ1 n1 m2
 obtain⟨cP,-⟩:=ZG kH2 (by exact hh.len)
 go_wp2_with fail
 refine(HLd.out _ hM2).mono ?_
 rintro e w'⟨rfl,rfl⟩
 clear HLd
 go_wp2_with fail
 refine(HD.out _).mono ?_
 rintro e w3⟨rfl,m3⟩
 go_upto_region 6 with(refine wpList_store_row rfl 50 (.tmp 9) (.tmp 29) rfl w3.heap.size (iC i) rfl rfl 50 _ (heap_alloc_new w3 _) (by rw[X3,Yp]) rfl (Xa i) ?_)
 obtain⟨W4,w4e⟩:∃W4,(w3.alloc (Obj.cells #[.int .i64 0,.int .i64 0,.int .i64 0,.int .i64 0,.int .i64 0,.bool false,.bool false] 50)).setRow w3.heap.size (iC i)=W4:=⟨_,rfl⟩
 have m4:Nb w3 W4:=by rw[←w4e];exact((Nb.refl _).alloc _).setRow (Nat.le_refl _) _
 have kI4:W4.heap[w3.heap.size]? =some (.cells (iC i) 50 (0,0)):=by rw[←w4e];exact setRow_heap _ _ _ _ _ _ (heap_alloc_new w3 _)
 change Code.wp _ _ _ _ ((w3.alloc (Obj.cells #[.int .i64 0,.int .i64 0,.int .i64 0,.int .i64 0,.int .i64 0,.bool false,.bool false] 50)).setRow w3.heap.size (iC i))
 rw[w4e]
 clear w4e
 have hz3:=m3.size
 have m34:=m3.trans m4
 have kH4:=m34.block kH2
 have kZ4:=m34.block kZ2
 have kW4:=m34.block kW2
 have n4:=n2.trans m34
 have hM4:=hM.nb n4
 have hzw:=Zf kW2
 clear kH2 kZ2 kW2 n2 m3 m4 m34 hM2 HD cP
 obtain⟨cP,-⟩:=ZG kH4 (by exact hh.len)
 obtain⟨c0,c1,c2,c3⟩:=Y9 kI4
 go_wp2_with (first|refine wpList_load_row rfl 38 (.tmp 2) rfl w.heap.size rfl 38 (hC h).toArray (0,0) _ kH4 underlying38 rfl (by rw[Zk,hlen.out]) ?_)
 refine(HR1.out _).mono ?_
 rintro e w5⟨rfl,m5⟩
 have kH5:=m5.block kH4
 have kI5:=m5.block kI4
 have kZ5:=m5.block kZ4
 have kW5:=m5.block kW4
 have n5:=n4.trans m5
 have hz5:=m5.size
 have hzi:=Zf kI4
 clear kH4 kI4 kZ4 kW4 n4 m5 hM4 cP c0 c1 c2 c3 HR1
 obtain⟨c0,c1,c2,c3⟩:=Y9 kI5
 go_wp2_with (first|refine wpList_load_row rfl 38 (.tmp 2) rfl w.heap.size rfl 38 (hC h).toArray (0,0) _ kH5 underlying38 rfl (by rw[Zk,hlen.out]) ?_)
 refine(HR2.out _).mono ?_
 rintro e w6⟨rfl,m6⟩
 have kH6:=m6.block kH5
 have kI6:=m6.block kI5
 have kZ6:=m6.block kZ5
 have kW6:=m6.block kW5
 have n6:=n5.trans m6
 have hz6:=m6.size
 have hM6:=hM.nb n6
 clear kH5 kI5 kZ5 kW5 n5 m6 c0 c1 c2 c3 HR2
 obtain⟨c0,c1,c2,c3⟩:=Y9 kI6
 obtain⟨cP,-⟩:=ZG kH6 (by exact hh.len)
 go_wp2_with fail
 refine(HZ.out _).mono ?_
 rintro e w'⟨rfl,rfl⟩
 clear HZ
 go_wp2_with (first
  |refine wpList_load_row rfl 38 (.tmp 2) rfl w.heap.size rfl 38 (hC h).toArray (0,0) _ kH6 underlying38 rfl (by rw[Zk,hlen.out]) ?_
  |refine Y0 rfl 50 (.tmp 9) rfl ⟨w3.heap.size,0,none⟩ rfl _ (ld7 _ _ _ _ _ kI6) ?_)
 refine(HT.out _ hM6).mono ?_
 rintro e w7⟨rfl,hM7,g7⟩
 have kH7:=(g7.block _ (Zf kH6) (by intro e;injection e with e;omega)).trans kH6
 have kI7:=(g7.block _ (Zf kI6) (by intro e;injection e with e;omega)).trans kI6
 have kZ7:=(g7.block _ (Zf kZ6) (by intro e;injection e with e;omega)).trans kZ6
 have kW7:=(g7.block _ (Zf kW6) (by intro e;injection e with e;omega)).trans kW6
 have g8:=Zx n6 g7
 clear HT kH6 kI6 kZ6 kW6 hM6 n6 g7
 go_upto_region 15 with(first
  |refine wpList_store_row rfl 38 (.tmp 2) (.tmp 62) rfl w.heap.size (hC H1).toArray rfl rfl 38 _ kH7 (by rw[Zk,hlen1.out]) (by rw[hlen1.out,hlen.out]) hone1.out ?_)
 obtain⟨W8,w8e⟩:∃W8,w7.setRow w.heap.size (hC H1).toArray=W8:=⟨_,rfl⟩
 have oth:∀j,j≠w.heap.size→W8.heap[j]? =w7.heap[j]? :=fun j hj=>by rw[←w8e];exact setRow_other w7 _ j _ hj
 have gg:w.grownBy W8 (some q):=by
  rw[←w8e]
  exact Z2j g8 (Nat.le_refl _) _
 rw[w8e]
 clear w8e
 have kZ8:=(oth _ (by omega)).trans kZ7
 have kW8:=(oth _ (by omega)).trans kW7
 have hM8:Mem 62 W8 p q bs:=⟨(oth _ (by omega)).trans hM7.1,(oth _ (by omega)).trans hM7.2⟩
 clear kH7 kI7 kZ7 kW7 hM7 g8 oth cP c0 c1 c2 c3
 go_wp2_with (first
  |refine wpList_load_row rfl 38 (.tmp 6) rfl W1.heap.size rfl 38 (hC h).toArray (0,0) _ kW8 underlying38 rfl (by rw[Zk,hlen.out]) ?_
  |refine wpList_store_row rfl 38 (.tmp 4) (.tmp 66) rfl (w.heap.size+1) (hC h).toArray rfl rfl 38 _ kZ8 (by rw[Zk,hlen.out]) (by rw[hlen.out];rfl) hone.out ?_)
 exact YT gg hM8 kZ8 hlen.out (by omega) _ _ rfl rfl
theorem Kt(h:HV)(r:Nat)(v:Int)(k:h.x.length=32)(hr:r<32):(hC h).toArray.setIfInBounds (1+r) (.int .u64 v)=(hC {h with x:=h.x.set r v}).toArray:=by
 have hx:(xV h.x).length=32:=by rw[YW];exact k
 unfold hC
 apply Array.ext'
 rw[Nat.add_comm]
 simp[List.set_append,hx,hr,Z0s]
theorem Yt{w:World}{B:Nat}{i:In7}(k:w.heap[B]? =some (.cells (iC i) 50 (0,0))):
  w.cell? ⟨B,0,none⟩=some (.int .i64 i.1)∧w.cell? ⟨B,1,none⟩=some (.int .i64 i.2.1)∧w.cell? ⟨B,2,none⟩=some (.int .i64 i.2.2.1)∧w.cell? ⟨B,3,none⟩=some (.int .i64 i.2.2.2.1)∧w.cell? ⟨B,4,none⟩=some (.int .i64 i.2.2.2.2.1)∧w.cell? ⟨B,5,none⟩=some (.bool i.2.2.2.2.2.1)∧w.cell? ⟨B,6,none⟩=some (.bool i.2.2.2.2.2.2):=
 ⟨cell_of_row _ _ _ _ _ _ k,cell_of_row _ _ _ _ _ _ k,cell_of_row _ _ _ _ _ _ k,cell_of_row _ _ _ _ _ _ k,cell_of_row _ _ _ _ _ _ k,cell_of_row _ _ _ _ _ _ k,cell_of_row _ _ _ _ _ _ k⟩
theorem Z2m(h:HV)(p q:Nat)(bs:By)(hh:HOk h)(hl:bs.length≤16777216)(i:In7)(V P:Int)(hf:flt bs.length h.pc 4=0)(hd:Xy (IntKind.u32.wrap (ldV bs h.pc 4))=some i)(ho:(i.1==51)=false)(ho2:(i.1==52)=false)(hr:(0≤i.2.1∧i.2.1<32)∧(0≤i.2.2.1∧i.2.2.1<32)∧(0≤i.2.2.2.1∧i.2.2.2.1<32))(H1:HV)(bs2:By)(hs:0<Za i.1)(HT:∀w1,Mem 62 w1 p q bs→Calls prog 31 #[.agg (hC h).toArray,.pointer (some ⟨p,0,none⟩),.agg (iC i),.int .u64 (rg h.x i.2.2.2.1.toNat)] w1 (Kx V H1 0 bs2 p q w1))(hp1:H1.pc=h.pc)(hx1:H1.x=h.x)(h10:10<i.1)(HTg:∀w1,Calls prog 34 #[.agg (iC i),.int .u64 h.pc,.int .u64 (rg h.x i.2.2.1.toNat)] w1 fun e w'=>e=.returned (.int .u64 P)∧Nb w1 w')(w:World)(hM:Mem 62 w p q bs):
  Calls prog 10 #[.agg (hC h).toArray,.pointer (some ⟨p,0,none⟩)] w fun e w'=>e=.returned (.tuple #[.agg (hC {H1 with pc:=P,x:=(h.x.set i.2.1.toNat V).set 0 0}).toArray,.int .i64 (0)])∧Mem 62 w' p q bs2∧w.grownBy w' (some q):=by
 have hlen:=Lib.hid (show(hC h).toArray.size=36 by rw[List.size_toArray];exact Zv (by exact hh.len))
 have hone:=Lib.hid (Zu (ZI h))
 have hpc:=hh.pc
 have hMlt:=hM.lt
 have HLd:=fun w1 hm=>Y8 p q bs h.pc 4 hpc.1 hpc.2 hl w1 hm
 rw[hf] at HLd
 replace HLd:=Lib.hid HLd
 have hu:=XR (ldV bs h.pc 4)
 have HD:=fun w1=>X5 _ hu.1 hu.2 w1
 have hvi:=Yl bs h.pc 4
 replace HT:=Lib.hid HT
 unfold Kx at HT
 have hk1:=Lib.hid (show H1.x.length=32 by rw[hx1];exact hh.len)
 have hlen1:=Lib.hid (show(hC H1).toArray.size=36 by rw[List.size_toArray];exact Zv hk1.out)
 have hone1:=Lib.hid (Zu (ZI H1))
 have hp1':=Lib.hid hp1
 have hx1':=Lib.hid hx1
 clear hp1 hx1
 replace HTg:=Lib.hid HTg
 obtain⟨rd,hrd,hrd2⟩:∃rd:Nat,i.2.1=(rd:Int)∧rd<32:=⟨i.2.1.toNat,by omega,by omega⟩
 have hrd':=Lib.hid hrd
 have hlenF:=Lib.hid (show(hC {H1 with pc:=P,x:=(h.x.set i.2.1.toNat V).set 0 0}).toArray.size=36 by rw[List.size_toArray];exact Zv (by show((h.x.set i.2.1.toNat V).set 0 0).length=32;rw[List.length_set,List.length_set];exact hh.len))
 have honeF:=Lib.hid (Zu (ZI {H1 with pc:=P,x:=(h.x.set i.2.1.toNat V).set 0 0}))
 have eF:(h.x.set i.2.1.toNat V).set 0 0=(h.x.set rd V).set 0 0:=by rw[hrd,Int.toNat_natCast]
 rw[eF] at hlenF honeF ⊢
 clear eF
 rw[hd] at HD
 replace HD:=Lib.hid (show ∀w1,Calls prog 28 #[.int .u32 (IntKind.u32.wrap (ldV bs h.pc 4))] w1 fun e w'=>e=.returned (.tuple #[.agg (iC i),.int .i64 0])∧Nb w1 w' from HD)
 have HR1:=Lib.hid fun w1=>YM h hh.len i.2.2.1 (by omega) (by omega) w1
 have HR2:=Lib.hid fun w1=>YM h hh.len i.2.2.2.1 (by omega) (by omega) w1
 have HZ:=Lib.hid (YK i.1)
 have q1:=YO hh.x i.2.2.1.toNat
 have q2:=YO hh.x i.2.2.2.1.toNat
 generalize rg h.x i.2.2.1.toNat=a at*
 generalize rg h.x i.2.2.2.1.toNat=b at*
 clear hd hf hrd hr
 go_enter func10,ntmps10
 go_upto_region 1 with(fail)
 obtain⟨W1,w1e⟩:∃W1,(w.alloc (Obj.cells (hC h).toArray 38)).alloc (Obj.cells Z8 38)=W1:=⟨_,rfl⟩
 have n1:Nb w W1:=by rw[←w1e];exact((Nb.refl _).alloc _).alloc _
 have hz1:w.heap.size+2≤W1.heap.size:=by rw[←w1e];simp
 have kH1:W1.heap[w.heap.size]? =some (.cells (hC h).toArray 38 (0,0)):=by rw[←w1e];exact Zo (Zd _ _ rfl) _
 have kZ1:W1.heap[w.heap.size+1]? =some (.cells Z8 38 (0,0)):=by rw[←w1e];exact Zd _ _ (by simp)
 change Code.wp _ _ _ _ ((w.alloc (Obj.cells (hC h).toArray 38)).alloc (Obj.cells Z8 38))
 rw[w1e]
 clear w1e
 go_upto_region 2 with(first
  |refine wpList_load_row rfl 38 (.tmp 2) rfl w.heap.size rfl 38 (hC h).toArray (0,0) _ kH1 underlying38 rfl (by rw[Zk,hlen.out]) ?_
  |refine wpList_store_row rfl 38 (.tmp 6) (.tmp 13) rfl W1.heap.size (hC h).toArray rfl rfl 38 Z8 (heap_alloc_new W1 _) (by rw[Zk,hlen.out]) (by rw[hlen.out];rfl) hone.out ?_)
 obtain⟨W2,w2e⟩:∃W2,(W1.alloc (Obj.cells Z8 38)).setRow W1.heap.size (hC h).toArray=W2:=⟨_,rfl⟩
 have m2:Nb W1 W2:=by rw[←w2e];exact((Nb.refl _).alloc _).setRow (Nat.le_refl _) _
 have kW2:W2.heap[W1.heap.size]? =some (.cells (hC h).toArray 38 (0,0)):=by rw[←w2e];exact setRow_heap _ _ _ _ _ _ (heap_alloc_new W1 _)
 change Code.wp _ _ _ _ ((W1.alloc (Obj.cells Z8 38)).setRow W1.heap.size (hC h).toArray)
 rw[w2e]
 clear w2e
 have kH2:=m2.block kH1
 have kZ2:=m2.block kZ1
 have n2:=n1.trans m2
 have hM2:=hM.nb n2
 clear kH1 kZ1 n1 m2
 obtain⟨cP,-⟩:=ZG kH2 (by exact hh.len)
 go_wp2_with fail
 refine(HLd.out _ hM2).mono ?_
 rintro e w'⟨rfl,rfl⟩
 clear HLd
 go_wp2_with fail
 refine(HD.out _).mono ?_
 rintro e w3⟨rfl,m3⟩
 go_upto_region 6 with(refine wpList_store_row rfl 50 (.tmp 9) (.tmp 29) rfl w3.heap.size (iC i) rfl rfl 50 _ (heap_alloc_new w3 _) (by rw[X3,Yp]) rfl (Xa i) ?_)
 obtain⟨W4,w4e⟩:∃W4,(w3.alloc (Obj.cells #[.int .i64 0,.int .i64 0,.int .i64 0,.int .i64 0,.int .i64 0,.bool false,.bool false] 50)).setRow w3.heap.size (iC i)=W4:=⟨_,rfl⟩
 have m4:Nb w3 W4:=by rw[←w4e];exact((Nb.refl _).alloc _).setRow (Nat.le_refl _) _
 have kI4:W4.heap[w3.heap.size]? =some (.cells (iC i) 50 (0,0)):=by rw[←w4e];exact setRow_heap _ _ _ _ _ _ (heap_alloc_new w3 _)
 change Code.wp _ _ _ _ ((w3.alloc (Obj.cells #[.int .i64 0,.int .i64 0,.int .i64 0,.int .i64 0,.int .i64 0,.bool false,.bool false] 50)).setRow w3.heap.size (iC i))
 rw[w4e]
 clear w4e
 have hz3:=m3.size
 have m34:=m3.trans m4
 have kH4:=m34.block kH2
 have kZ4:=m34.block kZ2
 have kW4:=m34.block kW2
 have n4:=n2.trans m34
 have hM4:=hM.nb n4
 have hzw:=Zf kW2
 clear kH2 kZ2 kW2 n2 m3 m4 m34 hM2 HD cP
 obtain⟨cP,-⟩:=ZG kH4 (by exact hh.len)
 obtain⟨c0,c1,c2,c3⟩:=Y9 kI4
 go_wp2_with (first|refine wpList_load_row rfl 38 (.tmp 2) rfl w.heap.size rfl 38 (hC h).toArray (0,0) _ kH4 underlying38 rfl (by rw[Zk,hlen.out]) ?_)
 refine(HR1.out _).mono ?_
 rintro e w5⟨rfl,m5⟩
 have kH5:=m5.block kH4
 have kI5:=m5.block kI4
 have kZ5:=m5.block kZ4
 have kW5:=m5.block kW4
 have n5:=n4.trans m5
 have hz5:=m5.size
 have hzi:=Zf kI4
 clear kH4 kI4 kZ4 kW4 n4 m5 hM4 cP c0 c1 c2 c3 HR1
 obtain⟨c0,c1,c2,c3⟩:=Y9 kI5
 go_wp2_with (first|refine wpList_load_row rfl 38 (.tmp 2) rfl w.heap.size rfl 38 (hC h).toArray (0,0) _ kH5 underlying38 rfl (by rw[Zk,hlen.out]) ?_)
 refine(HR2.out _).mono ?_
 rintro e w6⟨rfl,m6⟩
 have kH6:=m6.block kH5
 have kI6:=m6.block kI5
 have kZ6:=m6.block kZ5
 have kW6:=m6.block kW5
 have n6:=n5.trans m6
 have hz6:=m6.size
 have hM6:=hM.nb n6
 clear kH5 kI5 kZ5 kW5 n5 m6 c0 c1 c2 c3 HR2
 obtain⟨c0,c1,c2,c3⟩:=Y9 kI6
 obtain⟨cP,-⟩:=ZG kH6 (by exact hh.len)
 go_wp2_with fail
 refine(HZ.out _).mono ?_
 rintro e w'⟨rfl,rfl⟩
 clear HZ
 go_wp2_with (first
  |refine wpList_load_row rfl 38 (.tmp 2) rfl w.heap.size rfl 38 (hC h).toArray (0,0) _ kH6 underlying38 rfl (by rw[Zk,hlen.out]) ?_
  |refine Y0 rfl 50 (.tmp 9) rfl ⟨w3.heap.size,0,none⟩ rfl _ (ld7 _ _ _ _ _ kI6) ?_)
 refine(HT.out _ hM6).mono ?_
 rintro e w7⟨rfl,hM7,g7⟩
 have kH7:=(g7.block _ (Zf kH6) (by intro e;injection e with e;omega)).trans kH6
 have kI7:=(g7.block _ (Zf kI6) (by intro e;injection e with e;omega)).trans kI6
 have kZ7:=(g7.block _ (Zf kZ6) (by intro e;injection e with e;omega)).trans kZ6
 have g8:=Zx n6 g7
 clear HT kH6 kI6 kZ6 kW6 hM6 n6 g7
 go_upto_region 15 with(first
  |refine wpList_store_row rfl 38 (.tmp 2) (.tmp 62) rfl w.heap.size (hC H1).toArray rfl rfl 38 _ kH7 (by rw[Zk,hlen1.out]) (by rw[hlen1.out,hlen.out]) hone1.out ?_)
 obtain⟨W8,w8e⟩:∃W8,w7.setRow w.heap.size (hC H1).toArray=W8:=⟨_,rfl⟩
 have oth:∀j,j≠w.heap.size→W8.heap[j]? =w7.heap[j]? :=fun j hj=>by rw[←w8e];exact setRow_other w7 _ j _ hj
 have gg:w.grownBy W8 (some q):=by
  rw[←w8e]
  exact Z2j g8 (Nat.le_refl _) _
 have kH8:W8.heap[w.heap.size]? =some (.cells (hC H1).toArray 38 (0,0)):=by rw[←w8e];exact setRow_heap _ _ _ _ _ _ kH7
 rw[w8e]
 clear w8e
 have kI8:=(oth _ (by have:=Zf kI7;omega)).trans kI7
 have kZ8:=(oth _ (by omega)).trans kZ7
 have hM8:Mem 62 W8 p q bs2:=⟨(oth _ (by omega)).trans hM7.1,(oth _ (by omega)).trans hM7.2⟩
 clear kH7 kI7 kZ7 hM7 g8 oth cP c0 c1 c2 c3
 obtain⟨c0,c1,c2,c3,c4,c5,c6⟩:=Yt kI8
 obtain⟨cP,-⟩:=ZG kH8 hk1.out
 rw[hp1'.out] at cP
 go_wp2_with fail
 refine(HTg.out _).mono ?_
 rintro e W9⟨rfl,m9⟩
 have kH9:=m9.block kH8
 have kI9:=m9.block kI8
 have kZ9:=m9.block kZ8
 have hM9:=hM8.nb m9
 replace gg:=YF gg m9
 clear HTg kH8 kI8 kZ8 hM8 m9 cP c0 c1 c2 c3 c4 c5 c6
 obtain⟨c0,c1,c2,c3,c4,c5,c6⟩:=Yt kI9
 obtain⟨cP,-⟩:=ZG kH9 hk1.out
 rw[hp1'.out] at cP
 have f0:=Z6 kH9 0
 go_upto_region 21 with(fail)
 obtain⟨Wa,wae⟩:∃Wa,W9.setCell ⟨w.heap.size,0,none⟩ (.int .u64 P)=Wa:=⟨_,rfl⟩
 have kHa:Wa.heap[w.heap.size]? =some (.cells (hC {H1 with pc:=P}).toArray 38 (0,0)):=by rw[←wae,Zg kH9 0 _,Z0n]
 have oth:∀k,k≠w.heap.size→Wa.heap[k]? =W9.heap[k]? :=fun k hk=>by rw[←wae,Below.heap_setCell _ _ _ _ hk]
 have gga:w.grownBy Wa (some q):=by rw[←wae];exact ZJ gg (Nat.le_refl _) _ _
 rw[wae]
 clear wae f0 cP c0 c2 c3 c4 c5 c6 c1
 have kIa:=(oth _ (by have:=Zf kI9;omega)).trans kI9
 have kZa:=(oth _ (by omega)).trans kZ9
 have hMa:Mem 62 Wa p q bs2:=⟨(oth _ (by omega)).trans hM9.1,(oth _ (by omega)).trans hM9.2⟩
 clear oth kH9 kI9 kZ9 hM9 gg
 obtain⟨-,c1,-⟩:=Yt kIa
 rw[hrd'.out] at c1
 have hrd3:(rd:Int)<32:=by omega
 obtain⟨x1,q1⟩:∃x,Wa.cell? ⟨w.heap.size,1+rd,none⟩=some x:=by
  have hs:=(hC {H1 with pc:=P}).toArray.size
  refine⟨_,(cell_of_row _ _ _ _ _ _ kHa).trans (Array.getElem?_eq_getElem ?_)⟩
  have e:(hC {H1 with pc:=P}).toArray.size=36:=by rw[List.size_toArray];exact Zv hk1.out
  rw[e];omega
 have f1:=Z6 kHa (1+rd)
 go_upto_region 22 with(fail)
 obtain⟨Wb,wbe⟩:∃Wb,Wa.setCell ⟨w.heap.size,1+rd,none⟩ (.int .u64 V)=Wb:=⟨_,rfl⟩
 have kHb:Wb.heap[w.heap.size]? =some (.cells (hC {H1 with pc:=P,x:=H1.x.set rd V}).toArray 38 (0,0)):=by rw[←wbe,Zg kHa (1+rd) _];rw[Kt {H1 with pc:=P} rd V hk1.out hrd2]
 have oth:∀k,k≠w.heap.size→Wb.heap[k]? =Wa.heap[k]? :=fun k hk=>by rw[←wbe,Below.heap_setCell _ _ _ _ hk]
 have ggb:w.grownBy Wb (some q):=by rw[←wbe];exact ZJ gga (Nat.le_refl _) _ _
 rw[wbe]
 clear wbe q1 f1 x1 c1
 have kZb:=(oth _ (by omega)).trans kZa
 have hMb:Mem 62 Wb p q bs2:=⟨(oth _ (by omega)).trans hMa.1,(oth _ (by omega)).trans hMa.2⟩
 clear oth kHa kIa kZa hMa gga
 obtain⟨x1,q1⟩:∃x,Wb.cell? ⟨w.heap.size,1,none⟩=some x:=by
  refine⟨_,(cell_of_row _ _ _ _ _ _ kHb).trans (Array.getElem?_eq_getElem ?_)⟩
  have e:(hC {H1 with pc:=P,x:=H1.x.set rd V}).toArray.size=36:=by rw[List.size_toArray];exact Zv (by show(H1.x.set rd V).length=32;rw[List.length_set];exact hk1.out)
  rw[e];decide
 have f1:=Z6 kHb 1
 go_upto_region 23 with(fail)
 obtain⟨Wc,wce⟩:∃Wc,Wb.setCell ⟨w.heap.size,1,none⟩ (.int .u64 0)=Wc:=⟨_,rfl⟩
 have kHc:Wc.heap[w.heap.size]? =some (.cells (hC {H1 with pc:=P,x:=(h.x.set rd V).set 0 0}).toArray 38 (0,0)):=by
  rw[←wce,Zg kHb 1 _]
  rw[Kt {H1 with pc:=P,x:=H1.x.set rd V} 0 0 (by show(H1.x.set rd V).length=32;rw[List.length_set];exact hk1.out) (by decide)]
  dsimp only
  rw[hx1'.out]
 have oth:∀k,k≠w.heap.size→Wc.heap[k]? =Wb.heap[k]? :=fun k hk=>by rw[←wce,Below.heap_setCell _ _ _ _ hk]
 have ggc:w.grownBy Wc (some q):=by rw[←wce];exact ZJ ggb (Nat.le_refl _) _ _
 rw[wce]
 clear wce q1 f1 x1
 have kZc:=(oth _ (by omega)).trans kZb
 have hMc:Mem 62 Wc p q bs2:=⟨(oth _ (by omega)).trans hMb.1,(oth _ (by omega)).trans hMb.2⟩
 clear oth kHb kZb hMb ggb
 go_wp2_with (first
  |refine wpList_load_row rfl 38 (.tmp 2) rfl w.heap.size rfl 38 (hC {H1 with pc:=P,x:=(h.x.set rd V).set 0 0}).toArray (0,0) _ kHc underlying38 rfl (by rw[Zk,hlenF.out]) ?_
  |refine wpList_store_row rfl 38 (.tmp 4) (.tmp 109) rfl (w.heap.size+1) (hC {H1 with pc:=P,x:=(h.x.set rd V).set 0 0}).toArray rfl rfl 38 _ kZc (by rw[Zk,hlenF.out]) (by rw[hlenF.out];rfl) honeF.out ?_)
 exact YT ggc hMc kZc hlenF.out (by omega) _ _ rfl rfl
theorem Z2n(h:HV)(p q:Nat)(bs:By)(hh:HOk h)(hl:bs.length≤16777216)(i:In7)(V P:Int)(hf:flt bs.length h.pc 4=0)(hd:Xy (IntKind.u32.wrap (ldV bs h.pc 4))=some i)(ho:(i.1==51)=false)(ho2:(i.1==52)=false)(hr:(0≤i.2.1∧i.2.1<32)∧(0≤i.2.2.1∧i.2.2.1<32)∧(0≤i.2.2.2.1∧i.2.2.2.1<32))(hs:Za i.1=0)(E2:Int)(HVal:∀w1,Calls prog 32 #[.agg (iC i),.int .u64 h.pc,.int .u64 (rg h.x i.2.2.1.toNat),.int .u64 (rg h.x i.2.2.2.1.toNat)] w1 fun e w'=>e=.returned (.tuple #[.int .u64 V,.int .i64 E2])∧Nb w1 w')(h5:i.1<5)(HTg:∀w1,Calls prog 34 #[.agg (iC i),.int .u64 h.pc,.int .u64 (rg h.x i.2.2.1.toNat)] w1 fun e w'=>e=.returned (.int .u64 P)∧Nb w1 w')(w:World)(hM:Mem 62 w p q bs):
  Calls prog 10 #[.agg (hC h).toArray,.pointer (some ⟨p,0,none⟩)] w fun e w'=>e=.returned (.tuple #[.agg (hC {h with pc:=P,x:=(h.x.set i.2.1.toNat V).set 0 0}).toArray,.int .i64 (0)])∧Mem 62 w' p q bs∧w.grownBy w' (some q):=by
 have hlen:=Lib.hid (show(hC h).toArray.size=36 by rw[List.size_toArray];exact Zv (by exact hh.len))
 have hone:=Lib.hid (Zu (ZI h))
 have hpc:=hh.pc
 have hMlt:=hM.lt
 have HLd:=fun w1 hm=>Y8 p q bs h.pc 4 hpc.1 hpc.2 hl w1 hm
 rw[hf] at HLd
 replace HLd:=Lib.hid HLd
 have hu:=XR (ldV bs h.pc 4)
 have HD:=fun w1=>X5 _ hu.1 hu.2 w1
 have hvi:=Yl bs h.pc 4
 replace HVal:=Lib.hid HVal
 have hk1:=Lib.hid hh.len
 replace HTg:=Lib.hid HTg
 obtain⟨rd,hrd,hrd2⟩:∃rd:Nat,i.2.1=(rd:Int)∧rd<32:=⟨i.2.1.toNat,by omega,by omega⟩
 have hrd':=Lib.hid hrd
 have hlenF:=Lib.hid (show(hC {h with pc:=P,x:=(h.x.set i.2.1.toNat V).set 0 0}).toArray.size=36 by rw[List.size_toArray];exact Zv (by show((h.x.set i.2.1.toNat V).set 0 0).length=32;rw[List.length_set,List.length_set];exact hh.len))
 have honeF:=Lib.hid (Zu (ZI {h with pc:=P,x:=(h.x.set i.2.1.toNat V).set 0 0}))
 have eF:(h.x.set i.2.1.toNat V).set 0 0=(h.x.set rd V).set 0 0:=by rw[hrd,Int.toNat_natCast]
 rw[eF] at hlenF honeF ⊢
 clear eF
 rw[hd] at HD
 replace HD:=Lib.hid (show ∀w1,Calls prog 28 #[.int .u32 (IntKind.u32.wrap (ldV bs h.pc 4))] w1 fun e w'=>e=.returned (.tuple #[.agg (iC i),.int .i64 0])∧Nb w1 w' from HD)
 have HR1:=Lib.hid fun w1=>YM h hh.len i.2.2.1 (by omega) (by omega) w1
 have HR2:=Lib.hid fun w1=>YM h hh.len i.2.2.2.1 (by omega) (by omega) w1
 have HZ:=Lib.hid (YK i.1)
 have q1:=YO hh.x i.2.2.1.toNat
 have q2:=YO hh.x i.2.2.2.1.toNat
 generalize rg h.x i.2.2.1.toNat=a at*
 generalize rg h.x i.2.2.2.1.toNat=b at*
 clear hd hf hrd hr
 go_enter func10,ntmps10
 go_upto_region 1 with(fail)
 obtain⟨W1,w1e⟩:∃W1,(w.alloc (Obj.cells (hC h).toArray 38)).alloc (Obj.cells Z8 38)=W1:=⟨_,rfl⟩
 have n1:Nb w W1:=by rw[←w1e];exact((Nb.refl _).alloc _).alloc _
 have hz1:w.heap.size+2≤W1.heap.size:=by rw[←w1e];simp
 have kH1:W1.heap[w.heap.size]? =some (.cells (hC h).toArray 38 (0,0)):=by rw[←w1e];exact Zo (Zd _ _ rfl) _
 have kZ1:W1.heap[w.heap.size+1]? =some (.cells Z8 38 (0,0)):=by rw[←w1e];exact Zd _ _ (by simp)
 change Code.wp _ _ _ _ ((w.alloc (Obj.cells (hC h).toArray 38)).alloc (Obj.cells Z8 38))
 rw[w1e]
 clear w1e
 go_upto_region 2 with(first
  |refine wpList_load_row rfl 38 (.tmp 2) rfl w.heap.size rfl 38 (hC h).toArray (0,0) _ kH1 underlying38 rfl (by rw[Zk,hlen.out]) ?_
  |refine wpList_store_row rfl 38 (.tmp 6) (.tmp 13) rfl W1.heap.size (hC h).toArray rfl rfl 38 Z8 (heap_alloc_new W1 _) (by rw[Zk,hlen.out]) (by rw[hlen.out];rfl) hone.out ?_)
 obtain⟨W2,w2e⟩:∃W2,(W1.alloc (Obj.cells Z8 38)).setRow W1.heap.size (hC h).toArray=W2:=⟨_,rfl⟩
 have m2:Nb W1 W2:=by rw[←w2e];exact((Nb.refl _).alloc _).setRow (Nat.le_refl _) _
 have kW2:W2.heap[W1.heap.size]? =some (.cells (hC h).toArray 38 (0,0)):=by rw[←w2e];exact setRow_heap _ _ _ _ _ _ (heap_alloc_new W1 _)
 change Code.wp _ _ _ _ ((W1.alloc (Obj.cells Z8 38)).setRow W1.heap.size (hC h).toArray)
 rw[w2e]
 clear w2e
 have kH2:=m2.block kH1
 have kZ2:=m2.block kZ1
 have n2:=n1.trans m2
 have hM2:=hM.nb n2
 clear kH1 kZ1 n1 m2
 obtain⟨cP,-⟩:=ZG kH2 (by exact hh.len)
 go_wp2_with fail
 refine(HLd.out _ hM2).mono ?_
 rintro e w'⟨rfl,rfl⟩
 clear HLd
 go_wp2_with fail
 refine(HD.out _).mono ?_
 rintro e w3⟨rfl,m3⟩
 go_upto_region 6 with(refine wpList_store_row rfl 50 (.tmp 9) (.tmp 29) rfl w3.heap.size (iC i) rfl rfl 50 _ (heap_alloc_new w3 _) (by rw[X3,Yp]) rfl (Xa i) ?_)
 obtain⟨W4,w4e⟩:∃W4,(w3.alloc (Obj.cells #[.int .i64 0,.int .i64 0,.int .i64 0,.int .i64 0,.int .i64 0,.bool false,.bool false] 50)).setRow w3.heap.size (iC i)=W4:=⟨_,rfl⟩
 have m4:Nb w3 W4:=by rw[←w4e];exact((Nb.refl _).alloc _).setRow (Nat.le_refl _) _
 have kI4:W4.heap[w3.heap.size]? =some (.cells (iC i) 50 (0,0)):=by rw[←w4e];exact setRow_heap _ _ _ _ _ _ (heap_alloc_new w3 _)
 change Code.wp _ _ _ _ ((w3.alloc (Obj.cells #[.int .i64 0,.int .i64 0,.int .i64 0,.int .i64 0,.int .i64 0,.bool false,.bool false] 50)).setRow w3.heap.size (iC i))
 rw[w4e]
 clear w4e
 have hz3:=m3.size
 have m34:=m3.trans m4
 have kH4:=m34.block kH2
 have kZ4:=m34.block kZ2
 have kW4:=m34.block kW2
 have n4:=n2.trans m34
 have hM4:=hM.nb n4
 have hzw:=Zf kW2
 clear kH2 kZ2 kW2 n2 m3 m4 m34 hM2 HD cP
 obtain⟨cP,-⟩:=ZG kH4 (by exact hh.len)
 obtain⟨c0,c1,c2,c3⟩:=Y9 kI4
 go_wp2_with (first|refine wpList_load_row rfl 38 (.tmp 2) rfl w.heap.size rfl 38 (hC h).toArray (0,0) _ kH4 underlying38 rfl (by rw[Zk,hlen.out]) ?_)
 refine(HR1.out _).mono ?_
 rintro e w5⟨rfl,m5⟩
 have kH5:=m5.block kH4
 have kI5:=m5.block kI4
 have kZ5:=m5.block kZ4
 have kW5:=m5.block kW4
 have n5:=n4.trans m5
 have hz5:=m5.size
 have hzi:=Zf kI4
 clear kH4 kI4 kZ4 kW4 n4 m5 hM4 cP c0 c1 c2 c3 HR1
 obtain⟨c0,c1,c2,c3⟩:=Y9 kI5
 go_wp2_with (first|refine wpList_load_row rfl 38 (.tmp 2) rfl w.heap.size rfl 38 (hC h).toArray (0,0) _ kH5 underlying38 rfl (by rw[Zk,hlen.out]) ?_)
 refine(HR2.out _).mono ?_
 rintro e w6⟨rfl,m6⟩
 have kH6:=m6.block kH5
 have kI6:=m6.block kI5
 have kZ6:=m6.block kZ5
 have kW6:=m6.block kW5
 have n6:=n5.trans m6
 have hz6:=m6.size
 have hM6:=hM.nb n6
 clear kH5 kI5 kZ5 kW5 n5 m6 c0 c1 c2 c3 HR2
 obtain⟨c0,c1,c2,c3⟩:=Y9 kI6
 obtain⟨cP,-⟩:=ZG kH6 (by exact hh.len)
 go_wp2_with fail
 refine(HZ.out _).mono ?_
 rintro e w'⟨rfl,rfl⟩
 clear HZ
 go_wp2_with (first|refine Y0 rfl 50 (.tmp 9) rfl ⟨w3.heap.size,0,none⟩ rfl _ (ld7 _ _ _ _ _ kI6) ?_)
 refine(HVal.out _).mono ?_
 rintro e W8⟨rfl,m8⟩
 have kH8:=m8.block kH6
 have kI8:=m8.block kI6
 have kZ8:=m8.block kZ6
 have n8:=n6.trans m8
 have gg:w.grownBy W8 (some q):=Nb.grown_none n8
 have hM8:=hM.nb n8
 clear HVal kH6 kI6 kZ6 kW6 hM6 n6 m8 n8 cP c0 c1 c2 c3
 obtain⟨c0,c1,c2,c3,c4,c5,c6⟩:=Yt kI8
 obtain⟨cP,-⟩:=ZG kH8 hk1.out
 go_wp2_with fail
 refine(HTg.out _).mono ?_
 rintro e W9⟨rfl,m9⟩
 have kH9:=m9.block kH8
 have kI9:=m9.block kI8
 have kZ9:=m9.block kZ8
 have hM9:=hM8.nb m9
 replace gg:=YF gg m9
 clear HTg kH8 kI8 kZ8 hM8 m9 cP c0 c1 c2 c3 c4 c5 c6
 obtain⟨c0,c1,c2,c3,c4,c5,c6⟩:=Yt kI9
 obtain⟨cP,-⟩:=ZG kH9 hk1.out
 have f0:=Z6 kH9 0
 go_upto_region 21 with(fail)
 obtain⟨Wa,wae⟩:∃Wa,W9.setCell ⟨w.heap.size,0,none⟩ (.int .u64 P)=Wa:=⟨_,rfl⟩
 have kHa:Wa.heap[w.heap.size]? =some (.cells (hC {h with pc:=P}).toArray 38 (0,0)):=by rw[←wae,Zg kH9 0 _,Z0n]
 have oth:∀k,k≠w.heap.size→Wa.heap[k]? =W9.heap[k]? :=fun k hk=>by rw[←wae,Below.heap_setCell _ _ _ _ hk]
 have gga:w.grownBy Wa (some q):=by rw[←wae];exact ZJ gg (Nat.le_refl _) _ _
 rw[wae]
 clear wae f0 cP c0 c2 c3 c4 c5 c6 c1
 have kIa:=(oth _ (by have:=Zf kI9;omega)).trans kI9
 have kZa:=(oth _ (by omega)).trans kZ9
 have hMa:Mem 62 Wa p q bs:=⟨(oth _ (by omega)).trans hM9.1,(oth _ (by omega)).trans hM9.2⟩
 clear oth kH9 kI9 kZ9 hM9 gg
 obtain⟨-,c1,-⟩:=Yt kIa
 rw[hrd'.out] at c1
 have hrd3:(rd:Int)<32:=by omega
 obtain⟨x1,q1⟩:∃x,Wa.cell? ⟨w.heap.size,1+rd,none⟩=some x:=by
  have hs:=(hC {h with pc:=P}).toArray.size
  refine⟨_,(cell_of_row _ _ _ _ _ _ kHa).trans (Array.getElem?_eq_getElem ?_)⟩
  have e:(hC {h with pc:=P}).toArray.size=36:=by rw[List.size_toArray];exact Zv hk1.out
  rw[e];omega
 have f1:=Z6 kHa (1+rd)
 go_upto_region 22 with(fail)
 obtain⟨Wb,wbe⟩:∃Wb,Wa.setCell ⟨w.heap.size,1+rd,none⟩ (.int .u64 V)=Wb:=⟨_,rfl⟩
 have kHb:Wb.heap[w.heap.size]? =some (.cells (hC {h with pc:=P,x:=h.x.set rd V}).toArray 38 (0,0)):=by rw[←wbe,Zg kHa (1+rd) _];rw[Kt {h with pc:=P} rd V hk1.out hrd2]
 have oth:∀k,k≠w.heap.size→Wb.heap[k]? =Wa.heap[k]? :=fun k hk=>by rw[←wbe,Below.heap_setCell _ _ _ _ hk]
 have ggb:w.grownBy Wb (some q):=by rw[←wbe];exact ZJ gga (Nat.le_refl _) _ _
 rw[wbe]
 clear wbe q1 f1 x1 c1
 have kZb:=(oth _ (by omega)).trans kZa
 have hMb:Mem 62 Wb p q bs:=⟨(oth _ (by omega)).trans hMa.1,(oth _ (by omega)).trans hMa.2⟩
 clear oth kHa kIa kZa hMa gga
 obtain⟨x1,q1⟩:∃x,Wb.cell? ⟨w.heap.size,1,none⟩=some x:=by
  refine⟨_,(cell_of_row _ _ _ _ _ _ kHb).trans (Array.getElem?_eq_getElem ?_)⟩
  have e:(hC {h with pc:=P,x:=h.x.set rd V}).toArray.size=36:=by rw[List.size_toArray];exact Zv (by show(h.x.set rd V).length=32;rw[List.length_set];exact hk1.out)
  rw[e];decide
 have f1:=Z6 kHb 1
 go_upto_region 23 with(fail)
 obtain⟨Wc,wce⟩:∃Wc,Wb.setCell ⟨w.heap.size,1,none⟩ (.int .u64 0)=Wc:=⟨_,rfl⟩
 have kHc:Wc.heap[w.heap.size]? =some (.cells (hC {h with pc:=P,x:=(h.x.set rd V).set 0 0}).toArray 38 (0,0)):=by
  rw[←wce,Zg kHb 1 _]
  rw[Kt {h with pc:=P,x:=h.x.set rd V} 0 0 (by show(h.x.set rd V).length=32;rw[List.length_set];exact hk1.out) (by decide)]
 have oth:∀k,k≠w.heap.size→Wc.heap[k]? =Wb.heap[k]? :=fun k hk=>by rw[←wce,Below.heap_setCell _ _ _ _ hk]
 have ggc:w.grownBy Wc (some q):=by rw[←wce];exact ZJ ggb (Nat.le_refl _) _ _
 rw[wce]
 clear wce q1 f1 x1
 have kZc:=(oth _ (by omega)).trans kZb
 have hMc:Mem 62 Wc p q bs:=⟨(oth _ (by omega)).trans hMb.1,(oth _ (by omega)).trans hMb.2⟩
 clear oth kHb kZb hMb ggb
 go_wp2_with (first
  |refine wpList_load_row rfl 38 (.tmp 2) rfl w.heap.size rfl 38 (hC {h with pc:=P,x:=(h.x.set rd V).set 0 0}).toArray (0,0) _ kHc underlying38 rfl (by rw[Zk,hlenF.out]) ?_
  |refine wpList_store_row rfl 38 (.tmp 4) (.tmp 109) rfl (w.heap.size+1) (hC {h with pc:=P,x:=(h.x.set rd V).set 0 0}).toArray rfl rfl 38 _ kZc (by rw[Zk,hlenF.out]) (by rw[hlenF.out];rfl) honeF.out ?_)
 exact YT ggc hMc kZc hlenF.out (by omega) _ _ rfl rfl
theorem Z2o(h:HV)(p q:Nat)(bs:By)(hh:HOk h)(hl:bs.length≤16777216)(i:In7)(V P:Int)(hf:flt bs.length h.pc 4=0)(hd:Xy (IntKind.u32.wrap (ldV bs h.pc 4))=some i)(ho:(i.1==51)=false)(ho2:(i.1==52)=false)(hr:(0≤i.2.1∧i.2.1<32)∧(0≤i.2.2.1∧i.2.2.1<32)∧(0≤i.2.2.2.1∧i.2.2.2.1<32))(hs:Za i.1=0)(E2:Int)(HVal:∀w1,Calls prog 32 #[.agg (iC i),.int .u64 h.pc,.int .u64 (rg h.x i.2.2.1.toNat),.int .u64 (rg h.x i.2.2.2.1.toNat)] w1 fun e w'=>e=.returned (.tuple #[.int .u64 V,.int .i64 E2])∧Nb w1 w')(h10:10<i.1)(HTg:∀w1,Calls prog 34 #[.agg (iC i),.int .u64 h.pc,.int .u64 (rg h.x i.2.2.1.toNat)] w1 fun e w'=>e=.returned (.int .u64 P)∧Nb w1 w')(w:World)(hM:Mem 62 w p q bs):
  Calls prog 10 #[.agg (hC h).toArray,.pointer (some ⟨p,0,none⟩)] w fun e w'=>e=.returned (.tuple #[.agg (hC {h with pc:=P,x:=(h.x.set i.2.1.toNat V).set 0 0}).toArray,.int .i64 (0)])∧Mem 62 w' p q bs∧w.grownBy w' (some q):=by
 have hlen:=Lib.hid (show(hC h).toArray.size=36 by rw[List.size_toArray];exact Zv (by exact hh.len))
 have hone:=Lib.hid (Zu (ZI h))
 have hpc:=hh.pc
 have hMlt:=hM.lt
 have HLd:=fun w1 hm=>Y8 p q bs h.pc 4 hpc.1 hpc.2 hl w1 hm
 rw[hf] at HLd
 replace HLd:=Lib.hid HLd
 have hu:=XR (ldV bs h.pc 4)
 have HD:=fun w1=>X5 _ hu.1 hu.2 w1
 have hvi:=Yl bs h.pc 4
 replace HVal:=Lib.hid HVal
 have hk1:=Lib.hid hh.len
 replace HTg:=Lib.hid HTg
 obtain⟨rd,hrd,hrd2⟩:∃rd:Nat,i.2.1=(rd:Int)∧rd<32:=⟨i.2.1.toNat,by omega,by omega⟩
 have hrd':=Lib.hid hrd
 have hlenF:=Lib.hid (show(hC {h with pc:=P,x:=(h.x.set i.2.1.toNat V).set 0 0}).toArray.size=36 by rw[List.size_toArray];exact Zv (by show((h.x.set i.2.1.toNat V).set 0 0).length=32;rw[List.length_set,List.length_set];exact hh.len))
 have honeF:=Lib.hid (Zu (ZI {h with pc:=P,x:=(h.x.set i.2.1.toNat V).set 0 0}))
 have eF:(h.x.set i.2.1.toNat V).set 0 0=(h.x.set rd V).set 0 0:=by rw[hrd,Int.toNat_natCast]
 rw[eF] at hlenF honeF ⊢
 clear eF
 rw[hd] at HD
 replace HD:=Lib.hid (show ∀w1,Calls prog 28 #[.int .u32 (IntKind.u32.wrap (ldV bs h.pc 4))] w1 fun e w'=>e=.returned (.tuple #[.agg (iC i),.int .i64 0])∧Nb w1 w' from HD)
 have HR1:=Lib.hid fun w1=>YM h hh.len i.2.2.1 (by omega) (by omega) w1
 have HR2:=Lib.hid fun w1=>YM h hh.len i.2.2.2.1 (by omega) (by omega) w1
 have HZ:=Lib.hid (YK i.1)
 have q1:=YO hh.x i.2.2.1.toNat
 have q2:=YO hh.x i.2.2.2.1.toNat
 generalize rg h.x i.2.2.1.toNat=a at*
 generalize rg h.x i.2.2.2.1.toNat=b at*
 clear hd hf hrd hr
 go_enter func10,ntmps10
 go_upto_region 1 with(fail)
 obtain⟨W1,w1e⟩:∃W1,(w.alloc (Obj.cells (hC h).toArray 38)).alloc (Obj.cells Z8 38)=W1:=⟨_,rfl⟩
 have n1:Nb w W1:=by rw[←w1e];exact((Nb.refl _).alloc _).alloc _
 have hz1:w.heap.size+2≤W1.heap.size:=by rw[←w1e];simp
 have kH1:W1.heap[w.heap.size]? =some (.cells (hC h).toArray 38 (0,0)):=by rw[←w1e];exact Zo (Zd _ _ rfl) _
 have kZ1:W1.heap[w.heap.size+1]? =some (.cells Z8 38 (0,0)):=by rw[←w1e];exact Zd _ _ (by simp)
 change Code.wp _ _ _ _ ((w.alloc (Obj.cells (hC h).toArray 38)).alloc (Obj.cells Z8 38))
 rw[w1e]
 clear w1e
 go_upto_region 2 with(first
  |refine wpList_load_row rfl 38 (.tmp 2) rfl w.heap.size rfl 38 (hC h).toArray (0,0) _ kH1 underlying38 rfl (by rw[Zk,hlen.out]) ?_
  |refine wpList_store_row rfl 38 (.tmp 6) (.tmp 13) rfl W1.heap.size (hC h).toArray rfl rfl 38 Z8 (heap_alloc_new W1 _) (by rw[Zk,hlen.out]) (by rw[hlen.out];rfl) hone.out ?_)
 obtain⟨W2,w2e⟩:∃W2,(W1.alloc (Obj.cells Z8 38)).setRow W1.heap.size (hC h).toArray=W2:=⟨_,rfl⟩
 have m2:Nb W1 W2:=by rw[←w2e];exact((Nb.refl _).alloc _).setRow (Nat.le_refl _) _
 have kW2:W2.heap[W1.heap.size]? =some (.cells (hC h).toArray 38 (0,0)):=by rw[←w2e];exact setRow_heap _ _ _ _ _ _ (heap_alloc_new W1 _)
 change Code.wp _ _ _ _ ((W1.alloc (Obj.cells Z8 38)).setRow W1.heap.size (hC h).toArray)
 rw[w2e]
 clear w2e
 have kH2:=m2.block kH1
 have kZ2:=m2.block kZ1
 have n2:=n1.trans m2
 have hM2:=hM.nb n2
 clear kH1 kZ1 n1 m2
 obtain⟨cP,-⟩:=ZG kH2 (by exact hh.len)
 go_wp2_with fail
 refine(HLd.out _ hM2).mono ?_
 rintro e w'⟨rfl,rfl⟩
 clear HLd
 go_wp2_with fail
 refine(HD.out _).mono ?_
 rintro e w3⟨rfl,m3⟩
 go_upto_region 6 with(refine wpList_store_row rfl 50 (.tmp 9) (.tmp 29) rfl w3.heap.size (iC i) rfl rfl 50 _ (heap_alloc_new w3 _) (by rw[X3,Yp]) rfl (Xa i) ?_)
 obtain⟨W4,w4e⟩:∃W4,(w3.alloc (Obj.cells #[.int .i64 0,.int .i64 0,.int .i64 0,.int .i64 0,.int .i64 0,.bool false,.bool false] 50)).setRow w3.heap.size (iC i)=W4:=⟨_,rfl⟩
 have m4:Nb w3 W4:=by rw[←w4e];exact((Nb.refl _).alloc _).setRow (Nat.le_refl _) _
 have kI4:W4.heap[w3.heap.size]? =some (.cells (iC i) 50 (0,0)):=by rw[←w4e];exact setRow_heap _ _ _ _ _ _ (heap_alloc_new w3 _)
 change Code.wp _ _ _ _ ((w3.alloc (Obj.cells #[.int .i64 0,.int .i64 0,.int .i64 0,.int .i64 0,.int .i64 0,.bool false,.bool false] 50)).setRow w3.heap.size (iC i))
 rw[w4e]
 clear w4e
 have hz3:=m3.size
 have m34:=m3.trans m4
 have kH4:=m34.block kH2
 have kZ4:=m34.block kZ2
 have kW4:=m34.block kW2
 have n4:=n2.trans m34
 have hM4:=hM.nb n4
 have hzw:=Zf kW2
 clear kH2 kZ2 kW2 n2 m3 m4 m34 hM2 HD cP
 obtain⟨cP,-⟩:=ZG kH4 (by exact hh.len)
 obtain⟨c0,c1,c2,c3⟩:=Y9 kI4
 go_wp2_with (first|refine wpList_load_row rfl 38 (.tmp 2) rfl w.heap.size rfl 38 (hC h).toArray (0,0) _ kH4 underlying38 rfl (by rw[Zk,hlen.out]) ?_)
 refine(HR1.out _).mono ?_
 rintro e w5⟨rfl,m5⟩
 have kH5:=m5.block kH4
 have kI5:=m5.block kI4
 have kZ5:=m5.block kZ4
 have kW5:=m5.block kW4
 have n5:=n4.trans m5
 have hz5:=m5.size
 have hzi:=Zf kI4
 clear kH4 kI4 kZ4 kW4 n4 m5 hM4 cP c0 c1 c2 c3 HR1
 obtain⟨c0,c1,c2,c3⟩:=Y9 kI5
 go_wp2_with (first|refine wpList_load_row rfl 38 (.tmp 2) rfl w.heap.size rfl 38 (hC h).toArray (0,0) _ kH5 underlying38 rfl (by rw[Zk,hlen.out]) ?_)
 refine(HR2.out _).mono ?_
 rintro e w6⟨rfl,m6⟩
 have kH6:=m6.block kH5
 have kI6:=m6.block kI5
 have kZ6:=m6.block kZ5
 have kW6:=m6.block kW5
 have n6:=n5.trans m6
 have hz6:=m6.size
 have hM6:=hM.nb n6
 clear kH5 kI5 kZ5 kW5 n5 m6 c0 c1 c2 c3 HR2
 obtain⟨c0,c1,c2,c3⟩:=Y9 kI6
 obtain⟨cP,-⟩:=ZG kH6 (by exact hh.len)
 go_wp2_with fail
 refine(HZ.out _).mono ?_
 rintro e w'⟨rfl,rfl⟩
 clear HZ
 go_wp2_with (first|refine Y0 rfl 50 (.tmp 9) rfl ⟨w3.heap.size,0,none⟩ rfl _ (ld7 _ _ _ _ _ kI6) ?_)
 refine(HVal.out _).mono ?_
 rintro e W8⟨rfl,m8⟩
 have kH8:=m8.block kH6
 have kI8:=m8.block kI6
 have kZ8:=m8.block kZ6
 have n8:=n6.trans m8
 have gg:w.grownBy W8 (some q):=Nb.grown_none n8
 have hM8:=hM.nb n8
 clear HVal kH6 kI6 kZ6 kW6 hM6 n6 m8 n8 cP c0 c1 c2 c3
 obtain⟨c0,c1,c2,c3,c4,c5,c6⟩:=Yt kI8
 obtain⟨cP,-⟩:=ZG kH8 hk1.out
 go_wp2_with fail
 refine(HTg.out _).mono ?_
 rintro e W9⟨rfl,m9⟩
 have kH9:=m9.block kH8
 have kI9:=m9.block kI8
 have kZ9:=m9.block kZ8
 have hM9:=hM8.nb m9
 replace gg:=YF gg m9
 clear HTg kH8 kI8 kZ8 hM8 m9 cP c0 c1 c2 c3 c4 c5 c6
 obtain⟨c0,c1,c2,c3,c4,c5,c6⟩:=Yt kI9
 obtain⟨cP,-⟩:=ZG kH9 hk1.out
 have f0:=Z6 kH9 0
 go_upto_region 21 with(fail)
 obtain⟨Wa,wae⟩:∃Wa,W9.setCell ⟨w.heap.size,0,none⟩ (.int .u64 P)=Wa:=⟨_,rfl⟩
 have kHa:Wa.heap[w.heap.size]? =some (.cells (hC {h with pc:=P}).toArray 38 (0,0)):=by rw[←wae,Zg kH9 0 _,Z0n]
 have oth:∀k,k≠w.heap.size→Wa.heap[k]? =W9.heap[k]? :=fun k hk=>by rw[←wae,Below.heap_setCell _ _ _ _ hk]
 have gga:w.grownBy Wa (some q):=by rw[←wae];exact ZJ gg (Nat.le_refl _) _ _
 rw[wae]
 clear wae f0 cP c0 c2 c3 c4 c5 c6 c1
 have kIa:=(oth _ (by have:=Zf kI9;omega)).trans kI9
 have kZa:=(oth _ (by omega)).trans kZ9
 have hMa:Mem 62 Wa p q bs:=⟨(oth _ (by omega)).trans hM9.1,(oth _ (by omega)).trans hM9.2⟩
 clear oth kH9 kI9 kZ9 hM9 gg
 obtain⟨-,c1,-⟩:=Yt kIa
 rw[hrd'.out] at c1
 have hrd3:(rd:Int)<32:=by omega
 obtain⟨x1,q1⟩:∃x,Wa.cell? ⟨w.heap.size,1+rd,none⟩=some x:=by
  have hs:=(hC {h with pc:=P}).toArray.size
  refine⟨_,(cell_of_row _ _ _ _ _ _ kHa).trans (Array.getElem?_eq_getElem ?_)⟩
  have e:(hC {h with pc:=P}).toArray.size=36:=by rw[List.size_toArray];exact Zv hk1.out
  rw[e];omega
 have f1:=Z6 kHa (1+rd)
 go_upto_region 22 with(fail)
 obtain⟨Wb,wbe⟩:∃Wb,Wa.setCell ⟨w.heap.size,1+rd,none⟩ (.int .u64 V)=Wb:=⟨_,rfl⟩
 have kHb:Wb.heap[w.heap.size]? =some (.cells (hC {h with pc:=P,x:=h.x.set rd V}).toArray 38 (0,0)):=by rw[←wbe,Zg kHa (1+rd) _];rw[Kt {h with pc:=P} rd V hk1.out hrd2]
 have oth:∀k,k≠w.heap.size→Wb.heap[k]? =Wa.heap[k]? :=fun k hk=>by rw[←wbe,Below.heap_setCell _ _ _ _ hk]
 have ggb:w.grownBy Wb (some q):=by rw[←wbe];exact ZJ gga (Nat.le_refl _) _ _
 rw[wbe]
 clear wbe q1 f1 x1 c1
 have kZb:=(oth _ (by omega)).trans kZa
 have hMb:Mem 62 Wb p q bs:=⟨(oth _ (by omega)).trans hMa.1,(oth _ (by omega)).trans hMa.2⟩
 clear oth kHa kIa kZa hMa gga
 obtain⟨x1,q1⟩:∃x,Wb.cell? ⟨w.heap.size,1,none⟩=some x:=by
  refine⟨_,(cell_of_row _ _ _ _ _ _ kHb).trans (Array.getElem?_eq_getElem ?_)⟩
  have e:(hC {h with pc:=P,x:=h.x.set rd V}).toArray.size=36:=by rw[List.size_toArray];exact Zv (by show(h.x.set rd V).length=32;rw[List.length_set];exact hk1.out)
  rw[e];decide
 have f1:=Z6 kHb 1
 go_upto_region 23 with(fail)
 obtain⟨Wc,wce⟩:∃Wc,Wb.setCell ⟨w.heap.size,1,none⟩ (.int .u64 0)=Wc:=⟨_,rfl⟩
 have kHc:Wc.heap[w.heap.size]? =some (.cells (hC {h with pc:=P,x:=(h.x.set rd V).set 0 0}).toArray 38 (0,0)):=by
  rw[←wce,Zg kHb 1 _]
  rw[Kt {h with pc:=P,x:=h.x.set rd V} 0 0 (by show(h.x.set rd V).length=32;rw[List.length_set];exact hk1.out) (by decide)]
 have oth:∀k,k≠w.heap.size→Wc.heap[k]? =Wb.heap[k]? :=fun k hk=>by rw[←wce,Below.heap_setCell _ _ _ _ hk]
 have ggc:w.grownBy Wc (some q):=by rw[←wce];exact ZJ ggb (Nat.le_refl _) _ _
 rw[wce]
 clear wce q1 f1 x1
 have kZc:=(oth _ (by omega)).trans kZb
 have hMc:Mem 62 Wc p q bs:=⟨(oth _ (by omega)).trans hMb.1,(oth _ (by omega)).trans hMb.2⟩
 clear oth kHb kZb hMb ggb
 go_wp2_with (first
  |refine wpList_load_row rfl 38 (.tmp 2) rfl w.heap.size rfl 38 (hC {h with pc:=P,x:=(h.x.set rd V).set 0 0}).toArray (0,0) _ kHc underlying38 rfl (by rw[Zk,hlenF.out]) ?_
  |refine wpList_store_row rfl 38 (.tmp 4) (.tmp 109) rfl (w.heap.size+1) (hC {h with pc:=P,x:=(h.x.set rd V).set 0 0}).toArray rfl rfl 38 _ kZc (by rw[Zk,hlenF.out]) (by rw[hlenF.out];rfl) honeF.out ?_)
 exact YT ggc hMc kZc hlenF.out (by omega) _ _ rfl rfl
theorem Z3G(h:HV)(p q:Nat)(bs:By)(hh:HOk h)(hl:bs.length≤16777216)(i:In7)(V P:Int)(hf:flt bs.length h.pc 4=0)(hd:Xy (IntKind.u32.wrap (ldV bs h.pc 4))=some i)(ho:(i.1==51)=false)(ho2:(i.1==52)=false)(hr:(0≤i.2.1∧i.2.1<32)∧(0≤i.2.2.1∧i.2.2.1<32)∧(0≤i.2.2.2.1∧i.2.2.2.1<32))(hs:Za i.1=0)(E2:Int)(HVal:∀w1,Calls prog 32 #[.agg (iC i),.int .u64 h.pc,.int .u64 (rg h.x i.2.2.1.toNat),.int .u64 (rg h.x i.2.2.2.1.toNat)] w1 fun e w'=>e=.returned (.tuple #[.int .u64 V,.int .i64 E2])∧Nb w1 w')(h5:5≤i.1)(h10:i.1≤10)(HTk:∀w1,Calls prog 33 #[.agg (iC i),.int .u64 (rg h.x i.2.2.1.toNat),.int .u64 (rg h.x i.2.2.2.1.toNat)] w1 fun e w'=>e=.returned (.bool true)∧Nb w1 w')(HTg:∀w1,Calls prog 34 #[.agg (iC i),.int .u64 h.pc,.int .u64 (rg h.x i.2.2.1.toNat)] w1 fun e w'=>e=.returned (.int .u64 P)∧Nb w1 w')(w:World)(hM:Mem 62 w p q bs):
  Calls prog 10 #[.agg (hC h).toArray,.pointer (some ⟨p,0,none⟩)] w fun e w'=>e=.returned (.tuple #[.agg (hC {h with pc:=P,x:=(h.x.set i.2.1.toNat V).set 0 0}).toArray,.int .i64 (0)])∧Mem 62 w' p q bs∧w.grownBy w' (some q):=by
 have hlen:=Lib.hid (show(hC h).toArray.size=36 by rw[List.size_toArray];exact Zv (by exact hh.len))
 have hone:=Lib.hid (Zu (ZI h))
 have hpc:=hh.pc
 have hMlt:=hM.lt
 have HLd:=fun w1 hm=>Y8 p q bs h.pc 4 hpc.1 hpc.2 hl w1 hm
 rw[hf] at HLd
 replace HLd:=Lib.hid HLd
 have hu:=XR (ldV bs h.pc 4)
 have HD:=fun w1=>X5 _ hu.1 hu.2 w1
 have hvi:=Yl bs h.pc 4
 replace HVal:=Lib.hid HVal
 have hk1:=Lib.hid hh.len
 replace HTg:=Lib.hid HTg
 replace HTk:=Lib.hid HTk
 obtain⟨rd,hrd,hrd2⟩:∃rd:Nat,i.2.1=(rd:Int)∧rd<32:=⟨i.2.1.toNat,by omega,by omega⟩
 have hrd':=Lib.hid hrd
 have hlenF:=Lib.hid (show(hC {h with pc:=P,x:=(h.x.set i.2.1.toNat V).set 0 0}).toArray.size=36 by rw[List.size_toArray];exact Zv (by show((h.x.set i.2.1.toNat V).set 0 0).length=32;rw[List.length_set,List.length_set];exact hh.len))
 have honeF:=Lib.hid (Zu (ZI {h with pc:=P,x:=(h.x.set i.2.1.toNat V).set 0 0}))
 have eF:(h.x.set i.2.1.toNat V).set 0 0=(h.x.set rd V).set 0 0:=by rw[hrd,Int.toNat_natCast]
 rw[eF] at hlenF honeF ⊢
 clear eF
 rw[hd] at HD
 replace HD:=Lib.hid (show ∀w1,Calls prog 28 #[.int .u32 (IntKind.u32.wrap (ldV bs h.pc 4))] w1 fun e w'=>e=.returned (.tuple #[.agg (iC i),.int .i64 0])∧Nb w1 w' from HD)
 have HR1:=Lib.hid fun w1=>YM h hh.len i.2.2.1 (by omega) (by omega) w1
 have HR2:=Lib.hid fun w1=>YM h hh.len i.2.2.2.1 (by omega) (by omega) w1
 have HZ:=Lib.hid (YK i.1)
 have q1:=YO hh.x i.2.2.1.toNat
 have q2:=YO hh.x i.2.2.2.1.toNat
 generalize rg h.x i.2.2.1.toNat=a at*
 generalize rg h.x i.2.2.2.1.toNat=b at*
 clear hd hf hrd hr
 go_enter func10,ntmps10
 go_upto_region 1 with(fail)
 obtain⟨W1,w1e⟩:∃W1,(w.alloc (Obj.cells (hC h).toArray 38)).alloc (Obj.cells Z8 38)=W1:=⟨_,rfl⟩
 have n1:Nb w W1:=by rw[←w1e];exact((Nb.refl _).alloc _).alloc _
 have hz1:w.heap.size+2≤W1.heap.size:=by rw[←w1e];simp
 have kH1:W1.heap[w.heap.size]? =some (.cells (hC h).toArray 38 (0,0)):=by rw[←w1e];exact Zo (Zd _ _ rfl) _
 have kZ1:W1.heap[w.heap.size+1]? =some (.cells Z8 38 (0,0)):=by rw[←w1e];exact Zd _ _ (by simp)
 change Code.wp _ _ _ _ ((w.alloc (Obj.cells (hC h).toArray 38)).alloc (Obj.cells Z8 38))
 rw[w1e]
 clear w1e
 go_upto_region 2 with(first
  |refine wpList_load_row rfl 38 (.tmp 2) rfl w.heap.size rfl 38 (hC h).toArray (0,0) _ kH1 underlying38 rfl (by rw[Zk,hlen.out]) ?_
  |refine wpList_store_row rfl 38 (.tmp 6) (.tmp 13) rfl W1.heap.size (hC h).toArray rfl rfl 38 Z8 (heap_alloc_new W1 _) (by rw[Zk,hlen.out]) (by rw[hlen.out];rfl) hone.out ?_)
 obtain⟨W2,w2e⟩:∃W2,(W1.alloc (Obj.cells Z8 38)).setRow W1.heap.size (hC h).toArray=W2:=⟨_,rfl⟩
 have m2:Nb W1 W2:=by rw[←w2e];exact((Nb.refl _).alloc _).setRow (Nat.le_refl _) _
 have kW2:W2.heap[W1.heap.size]? =some (.cells (hC h).toArray 38 (0,0)):=by rw[←w2e];exact setRow_heap _ _ _ _ _ _ (heap_alloc_new W1 _)
 change Code.wp _ _ _ _ ((W1.alloc (Obj.cells Z8 38)).setRow W1.heap.size (hC h).toArray)
 rw[w2e]
 clear w2e
 have kH2:=m2.block kH1
 have kZ2:=m2.block kZ1
 have n2:=n1.trans m2
 have hM2:=hM.nb n2
 clear kH1 kZ1 n1 m2
 obtain⟨cP,-⟩:=ZG kH2 (by exact hh.len)
 go_wp2_with fail
 refine(HLd.out _ hM2).mono ?_
 rintro e w'⟨rfl,rfl⟩
 clear HLd
 go_wp2_with fail
 refine(HD.out _).mono ?_
 rintro e w3⟨rfl,m3⟩
 go_upto_region 6 with(refine wpList_store_row rfl 50 (.tmp 9) (.tmp 29) rfl w3.heap.size (iC i) rfl rfl 50 _ (heap_alloc_new w3 _) (by rw[X3,Yp]) rfl (Xa i) ?_)
 obtain⟨W4,w4e⟩:∃W4,(w3.alloc (Obj.cells #[.int .i64 0,.int .i64 0,.int .i64 0,.int .i64 0,.int .i64 0,.bool false,.bool false] 50)).setRow w3.heap.size (iC i)=W4:=⟨_,rfl⟩
 have m4:Nb w3 W4:=by rw[←w4e];exact((Nb.refl _).alloc _).setRow (Nat.le_refl _) _
 have kI4:W4.heap[w3.heap.size]? =some (.cells (iC i) 50 (0,0)):=by rw[←w4e];exact setRow_heap _ _ _ _ _ _ (heap_alloc_new w3 _)
 change Code.wp _ _ _ _ ((w3.alloc (Obj.cells #[.int .i64 0,.int .i64 0,.int .i64 0,.int .i64 0,.int .i64 0,.bool false,.bool false] 50)).setRow w3.heap.size (iC i))
 rw[w4e]
 clear w4e
 have hz3:=m3.size
 have m34:=m3.trans m4
 have kH4:=m34.block kH2
 have kZ4:=m34.block kZ2
 have kW4:=m34.block kW2
 have n4:=n2.trans m34
 have hM4:=hM.nb n4
 have hzw:=Zf kW2
 clear kH2 kZ2 kW2 n2 m3 m4 m34 hM2 HD cP
 obtain⟨cP,-⟩:=ZG kH4 (by exact hh.len)
 obtain⟨c0,c1,c2,c3⟩:=Y9 kI4
 go_wp2_with (first|refine wpList_load_row rfl 38 (.tmp 2) rfl w.heap.size rfl 38 (hC h).toArray (0,0) _ kH4 underlying38 rfl (by rw[Zk,hlen.out]) ?_)
 refine(HR1.out _).mono ?_
 rintro e w5⟨rfl,m5⟩
 have kH5:=m5.block kH4
 have kI5:=m5.block kI4
 have kZ5:=m5.block kZ4
 have kW5:=m5.block kW4
 have n5:=n4.trans m5
 have hz5:=m5.size
 have hzi:=Zf kI4
 clear kH4 kI4 kZ4 kW4 n4 m5 hM4 cP c0 c1 c2 c3 HR1
 obtain⟨c0,c1,c2,c3⟩:=Y9 kI5
 go_wp2_with (first|refine wpList_load_row rfl 38 (.tmp 2) rfl w.heap.size rfl 38 (hC h).toArray (0,0) _ kH5 underlying38 rfl (by rw[Zk,hlen.out]) ?_)
 refine(HR2.out _).mono ?_
 rintro e w6⟨rfl,m6⟩
 have kH6:=m6.block kH5
 have kI6:=m6.block kI5
 have kZ6:=m6.block kZ5
 have kW6:=m6.block kW5
 have n6:=n5.trans m6
 have hz6:=m6.size
 have hM6:=hM.nb n6
 clear kH5 kI5 kZ5 kW5 n5 m6 c0 c1 c2 c3 HR2
 obtain⟨c0,c1,c2,c3⟩:=Y9 kI6
 obtain⟨cP,-⟩:=ZG kH6 (by exact hh.len)
 go_wp2_with fail
 refine(HZ.out _).mono ?_
 rintro e w'⟨rfl,rfl⟩
 clear HZ
 go_wp2_with (first|refine Y0 rfl 50 (.tmp 9) rfl ⟨w3.heap.size,0,none⟩ rfl _ (ld7 _ _ _ _ _ kI6) ?_)
 refine(HVal.out _).mono ?_
 rintro e W8⟨rfl,m8⟩
 have kH8:=m8.block kH6
 have kI8:=m8.block kI6
 have kZ8:=m8.block kZ6
 have n8:=n6.trans m8
 have gg:w.grownBy W8 (some q):=Nb.grown_none n8
 have hM8:=hM.nb n8
 clear HVal kH6 kI6 kZ6 kW6 hM6 n6 m8 n8 cP c0 c1 c2 c3
 obtain⟨c0,c1,c2,c3,c4,c5,c6⟩:=Yt kI8
 obtain⟨cP,-⟩:=ZG kH8 hk1.out
 go_wp2_with fail
 refine(HTk.out _).mono ?_
 rintro e W9⟨rfl,m9⟩
 have kH9:=m9.block kH8
 have kI9:=m9.block kI8
 have kZ9:=m9.block kZ8
 have hM9:=hM8.nb m9
 replace gg:=YF gg m9
 clear HTk kH8 kI8 kZ8 hM8 m9 cP c0 c1 c2 c3 c4 c5 c6
 obtain⟨c0,c1,c2,c3,c4,c5,c6⟩:=Yt kI9
 obtain⟨cP,-⟩:=ZG kH9 hk1.out
 go_wp2_with fail
 refine(HTg.out _).mono ?_
 rintro e W10⟨rfl,m10⟩
 have kH10:=m10.block kH9
 have kI10:=m10.block kI9
 have kZ10:=m10.block kZ9
 have hM10:=hM9.nb m10
 replace gg:=YF gg m10
 clear HTg kH9 kI9 kZ9 hM9 m10 cP c0 c1 c2 c3 c4 c5 c6
 obtain⟨c0,c1,c2,c3,c4,c5,c6⟩:=Yt kI10
 obtain⟨cP,-⟩:=ZG kH10 hk1.out
 have f0:=Z6 kH10 0
 go_upto_region 21 with(fail)
 obtain⟨Wa,wae⟩:∃Wa,W10.setCell ⟨w.heap.size,0,none⟩ (.int .u64 P)=Wa:=⟨_,rfl⟩
 have kHa:Wa.heap[w.heap.size]? =some (.cells (hC {h with pc:=P}).toArray 38 (0,0)):=by rw[←wae,Zg kH10 0 _,Z0n]
 have oth:∀k,k≠w.heap.size→Wa.heap[k]? =W10.heap[k]? :=fun k hk=>by rw[←wae,Below.heap_setCell _ _ _ _ hk]
 have gga:w.grownBy Wa (some q):=by rw[←wae];exact ZJ gg (Nat.le_refl _) _ _
 rw[wae]
 clear wae f0 cP c0 c2 c3 c4 c5 c6 c1
 have kIa:=(oth _ (by have:=Zf kI10;omega)).trans kI10
 have kZa:=(oth _ (by omega)).trans kZ10
 have hMa:Mem 62 Wa p q bs:=⟨(oth _ (by omega)).trans hM10.1,(oth _ (by omega)).trans hM10.2⟩
 clear oth kH10 kI10 kZ10 hM10 gg
 obtain⟨-,c1,-⟩:=Yt kIa
 rw[hrd'.out] at c1
 have hrd3:(rd:Int)<32:=by omega
 obtain⟨x1,q1⟩:∃x,Wa.cell? ⟨w.heap.size,1+rd,none⟩=some x:=by
  have hs:=(hC {h with pc:=P}).toArray.size
  refine⟨_,(cell_of_row _ _ _ _ _ _ kHa).trans (Array.getElem?_eq_getElem ?_)⟩
  have e:(hC {h with pc:=P}).toArray.size=36:=by rw[List.size_toArray];exact Zv hk1.out
  rw[e];omega
 have f1:=Z6 kHa (1+rd)
 go_upto_region 22 with(fail)
 obtain⟨Wb,wbe⟩:∃Wb,Wa.setCell ⟨w.heap.size,1+rd,none⟩ (.int .u64 V)=Wb:=⟨_,rfl⟩
 have kHb:Wb.heap[w.heap.size]? =some (.cells (hC {h with pc:=P,x:=h.x.set rd V}).toArray 38 (0,0)):=by rw[←wbe,Zg kHa (1+rd) _];rw[Kt {h with pc:=P} rd V hk1.out hrd2]
 have oth:∀k,k≠w.heap.size→Wb.heap[k]? =Wa.heap[k]? :=fun k hk=>by rw[←wbe,Below.heap_setCell _ _ _ _ hk]
 have ggb:w.grownBy Wb (some q):=by rw[←wbe];exact ZJ gga (Nat.le_refl _) _ _
 rw[wbe]
 clear wbe q1 f1 x1 c1
 have kZb:=(oth _ (by omega)).trans kZa
 have hMb:Mem 62 Wb p q bs:=⟨(oth _ (by omega)).trans hMa.1,(oth _ (by omega)).trans hMa.2⟩
 clear oth kHa kIa kZa hMa gga
 obtain⟨x1,q1⟩:∃x,Wb.cell? ⟨w.heap.size,1,none⟩=some x:=by
  refine⟨_,(cell_of_row _ _ _ _ _ _ kHb).trans (Array.getElem?_eq_getElem ?_)⟩
  have e:(hC {h with pc:=P,x:=h.x.set rd V}).toArray.size=36:=by rw[List.size_toArray];exact Zv (by show(h.x.set rd V).length=32;rw[List.length_set];exact hk1.out)
  rw[e];decide
 have f1:=Z6 kHb 1
 go_upto_region 23 with(fail)
 obtain⟨Wc,wce⟩:∃Wc,Wb.setCell ⟨w.heap.size,1,none⟩ (.int .u64 0)=Wc:=⟨_,rfl⟩
 have kHc:Wc.heap[w.heap.size]? =some (.cells (hC {h with pc:=P,x:=(h.x.set rd V).set 0 0}).toArray 38 (0,0)):=by
  rw[←wce,Zg kHb 1 _]
  rw[Kt {h with pc:=P,x:=h.x.set rd V} 0 0 (by show(h.x.set rd V).length=32;rw[List.length_set];exact hk1.out) (by decide)]
 have oth:∀k,k≠w.heap.size→Wc.heap[k]? =Wb.heap[k]? :=fun k hk=>by rw[←wce,Below.heap_setCell _ _ _ _ hk]
 have ggc:w.grownBy Wc (some q):=by rw[←wce];exact ZJ ggb (Nat.le_refl _) _ _
 rw[wce]
 clear wce q1 f1 x1
 have kZc:=(oth _ (by omega)).trans kZb
 have hMc:Mem 62 Wc p q bs:=⟨(oth _ (by omega)).trans hMb.1,(oth _ (by omega)).trans hMb.2⟩
 clear oth kHb kZb hMb ggb
 go_wp2_with (first
  |refine wpList_load_row rfl 38 (.tmp 2) rfl w.heap.size rfl 38 (hC {h with pc:=P,x:=(h.x.set rd V).set 0 0}).toArray (0,0) _ kHc underlying38 rfl (by rw[Zk,hlenF.out]) ?_
  |refine wpList_store_row rfl 38 (.tmp 4) (.tmp 109) rfl (w.heap.size+1) (hC {h with pc:=P,x:=(h.x.set rd V).set 0 0}).toArray rfl rfl 38 _ kZc (by rw[Zk,hlenF.out]) (by rw[hlenF.out];rfl) honeF.out ?_)
 exact YT ggc hMc kZc hlenF.out (by omega) _ _ rfl rfl
theorem Z3H(h:HV)(p q:Nat)(bs:By)(hh:HOk h)(hl:bs.length≤16777216)(i:In7)(V P:Int)(hf:flt bs.length h.pc 4=0)(hd:Xy (IntKind.u32.wrap (ldV bs h.pc 4))=some i)(ho:(i.1==51)=false)(ho2:(i.1==52)=false)(hr:(0≤i.2.1∧i.2.1<32)∧(0≤i.2.2.1∧i.2.2.1<32)∧(0≤i.2.2.2.1∧i.2.2.2.1<32))(hs:Za i.1=0)(E2:Int)(HVal:∀w1,Calls prog 32 #[.agg (iC i),.int .u64 h.pc,.int .u64 (rg h.x i.2.2.1.toNat),.int .u64 (rg h.x i.2.2.2.1.toNat)] w1 fun e w'=>e=.returned (.tuple #[.int .u64 V,.int .i64 E2])∧Nb w1 w')(h5:5≤i.1)(h10:i.1≤10)(HTk:∀w1,Calls prog 33 #[.agg (iC i),.int .u64 (rg h.x i.2.2.1.toNat),.int .u64 (rg h.x i.2.2.2.1.toNat)] w1 fun e w'=>e=.returned (.bool false)∧Nb w1 w')(hP:IntKind.u64.wrap (h.pc+4)=P)(w:World)(hM:Mem 62 w p q bs):
  Calls prog 10 #[.agg (hC h).toArray,.pointer (some ⟨p,0,none⟩)] w fun e w'=>e=.returned (.tuple #[.agg (hC {h with pc:=P,x:=(h.x.set i.2.1.toNat V).set 0 0}).toArray,.int .i64 (0)])∧Mem 62 w' p q bs∧w.grownBy w' (some q):=by
 have hlen:=Lib.hid (show(hC h).toArray.size=36 by rw[List.size_toArray];exact Zv (by exact hh.len))
 have hone:=Lib.hid (Zu (ZI h))
 have hpc:=hh.pc
 have hMlt:=hM.lt
 have HLd:=fun w1 hm=>Y8 p q bs h.pc 4 hpc.1 hpc.2 hl w1 hm
 rw[hf] at HLd
 replace HLd:=Lib.hid HLd
 have hu:=XR (ldV bs h.pc 4)
 have HD:=fun w1=>X5 _ hu.1 hu.2 w1
 have hvi:=Yl bs h.pc 4
 replace HVal:=Lib.hid HVal
 have hk1:=Lib.hid hh.len
 replace HTk:=Lib.hid HTk
 have hP':=Lib.hid hP
 clear hP
 obtain⟨rd,hrd,hrd2⟩:∃rd:Nat,i.2.1=(rd:Int)∧rd<32:=⟨i.2.1.toNat,by omega,by omega⟩
 have hrd':=Lib.hid hrd
 have hlenF:=Lib.hid (show(hC {h with pc:=P,x:=(h.x.set i.2.1.toNat V).set 0 0}).toArray.size=36 by rw[List.size_toArray];exact Zv (by show((h.x.set i.2.1.toNat V).set 0 0).length=32;rw[List.length_set,List.length_set];exact hh.len))
 have honeF:=Lib.hid (Zu (ZI {h with pc:=P,x:=(h.x.set i.2.1.toNat V).set 0 0}))
 have eF:(h.x.set i.2.1.toNat V).set 0 0=(h.x.set rd V).set 0 0:=by rw[hrd,Int.toNat_natCast]
 rw[eF] at hlenF honeF ⊢
 clear eF
 rw[hd] at HD
 replace HD:=Lib.hid (show ∀w1,Calls prog 28 #[.int .u32 (IntKind.u32.wrap (ldV bs h.pc 4))] w1 fun e w'=>e=.returned (.tuple #[.agg (iC i),.int .i64 0])∧Nb w1 w' from HD)
 have HR1:=Lib.hid fun w1=>YM h hh.len i.2.2.1 (by omega) (by omega) w1
 have HR2:=Lib.hid fun w1=>YM h hh.len i.2.2.2.1 (by omega) (by omega) w1
 have HZ:=Lib.hid (YK i.1)
 have q1:=YO hh.x i.2.2.1.toNat
 have q2:=YO hh.x i.2.2.2.1.toNat
 generalize rg h.x i.2.2.1.toNat=a at*
 generalize rg h.x i.2.2.2.1.toNat=b at*
 clear hd hf hrd hr
 go_enter func10,ntmps10
 go_upto_region 1 with(fail)
 obtain⟨W1,w1e⟩:∃W1,(w.alloc (Obj.cells (hC h).toArray 38)).alloc (Obj.cells Z8 38)=W1:=⟨_,rfl⟩
 have n1:Nb w W1:=by rw[←w1e];exact((Nb.refl _).alloc _).alloc _
 have hz1:w.heap.size+2≤W1.heap.size:=by rw[←w1e];simp
 have kH1:W1.heap[w.heap.size]? =some (.cells (hC h).toArray 38 (0,0)):=by rw[←w1e];exact Zo (Zd _ _ rfl) _
 have kZ1:W1.heap[w.heap.size+1]? =some (.cells Z8 38 (0,0)):=by rw[←w1e];exact Zd _ _ (by simp)
 change Code.wp _ _ _ _ ((w.alloc (Obj.cells (hC h).toArray 38)).alloc (Obj.cells Z8 38))
 rw[w1e]
 clear w1e
 go_upto_region 2 with(first
  |refine wpList_load_row rfl 38 (.tmp 2) rfl w.heap.size rfl 38 (hC h).toArray (0,0) _ kH1 underlying38 rfl (by rw[Zk,hlen.out]) ?_
  |refine wpList_store_row rfl 38 (.tmp 6) (.tmp 13) rfl W1.heap.size (hC h).toArray rfl rfl 38 Z8 (heap_alloc_new W1 _) (by rw[Zk,hlen.out]) (by rw[hlen.out];rfl) hone.out ?_)
 obtain⟨W2,w2e⟩:∃W2,(W1.alloc (Obj.cells Z8 38)).setRow W1.heap.size (hC h).toArray=W2:=⟨_,rfl⟩
 have m2:Nb W1 W2:=by rw[←w2e];exact((Nb.refl _).alloc _).setRow (Nat.le_refl _) _
 have kW2:W2.heap[W1.heap.size]? =some (.cells (hC h).toArray 38 (0,0)):=by rw[←w2e];exact setRow_heap _ _ _ _ _ _ (heap_alloc_new W1 _)
 change Code.wp _ _ _ _ ((W1.alloc (Obj.cells Z8 38)).setRow W1.heap.size (hC h).toArray)
 rw[w2e]
 clear w2e
 have kH2:=m2.block kH1
 have kZ2:=m2.block kZ1
 have n2:=n1.trans m2
 have hM2:=hM.nb n2
 clear kH1 kZ1 n1 m2
 obtain⟨cP,-⟩:=ZG kH2 (by exact hh.len)
 go_wp2_with fail
 refine(HLd.out _ hM2).mono ?_
 rintro e w'⟨rfl,rfl⟩
 clear HLd
 go_wp2_with fail
 refine(HD.out _).mono ?_
 rintro e w3⟨rfl,m3⟩
 go_upto_region 6 with(refine wpList_store_row rfl 50 (.tmp 9) (.tmp 29) rfl w3.heap.size (iC i) rfl rfl 50 _ (heap_alloc_new w3 _) (by rw[X3,Yp]) rfl (Xa i) ?_)
 obtain⟨W4,w4e⟩:∃W4,(w3.alloc (Obj.cells #[.int .i64 0,.int .i64 0,.int .i64 0,.int .i64 0,.int .i64 0,.bool false,.bool false] 50)).setRow w3.heap.size (iC i)=W4:=⟨_,rfl⟩
 have m4:Nb w3 W4:=by rw[←w4e];exact((Nb.refl _).alloc _).setRow (Nat.le_refl _) _
 have kI4:W4.heap[w3.heap.size]? =some (.cells (iC i) 50 (0,0)):=by rw[←w4e];exact setRow_heap _ _ _ _ _ _ (heap_alloc_new w3 _)
 change Code.wp _ _ _ _ ((w3.alloc (Obj.cells #[.int .i64 0,.int .i64 0,.int .i64 0,.int .i64 0,.int .i64 0,.bool false,.bool false] 50)).setRow w3.heap.size (iC i))
 rw[w4e]
 clear w4e
 have hz3:=m3.size
 have m34:=m3.trans m4
 have kH4:=m34.block kH2
 have kZ4:=m34.block kZ2
 have kW4:=m34.block kW2
 have n4:=n2.trans m34
 have hM4:=hM.nb n4
 have hzw:=Zf kW2
 clear kH2 kZ2 kW2 n2 m3 m4 m34 hM2 HD cP
 obtain⟨cP,-⟩:=ZG kH4 (by exact hh.len)
 obtain⟨c0,c1,c2,c3⟩:=Y9 kI4
 go_wp2_with (first|refine wpList_load_row rfl 38 (.tmp 2) rfl w.heap.size rfl 38 (hC h).toArray (0,0) _ kH4 underlying38 rfl (by rw[Zk,hlen.out]) ?_)
 refine(HR1.out _).mono ?_
 rintro e w5⟨rfl,m5⟩
 have kH5:=m5.block kH4
 have kI5:=m5.block kI4
 have kZ5:=m5.block kZ4
 have kW5:=m5.block kW4
 have n5:=n4.trans m5
 have hz5:=m5.size
 have hzi:=Zf kI4
 clear kH4 kI4 kZ4 kW4 n4 m5 hM4 cP c0 c1 c2 c3 HR1
 obtain⟨c0,c1,c2,c3⟩:=Y9 kI5
 go_wp2_with (first|refine wpList_load_row rfl 38 (.tmp 2) rfl w.heap.size rfl 38 (hC h).toArray (0,0) _ kH5 underlying38 rfl (by rw[Zk,hlen.out]) ?_)
 refine(HR2.out _).mono ?_
 rintro e w6⟨rfl,m6⟩
 have kH6:=m6.block kH5
 have kI6:=m6.block kI5
 have kZ6:=m6.block kZ5
 have kW6:=m6.block kW5
 have n6:=n5.trans m6
 have hz6:=m6.size
 have hM6:=hM.nb n6
 clear kH5 kI5 kZ5 kW5 n5 m6 c0 c1 c2 c3 HR2
 obtain⟨c0,c1,c2,c3⟩:=Y9 kI6
 obtain⟨cP,-⟩:=ZG kH6 (by exact hh.len)
 go_wp2_with fail
 refine(HZ.out _).mono ?_
 rintro e w'⟨rfl,rfl⟩
 clear HZ
 go_wp2_with (first|refine Y0 rfl 50 (.tmp 9) rfl ⟨w3.heap.size,0,none⟩ rfl _ (ld7 _ _ _ _ _ kI6) ?_)
 refine(HVal.out _).mono ?_
 rintro e W8⟨rfl,m8⟩
 have kH8:=m8.block kH6
 have kI8:=m8.block kI6
 have kZ8:=m8.block kZ6
 have n8:=n6.trans m8
 have gg:w.grownBy W8 (some q):=Nb.grown_none n8
 have hM8:=hM.nb n8
 clear HVal kH6 kI6 kZ6 kW6 hM6 n6 m8 n8 cP c0 c1 c2 c3
 obtain⟨c0,c1,c2,c3,c4,c5,c6⟩:=Yt kI8
 obtain⟨cP,-⟩:=ZG kH8 hk1.out
 go_wp2_with fail
 refine(HTk.out _).mono ?_
 rintro e W9⟨rfl,m9⟩
 have kH9:=m9.block kH8
 have kI9:=m9.block kI8
 have kZ9:=m9.block kZ8
 have hM9:=hM8.nb m9
 replace gg:=YF gg m9
 clear HTk kH8 kI8 kZ8 hM8 m9 cP c0 c1 c2 c3 c4 c5 c6
 obtain⟨c0,c1,c2,c3,c4,c5,c6⟩:=Yt kI9
 obtain⟨cP,-⟩:=ZG kH9 hk1.out
 have f0:=Z6 kH9 0
 go_upto_region 21 with(fail)
 rw[hP'.out]
 obtain⟨Wa,wae⟩:∃Wa,W9.setCell ⟨w.heap.size,0,none⟩ (.int .u64 P)=Wa:=⟨_,rfl⟩
 have kHa:Wa.heap[w.heap.size]? =some (.cells (hC {h with pc:=P}).toArray 38 (0,0)):=by rw[←wae,Zg kH9 0 _,Z0n]
 have oth:∀k,k≠w.heap.size→Wa.heap[k]? =W9.heap[k]? :=fun k hk=>by rw[←wae,Below.heap_setCell _ _ _ _ hk]
 have gga:w.grownBy Wa (some q):=by rw[←wae];exact ZJ gg (Nat.le_refl _) _ _
 rw[wae]
 clear wae f0 cP c0 c2 c3 c4 c5 c6 c1
 have kIa:=(oth _ (by have:=Zf kI9;omega)).trans kI9
 have kZa:=(oth _ (by omega)).trans kZ9
 have hMa:Mem 62 Wa p q bs:=⟨(oth _ (by omega)).trans hM9.1,(oth _ (by omega)).trans hM9.2⟩
 clear oth kH9 kI9 kZ9 hM9 gg
 obtain⟨-,c1,-⟩:=Yt kIa
 rw[hrd'.out] at c1
 have hrd3:(rd:Int)<32:=by omega
 obtain⟨x1,q1⟩:∃x,Wa.cell? ⟨w.heap.size,1+rd,none⟩=some x:=by
  have hs:=(hC {h with pc:=P}).toArray.size
  refine⟨_,(cell_of_row _ _ _ _ _ _ kHa).trans (Array.getElem?_eq_getElem ?_)⟩
  have e:(hC {h with pc:=P}).toArray.size=36:=by rw[List.size_toArray];exact Zv hk1.out
  rw[e];omega
 have f1:=Z6 kHa (1+rd)
 go_upto_region 22 with(fail)
 obtain⟨Wb,wbe⟩:∃Wb,Wa.setCell ⟨w.heap.size,1+rd,none⟩ (.int .u64 V)=Wb:=⟨_,rfl⟩
 have kHb:Wb.heap[w.heap.size]? =some (.cells (hC {h with pc:=P,x:=h.x.set rd V}).toArray 38 (0,0)):=by rw[←wbe,Zg kHa (1+rd) _];rw[Kt {h with pc:=P} rd V hk1.out hrd2]
 have oth:∀k,k≠w.heap.size→Wb.heap[k]? =Wa.heap[k]? :=fun k hk=>by rw[←wbe,Below.heap_setCell _ _ _ _ hk]
 have ggb:w.grownBy Wb (some q):=by rw[←wbe];exact ZJ gga (Nat.le_refl _) _ _
 rw[wbe]
 clear wbe q1 f1 x1 c1
 have kZb:=(oth _ (by omega)).trans kZa
 have hMb:Mem 62 Wb p q bs:=⟨(oth _ (by omega)).trans hMa.1,(oth _ (by omega)).trans hMa.2⟩
 clear oth kHa kIa kZa hMa gga
 obtain⟨x1,q1⟩:∃x,Wb.cell? ⟨w.heap.size,1,none⟩=some x:=by
  refine⟨_,(cell_of_row _ _ _ _ _ _ kHb).trans (Array.getElem?_eq_getElem ?_)⟩
  have e:(hC {h with pc:=P,x:=h.x.set rd V}).toArray.size=36:=by rw[List.size_toArray];exact Zv (by show(h.x.set rd V).length=32;rw[List.length_set];exact hk1.out)
  rw[e];decide
 have f1:=Z6 kHb 1
 go_upto_region 23 with(fail)
 obtain⟨Wc,wce⟩:∃Wc,Wb.setCell ⟨w.heap.size,1,none⟩ (.int .u64 0)=Wc:=⟨_,rfl⟩
 have kHc:Wc.heap[w.heap.size]? =some (.cells (hC {h with pc:=P,x:=(h.x.set rd V).set 0 0}).toArray 38 (0,0)):=by
  rw[←wce,Zg kHb 1 _]
  rw[Kt {h with pc:=P,x:=h.x.set rd V} 0 0 (by show(h.x.set rd V).length=32;rw[List.length_set];exact hk1.out) (by decide)]
 have oth:∀k,k≠w.heap.size→Wc.heap[k]? =Wb.heap[k]? :=fun k hk=>by rw[←wce,Below.heap_setCell _ _ _ _ hk]
 have ggc:w.grownBy Wc (some q):=by rw[←wce];exact ZJ ggb (Nat.le_refl _) _ _
 rw[wce]
 clear wce q1 f1 x1
 have kZc:=(oth _ (by omega)).trans kZb
 have hMc:Mem 62 Wc p q bs:=⟨(oth _ (by omega)).trans hMb.1,(oth _ (by omega)).trans hMb.2⟩
 clear oth kHb kZb hMb ggb
 go_wp2_with (first
  |refine wpList_load_row rfl 38 (.tmp 2) rfl w.heap.size rfl 38 (hC {h with pc:=P,x:=(h.x.set rd V).set 0 0}).toArray (0,0) _ kHc underlying38 rfl (by rw[Zk,hlenF.out]) ?_
  |refine wpList_store_row rfl 38 (.tmp 4) (.tmp 109) rfl (w.heap.size+1) (hC {h with pc:=P,x:=(h.x.set rd V).set 0 0}).toArray rfl rfl 38 _ kZc (by rw[Zk,hlenF.out]) (by rw[hlenF.out];rfl) honeF.out ?_)
 exact YT ggc hMc kZc hlenF.out (by omega) _ _ rfl rfl
end Go.Proofs.YtgpdpaljbiclkaaGreatDoor

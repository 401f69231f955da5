/-
  Proved here: what touch of the reference answers. Conditions: the hart's numbers are words; the memory is one that a call made, of at most 2^24 bytes.
-/
import Derived.Test.YtgpdpaljbiclkaaGreatDoorSzz
import Derived.Test.YtgpdpaljbiclkaaGreatDoorSbj
import Derived.Test.YtgpdpaljbiclkaaGreatDoorSbk
import Derived.Test.YtgpdpaljbiclkaaGreatDoorSbl
set_option maxHeartbeats 60000000
set_option maxRecDepth 100000
namespace Go.Proofs.YtgpdpaljbiclkaaGreatDoor
open _root_.Go.Proofs.Tryz
open Go.RowKit
set_option linter.unusedVariables false
set_option linter.unusedSimpArgs false
def TouC (h:HV) (i:In7) (b at_ s:Int) (bs:By) (V:Int) (H:HV) (E:Int) (B:By):Prop:=
 (Zz i.1=true∧(i.1==67)=false∧(i.1==78)=false∧(flt bs.length at_ s)≠0∧0=V∧h=H∧(flt bs.length at_ s)=E∧bs=B)∨
 (Zz i.1=true∧Zq i.1=false∧(i.1==67)=false∧(i.1==78)=false∧(i.1==66)=false∧(i.1==77)=false∧(flt bs.length at_ s)=0∧LdB i.1 (ldV bs at_ s)=V∧h=H∧0=E∧bs=B)∨
 (Zz i.1=true∧Zq i.1=false∧(i.1==67)=false∧(i.1==78)=false∧(i.1==66)=true∧(i.1==77)=false∧(flt bs.length at_ s)=0∧LdB i.1 (ldV bs at_ s)=V∧ {h with held:=true,addr:=at_,size:=s}=H∧0=E∧bs=B)∨
 (Zz i.1=true∧Zq i.1=false∧(i.1==67)=false∧(i.1==78)=false∧(i.1==66)=false∧(i.1==77)=true∧(flt bs.length at_ s)=0∧LdB i.1 (ldV bs at_ s)=V∧ {h with held:=true,addr:=at_,size:=s}=H∧0=E∧bs=B)∨
 (Zz i.1=true∧Zq i.1=true∧(i.1==67)=false∧(i.1==78)=false∧(i.1==66)=false∧(i.1==77)=false∧(flt bs.length at_ s)=0∧LdB i.1 (ldV bs at_ s)=V∧h=H∧0=E∧stB bs at_ s (StB i.1 (ldV bs at_ s) b)=B)∨
 (Zz i.1=false∧Zq i.1=true∧(i.1==67)=false∧(i.1==78)=false∧(i.1==66)=false∧(i.1==77)=false∧(flt bs.length at_ s)=0∧LdB i.1 0=V∧h=H∧0=E∧stB bs at_ s (StB i.1 0 b)=B)∨
 (Zz i.1=false∧Zq i.1=true∧(i.1==67)=false∧(i.1==78)=false∧(flt bs.length at_ s)≠0∧0=V∧h=H∧(flt bs.length at_ s)=E∧bs=B)∨
 ((i.1==67)=true∧(i.1==78)=false∧h.held=false∧1=V∧ {h with held:=false,addr:=0,size:=0}=H∧0=E∧bs=B)∨
 ((i.1==67)=true∧(i.1==78)=false∧h.held=true∧(h.addr==at_)=false∧1=V∧ {h with held:=false,addr:=0,size:=0}=H∧0=E∧bs=B)∨
 ((i.1==67)=true∧(i.1==78)=false∧h.held=true∧(h.addr==at_)=true∧(h.size==s)=false∧1=V∧ {h with held:=false,addr:=0,size:=0}=H∧0=E∧bs=B)∨
 (Zq i.1=true∧(i.1==67)=true∧(i.1==78)=false∧h.held=true∧(h.addr==at_)=true∧(h.size==s)=true∧(flt bs.length at_ s)≠0∧0=V∧h=H∧(flt bs.length at_ s)=E∧bs=B)∨
 (Zq i.1=true∧(i.1==67)=true∧(i.1==78)=false∧h.held=true∧(h.addr==at_)=true∧(h.size==s)=true∧(flt bs.length at_ s)=0∧0=V∧ {h with held:=false,addr:=0,size:=0}=H∧0=E∧stB bs at_ s (StB i.1 0 b)=B)∨
 ((i.1==67)=false∧(i.1==78)=true∧h.held=false∧1=V∧ {h with held:=false,addr:=0,size:=0}=H∧0=E∧bs=B)∨
 ((i.1==67)=false∧(i.1==78)=true∧h.held=true∧(h.addr==at_)=false∧1=V∧ {h with held:=false,addr:=0,size:=0}=H∧0=E∧bs=B)∨
 ((i.1==67)=false∧(i.1==78)=true∧h.held=true∧(h.addr==at_)=true∧(h.size==s)=false∧1=V∧ {h with held:=false,addr:=0,size:=0}=H∧0=E∧bs=B)∨
 (Zq i.1=true∧(i.1==67)=false∧(i.1==78)=true∧h.held=true∧(h.addr==at_)=true∧(h.size==s)=true∧(flt bs.length at_ s)≠0∧0=V∧h=H∧(flt bs.length at_ s)=E∧bs=B)∨
 (Zq i.1=true∧(i.1==67)=false∧(i.1==78)=true∧h.held=true∧(h.addr==at_)=true∧(h.size==s)=true∧(flt bs.length at_ s)=0∧0=V∧ {h with held:=false,addr:=0,size:=0}=H∧0=E∧stB bs at_ s (StB i.1 0 b)=B)
theorem Ym(h:HV)(i:In7)(b at_ s V E:Int)(H:HV)(B:By)(p q:Nat)(bs:By)(hh:HOk h)(qb:InU b)(hr1:0≤i.2.2.1∧i.2.2.1<32)(e1:Hid ((AdB i.1 i.2.2.2.2.1 (rg h.x i.2.2.1.toNat))=at_))(e2:Hid ((Za i.1)=s))(qt:InU at_)(hc:TouC h i b at_ s bs V H E B)(hl:bs.length≤16777216)(w:World)(hM:Mem 62 w p q bs):
  Calls prog 31 #[.agg (hC h).toArray,.pointer (some ⟨p,0,none⟩),.agg #[.int .i64 i.1,.int .i64 i.2.1,.int .i64 i.2.2.1,.int .i64 i.2.2.2.1,.int .i64 i.2.2.2.2.1,.bool i.2.2.2.2.2.1,.bool i.2.2.2.2.2.2],.int .u64 b] w (Kx (V) H (E) B p q w):=by
 have HR:=Lib.hid fun w1=>YM h hh.len i.2.2.1 hr1.1 hr1.2 w1
 have HA:=fun w1=>Z5c i.1 i.2.1 i.2.2.1 i.2.2.2.1 i.2.2.2.2.1 (rg h.x i.2.2.1.toNat) i.2.2.2.2.2.1 i.2.2.2.2.2.2 w1
 rw[e1.out] at HA
 replace HA:=Lib.hid HA
 have HZ:=YK i.1
 rw[e2.out] at HZ
 replace HZ:=Lib.hid HZ
 have hlen:=Lib.hid hh.len
 have hlen2:=Lib.hid (show(hC h).toArray.size=36 by rw[List.size_toArray];exact Zv (by exact hh.len))
 have hone:=Lib.hid (Zu (ZI h))
 have hlen3:=Lib.hid (show(hC {h with held:=false,addr:=0,size:=0}).toArray.size=36 by rw[List.size_toArray];exact Zv (by exact hh.len))
 have hone3:=Lib.hid (Zu (ZI {h with held:=false,addr:=0,size:=0}))
 have hlen4:=Lib.hid (show(hC {h with held:=true,addr:=at_,size:=s}).toArray.size=36 by rw[List.size_toArray];exact Zv (by exact hh.len))
 have hone4:=Lib.hid (Zu (ZI {h with held:=true,addr:=at_,size:=s}))
 have hMlt:=hM.lt
 unfold Kx
 have hcH:=Lib.hid hc
 clear hc
 clear hh hr1
 go_enter func31,ntmps31
 go_upto_region 1 with(fail)
 obtain⟨W1,w1e⟩:∃W1,((w.alloc (Obj.cells (hC h).toArray 38)).alloc (Obj.cells #[.int .i64 i.1,.int .i64 i.2.1,.int .i64 i.2.2.1,.int .i64 i.2.2.2.1,.int .i64 i.2.2.2.2.1,.bool i.2.2.2.2.2.1,.bool i.2.2.2.2.2.2] 50)).alloc (Obj.cells Z8 38)=W1:=⟨_,rfl⟩
 have n1:Nb w W1:=by rw[←w1e];exact(((Nb.refl _).alloc _).alloc _).alloc _
 have kH:W1.heap[w.heap.size]? =some (.cells (hC h).toArray 38 (0,0)):=by rw[←w1e];exact Zo (Zo (Zd _ _ rfl) _) _
 have kI:W1.heap[w.heap.size+1]? =some (.cells #[.int .i64 i.1,.int .i64 i.2.1,.int .i64 i.2.2.1,.int .i64 i.2.2.2.1,.int .i64 i.2.2.2.2.1,.bool i.2.2.2.2.2.1,.bool i.2.2.2.2.2.2] 50 (0,0)):=by rw[←w1e];exact Zo (Zd _ _ (by simp)) _
 have kZ:W1.heap[w.heap.size+1+1]? =some (.cells Z8 38 (0,0)):=by rw[←w1e];exact Zd _ _ (by simp)
 change Code.wp _ _ _ _ (((w.alloc (Obj.cells (hC h).toArray 38)).alloc (Obj.cells #[.int .i64 i.1,.int .i64 i.2.1,.int .i64 i.2.2.1,.int .i64 i.2.2.2.1,.int .i64 i.2.2.2.2.1,.bool i.2.2.2.2.2.1,.bool i.2.2.2.2.2.2] 50)).alloc (Obj.cells Z8 38))
 rw[w1e]
 clear w1e
 have n1d:Nb w W1.drew:=n1.trans ⟨rfl,rfl,rfl,Nat.le_refl _,fun _ _=>rfl⟩
 have kZd:W1.drew.heap[w.heap.size+1+1]? =some (.cells Z8 38 (0,0)):=kZ
 refine wp_region_held_drew (S:=fun w'=>w'.heap[w.heap.size]? =some (.cells (hC h).toArray 38 (0,0))∧w'.heap[w.heap.size+1]? =some (.cells #[.int .i64 i.1,.int .i64 i.2.1,.int .i64 i.2.2.1,.int .i64 i.2.2.2.1,.int .i64 i.2.2.2.2.1,.bool i.2.2.2.2.2.1,.bool i.2.2.2.2.2.2] 50 (0,0))) (by kernel_rfl) ⟨kH,kI⟩ (fun hHeld=> ?_)
 change wpAnyH _ _ _ _ _ 7 (List.toArray [false,false,false,false,false,false,false]) _ _
 refine Zc (i:=0) (v:= .agg #[.int .i64 i.1,.int .i64 i.2.1,.int .i64 i.2.2.1,.int .i64 i.2.2.2.1,.int .i64 i.2.2.2.2.1,.bool i.2.2.2.2.2.1,.bool i.2.2.2.2.2.2]) rfl (by kernel_rfl) (by kernel_rfl) (by kernel_rfl) (fun _ _ _ h=>h) (Zt (by rfl) 50 (.tmp 6) rfl ⟨w.heap.size+1,0,none⟩ rfl _ (fun w' hw=>ld7 _ _ _ _ _ hw.2)) hHeld ?_
 simp only[Act.put,sI,sZ,sS]
 refine Zc (i:=1) (v:= .agg (hC h).toArray) rfl (by kernel_rfl) (by kernel_rfl) (by kernel_rfl) (fun _ _ _ h=>h) (Zt (by rfl) 38 (.tmp 4) rfl ⟨w.heap.size,0,none⟩ rfl _ (fun w' hw=>Xz _ _ _ _ _ hw.1 hlen2.out)) hHeld ?_
 simp only[Act.put,sI,sZ,sS]
 refine Zc (i:=2) (v:= .pointer (some ⟨w.heap.size+1,2,none⟩)) rfl (by kernel_rfl) (by kernel_rfl) (by kernel_rfl) (fun _ _ _ h=>h) (.inl ⟨by rfl,by intro w' hw;go_simp⟩) hHeld ?_
 simp only[Act.put,sI,sZ,sS]
 refine Zc (i:=3) (v:= .int .i64 i.2.2.1) rfl (by kernel_rfl) (by kernel_rfl) (by kernel_rfl) (fun _ _ _ h=>h) (.inl ⟨by rfl,by intro w' hw;have hc0:=(Z4 hw.2).2.2.2.1;clear hw;go_simp⟩) hHeld ?_
 simp only[Act.put,sI,sZ,sS]
 clear kH kI kZ n1
 generalize W1.drew=w6 at*
 refine wpAnyH_ready (rs:=[4]) (by kernel_rfl) (by simp) (ZQ rfl (by rfl) (fun K hK=> ?_) .nil)
 go_simp
 refine(HR.out _).mono ?_
 rintro e w7⟨rfl,n7⟩
 have n7w:=n1d.trans n7
 have kZ7:=n7.block kZd
 refine hK.out _ _ ⟨n7.block hHeld.1,n7.block hHeld.2⟩ (fun hHeld=> ?_)
 clear hK K n1d kZd n7
 simp only[Act.put,sI,sZ,sS]
 refine wpAnyH_ready (rs:=[5]) (by kernel_rfl) (by simp) (ZQ rfl (by rfl) (fun K hK=> ?_) .nil)
 go_simp
 refine(HA.out _).mono ?_
 rintro e w8⟨rfl,n8⟩
 have n8w:=n7w.trans n8
 have kZ8:=n8.block kZ7
 refine hK.out _ _ ⟨n8.block hHeld.1,n8.block hHeld.2⟩ (fun hHeld=> ?_)
 clear hK K n7w kZ7 n8
 simp only[Act.put,sI,sZ,sS]
 refine Zc (i:=6) (v:= .int .u64 at_) rfl (by kernel_rfl) (by kernel_rfl) (by kernel_rfl) (fun _ _ _ h=>h) (.inl ⟨by rfl,by intro w' hw;go_simp⟩) hHeld ?_
 simp only[Act.put,sI,sZ,sS]
 refine wpAnyH_done (by kernel_rfl) ?_ _
 have kH8:=hHeld.1
 have kI8:=hHeld.2
 have hM8:=hM.nb n8w
 clear hHeld hM HR HA
 have z8:=Below.size n8w
 obtain⟨z,c0,c1,c2,c3,c4,c5,c6⟩:=Z4 kI8
 clear z c1 c2 c3 c4 c5 c6
 go_wp2_with fail
 refine(HZ.out _).mono ?_
 rintro e w'⟨rfl,rfl⟩
 clear HZ
 have hc:TouC h i b at_ s bs V H E B:=hcH.out
 clear hcH
 unfold TouC at hc
 rcases hc with⟨hL,hd67,hd78,hf,rfl,rfl,rfl,rfl⟩|⟨hL,hS,hd67,hd78,hd66,hd77,hf,rfl,rfl,rfl,rfl⟩|⟨hL,hS,hd67,hd78,hd66,hd77,hf,rfl,rfl,rfl,rfl⟩|⟨hL,hS,hd67,hd78,hd66,hd77,hf,rfl,rfl,rfl,rfl⟩|⟨hL,hS,hd67,hd78,hd66,hd77,hf,rfl,rfl,rfl,rfl⟩|⟨hL,hS,hd67,hd78,hd66,hd77,hf,rfl,rfl,rfl,rfl⟩|⟨hL,hS,hd67,hd78,hf,rfl,rfl,rfl,rfl⟩|⟨hd67,hd78,t1,rfl,rfl,rfl,rfl⟩|⟨hd67,hd78,t1,t2,rfl,rfl,rfl,rfl⟩|⟨hd67,hd78,t1,t2,t3,rfl,rfl,rfl,rfl⟩|⟨hS,hd67,hd78,t1,t2,t3,hf,rfl,rfl,rfl,rfl⟩|⟨hS,hd67,hd78,t1,t2,t3,hf,rfl,rfl,rfl,rfl⟩|⟨hd67,hd78,t1,rfl,rfl,rfl,rfl⟩|⟨hd67,hd78,t1,t2,rfl,rfl,rfl,rfl⟩|⟨hd67,hd78,t1,t2,t3,rfl,rfl,rfl,rfl⟩|⟨hS,hd67,hd78,t1,t2,t3,hf,rfl,rfl,rfl,rfl⟩|⟨hS,hd67,hd78,t1,t2,t3,hf,rfl,rfl,rfl,rfl⟩
 ·have HLo:=YC i.1
  rw[hL] at HLo
  replace HLo:=Lib.hid HLo
  have HLd:=Lib.hid fun w1 hm=>Y8 p q bs at_ s qt.1 qt.2 hl w1 hm
  have hvi:=Yl bs at_ s
  have hf':(flt bs.length at_ s !=0)=true:=bne_iff_ne.2 hf
  clear hL hf
  go_wp2_with fail
  refine(HLo.out _).mono ?_
  rintro e w'⟨rfl,rfl⟩
  go_wp2_with fail
  refine(HLd.out _ hM8).mono ?_
  rintro e w'⟨rfl,rfl⟩
  clear HLd HLo
  have gg:w.grownBy w8 (some q):=Nb.grown_none n8w
  go_upto_region 20 with(fail)
  have gK:w.grownBy w8.drew (some q):=⟨gg.os,gg.tape,gg.output,gg.size,gg.block⟩
  have hM6:Mem 62 w8.drew p q bs:=hM8
  have kZ6:w8.drew.heap[w.heap.size+1+1]? =some (.cells Z8 38 (0,0)):=kZ8
  refine wp_region_held_drew (S:=fun w'=>w'.heap[w.heap.size]? =some (.cells (hC h).toArray 38 (0,0))) (by kernel_rfl) kH8 (fun hHeld=> ?_)
  change wpAnyH _ _ _ _ _ 5 (List.toArray [false,false,false,false,false]) _ _
  refine Zc (i:=0) (v:= .agg (hC h).toArray) rfl (by kernel_rfl) (by kernel_rfl) (by kernel_rfl) (fun _ _ _ h=>h) (Zt (by rfl) 38 (.tmp 4) rfl ⟨w.heap.size,0,none⟩ rfl _ (fun w' hw=>Xz _ _ _ _ _ hw hlen2.out)) hHeld ?_
  simp only[Act.put,sI,sZ,sS]
  refine Zc (i:=1) (v:= .int .i64 (flt bs.length at_ s)) rfl (by kernel_rfl) (by kernel_rfl) (by kernel_rfl) (fun _ _ _ h=>h) (.inl ⟨by rfl,by intro w' hw;go_simp⟩) hHeld ?_
  simp only[Act.put,sI,sZ,sS]
  refine Zc (i:=2) (v:= .int .u64 0) rfl (by kernel_rfl) (by kernel_rfl) (by kernel_rfl) (fun _ _ _ h=>h) (.inl ⟨by rfl,by intro w' hw;go_simp⟩) hHeld ?_
  simp only[Act.put,sI,sZ,sS]
  clear gg kH8 kZ8 hM8
  generalize w8.drew=w6 at*
  refine wpAnyH_ready (rs:=[3]) (by kernel_rfl) (by simp) (ZQ rfl (by rfl) (fun K hK=> ?_) .nil)
  refine wp_store_row 38 (.tmp 9) (.tmp 83) rfl (w.heap.size+1+1) (hC h).toArray rfl rfl 38 _ kZ6 (by rw[Zk,hlen2.out]) (by rw[hlen2.out];rfl) hone.out ?_
  refine hK.out _ _ ((setRow_other _ _ _ _ (by omega)).trans hHeld) (fun hHeld=> ?_)
  clear hK K
  simp only[Act.put,sI,sZ,sS]
  refine Zc (i:=4) (v:= .int .i64 (flt bs.length at_ s)) rfl (by kernel_rfl) (by kernel_rfl) (by kernel_rfl) (fun _ _ _ h=>h) (.inl ⟨by rfl,by intro w' hw;go_simp⟩) hHeld ?_
  simp only[Act.put,sI,sZ,sS]
  refine wpAnyH_done (by kernel_rfl) ?_ _
  go_wp2_with fail
  exact Yq gK hM6 kZ6 hlen2.out (by omega) _ _ _ rfl rfl rfl
 ·have HLo:=YC i.1
  rw[hL] at HLo
  replace HLo:=Lib.hid HLo
  have HSt:=YD i.1
  rw[hS] at HSt
  replace HSt:=Lib.hid HSt
  have HLd:=fun w1 hm=>Y8 p q bs at_ s qt.1 qt.2 hl w1 hm
  rw[hf] at HLd
  replace HLd:=Lib.hid HLd
  have hvi:=Yl bs at_ s
  have HX:=Lib.hid fun w1=>KP i.1 (ldV bs at_ s) (Yl bs at_ s) w1
  clear hL hS hf
  go_wp2_with fail
  refine(HLo.out _).mono ?_
  rintro e w'⟨rfl,rfl⟩
  go_wp2_with fail
  refine(HLd.out _ hM8).mono ?_
  rintro e w'⟨rfl,rfl⟩
  go_wp2_with fail
  refine(HSt.out _).mono ?_
  rintro e w'⟨rfl,rfl⟩
  clear HLd HLo HSt
  have gg:w.grownBy w8 (some q):=Nb.grown_none n8w
  go_upto_region 30 with(fail)
  have gK:w.grownBy w8.drew (some q):=⟨gg.os,gg.tape,gg.output,gg.size,gg.block⟩
  have hM6:Mem 62 w8.drew p q bs:=hM8
  have kZ6:w8.drew.heap[w.heap.size+1+1]? =some (.cells Z8 38 (0,0)):=kZ8
  refine wp_region_held_drew (S:=fun w'=>w'.heap[w.heap.size]? =some (.cells (hC h).toArray 38 (0,0))∧w'.heap[w.heap.size+1]? =some (.cells #[.int .i64 i.1,.int .i64 i.2.1,.int .i64 i.2.2.1,.int .i64 i.2.2.2.1,.int .i64 i.2.2.2.2.1,.bool i.2.2.2.2.2.1,.bool i.2.2.2.2.2.2] 50 (0,0))) (by kernel_rfl) ⟨kH8,kI8⟩ (fun hHeld=> ?_)
  change wpAnyH _ _ _ _ _ 8 (List.toArray [false,false,false,false,false,false,false,false]) _ _
  refine Zc (i:=0) (v:= .pointer (some ⟨w.heap.size+1,0,none⟩)) rfl (by kernel_rfl) (by kernel_rfl) (by kernel_rfl) (fun _ _ _ h=>h) (.inl ⟨by rfl,by intro w' hw;go_simp⟩) hHeld ?_
  simp only[Act.put,sI,sZ,sS]
  refine Zc (i:=1) (v:= .int .i64 i.1) rfl (by kernel_rfl) (by kernel_rfl) (by kernel_rfl) (fun _ _ _ h=>h) (.inl ⟨by rfl,by intro w' hw;have hc0:=(Z4 hw.2).2.1;clear hw;go_simp⟩) hHeld ?_
  simp only[Act.put,sI,sZ,sS]
  refine Zc (i:=2) (v:= .int .u64 (ldV bs at_ s)) rfl (by kernel_rfl) (by kernel_rfl) (by kernel_rfl) (fun _ _ _ h=>h) (.inl ⟨by rfl,by intro w' hw;go_simp⟩) hHeld ?_
  simp only[Act.put,sI,sZ,sS]
  refine Zc (i:=4) (v:= .agg (hC h).toArray) rfl (by kernel_rfl) (by kernel_rfl) (by kernel_rfl) (fun _ _ _ h=>h) (Zt (by rfl) 38 (.tmp 4) rfl ⟨w.heap.size,0,none⟩ rfl _ (fun w' hw=>Xz _ _ _ _ _ hw.1 hlen2.out)) hHeld ?_
  simp only[Act.put,sI,sZ,sS]
  clear gg kH8 kZ8 hM8
  generalize w8.drew=w6 at*
  refine wpAnyH_ready (rs:=[3]) (by kernel_rfl) (by simp) (ZQ rfl (by rfl) (fun K hK=> ?_) .nil)
  go_simp
  refine(HX.out _).mono ?_
  rintro e w7⟨rfl,rfl⟩
  refine hK.out _ _ hHeld (fun hHeld=> ?_)
  clear hK K
  simp only[Act.put,sI,sZ,sS]
  refine Zc (i:=5) (v:= .int .u64 (LdB i.1 (ldV bs at_ s))) rfl (by kernel_rfl) (by kernel_rfl) (by kernel_rfl) (fun _ _ _ h=>h) (.inl ⟨by rfl,by intro w' hw;go_simp⟩) hHeld ?_
  simp only[Act.put,sI,sZ,sS]
  refine wpAnyH_ready (rs:=[6]) (by kernel_rfl) (by simp) (ZQ rfl (by rfl) (fun K hK=> ?_) .nil)
  refine wp_store_row 38 (.tmp 9) (.tmp 119) rfl (w.heap.size+1+1) (hC h).toArray rfl rfl 38 _ kZ6 (by rw[Zk,hlen2.out]) (by rw[hlen2.out];rfl) hone.out ?_
  refine hK.out _ _ (⟨(setRow_other _ _ _ _ (by omega)).trans hHeld.1,(setRow_other _ _ _ _ (by omega)).trans hHeld.2⟩) (fun hHeld=> ?_)
  clear hK K
  simp only[Act.put,sI,sZ,sS]
  refine Zc (i:=7) (v:= .int .i64 0) rfl (by kernel_rfl) (by kernel_rfl) (by kernel_rfl) (fun _ _ _ h=>h) (.inl ⟨by rfl,by intro w' hw;go_simp⟩) hHeld ?_
  simp only[Act.put,sI,sZ,sS]
  refine wpAnyH_done (by kernel_rfl) ?_ _
  go_wp2_with fail
  exact Yq gK hM6 kZ6 hlen2.out (by omega) _ _ _ rfl rfl rfl
 ·have HLo:=YC i.1
  rw[hL] at HLo
  replace HLo:=Lib.hid HLo
  have HSt:=YD i.1
  rw[hS] at HSt
  replace HSt:=Lib.hid HSt
  have HLd:=fun w1 hm=>Y8 p q bs at_ s qt.1 qt.2 hl w1 hm
  rw[hf] at HLd
  replace HLd:=Lib.hid HLd
  have hvi:=Yl bs at_ s
  have HX:=Lib.hid fun w1=>KP i.1 (ldV bs at_ s) (Yl bs at_ s) w1
  clear hL hS hf
  go_wp2_with fail
  refine(HLo.out _).mono ?_
  rintro e w'⟨rfl,rfl⟩
  go_wp2_with fail
  refine(HLd.out _ hM8).mono ?_
  rintro e w'⟨rfl,rfl⟩
  go_wp2_with fail
  refine(HSt.out _).mono ?_
  rintro e w'⟨rfl,rfl⟩
  clear HLd HLo HSt
  obtain⟨cP,q33,q34,q35⟩:=ZG kH8 hlen.out
  have gg8:w.grownBy w8 (some q):=Nb.grown_none n8w
  have f33:=Z6 kH8 33
  have f34:=Z6 kH8 34
  have f35:=Z6 kH8 35
  go_upto_region 30 with(fail)
  obtain⟨W5,w5e⟩:∃W5,((w8.setCell ⟨w.heap.size,33,none⟩ (.bool true)).setCell ⟨w.heap.size,34,none⟩ (.int .u64 at_)).setCell ⟨w.heap.size,35,none⟩ (.int .i64 s)=W5:=⟨_,rfl⟩
  have kH9:W5.heap[w.heap.size]? =some (.cells (hC {h with held:=true,addr:=at_,size:=s}).toArray 38 (0,0)):=by rw[←w5e,Zg (Zg (Zg kH8 33 _) 34 _) 35 _,Yd h hlen.out]
  have oth:∀k,k≠w.heap.size→W5.heap[k]? =w8.heap[k]? :=fun k hk=>by rw[←w5e,Below.heap_setCell _ _ _ _ hk,Below.heap_setCell _ _ _ _ hk,Below.heap_setCell _ _ _ _ hk]
  have gg:w.grownBy W5 (some q):=by
   rw[←w5e]
   exact ZJ (ZJ (ZJ gg8 (Nat.le_refl _) _ _) (Nat.le_refl _) _ _) (Nat.le_refl _) _ _
  rw[w5e]
  clear w5e q33 q34 q35 f33 f34 f35 cP
  have kZ9:=(oth _ (by omega)).trans kZ8
  have kI9:=(oth _ (by omega)).trans kI8
  have hM9:Mem 62 W5 p q _:=⟨(oth _ (by omega)).trans hM8.1,(oth _ (by omega)).trans hM8.2⟩
  clear kZ8 kI8 hM8 kH8 oth gg8
  go_upto_region 30 with(fail)
  have gK:w.grownBy W5.drew (some q):=⟨gg.os,gg.tape,gg.output,gg.size,gg.block⟩
  have hM6:Mem 62 W5.drew p q bs:=hM9
  have kZ6:W5.drew.heap[w.heap.size+1+1]? =some (.cells Z8 38 (0,0)):=kZ9
  refine wp_region_held_drew (S:=fun w'=>w'.heap[w.heap.size]? =some (.cells (hC {h with held:=true,addr:=at_,size:=s}).toArray 38 (0,0))∧w'.heap[w.heap.size+1]? =some (.cells #[.int .i64 i.1,.int .i64 i.2.1,.int .i64 i.2.2.1,.int .i64 i.2.2.2.1,.int .i64 i.2.2.2.2.1,.bool i.2.2.2.2.2.1,.bool i.2.2.2.2.2.2] 50 (0,0))) (by kernel_rfl) ⟨kH9,kI9⟩ (fun hHeld=> ?_)
  change wpAnyH _ _ _ _ _ 8 (List.toArray [false,false,false,false,false,false,false,false]) _ _
  refine Zc (i:=0) (v:= .pointer (some ⟨w.heap.size+1,0,none⟩)) rfl (by kernel_rfl) (by kernel_rfl) (by kernel_rfl) (fun _ _ _ h=>h) (.inl ⟨by rfl,by intro w' hw;go_simp⟩) hHeld ?_
  simp only[Act.put,sI,sZ,sS]
  refine Zc (i:=1) (v:= .int .i64 i.1) rfl (by kernel_rfl) (by kernel_rfl) (by kernel_rfl) (fun _ _ _ h=>h) (.inl ⟨by rfl,by intro w' hw;have hc0:=(Z4 hw.2).2.1;clear hw;go_simp⟩) hHeld ?_
  simp only[Act.put,sI,sZ,sS]
  refine Zc (i:=2) (v:= .int .u64 (ldV bs at_ s)) rfl (by kernel_rfl) (by kernel_rfl) (by kernel_rfl) (fun _ _ _ h=>h) (.inl ⟨by rfl,by intro w' hw;go_simp⟩) hHeld ?_
  simp only[Act.put,sI,sZ,sS]
  refine Zc (i:=4) (v:= .agg (hC {h with held:=true,addr:=at_,size:=s}).toArray) rfl (by kernel_rfl) (by kernel_rfl) (by kernel_rfl) (fun _ _ _ h=>h) (Zt (by rfl) 38 (.tmp 4) rfl ⟨w.heap.size,0,none⟩ rfl _ (fun w' hw=>Xz _ _ _ _ _ hw.1 hlen4.out)) hHeld ?_
  simp only[Act.put,sI,sZ,sS]
  clear gg kH9 kZ9 hM9
  generalize W5.drew=w6 at*
  refine wpAnyH_ready (rs:=[3]) (by kernel_rfl) (by simp) (ZQ rfl (by rfl) (fun K hK=> ?_) .nil)
  go_simp
  refine(HX.out _).mono ?_
  rintro e w7⟨rfl,rfl⟩
  refine hK.out _ _ hHeld (fun hHeld=> ?_)
  clear hK K
  simp only[Act.put,sI,sZ,sS]
  refine Zc (i:=5) (v:= .int .u64 (LdB i.1 (ldV bs at_ s))) rfl (by kernel_rfl) (by kernel_rfl) (by kernel_rfl) (fun _ _ _ h=>h) (.inl ⟨by rfl,by intro w' hw;go_simp⟩) hHeld ?_
  simp only[Act.put,sI,sZ,sS]
  refine wpAnyH_ready (rs:=[6]) (by kernel_rfl) (by simp) (ZQ rfl (by rfl) (fun K hK=> ?_) .nil)
  refine wp_store_row 38 (.tmp 9) (.tmp 119) rfl (w.heap.size+1+1) (hC {h with held:=true,addr:=at_,size:=s}).toArray rfl rfl 38 _ kZ6 (by rw[Zk,hlen4.out]) (by rw[hlen4.out];rfl) hone4.out ?_
  refine hK.out _ _ (⟨(setRow_other _ _ _ _ (by omega)).trans hHeld.1,(setRow_other _ _ _ _ (by omega)).trans hHeld.2⟩) (fun hHeld=> ?_)
  clear hK K
  simp only[Act.put,sI,sZ,sS]
  refine Zc (i:=7) (v:= .int .i64 0) rfl (by kernel_rfl) (by kernel_rfl) (by kernel_rfl) (fun _ _ _ h=>h) (.inl ⟨by rfl,by intro w' hw;go_simp⟩) hHeld ?_
  simp only[Act.put,sI,sZ,sS]
  refine wpAnyH_done (by kernel_rfl) ?_ _
  go_wp2_with fail
  exact Yq gK hM6 kZ6 hlen4.out (by omega) _ _ _ rfl rfl rfl
 ·have HLo:=YC i.1
  rw[hL] at HLo
  replace HLo:=Lib.hid HLo
  have HSt:=YD i.1
  rw[hS] at HSt
  replace HSt:=Lib.hid HSt
  have HLd:=fun w1 hm=>Y8 p q bs at_ s qt.1 qt.2 hl w1 hm
  rw[hf] at HLd
  replace HLd:=Lib.hid HLd
  have hvi:=Yl bs at_ s
  have HX:=Lib.hid fun w1=>KP i.1 (ldV bs at_ s) (Yl bs at_ s) w1
  clear hL hS hf
  go_wp2_with fail
  refine(HLo.out _).mono ?_
  rintro e w'⟨rfl,rfl⟩
  go_wp2_with fail
  refine(HLd.out _ hM8).mono ?_
  rintro e w'⟨rfl,rfl⟩
  go_wp2_with fail
  refine(HSt.out _).mono ?_
  rintro e w'⟨rfl,rfl⟩
  clear HLd HLo HSt
  obtain⟨cP,q33,q34,q35⟩:=ZG kH8 hlen.out
  have gg8:w.grownBy w8 (some q):=Nb.grown_none n8w
  have f33:=Z6 kH8 33
  have f34:=Z6 kH8 34
  have f35:=Z6 kH8 35
  go_upto_region 30 with(fail)
  obtain⟨W5,w5e⟩:∃W5,((w8.setCell ⟨w.heap.size,33,none⟩ (.bool true)).setCell ⟨w.heap.size,34,none⟩ (.int .u64 at_)).setCell ⟨w.heap.size,35,none⟩ (.int .i64 s)=W5:=⟨_,rfl⟩
  have kH9:W5.heap[w.heap.size]? =some (.cells (hC {h with held:=true,addr:=at_,size:=s}).toArray 38 (0,0)):=by rw[←w5e,Zg (Zg (Zg kH8 33 _) 34 _) 35 _,Yd h hlen.out]
  have oth:∀k,k≠w.heap.size→W5.heap[k]? =w8.heap[k]? :=fun k hk=>by rw[←w5e,Below.heap_setCell _ _ _ _ hk,Below.heap_setCell _ _ _ _ hk,Below.heap_setCell _ _ _ _ hk]
  have gg:w.grownBy W5 (some q):=by
   rw[←w5e]
   exact ZJ (ZJ (ZJ gg8 (Nat.le_refl _) _ _) (Nat.le_refl _) _ _) (Nat.le_refl _) _ _
  rw[w5e]
  clear w5e q33 q34 q35 f33 f34 f35 cP
  have kZ9:=(oth _ (by omega)).trans kZ8
  have kI9:=(oth _ (by omega)).trans kI8
  have hM9:Mem 62 W5 p q _:=⟨(oth _ (by omega)).trans hM8.1,(oth _ (by omega)).trans hM8.2⟩
  clear kZ8 kI8 hM8 kH8 oth gg8
  go_upto_region 30 with(fail)
  have gK:w.grownBy W5.drew (some q):=⟨gg.os,gg.tape,gg.output,gg.size,gg.block⟩
  have hM6:Mem 62 W5.drew p q bs:=hM9
  have kZ6:W5.drew.heap[w.heap.size+1+1]? =some (.cells Z8 38 (0,0)):=kZ9
  refine wp_region_held_drew (S:=fun w'=>w'.heap[w.heap.size]? =some (.cells (hC {h with held:=true,addr:=at_,size:=s}).toArray 38 (0,0))∧w'.heap[w.heap.size+1]? =some (.cells #[.int .i64 i.1,.int .i64 i.2.1,.int .i64 i.2.2.1,.int .i64 i.2.2.2.1,.int .i64 i.2.2.2.2.1,.bool i.2.2.2.2.2.1,.bool i.2.2.2.2.2.2] 50 (0,0))) (by kernel_rfl) ⟨kH9,kI9⟩ (fun hHeld=> ?_)
  change wpAnyH _ _ _ _ _ 8 (List.toArray [false,false,false,false,false,false,false,false]) _ _
  refine Zc (i:=0) (v:= .pointer (some ⟨w.heap.size+1,0,none⟩)) rfl (by kernel_rfl) (by kernel_rfl) (by kernel_rfl) (fun _ _ _ h=>h) (.inl ⟨by rfl,by intro w' hw;go_simp⟩) hHeld ?_
  simp only[Act.put,sI,sZ,sS]
  refine Zc (i:=1) (v:= .int .i64 i.1) rfl (by kernel_rfl) (by kernel_rfl) (by kernel_rfl) (fun _ _ _ h=>h) (.inl ⟨by rfl,by intro w' hw;have hc0:=(Z4 hw.2).2.1;clear hw;go_simp⟩) hHeld ?_
  simp only[Act.put,sI,sZ,sS]
  refine Zc (i:=2) (v:= .int .u64 (ldV bs at_ s)) rfl (by kernel_rfl) (by kernel_rfl) (by kernel_rfl) (fun _ _ _ h=>h) (.inl ⟨by rfl,by intro w' hw;go_simp⟩) hHeld ?_
  simp only[Act.put,sI,sZ,sS]
  refine Zc (i:=4) (v:= .agg (hC {h with held:=true,addr:=at_,size:=s}).toArray) rfl (by kernel_rfl) (by kernel_rfl) (by kernel_rfl) (fun _ _ _ h=>h) (Zt (by rfl) 38 (.tmp 4) rfl ⟨w.heap.size,0,none⟩ rfl _ (fun w' hw=>Xz _ _ _ _ _ hw.1 hlen4.out)) hHeld ?_
  simp only[Act.put,sI,sZ,sS]
  clear gg kH9 kZ9 hM9
  generalize W5.drew=w6 at*
  refine wpAnyH_ready (rs:=[3]) (by kernel_rfl) (by simp) (ZQ rfl (by rfl) (fun K hK=> ?_) .nil)
  go_simp
  refine(HX.out _).mono ?_
  rintro e w7⟨rfl,rfl⟩
  refine hK.out _ _ hHeld (fun hHeld=> ?_)
  clear hK K
  simp only[Act.put,sI,sZ,sS]
  refine Zc (i:=5) (v:= .int .u64 (LdB i.1 (ldV bs at_ s))) rfl (by kernel_rfl) (by kernel_rfl) (by kernel_rfl) (fun _ _ _ h=>h) (.inl ⟨by rfl,by intro w' hw;go_simp⟩) hHeld ?_
  simp only[Act.put,sI,sZ,sS]
  refine wpAnyH_ready (rs:=[6]) (by kernel_rfl) (by simp) (ZQ rfl (by rfl) (fun K hK=> ?_) .nil)
  refine wp_store_row 38 (.tmp 9) (.tmp 119) rfl (w.heap.size+1+1) (hC {h with held:=true,addr:=at_,size:=s}).toArray rfl rfl 38 _ kZ6 (by rw[Zk,hlen4.out]) (by rw[hlen4.out];rfl) hone4.out ?_
  refine hK.out _ _ (⟨(setRow_other _ _ _ _ (by omega)).trans hHeld.1,(setRow_other _ _ _ _ (by omega)).trans hHeld.2⟩) (fun hHeld=> ?_)
  clear hK K
  simp only[Act.put,sI,sZ,sS]
  refine Zc (i:=7) (v:= .int .i64 0) rfl (by kernel_rfl) (by kernel_rfl) (by kernel_rfl) (fun _ _ _ h=>h) (.inl ⟨by rfl,by intro w' hw;go_simp⟩) hHeld ?_
  simp only[Act.put,sI,sZ,sS]
  refine wpAnyH_done (by kernel_rfl) ?_ _
  go_wp2_with fail
  exact Yq gK hM6 kZ6 hlen4.out (by omega) _ _ _ rfl rfl rfl
 ·have HLo:=YC i.1
  rw[hL] at HLo
  replace HLo:=Lib.hid HLo
  have HSt:=YD i.1
  rw[hS] at HSt
  replace HSt:=Lib.hid HSt
  have HLd:=fun w1 hm=>Y8 p q bs at_ s qt.1 qt.2 hl w1 hm
  rw[hf] at HLd
  replace HLd:=Lib.hid HLd
  have hvi:=Yl bs at_ s
  have HX:=Lib.hid fun w1=>KP i.1 (ldV bs at_ s) (Yl bs at_ s) w1
  have HV:=Lib.hid fun w1=>XQ i.1 (ldV bs at_ s) b (Yl bs at_ s) qb w1
  have hsi:=Kw i.1 (ldV bs at_ s) b qb (Yl bs at_ s)
  have HSo:=fun w1 hm=>YG p q bs at_ s (StB i.1 (ldV bs at_ s) b) qt.1 qt.2 hsi.1 hsi.2 hl w1 hm
  rw[hf] at HSo
  replace HSo:=Lib.hid HSo
  clear hL hS hf
  go_wp2_with fail
  refine(HLo.out _).mono ?_
  rintro e w'⟨rfl,rfl⟩
  go_wp2_with fail
  refine(HLd.out _ hM8).mono ?_
  rintro e w'⟨rfl,rfl⟩
  go_wp2_with fail
  refine(HSt.out _).mono ?_
  rintro e w'⟨rfl,rfl⟩
  clear HLd HLo HSt
  go_wp2_with fail
  refine(HV.out _).mono ?_
  rintro e w'⟨rfl,rfl⟩
  go_wp2_with fail
  refine(HSo.out _ hM8).mono ?_
  rintro e w9⟨rfl,hM9,g9⟩
  have kH9:=(g9.block _ (Zf kH8) (by intro e;injection e with e;omega)).trans kH8
  have kI9:=(g9.block _ (Zf kI8) (by intro e;injection e with e;omega)).trans kI8
  have kZ9:=(g9.block _ (Zf kZ8) (by intro e;injection e with e;omega)).trans kZ8
  have gg:=Zx n8w g9
  clear c0
  obtain⟨z,c0,c1,c2,c3,c4,c5,c6⟩:=Z4 kI9
  clear z c1 c2 c3 c4 c5 c6 kH8 kI8 kZ8 hM8 g9 HSo HV
  go_upto_region 30 with(fail)
  have gK:w.grownBy w9.drew (some q):=⟨gg.os,gg.tape,gg.output,gg.size,gg.block⟩
  have hM6:Mem 62 w9.drew p q (stB bs at_ s (StB i.1 (ldV bs at_ s) b)):=hM9
  have kZ6:w9.drew.heap[w.heap.size+1+1]? =some (.cells Z8 38 (0,0)):=kZ9
  refine wp_region_held_drew (S:=fun w'=>w'.heap[w.heap.size]? =some (.cells (hC h).toArray 38 (0,0))∧w'.heap[w.heap.size+1]? =some (.cells #[.int .i64 i.1,.int .i64 i.2.1,.int .i64 i.2.2.1,.int .i64 i.2.2.2.1,.int .i64 i.2.2.2.2.1,.bool i.2.2.2.2.2.1,.bool i.2.2.2.2.2.2] 50 (0,0))) (by kernel_rfl) ⟨kH9,kI9⟩ (fun hHeld=> ?_)
  change wpAnyH _ _ _ _ _ 8 (List.toArray [false,false,false,false,false,false,false,false]) _ _
  refine Zc (i:=0) (v:= .pointer (some ⟨w.heap.size+1,0,none⟩)) rfl (by kernel_rfl) (by kernel_rfl) (by kernel_rfl) (fun _ _ _ h=>h) (.inl ⟨by rfl,by intro w' hw;go_simp⟩) hHeld ?_
  simp only[Act.put,sI,sZ,sS]
  refine Zc (i:=1) (v:= .int .i64 i.1) rfl (by kernel_rfl) (by kernel_rfl) (by kernel_rfl) (fun _ _ _ h=>h) (.inl ⟨by rfl,by intro w' hw;have hc0:=(Z4 hw.2).2.1;clear hw;go_simp⟩) hHeld ?_
  simp only[Act.put,sI,sZ,sS]
  refine Zc (i:=2) (v:= .int .u64 (ldV bs at_ s)) rfl (by kernel_rfl) (by kernel_rfl) (by kernel_rfl) (fun _ _ _ h=>h) (.inl ⟨by rfl,by intro w' hw;go_simp⟩) hHeld ?_
  simp only[Act.put,sI,sZ,sS]
  refine Zc (i:=4) (v:= .agg (hC h).toArray) rfl (by kernel_rfl) (by kernel_rfl) (by kernel_rfl) (fun _ _ _ h=>h) (Zt (by rfl) 38 (.tmp 4) rfl ⟨w.heap.size,0,none⟩ rfl _ (fun w' hw=>Xz _ _ _ _ _ hw.1 hlen2.out)) hHeld ?_
  simp only[Act.put,sI,sZ,sS]
  clear gg kH9 kZ9 hM9
  generalize w9.drew=w6 at*
  refine wpAnyH_ready (rs:=[3]) (by kernel_rfl) (by simp) (ZQ rfl (by rfl) (fun K hK=> ?_) .nil)
  go_simp
  refine(HX.out _).mono ?_
  rintro e w7⟨rfl,rfl⟩
  refine hK.out _ _ hHeld (fun hHeld=> ?_)
  clear hK K
  simp only[Act.put,sI,sZ,sS]
  refine Zc (i:=5) (v:= .int .u64 (LdB i.1 (ldV bs at_ s))) rfl (by kernel_rfl) (by kernel_rfl) (by kernel_rfl) (fun _ _ _ h=>h) (.inl ⟨by rfl,by intro w' hw;go_simp⟩) hHeld ?_
  simp only[Act.put,sI,sZ,sS]
  refine wpAnyH_ready (rs:=[6]) (by kernel_rfl) (by simp) (ZQ rfl (by rfl) (fun K hK=> ?_) .nil)
  refine wp_store_row 38 (.tmp 9) (.tmp 119) rfl (w.heap.size+1+1) (hC h).toArray rfl rfl 38 _ kZ6 (by rw[Zk,hlen2.out]) (by rw[hlen2.out];rfl) hone.out ?_
  refine hK.out _ _ (⟨(setRow_other _ _ _ _ (by omega)).trans hHeld.1,(setRow_other _ _ _ _ (by omega)).trans hHeld.2⟩) (fun hHeld=> ?_)
  clear hK K
  simp only[Act.put,sI,sZ,sS]
  refine Zc (i:=7) (v:= .int .i64 0) rfl (by kernel_rfl) (by kernel_rfl) (by kernel_rfl) (fun _ _ _ h=>h) (.inl ⟨by rfl,by intro w' hw;go_simp⟩) hHeld ?_
  simp only[Act.put,sI,sZ,sS]
  refine wpAnyH_done (by kernel_rfl) ?_ _
  go_wp2_with fail
  exact Yq gK hM6 kZ6 hlen2.out (by omega) _ _ _ rfl rfl rfl
 ·have HLo:=YC i.1
  rw[hL] at HLo
  replace HLo:=Lib.hid HLo
  have HSt:=YD i.1
  rw[hS] at HSt
  replace HSt:=Lib.hid HSt
  have HX:=Lib.hid fun w1=>KP i.1 0 X4 w1
  have HV:=Lib.hid fun w1=>XQ i.1 0 b X4 qb w1
  have hsi:=Kw i.1 0 b qb X4
  have HSo:=fun w1 hm=>YG p q bs at_ s (StB i.1 0 b) qt.1 qt.2 hsi.1 hsi.2 hl w1 hm
  rw[hf] at HSo
  replace HSo:=Lib.hid HSo
  clear hL hS hf
  go_wp2_with fail
  refine(HLo.out _).mono ?_
  rintro e w'⟨rfl,rfl⟩
  go_wp2_with fail
  refine(HSt.out _).mono ?_
  rintro e w'⟨rfl,rfl⟩
  clear HLo HSt
  go_wp2_with fail
  refine(HV.out _).mono ?_
  rintro e w'⟨rfl,rfl⟩
  go_wp2_with fail
  refine(HSo.out _ hM8).mono ?_
  rintro e w9⟨rfl,hM9,g9⟩
  have kH9:=(g9.block _ (Zf kH8) (by intro e;injection e with e;omega)).trans kH8
  have kI9:=(g9.block _ (Zf kI8) (by intro e;injection e with e;omega)).trans kI8
  have kZ9:=(g9.block _ (Zf kZ8) (by intro e;injection e with e;omega)).trans kZ8
  have gg:=Zx n8w g9
  clear c0
  obtain⟨z,c0,c1,c2,c3,c4,c5,c6⟩:=Z4 kI9
  clear z c1 c2 c3 c4 c5 c6 kH8 kI8 kZ8 hM8 g9 HSo HV
  go_upto_region 30 with(fail)
  have gK:w.grownBy w9.drew (some q):=⟨gg.os,gg.tape,gg.output,gg.size,gg.block⟩
  have hM6:Mem 62 w9.drew p q (stB bs at_ s (StB i.1 0 b)):=hM9
  have kZ6:w9.drew.heap[w.heap.size+1+1]? =some (.cells Z8 38 (0,0)):=kZ9
  refine wp_region_held_drew (S:=fun w'=>w'.heap[w.heap.size]? =some (.cells (hC h).toArray 38 (0,0))∧w'.heap[w.heap.size+1]? =some (.cells #[.int .i64 i.1,.int .i64 i.2.1,.int .i64 i.2.2.1,.int .i64 i.2.2.2.1,.int .i64 i.2.2.2.2.1,.bool i.2.2.2.2.2.1,.bool i.2.2.2.2.2.2] 50 (0,0))) (by kernel_rfl) ⟨kH9,kI9⟩ (fun hHeld=> ?_)
  change wpAnyH _ _ _ _ _ 8 (List.toArray [false,false,false,false,false,false,false,false]) _ _
  refine Zc (i:=0) (v:= .pointer (some ⟨w.heap.size+1,0,none⟩)) rfl (by kernel_rfl) (by kernel_rfl) (by kernel_rfl) (fun _ _ _ h=>h) (.inl ⟨by rfl,by intro w' hw;go_simp⟩) hHeld ?_
  simp only[Act.put,sI,sZ,sS]
  refine Zc (i:=1) (v:= .int .i64 i.1) rfl (by kernel_rfl) (by kernel_rfl) (by kernel_rfl) (fun _ _ _ h=>h) (.inl ⟨by rfl,by intro w' hw;have hc0:=(Z4 hw.2).2.1;clear hw;go_simp⟩) hHeld ?_
  simp only[Act.put,sI,sZ,sS]
  refine Zc (i:=2) (v:= .int .u64 0) rfl (by kernel_rfl) (by kernel_rfl) (by kernel_rfl) (fun _ _ _ h=>h) (.inl ⟨by rfl,by intro w' hw;go_simp⟩) hHeld ?_
  simp only[Act.put,sI,sZ,sS]
  refine Zc (i:=4) (v:= .agg (hC h).toArray) rfl (by kernel_rfl) (by kernel_rfl) (by kernel_rfl) (fun _ _ _ h=>h) (Zt (by rfl) 38 (.tmp 4) rfl ⟨w.heap.size,0,none⟩ rfl _ (fun w' hw=>Xz _ _ _ _ _ hw.1 hlen2.out)) hHeld ?_
  simp only[Act.put,sI,sZ,sS]
  clear gg kH9 kZ9 hM9
  generalize w9.drew=w6 at*
  refine wpAnyH_ready (rs:=[3]) (by kernel_rfl) (by simp) (ZQ rfl (by rfl) (fun K hK=> ?_) .nil)
  go_simp
  refine(HX.out _).mono ?_
  rintro e w7⟨rfl,rfl⟩
  refine hK.out _ _ hHeld (fun hHeld=> ?_)
  clear hK K
  simp only[Act.put,sI,sZ,sS]
  refine Zc (i:=5) (v:= .int .u64 (LdB i.1 0)) rfl (by kernel_rfl) (by kernel_rfl) (by kernel_rfl) (fun _ _ _ h=>h) (.inl ⟨by rfl,by intro w' hw;go_simp⟩) hHeld ?_
  simp only[Act.put,sI,sZ,sS]
  refine wpAnyH_ready (rs:=[6]) (by kernel_rfl) (by simp) (ZQ rfl (by rfl) (fun K hK=> ?_) .nil)
  refine wp_store_row 38 (.tmp 9) (.tmp 119) rfl (w.heap.size+1+1) (hC h).toArray rfl rfl 38 _ kZ6 (by rw[Zk,hlen2.out]) (by rw[hlen2.out];rfl) hone.out ?_
  refine hK.out _ _ (⟨(setRow_other _ _ _ _ (by omega)).trans hHeld.1,(setRow_other _ _ _ _ (by omega)).trans hHeld.2⟩) (fun hHeld=> ?_)
  clear hK K
  simp only[Act.put,sI,sZ,sS]
  refine Zc (i:=7) (v:= .int .i64 0) rfl (by kernel_rfl) (by kernel_rfl) (by kernel_rfl) (fun _ _ _ h=>h) (.inl ⟨by rfl,by intro w' hw;go_simp⟩) hHeld ?_
  simp only[Act.put,sI,sZ,sS]
  refine wpAnyH_done (by kernel_rfl) ?_ _
  go_wp2_with fail
  exact Yq gK hM6 kZ6 hlen2.out (by omega) _ _ _ rfl rfl rfl
 ·have HLo:=YC i.1
  rw[hL] at HLo
  replace HLo:=Lib.hid HLo
  have HSt:=YD i.1
  rw[hS] at HSt
  replace HSt:=Lib.hid HSt
  have HV:=Lib.hid fun w1=>XQ i.1 0 b X4 qb w1
  have hsi:=Kw i.1 0 b qb X4
  have HSo:=fun w1 hm=>YG p q bs at_ s (StB i.1 0 b) qt.1 qt.2 hsi.1 hsi.2 hl w1 hm
  rw[JY _ _ _ _ hf] at HSo
  replace HSo:=Lib.hid HSo
  have hf':(flt bs.length at_ s !=0)=true:=bne_iff_ne.2 hf
  clear hL hS hf
  go_wp2_with fail
  refine(HLo.out _).mono ?_
  rintro e w'⟨rfl,rfl⟩
  go_wp2_with fail
  refine(HSt.out _).mono ?_
  rintro e w'⟨rfl,rfl⟩
  clear HLo HSt
  go_wp2_with fail
  refine(HV.out _).mono ?_
  rintro e w'⟨rfl,rfl⟩
  go_wp2_with fail
  refine(HSo.out _ hM8).mono ?_
  rintro e w9⟨rfl,hM9,g9⟩
  have kH9:=(g9.block _ (Zf kH8) (by intro e;injection e with e;omega)).trans kH8
  have kI9:=(g9.block _ (Zf kI8) (by intro e;injection e with e;omega)).trans kI8
  have kZ9:=(g9.block _ (Zf kZ8) (by intro e;injection e with e;omega)).trans kZ8
  have gg:=Zx n8w g9
  clear c0
  obtain⟨z,c0,c1,c2,c3,c4,c5,c6⟩:=Z4 kI9
  clear z c1 c2 c3 c4 c5 c6 kH8 kI8 kZ8 hM8 g9 HSo HV
  go_upto_region 25 with(fail)
  have gK:w.grownBy w9.drew (some q):=⟨gg.os,gg.tape,gg.output,gg.size,gg.block⟩
  have hM6:Mem 62 w9.drew p q bs:=hM9
  have kZ6:w9.drew.heap[w.heap.size+1+1]? =some (.cells Z8 38 (0,0)):=kZ9
  refine wp_region_held_drew (S:=fun w'=>w'.heap[w.heap.size]? =some (.cells (hC h).toArray 38 (0,0))) (by kernel_rfl) kH9 (fun hHeld=> ?_)
  change wpAnyH _ _ _ _ _ 5 (List.toArray [false,false,false,false,false]) _ _
  refine Zc (i:=0) (v:= .agg (hC h).toArray) rfl (by kernel_rfl) (by kernel_rfl) (by kernel_rfl) (fun _ _ _ h=>h) (Zt (by rfl) 38 (.tmp 4) rfl ⟨w.heap.size,0,none⟩ rfl _ (fun w' hw=>Xz _ _ _ _ _ hw hlen2.out)) hHeld ?_
  simp only[Act.put,sI,sZ,sS]
  refine Zc (i:=1) (v:= .int .i64 (flt bs.length at_ s)) rfl (by kernel_rfl) (by kernel_rfl) (by kernel_rfl) (fun _ _ _ h=>h) (.inl ⟨by rfl,by intro w' hw;go_simp⟩) hHeld ?_
  simp only[Act.put,sI,sZ,sS]
  refine Zc (i:=2) (v:= .int .u64 0) rfl (by kernel_rfl) (by kernel_rfl) (by kernel_rfl) (fun _ _ _ h=>h) (.inl ⟨by rfl,by intro w' hw;go_simp⟩) hHeld ?_
  simp only[Act.put,sI,sZ,sS]
  clear gg kH9 kZ9 hM9
  generalize w9.drew=w6 at*
  refine wpAnyH_ready (rs:=[3]) (by kernel_rfl) (by simp) (ZQ rfl (by rfl) (fun K hK=> ?_) .nil)
  refine wp_store_row 38 (.tmp 9) (.tmp 100) rfl (w.heap.size+1+1) (hC h).toArray rfl rfl 38 _ kZ6 (by rw[Zk,hlen2.out]) (by rw[hlen2.out];rfl) hone.out ?_
  refine hK.out _ _ ((setRow_other _ _ _ _ (by omega)).trans hHeld) (fun hHeld=> ?_)
  clear hK K
  simp only[Act.put,sI,sZ,sS]
  refine Zc (i:=4) (v:= .int .i64 (flt bs.length at_ s)) rfl (by kernel_rfl) (by kernel_rfl) (by kernel_rfl) (fun _ _ _ h=>h) (.inl ⟨by rfl,by intro w' hw;go_simp⟩) hHeld ?_
  simp only[Act.put,sI,sZ,sS]
  refine wpAnyH_done (by kernel_rfl) ?_ _
  go_wp2_with fail
  exact Yq gK hM6 kZ6 hlen2.out (by omega) _ _ _ rfl rfl rfl
 ·obtain⟨cP,q33,q34,q35⟩:=ZG kH8 hlen.out
  have gg8:w.grownBy w8 (some q):=Nb.grown_none n8w
  rw[t1] at q33
  have f33:=Z6 kH8 33
  have f34:=Z6 kH8 34
  have f35:=Z6 kH8 35
  go_upto_region 13 with(fail)
  obtain⟨W5,w5e⟩:∃W5,((w8.setCell ⟨w.heap.size,33,none⟩ (.bool false)).setCell ⟨w.heap.size,34,none⟩ (.int .u64 0)).setCell ⟨w.heap.size,35,none⟩ (.int .i64 0)=W5:=⟨_,rfl⟩
  have kH9:W5.heap[w.heap.size]? =some (.cells (hC {h with held:=false,addr:=0,size:=0}).toArray 38 (0,0)):=by rw[←w5e,Zg (Zg (Zg kH8 33 _) 34 _) 35 _,Yd h hlen.out]
  have oth:∀k,k≠w.heap.size→W5.heap[k]? =w8.heap[k]? :=fun k hk=>by rw[←w5e,Below.heap_setCell _ _ _ _ hk,Below.heap_setCell _ _ _ _ hk,Below.heap_setCell _ _ _ _ hk]
  have gg:w.grownBy W5 (some q):=by
   rw[←w5e]
   exact ZJ (ZJ (ZJ gg8 (Nat.le_refl _) _ _) (Nat.le_refl _) _ _) (Nat.le_refl _) _ _
  rw[w5e]
  clear w5e q33 q34 q35 f33 f34 f35 cP
  have kZ9:=(oth _ (by omega)).trans kZ8
  have kI9:=(oth _ (by omega)).trans kI8
  have hM9:Mem 62 W5 p q _:=⟨(oth _ (by omega)).trans hM8.1,(oth _ (by omega)).trans hM8.2⟩
  clear kZ8 kI8 hM8 kH8 oth gg8
  go_upto_region 15 with(fail)
  have gK:w.grownBy W5.drew (some q):=⟨gg.os,gg.tape,gg.output,gg.size,gg.block⟩
  have hM6:Mem 62 W5.drew p q bs:=hM9
  have kZ6:W5.drew.heap[w.heap.size+1+1]? =some (.cells Z8 38 (0,0)):=kZ9
  refine wp_region_held_drew (S:=fun w'=>w'.heap[w.heap.size]? =some (.cells (hC {h with held:=false,addr:=0,size:=0}).toArray 38 (0,0))) (by kernel_rfl) kH9 (fun hHeld=> ?_)
  change wpAnyH _ _ _ _ _ 4 (List.toArray [false,false,false,false]) _ _
  refine Zc (i:=0) (v:= .agg (hC {h with held:=false,addr:=0,size:=0}).toArray) rfl (by kernel_rfl) (by kernel_rfl) (by kernel_rfl) (fun _ _ _ h=>h) (Zt (by rfl) 38 (.tmp 4) rfl ⟨w.heap.size,0,none⟩ rfl _ (fun w' hw=>Xz _ _ _ _ _ hw hlen3.out)) hHeld ?_
  simp only[Act.put,sI,sZ,sS]
  refine Zc (i:=1) (v:= .int .u64 1) rfl (by kernel_rfl) (by kernel_rfl) (by kernel_rfl) (fun _ _ _ h=>h) (.inl ⟨by rfl,by intro w' hw;go_simp⟩) hHeld ?_
  simp only[Act.put,sI,sZ,sS]
  clear gg kH9 kZ9 hM9
  generalize W5.drew=w6 at*
  refine wpAnyH_ready (rs:=[2]) (by kernel_rfl) (by simp) (ZQ rfl (by rfl) (fun K hK=> ?_) .nil)
  refine wp_store_row 38 (.tmp 9) (.tmp 70) rfl (w.heap.size+1+1) (hC {h with held:=false,addr:=0,size:=0}).toArray rfl rfl 38 _ kZ6 (by rw[Zk,hlen3.out]) (by rw[hlen3.out];rfl) hone3.out ?_
  refine hK.out _ _ ((setRow_other _ _ _ _ (by omega)).trans hHeld) (fun hHeld=> ?_)
  clear hK K
  simp only[Act.put,sI,sZ,sS]
  refine Zc (i:=3) (v:= .int .i64 0) rfl (by kernel_rfl) (by kernel_rfl) (by kernel_rfl) (fun _ _ _ h=>h) (.inl ⟨by rfl,by intro w' hw;go_simp⟩) hHeld ?_
  simp only[Act.put,sI,sZ,sS]
  refine wpAnyH_done (by kernel_rfl) ?_ _
  go_wp2_with fail
  exact Yq gK hM6 kZ6 hlen3.out (by omega) _ _ _ rfl rfl rfl
 ·obtain⟨cP,q33,q34,q35⟩:=ZG kH8 hlen.out
  have gg8:w.grownBy w8 (some q):=Nb.grown_none n8w
  rw[t1] at q33
  have f33:=Z6 kH8 33
  have f34:=Z6 kH8 34
  have f35:=Z6 kH8 35
  go_upto_region 13 with(fail)
  obtain⟨W5,w5e⟩:∃W5,((w8.setCell ⟨w.heap.size,33,none⟩ (.bool false)).setCell ⟨w.heap.size,34,none⟩ (.int .u64 0)).setCell ⟨w.heap.size,35,none⟩ (.int .i64 0)=W5:=⟨_,rfl⟩
  have kH9:W5.heap[w.heap.size]? =some (.cells (hC {h with held:=false,addr:=0,size:=0}).toArray 38 (0,0)):=by rw[←w5e,Zg (Zg (Zg kH8 33 _) 34 _) 35 _,Yd h hlen.out]
  have oth:∀k,k≠w.heap.size→W5.heap[k]? =w8.heap[k]? :=fun k hk=>by rw[←w5e,Below.heap_setCell _ _ _ _ hk,Below.heap_setCell _ _ _ _ hk,Below.heap_setCell _ _ _ _ hk]
  have gg:w.grownBy W5 (some q):=by
   rw[←w5e]
   exact ZJ (ZJ (ZJ gg8 (Nat.le_refl _) _ _) (Nat.le_refl _) _ _) (Nat.le_refl _) _ _
  rw[w5e]
  clear w5e q33 q34 q35 f33 f34 f35 cP
  have kZ9:=(oth _ (by omega)).trans kZ8
  have kI9:=(oth _ (by omega)).trans kI8
  have hM9:Mem 62 W5 p q _:=⟨(oth _ (by omega)).trans hM8.1,(oth _ (by omega)).trans hM8.2⟩
  clear kZ8 kI8 hM8 kH8 oth gg8
  go_upto_region 15 with(fail)
  have gK:w.grownBy W5.drew (some q):=⟨gg.os,gg.tape,gg.output,gg.size,gg.block⟩
  have hM6:Mem 62 W5.drew p q bs:=hM9
  have kZ6:W5.drew.heap[w.heap.size+1+1]? =some (.cells Z8 38 (0,0)):=kZ9
  refine wp_region_held_drew (S:=fun w'=>w'.heap[w.heap.size]? =some (.cells (hC {h with held:=false,addr:=0,size:=0}).toArray 38 (0,0))) (by kernel_rfl) kH9 (fun hHeld=> ?_)
  change wpAnyH _ _ _ _ _ 4 (List.toArray [false,false,false,false]) _ _
  refine Zc (i:=0) (v:= .agg (hC {h with held:=false,addr:=0,size:=0}).toArray) rfl (by kernel_rfl) (by kernel_rfl) (by kernel_rfl) (fun _ _ _ h=>h) (Zt (by rfl) 38 (.tmp 4) rfl ⟨w.heap.size,0,none⟩ rfl _ (fun w' hw=>Xz _ _ _ _ _ hw hlen3.out)) hHeld ?_
  simp only[Act.put,sI,sZ,sS]
  refine Zc (i:=1) (v:= .int .u64 1) rfl (by kernel_rfl) (by kernel_rfl) (by kernel_rfl) (fun _ _ _ h=>h) (.inl ⟨by rfl,by intro w' hw;go_simp⟩) hHeld ?_
  simp only[Act.put,sI,sZ,sS]
  clear gg kH9 kZ9 hM9
  generalize W5.drew=w6 at*
  refine wpAnyH_ready (rs:=[2]) (by kernel_rfl) (by simp) (ZQ rfl (by rfl) (fun K hK=> ?_) .nil)
  refine wp_store_row 38 (.tmp 9) (.tmp 70) rfl (w.heap.size+1+1) (hC {h with held:=false,addr:=0,size:=0}).toArray rfl rfl 38 _ kZ6 (by rw[Zk,hlen3.out]) (by rw[hlen3.out];rfl) hone3.out ?_
  refine hK.out _ _ ((setRow_other _ _ _ _ (by omega)).trans hHeld) (fun hHeld=> ?_)
  clear hK K
  simp only[Act.put,sI,sZ,sS]
  refine Zc (i:=3) (v:= .int .i64 0) rfl (by kernel_rfl) (by kernel_rfl) (by kernel_rfl) (fun _ _ _ h=>h) (.inl ⟨by rfl,by intro w' hw;go_simp⟩) hHeld ?_
  simp only[Act.put,sI,sZ,sS]
  refine wpAnyH_done (by kernel_rfl) ?_ _
  go_wp2_with fail
  exact Yq gK hM6 kZ6 hlen3.out (by omega) _ _ _ rfl rfl rfl
 ·obtain⟨cP,q33,q34,q35⟩:=ZG kH8 hlen.out
  have gg8:w.grownBy w8 (some q):=Nb.grown_none n8w
  rw[t1] at q33
  have f33:=Z6 kH8 33
  have f34:=Z6 kH8 34
  have f35:=Z6 kH8 35
  go_upto_region 13 with(fail)
  obtain⟨W5,w5e⟩:∃W5,((w8.setCell ⟨w.heap.size,33,none⟩ (.bool false)).setCell ⟨w.heap.size,34,none⟩ (.int .u64 0)).setCell ⟨w.heap.size,35,none⟩ (.int .i64 0)=W5:=⟨_,rfl⟩
  have kH9:W5.heap[w.heap.size]? =some (.cells (hC {h with held:=false,addr:=0,size:=0}).toArray 38 (0,0)):=by rw[←w5e,Zg (Zg (Zg kH8 33 _) 34 _) 35 _,Yd h hlen.out]
  have oth:∀k,k≠w.heap.size→W5.heap[k]? =w8.heap[k]? :=fun k hk=>by rw[←w5e,Below.heap_setCell _ _ _ _ hk,Below.heap_setCell _ _ _ _ hk,Below.heap_setCell _ _ _ _ hk]
  have gg:w.grownBy W5 (some q):=by
   rw[←w5e]
   exact ZJ (ZJ (ZJ gg8 (Nat.le_refl _) _ _) (Nat.le_refl _) _ _) (Nat.le_refl _) _ _
  rw[w5e]
  clear w5e q33 q34 q35 f33 f34 f35 cP
  have kZ9:=(oth _ (by omega)).trans kZ8
  have kI9:=(oth _ (by omega)).trans kI8
  have hM9:Mem 62 W5 p q _:=⟨(oth _ (by omega)).trans hM8.1,(oth _ (by omega)).trans hM8.2⟩
  clear kZ8 kI8 hM8 kH8 oth gg8
  go_upto_region 15 with(fail)
  have gK:w.grownBy W5.drew (some q):=⟨gg.os,gg.tape,gg.output,gg.size,gg.block⟩
  have hM6:Mem 62 W5.drew p q bs:=hM9
  have kZ6:W5.drew.heap[w.heap.size+1+1]? =some (.cells Z8 38 (0,0)):=kZ9
  refine wp_region_held_drew (S:=fun w'=>w'.heap[w.heap.size]? =some (.cells (hC {h with held:=false,addr:=0,size:=0}).toArray 38 (0,0))) (by kernel_rfl) kH9 (fun hHeld=> ?_)
  change wpAnyH _ _ _ _ _ 4 (List.toArray [false,false,false,false]) _ _
  refine Zc (i:=0) (v:= .agg (hC {h with held:=false,addr:=0,size:=0}).toArray) rfl (by kernel_rfl) (by kernel_rfl) (by kernel_rfl) (fun _ _ _ h=>h) (Zt (by rfl) 38 (.tmp 4) rfl ⟨w.heap.size,0,none⟩ rfl _ (fun w' hw=>Xz _ _ _ _ _ hw hlen3.out)) hHeld ?_
  simp only[Act.put,sI,sZ,sS]
  refine Zc (i:=1) (v:= .int .u64 1) rfl (by kernel_rfl) (by kernel_rfl) (by kernel_rfl) (fun _ _ _ h=>h) (.inl ⟨by rfl,by intro w' hw;go_simp⟩) hHeld ?_
  simp only[Act.put,sI,sZ,sS]
  clear gg kH9 kZ9 hM9
  generalize W5.drew=w6 at*
  refine wpAnyH_ready (rs:=[2]) (by kernel_rfl) (by simp) (ZQ rfl (by rfl) (fun K hK=> ?_) .nil)
  refine wp_store_row 38 (.tmp 9) (.tmp 70) rfl (w.heap.size+1+1) (hC {h with held:=false,addr:=0,size:=0}).toArray rfl rfl 38 _ kZ6 (by rw[Zk,hlen3.out]) (by rw[hlen3.out];rfl) hone3.out ?_
  refine hK.out _ _ ((setRow_other _ _ _ _ (by omega)).trans hHeld) (fun hHeld=> ?_)
  clear hK K
  simp only[Act.put,sI,sZ,sS]
  refine Zc (i:=3) (v:= .int .i64 0) rfl (by kernel_rfl) (by kernel_rfl) (by kernel_rfl) (fun _ _ _ h=>h) (.inl ⟨by rfl,by intro w' hw;go_simp⟩) hHeld ?_
  simp only[Act.put,sI,sZ,sS]
  refine wpAnyH_done (by kernel_rfl) ?_ _
  go_wp2_with fail
  exact Yq gK hM6 kZ6 hlen3.out (by omega) _ _ _ rfl rfl rfl
 ·have HV:=Lib.hid fun w1=>XQ i.1 0 b X4 qb w1
  have hsi:=Kw i.1 0 b qb X4
  have HSo:=fun w1 hm=>YG p q bs at_ s (StB i.1 0 b) qt.1 qt.2 hsi.1 hsi.2 hl w1 hm
  rw[JY _ _ _ _ hf] at HSo
  replace HSo:=Lib.hid HSo
  have hf':(flt bs.length at_ s !=0)=true:=bne_iff_ne.2 hf
  clear hS hf
  obtain⟨cP,q33,q34,q35⟩:=ZG kH8 hlen.out
  rw[t1] at q33
  go_wp2_with fail
  refine(HV.out _).mono ?_
  rintro e w'⟨rfl,rfl⟩
  go_wp2_with fail
  refine(HSo.out _ hM8).mono ?_
  rintro e w9⟨rfl,hM9,g9⟩
  have kH9:=(g9.block _ (Zf kH8) (by intro e;injection e with e;omega)).trans kH8
  have kI9:=(g9.block _ (Zf kI8) (by intro e;injection e with e;omega)).trans kI8
  have kZ9:=(g9.block _ (Zf kZ8) (by intro e;injection e with e;omega)).trans kZ8
  have gg:=Zx n8w g9
  clear c0
  obtain⟨z,c0,c1,c2,c3,c4,c5,c6⟩:=Z4 kI9
  clear z c1 c2 c3 c4 c5 c6 kH8 kI8 kZ8 hM8 g9 HSo HV
  clear cP q33 q34 q35
  go_upto_region 9 with(fail)
  have gK:w.grownBy w9.drew (some q):=⟨gg.os,gg.tape,gg.output,gg.size,gg.block⟩
  have hM6:Mem 62 w9.drew p q bs:=hM9
  have kZ6:w9.drew.heap[w.heap.size+1+1]? =some (.cells Z8 38 (0,0)):=kZ9
  refine wp_region_held_drew (S:=fun w'=>w'.heap[w.heap.size]? =some (.cells (hC h).toArray 38 (0,0))) (by kernel_rfl) kH9 (fun hHeld=> ?_)
  change wpAnyH _ _ _ _ _ 5 (List.toArray [false,false,false,false,false]) _ _
  refine Zc (i:=0) (v:= .agg (hC h).toArray) rfl (by kernel_rfl) (by kernel_rfl) (by kernel_rfl) (fun _ _ _ h=>h) (Zt (by rfl) 38 (.tmp 4) rfl ⟨w.heap.size,0,none⟩ rfl _ (fun w' hw=>Xz _ _ _ _ _ hw hlen2.out)) hHeld ?_
  simp only[Act.put,sI,sZ,sS]
  refine Zc (i:=1) (v:= .int .i64 (flt bs.length at_ s)) rfl (by kernel_rfl) (by kernel_rfl) (by kernel_rfl) (fun _ _ _ h=>h) (.inl ⟨by rfl,by intro w' hw;go_simp⟩) hHeld ?_
  simp only[Act.put,sI,sZ,sS]
  refine Zc (i:=2) (v:= .int .u64 0) rfl (by kernel_rfl) (by kernel_rfl) (by kernel_rfl) (fun _ _ _ h=>h) (.inl ⟨by rfl,by intro w' hw;go_simp⟩) hHeld ?_
  simp only[Act.put,sI,sZ,sS]
  clear gg kH9 kZ9 hM9
  generalize w9.drew=w6 at*
  refine wpAnyH_ready (rs:=[3]) (by kernel_rfl) (by simp) (ZQ rfl (by rfl) (fun K hK=> ?_) .nil)
  refine wp_store_row 38 (.tmp 9) (.tmp 63) rfl (w.heap.size+1+1) (hC h).toArray rfl rfl 38 _ kZ6 (by rw[Zk,hlen2.out]) (by rw[hlen2.out];rfl) hone.out ?_
  refine hK.out _ _ ((setRow_other _ _ _ _ (by omega)).trans hHeld) (fun hHeld=> ?_)
  clear hK K
  simp only[Act.put,sI,sZ,sS]
  refine Zc (i:=4) (v:= .int .i64 (flt bs.length at_ s)) rfl (by kernel_rfl) (by kernel_rfl) (by kernel_rfl) (fun _ _ _ h=>h) (.inl ⟨by rfl,by intro w' hw;go_simp⟩) hHeld ?_
  simp only[Act.put,sI,sZ,sS]
  refine wpAnyH_done (by kernel_rfl) ?_ _
  go_wp2_with fail
  exact Yq gK hM6 kZ6 hlen2.out (by omega) _ _ _ rfl rfl rfl
 ·have HV:=Lib.hid fun w1=>XQ i.1 0 b X4 qb w1
  have hsi:=Kw i.1 0 b qb X4
  have HSo:=fun w1 hm=>YG p q bs at_ s (StB i.1 0 b) qt.1 qt.2 hsi.1 hsi.2 hl w1 hm
  rw[hf] at HSo
  replace HSo:=Lib.hid HSo
  clear hS hf
  obtain⟨cP,q33,q34,q35⟩:=ZG kH8 hlen.out
  rw[t1] at q33
  go_wp2_with fail
  refine(HV.out _).mono ?_
  rintro e w'⟨rfl,rfl⟩
  go_wp2_with fail
  refine(HSo.out _ hM8).mono ?_
  rintro e w9⟨rfl,hM9,g9⟩
  have kH9:=(g9.block _ (Zf kH8) (by intro e;injection e with e;omega)).trans kH8
  have kI9:=(g9.block _ (Zf kI8) (by intro e;injection e with e;omega)).trans kI8
  have kZ9:=(g9.block _ (Zf kZ8) (by intro e;injection e with e;omega)).trans kZ8
  have gg:=Zx n8w g9
  clear c0
  obtain⟨z,c0,c1,c2,c3,c4,c5,c6⟩:=Z4 kI9
  clear z c1 c2 c3 c4 c5 c6 kH8 kI8 kZ8 hM8 g9 HSo HV
  clear cP q33 q34 q35
  have kH8:=kH9
  have kZ8:=kZ9
  have kI8:=kI9
  have hM8:=hM9
  have gg8:=gg
  clear kH9 kZ9 kI9 hM9 gg n8w z8
  generalize w9=w8 at*
  obtain⟨cP,q33,q34,q35⟩:=ZG kH8 hlen.out
  have f33:=Z6 kH8 33
  have f34:=Z6 kH8 34
  have f35:=Z6 kH8 35
  go_upto_region 13 with(fail)
  obtain⟨W5,w5e⟩:∃W5,((w8.setCell ⟨w.heap.size,33,none⟩ (.bool false)).setCell ⟨w.heap.size,34,none⟩ (.int .u64 0)).setCell ⟨w.heap.size,35,none⟩ (.int .i64 0)=W5:=⟨_,rfl⟩
  have kH9:W5.heap[w.heap.size]? =some (.cells (hC {h with held:=false,addr:=0,size:=0}).toArray 38 (0,0)):=by rw[←w5e,Zg (Zg (Zg kH8 33 _) 34 _) 35 _,Yd h hlen.out]
  have oth:∀k,k≠w.heap.size→W5.heap[k]? =w8.heap[k]? :=fun k hk=>by rw[←w5e,Below.heap_setCell _ _ _ _ hk,Below.heap_setCell _ _ _ _ hk,Below.heap_setCell _ _ _ _ hk]
  have gg:w.grownBy W5 (some q):=by
   rw[←w5e]
   exact ZJ (ZJ (ZJ gg8 (Nat.le_refl _) _ _) (Nat.le_refl _) _ _) (Nat.le_refl _) _ _
  rw[w5e]
  clear w5e q33 q34 q35 f33 f34 f35 cP
  have kZ9:=(oth _ (by omega)).trans kZ8
  have kI9:=(oth _ (by omega)).trans kI8
  have hM9:Mem 62 W5 p q _:=⟨(oth _ (by omega)).trans hM8.1,(oth _ (by omega)).trans hM8.2⟩
  clear kZ8 kI8 hM8 kH8 oth gg8
  go_upto_region 14 with(fail)
  have gK:w.grownBy W5.drew (some q):=⟨gg.os,gg.tape,gg.output,gg.size,gg.block⟩
  have hM6:Mem 62 W5.drew p q (stB bs at_ s (StB i.1 0 b)):=hM9
  have kZ6:W5.drew.heap[w.heap.size+1+1]? =some (.cells Z8 38 (0,0)):=kZ9
  refine wp_region_held_drew (S:=fun w'=>w'.heap[w.heap.size]? =some (.cells (hC {h with held:=false,addr:=0,size:=0}).toArray 38 (0,0))) (by kernel_rfl) kH9 (fun hHeld=> ?_)
  change wpAnyH _ _ _ _ _ 4 (List.toArray [false,false,false,false]) _ _
  refine Zc (i:=0) (v:= .agg (hC {h with held:=false,addr:=0,size:=0}).toArray) rfl (by kernel_rfl) (by kernel_rfl) (by kernel_rfl) (fun _ _ _ h=>h) (Zt (by rfl) 38 (.tmp 4) rfl ⟨w.heap.size,0,none⟩ rfl _ (fun w' hw=>Xz _ _ _ _ _ hw hlen3.out)) hHeld ?_
  simp only[Act.put,sI,sZ,sS]
  refine Zc (i:=1) (v:= .int .u64 0) rfl (by kernel_rfl) (by kernel_rfl) (by kernel_rfl) (fun _ _ _ h=>h) (.inl ⟨by rfl,by intro w' hw;go_simp⟩) hHeld ?_
  simp only[Act.put,sI,sZ,sS]
  clear gg kH9 kZ9 hM9
  generalize W5.drew=w6 at*
  refine wpAnyH_ready (rs:=[2]) (by kernel_rfl) (by simp) (ZQ rfl (by rfl) (fun K hK=> ?_) .nil)
  refine wp_store_row 38 (.tmp 9) (.tmp 69) rfl (w.heap.size+1+1) (hC {h with held:=false,addr:=0,size:=0}).toArray rfl rfl 38 _ kZ6 (by rw[Zk,hlen3.out]) (by rw[hlen3.out];rfl) hone3.out ?_
  refine hK.out _ _ ((setRow_other _ _ _ _ (by omega)).trans hHeld) (fun hHeld=> ?_)
  clear hK K
  simp only[Act.put,sI,sZ,sS]
  refine Zc (i:=3) (v:= .int .i64 0) rfl (by kernel_rfl) (by kernel_rfl) (by kernel_rfl) (fun _ _ _ h=>h) (.inl ⟨by rfl,by intro w' hw;go_simp⟩) hHeld ?_
  simp only[Act.put,sI,sZ,sS]
  refine wpAnyH_done (by kernel_rfl) ?_ _
  go_wp2_with fail
  exact Yq gK hM6 kZ6 hlen3.out (by omega) _ _ _ rfl rfl rfl
 ·obtain⟨cP,q33,q34,q35⟩:=ZG kH8 hlen.out
  have gg8:w.grownBy w8 (some q):=Nb.grown_none n8w
  rw[t1] at q33
  have f33:=Z6 kH8 33
  have f34:=Z6 kH8 34
  have f35:=Z6 kH8 35
  go_upto_region 13 with(fail)
  obtain⟨W5,w5e⟩:∃W5,((w8.setCell ⟨w.heap.size,33,none⟩ (.bool false)).setCell ⟨w.heap.size,34,none⟩ (.int .u64 0)).setCell ⟨w.heap.size,35,none⟩ (.int .i64 0)=W5:=⟨_,rfl⟩
  have kH9:W5.heap[w.heap.size]? =some (.cells (hC {h with held:=false,addr:=0,size:=0}).toArray 38 (0,0)):=by rw[←w5e,Zg (Zg (Zg kH8 33 _) 34 _) 35 _,Yd h hlen.out]
  have oth:∀k,k≠w.heap.size→W5.heap[k]? =w8.heap[k]? :=fun k hk=>by rw[←w5e,Below.heap_setCell _ _ _ _ hk,Below.heap_setCell _ _ _ _ hk,Below.heap_setCell _ _ _ _ hk]
  have gg:w.grownBy W5 (some q):=by
   rw[←w5e]
   exact ZJ (ZJ (ZJ gg8 (Nat.le_refl _) _ _) (Nat.le_refl _) _ _) (Nat.le_refl _) _ _
  rw[w5e]
  clear w5e q33 q34 q35 f33 f34 f35 cP
  have kZ9:=(oth _ (by omega)).trans kZ8
  have kI9:=(oth _ (by omega)).trans kI8
  have hM9:Mem 62 W5 p q _:=⟨(oth _ (by omega)).trans hM8.1,(oth _ (by omega)).trans hM8.2⟩
  clear kZ8 kI8 hM8 kH8 oth gg8
  go_upto_region 15 with(fail)
  have gK:w.grownBy W5.drew (some q):=⟨gg.os,gg.tape,gg.output,gg.size,gg.block⟩
  have hM6:Mem 62 W5.drew p q bs:=hM9
  have kZ6:W5.drew.heap[w.heap.size+1+1]? =some (.cells Z8 38 (0,0)):=kZ9
  refine wp_region_held_drew (S:=fun w'=>w'.heap[w.heap.size]? =some (.cells (hC {h with held:=false,addr:=0,size:=0}).toArray 38 (0,0))) (by kernel_rfl) kH9 (fun hHeld=> ?_)
  change wpAnyH _ _ _ _ _ 4 (List.toArray [false,false,false,false]) _ _
  refine Zc (i:=0) (v:= .agg (hC {h with held:=false,addr:=0,size:=0}).toArray) rfl (by kernel_rfl) (by kernel_rfl) (by kernel_rfl) (fun _ _ _ h=>h) (Zt (by rfl) 38 (.tmp 4) rfl ⟨w.heap.size,0,none⟩ rfl _ (fun w' hw=>Xz _ _ _ _ _ hw hlen3.out)) hHeld ?_
  simp only[Act.put,sI,sZ,sS]
  refine Zc (i:=1) (v:= .int .u64 1) rfl (by kernel_rfl) (by kernel_rfl) (by kernel_rfl) (fun _ _ _ h=>h) (.inl ⟨by rfl,by intro w' hw;go_simp⟩) hHeld ?_
  simp only[Act.put,sI,sZ,sS]
  clear gg kH9 kZ9 hM9
  generalize W5.drew=w6 at*
  refine wpAnyH_ready (rs:=[2]) (by kernel_rfl) (by simp) (ZQ rfl (by rfl) (fun K hK=> ?_) .nil)
  refine wp_store_row 38 (.tmp 9) (.tmp 70) rfl (w.heap.size+1+1) (hC {h with held:=false,addr:=0,size:=0}).toArray rfl rfl 38 _ kZ6 (by rw[Zk,hlen3.out]) (by rw[hlen3.out];rfl) hone3.out ?_
  refine hK.out _ _ ((setRow_other _ _ _ _ (by omega)).trans hHeld) (fun hHeld=> ?_)
  clear hK K
  simp only[Act.put,sI,sZ,sS]
  refine Zc (i:=3) (v:= .int .i64 0) rfl (by kernel_rfl) (by kernel_rfl) (by kernel_rfl) (fun _ _ _ h=>h) (.inl ⟨by rfl,by intro w' hw;go_simp⟩) hHeld ?_
  simp only[Act.put,sI,sZ,sS]
  refine wpAnyH_done (by kernel_rfl) ?_ _
  go_wp2_with fail
  exact Yq gK hM6 kZ6 hlen3.out (by omega) _ _ _ rfl rfl rfl
 ·obtain⟨cP,q33,q34,q35⟩:=ZG kH8 hlen.out
  have gg8:w.grownBy w8 (some q):=Nb.grown_none n8w
  rw[t1] at q33
  have f33:=Z6 kH8 33
  have f34:=Z6 kH8 34
  have f35:=Z6 kH8 35
  go_upto_region 13 with(fail)
  obtain⟨W5,w5e⟩:∃W5,((w8.setCell ⟨w.heap.size,33,none⟩ (.bool false)).setCell ⟨w.heap.size,34,none⟩ (.int .u64 0)).setCell ⟨w.heap.size,35,none⟩ (.int .i64 0)=W5:=⟨_,rfl⟩
  have kH9:W5.heap[w.heap.size]? =some (.cells (hC {h with held:=false,addr:=0,size:=0}).toArray 38 (0,0)):=by rw[←w5e,Zg (Zg (Zg kH8 33 _) 34 _) 35 _,Yd h hlen.out]
  have oth:∀k,k≠w.heap.size→W5.heap[k]? =w8.heap[k]? :=fun k hk=>by rw[←w5e,Below.heap_setCell _ _ _ _ hk,Below.heap_setCell _ _ _ _ hk,Below.heap_setCell _ _ _ _ hk]
  have gg:w.grownBy W5 (some q):=by
   rw[←w5e]
   exact ZJ (ZJ (ZJ gg8 (Nat.le_refl _) _ _) (Nat.le_refl _) _ _) (Nat.le_refl _) _ _
  rw[w5e]
  clear w5e q33 q34 q35 f33 f34 f35 cP
  have kZ9:=(oth _ (by omega)).trans kZ8
  have kI9:=(oth _ (by omega)).trans kI8
  have hM9:Mem 62 W5 p q _:=⟨(oth _ (by omega)).trans hM8.1,(oth _ (by omega)).trans hM8.2⟩
  clear kZ8 kI8 hM8 kH8 oth gg8
  go_upto_region 15 with(fail)
  have gK:w.grownBy W5.drew (some q):=⟨gg.os,gg.tape,gg.output,gg.size,gg.block⟩
  have hM6:Mem 62 W5.drew p q bs:=hM9
  have kZ6:W5.drew.heap[w.heap.size+1+1]? =some (.cells Z8 38 (0,0)):=kZ9
  refine wp_region_held_drew (S:=fun w'=>w'.heap[w.heap.size]? =some (.cells (hC {h with held:=false,addr:=0,size:=0}).toArray 38 (0,0))) (by kernel_rfl) kH9 (fun hHeld=> ?_)
  change wpAnyH _ _ _ _ _ 4 (List.toArray [false,false,false,false]) _ _
  refine Zc (i:=0) (v:= .agg (hC {h with held:=false,addr:=0,size:=0}).toArray) rfl (by kernel_rfl) (by kernel_rfl) (by kernel_rfl) (fun _ _ _ h=>h) (Zt (by rfl) 38 (.tmp 4) rfl ⟨w.heap.size,0,none⟩ rfl _ (fun w' hw=>Xz _ _ _ _ _ hw hlen3.out)) hHeld ?_
  simp only[Act.put,sI,sZ,sS]
  refine Zc (i:=1) (v:= .int .u64 1) rfl (by kernel_rfl) (by kernel_rfl) (by kernel_rfl) (fun _ _ _ h=>h) (.inl ⟨by rfl,by intro w' hw;go_simp⟩) hHeld ?_
  simp only[Act.put,sI,sZ,sS]
  clear gg kH9 kZ9 hM9
  generalize W5.drew=w6 at*
  refine wpAnyH_ready (rs:=[2]) (by kernel_rfl) (by simp) (ZQ rfl (by rfl) (fun K hK=> ?_) .nil)
  refine wp_store_row 38 (.tmp 9) (.tmp 70) rfl (w.heap.size+1+1) (hC {h with held:=false,addr:=0,size:=0}).toArray rfl rfl 38 _ kZ6 (by rw[Zk,hlen3.out]) (by rw[hlen3.out];rfl) hone3.out ?_
  refine hK.out _ _ ((setRow_other _ _ _ _ (by omega)).trans hHeld) (fun hHeld=> ?_)
  clear hK K
  simp only[Act.put,sI,sZ,sS]
  refine Zc (i:=3) (v:= .int .i64 0) rfl (by kernel_rfl) (by kernel_rfl) (by kernel_rfl) (fun _ _ _ h=>h) (.inl ⟨by rfl,by intro w' hw;go_simp⟩) hHeld ?_
  simp only[Act.put,sI,sZ,sS]
  refine wpAnyH_done (by kernel_rfl) ?_ _
  go_wp2_with fail
  exact Yq gK hM6 kZ6 hlen3.out (by omega) _ _ _ rfl rfl rfl
 ·obtain⟨cP,q33,q34,q35⟩:=ZG kH8 hlen.out
  have gg8:w.grownBy w8 (some q):=Nb.grown_none n8w
  rw[t1] at q33
  have f33:=Z6 kH8 33
  have f34:=Z6 kH8 34
  have f35:=Z6 kH8 35
  go_upto_region 13 with(fail)
  obtain⟨W5,w5e⟩:∃W5,((w8.setCell ⟨w.heap.size,33,none⟩ (.bool false)).setCell ⟨w.heap.size,34,none⟩ (.int .u64 0)).setCell ⟨w.heap.size,35,none⟩ (.int .i64 0)=W5:=⟨_,rfl⟩
  have kH9:W5.heap[w.heap.size]? =some (.cells (hC {h with held:=false,addr:=0,size:=0}).toArray 38 (0,0)):=by rw[←w5e,Zg (Zg (Zg kH8 33 _) 34 _) 35 _,Yd h hlen.out]
  have oth:∀k,k≠w.heap.size→W5.heap[k]? =w8.heap[k]? :=fun k hk=>by rw[←w5e,Below.heap_setCell _ _ _ _ hk,Below.heap_setCell _ _ _ _ hk,Below.heap_setCell _ _ _ _ hk]
  have gg:w.grownBy W5 (some q):=by
   rw[←w5e]
   exact ZJ (ZJ (ZJ gg8 (Nat.le_refl _) _ _) (Nat.le_refl _) _ _) (Nat.le_refl _) _ _
  rw[w5e]
  clear w5e q33 q34 q35 f33 f34 f35 cP
  have kZ9:=(oth _ (by omega)).trans kZ8
  have kI9:=(oth _ (by omega)).trans kI8
  have hM9:Mem 62 W5 p q _:=⟨(oth _ (by omega)).trans hM8.1,(oth _ (by omega)).trans hM8.2⟩
  clear kZ8 kI8 hM8 kH8 oth gg8
  go_upto_region 15 with(fail)
  have gK:w.grownBy W5.drew (some q):=⟨gg.os,gg.tape,gg.output,gg.size,gg.block⟩
  have hM6:Mem 62 W5.drew p q bs:=hM9
  have kZ6:W5.drew.heap[w.heap.size+1+1]? =some (.cells Z8 38 (0,0)):=kZ9
  refine wp_region_held_drew (S:=fun w'=>w'.heap[w.heap.size]? =some (.cells (hC {h with held:=false,addr:=0,size:=0}).toArray 38 (0,0))) (by kernel_rfl) kH9 (fun hHeld=> ?_)
  change wpAnyH _ _ _ _ _ 4 (List.toArray [false,false,false,false]) _ _
  refine Zc (i:=0) (v:= .agg (hC {h with held:=false,addr:=0,size:=0}).toArray) rfl (by kernel_rfl) (by kernel_rfl) (by kernel_rfl) (fun _ _ _ h=>h) (Zt (by rfl) 38 (.tmp 4) rfl ⟨w.heap.size,0,none⟩ rfl _ (fun w' hw=>Xz _ _ _ _ _ hw hlen3.out)) hHeld ?_
  simp only[Act.put,sI,sZ,sS]
  refine Zc (i:=1) (v:= .int .u64 1) rfl (by kernel_rfl) (by kernel_rfl) (by kernel_rfl) (fun _ _ _ h=>h) (.inl ⟨by rfl,by intro w' hw;go_simp⟩) hHeld ?_
  simp only[Act.put,sI,sZ,sS]
  clear gg kH9 kZ9 hM9
  generalize W5.drew=w6 at*
  refine wpAnyH_ready (rs:=[2]) (by kernel_rfl) (by simp) (ZQ rfl (by rfl) (fun K hK=> ?_) .nil)
  refine wp_store_row 38 (.tmp 9) (.tmp 70) rfl (w.heap.size+1+1) (hC {h with held:=false,addr:=0,size:=0}).toArray rfl rfl 38 _ kZ6 (by rw[Zk,hlen3.out]) (by rw[hlen3.out];rfl) hone3.out ?_
  refine hK.out _ _ ((setRow_other _ _ _ _ (by omega)).trans hHeld) (fun hHeld=> ?_)
  clear hK K
  simp only[Act.put,sI,sZ,sS]
  refine Zc (i:=3) (v:= .int .i64 0) rfl (by kernel_rfl) (by kernel_rfl) (by kernel_rfl) (fun _ _ _ h=>h) (.inl ⟨by rfl,by intro w' hw;go_simp⟩) hHeld ?_
  simp only[Act.put,sI,sZ,sS]
  refine wpAnyH_done (by kernel_rfl) ?_ _
  go_wp2_with fail
  exact Yq gK hM6 kZ6 hlen3.out (by omega) _ _ _ rfl rfl rfl
 ·have HV:=Lib.hid fun w1=>XQ i.1 0 b X4 qb w1
  have hsi:=Kw i.1 0 b qb X4
  have HSo:=fun w1 hm=>YG p q bs at_ s (StB i.1 0 b) qt.1 qt.2 hsi.1 hsi.2 hl w1 hm
  rw[JY _ _ _ _ hf] at HSo
  replace HSo:=Lib.hid HSo
  have hf':(flt bs.length at_ s !=0)=true:=bne_iff_ne.2 hf
  clear hS hf
  obtain⟨cP,q33,q34,q35⟩:=ZG kH8 hlen.out
  rw[t1] at q33
  go_wp2_with fail
  refine(HV.out _).mono ?_
  rintro e w'⟨rfl,rfl⟩
  go_wp2_with fail
  refine(HSo.out _ hM8).mono ?_
  rintro e w9⟨rfl,hM9,g9⟩
  have kH9:=(g9.block _ (Zf kH8) (by intro e;injection e with e;omega)).trans kH8
  have kI9:=(g9.block _ (Zf kI8) (by intro e;injection e with e;omega)).trans kI8
  have kZ9:=(g9.block _ (Zf kZ8) (by intro e;injection e with e;omega)).trans kZ8
  have gg:=Zx n8w g9
  clear c0
  obtain⟨z,c0,c1,c2,c3,c4,c5,c6⟩:=Z4 kI9
  clear z c1 c2 c3 c4 c5 c6 kH8 kI8 kZ8 hM8 g9 HSo HV
  clear cP q33 q34 q35
  go_upto_region 9 with(fail)
  have gK:w.grownBy w9.drew (some q):=⟨gg.os,gg.tape,gg.output,gg.size,gg.block⟩
  have hM6:Mem 62 w9.drew p q bs:=hM9
  have kZ6:w9.drew.heap[w.heap.size+1+1]? =some (.cells Z8 38 (0,0)):=kZ9
  refine wp_region_held_drew (S:=fun w'=>w'.heap[w.heap.size]? =some (.cells (hC h).toArray 38 (0,0))) (by kernel_rfl) kH9 (fun hHeld=> ?_)
  change wpAnyH _ _ _ _ _ 5 (List.toArray [false,false,false,false,false]) _ _
  refine Zc (i:=0) (v:= .agg (hC h).toArray) rfl (by kernel_rfl) (by kernel_rfl) (by kernel_rfl) (fun _ _ _ h=>h) (Zt (by rfl) 38 (.tmp 4) rfl ⟨w.heap.size,0,none⟩ rfl _ (fun w' hw=>Xz _ _ _ _ _ hw hlen2.out)) hHeld ?_
  simp only[Act.put,sI,sZ,sS]
  refine Zc (i:=1) (v:= .int .i64 (flt bs.length at_ s)) rfl (by kernel_rfl) (by kernel_rfl) (by kernel_rfl) (fun _ _ _ h=>h) (.inl ⟨by rfl,by intro w' hw;go_simp⟩) hHeld ?_
  simp only[Act.put,sI,sZ,sS]
  refine Zc (i:=2) (v:= .int .u64 0) rfl (by kernel_rfl) (by kernel_rfl) (by kernel_rfl) (fun _ _ _ h=>h) (.inl ⟨by rfl,by intro w' hw;go_simp⟩) hHeld ?_
  simp only[Act.put,sI,sZ,sS]
  clear gg kH9 kZ9 hM9
  generalize w9.drew=w6 at*
  refine wpAnyH_ready (rs:=[3]) (by kernel_rfl) (by simp) (ZQ rfl (by rfl) (fun K hK=> ?_) .nil)
  refine wp_store_row 38 (.tmp 9) (.tmp 63) rfl (w.heap.size+1+1) (hC h).toArray rfl rfl 38 _ kZ6 (by rw[Zk,hlen2.out]) (by rw[hlen2.out];rfl) hone.out ?_
  refine hK.out _ _ ((setRow_other _ _ _ _ (by omega)).trans hHeld) (fun hHeld=> ?_)
  clear hK K
  simp only[Act.put,sI,sZ,sS]
  refine Zc (i:=4) (v:= .int .i64 (flt bs.length at_ s)) rfl (by kernel_rfl) (by kernel_rfl) (by kernel_rfl) (fun _ _ _ h=>h) (.inl ⟨by rfl,by intro w' hw;go_simp⟩) hHeld ?_
  simp only[Act.put,sI,sZ,sS]
  refine wpAnyH_done (by kernel_rfl) ?_ _
  go_wp2_with fail
  exact Yq gK hM6 kZ6 hlen2.out (by omega) _ _ _ rfl rfl rfl
 ·have HV:=Lib.hid fun w1=>XQ i.1 0 b X4 qb w1
  have hsi:=Kw i.1 0 b qb X4
  have HSo:=fun w1 hm=>YG p q bs at_ s (StB i.1 0 b) qt.1 qt.2 hsi.1 hsi.2 hl w1 hm
  rw[hf] at HSo
  replace HSo:=Lib.hid HSo
  clear hS hf
  obtain⟨cP,q33,q34,q35⟩:=ZG kH8 hlen.out
  rw[t1] at q33
  go_wp2_with fail
  refine(HV.out _).mono ?_
  rintro e w'⟨rfl,rfl⟩
  go_wp2_with fail
  refine(HSo.out _ hM8).mono ?_
  rintro e w9⟨rfl,hM9,g9⟩
  have kH9:=(g9.block _ (Zf kH8) (by intro e;injection e with e;omega)).trans kH8
  have kI9:=(g9.block _ (Zf kI8) (by intro e;injection e with e;omega)).trans kI8
  have kZ9:=(g9.block _ (Zf kZ8) (by intro e;injection e with e;omega)).trans kZ8
  have gg:=Zx n8w g9
  clear c0
  obtain⟨z,c0,c1,c2,c3,c4,c5,c6⟩:=Z4 kI9
  clear z c1 c2 c3 c4 c5 c6 kH8 kI8 kZ8 hM8 g9 HSo HV
  clear cP q33 q34 q35
  have kH8:=kH9
  have kZ8:=kZ9
  have kI8:=kI9
  have hM8:=hM9
  have gg8:=gg
  clear kH9 kZ9 kI9 hM9 gg n8w z8
  generalize w9=w8 at*
  obtain⟨cP,q33,q34,q35⟩:=ZG kH8 hlen.out
  have f33:=Z6 kH8 33
  have f34:=Z6 kH8 34
  have f35:=Z6 kH8 35
  go_upto_region 13 with(fail)
  obtain⟨W5,w5e⟩:∃W5,((w8.setCell ⟨w.heap.size,33,none⟩ (.bool false)).setCell ⟨w.heap.size,34,none⟩ (.int .u64 0)).setCell ⟨w.heap.size,35,none⟩ (.int .i64 0)=W5:=⟨_,rfl⟩
  have kH9:W5.heap[w.heap.size]? =some (.cells (hC {h with held:=false,addr:=0,size:=0}).toArray 38 (0,0)):=by rw[←w5e,Zg (Zg (Zg kH8 33 _) 34 _) 35 _,Yd h hlen.out]
  have oth:∀k,k≠w.heap.size→W5.heap[k]? =w8.heap[k]? :=fun k hk=>by rw[←w5e,Below.heap_setCell _ _ _ _ hk,Below.heap_setCell _ _ _ _ hk,Below.heap_setCell _ _ _ _ hk]
  have gg:w.grownBy W5 (some q):=by
   rw[←w5e]
   exact ZJ (ZJ (ZJ gg8 (Nat.le_refl _) _ _) (Nat.le_refl _) _ _) (Nat.le_refl _) _ _
  rw[w5e]
  clear w5e q33 q34 q35 f33 f34 f35 cP
  have kZ9:=(oth _ (by omega)).trans kZ8
  have kI9:=(oth _ (by omega)).trans kI8
  have hM9:Mem 62 W5 p q _:=⟨(oth _ (by omega)).trans hM8.1,(oth _ (by omega)).trans hM8.2⟩
  clear kZ8 kI8 hM8 kH8 oth gg8
  go_upto_region 14 with(fail)
  have gK:w.grownBy W5.drew (some q):=⟨gg.os,gg.tape,gg.output,gg.size,gg.block⟩
  have hM6:Mem 62 W5.drew p q (stB bs at_ s (StB i.1 0 b)):=hM9
  have kZ6:W5.drew.heap[w.heap.size+1+1]? =some (.cells Z8 38 (0,0)):=kZ9
  refine wp_region_held_drew (S:=fun w'=>w'.heap[w.heap.size]? =some (.cells (hC {h with held:=false,addr:=0,size:=0}).toArray 38 (0,0))) (by kernel_rfl) kH9 (fun hHeld=> ?_)
  change wpAnyH _ _ _ _ _ 4 (List.toArray [false,false,false,false]) _ _
  refine Zc (i:=0) (v:= .agg (hC {h with held:=false,addr:=0,size:=0}).toArray) rfl (by kernel_rfl) (by kernel_rfl) (by kernel_rfl) (fun _ _ _ h=>h) (Zt (by rfl) 38 (.tmp 4) rfl ⟨w.heap.size,0,none⟩ rfl _ (fun w' hw=>Xz _ _ _ _ _ hw hlen3.out)) hHeld ?_
  simp only[Act.put,sI,sZ,sS]
  refine Zc (i:=1) (v:= .int .u64 0) rfl (by kernel_rfl) (by kernel_rfl) (by kernel_rfl) (fun _ _ _ h=>h) (.inl ⟨by rfl,by intro w' hw;go_simp⟩) hHeld ?_
  simp only[Act.put,sI,sZ,sS]
  clear gg kH9 kZ9 hM9
  generalize W5.drew=w6 at*
  refine wpAnyH_ready (rs:=[2]) (by kernel_rfl) (by simp) (ZQ rfl (by rfl) (fun K hK=> ?_) .nil)
  refine wp_store_row 38 (.tmp 9) (.tmp 69) rfl (w.heap.size+1+1) (hC {h with held:=false,addr:=0,size:=0}).toArray rfl rfl 38 _ kZ6 (by rw[Zk,hlen3.out]) (by rw[hlen3.out];rfl) hone3.out ?_
  refine hK.out _ _ ((setRow_other _ _ _ _ (by omega)).trans hHeld) (fun hHeld=> ?_)
  clear hK K
  simp only[Act.put,sI,sZ,sS]
  refine Zc (i:=3) (v:= .int .i64 0) rfl (by kernel_rfl) (by kernel_rfl) (by kernel_rfl) (fun _ _ _ h=>h) (.inl ⟨by rfl,by intro w' hw;go_simp⟩) hHeld ?_
  simp only[Act.put,sI,sZ,sS]
  refine wpAnyH_done (by kernel_rfl) ?_ _
  go_wp2_with fail
  exact Yq gK hM6 kZ6 hlen3.out (by omega) _ _ _ rfl rfl rfl
end Go.Proofs.YtgpdpaljbiclkaaGreatDoor

/-
  Proved here: what Run of the reference answers: what many plain steps are; when two harts of the reference are the same; what Put of both memories does; that same of the laws tells two memories of the same bytes to be the same. Conditions: the hart's numbers are words; memories are such that a call made, of at most 2^24 bytes. ¦ arguments that are slices of instructions, bytes, or harts, opened; arguments of which nothing has turned read as they did. Conditions: none.
-/
import Derived.Test.YtgpdpaljbiclkaaGreatDoorSbr
import Derived.Test.YtgpdpaljbiclkaaGreatDoorSbj
import Derived.Test.YtgpdpaljbiclkaaGreatDoorSag
import Derived.Deep.QuietTactic
import Derived.BigQuiet
import Derived.Deep.Slices
import Derived.Deep.Fields
import Derived.OpenShut
import Derived.ChangeSlices
import Derived.ChangeSame
import Derived.Carry
set_option maxHeartbeats 4000000
set_option maxRecDepth 100000
section
namespace Go.Proofs.YtgpdpaljbiclkaaGreatDoor
open _root_.Go.Proofs.Tryz
open Go.RowKit
set_option linter.unusedVariables false
set_option linter.unusedSimpArgs false
theorem Z5D:∃f0 f1 f2 f3 f4:Field,(Tryz.prog.fieldsOf 38).toList=[f0,f1,f2,f3,f4]∧(f0.name≠ "_" ∧f0.type= 22∧f0.offset=0)∧(f1.name≠ "_" ∧f1.type= 23∧f1.offset=1)∧(f2.name≠ "_" ∧f2.type= 4∧f2.offset=33)∧(f3.name≠ "_" ∧f3.type= 22∧f3.offset=34)∧(f4.name≠ "_" ∧f4.type= 3∧f4.offset=35):=by
 unfold Program.fieldsOf
 rw[underlying38]
 exact⟨_,_,_,_,_,rfl,⟨by decide,rfl,rfl⟩,⟨by decide,rfl,rfl⟩,⟨by decide,rfl,rfl⟩,⟨by decide,rfl,rfl⟩,⟨by decide,rfl,rfl⟩⟩
theorem eq38(h k:HV)(l1:h.x.length=32)(l2:k.x.length=32)(w:World):∃r:Bool,(binOp .eql 38 (.agg (hC h).toArray) (.agg (hC k).toArray)).run prog w=.ok (.bool r) w∧(r=true↔h=k):=by
 obtain⟨f0,f1,f2,f3,f4,he,⟨n0,t0,o0⟩,⟨n1,t1,o1⟩,⟨n2,t2,o2⟩,⟨n3,t3,o3⟩,⟨n4,t4,o4⟩⟩:=Z5D
 obtain⟨r,hr,hiff⟩:=Z5B 9997 h.x k.x l1 l2 w
 obtain⟨a0,a1,a2,a3⟩:=Z2X h l1
 obtain⟨b0,b1,b2,b3⟩:=Z2X k l2
 have hu: Tryz.prog.underlying 38 =some (.struct (Tryz.prog.fieldsOf 38)):=by kernel_rfl
 have hp: Tryz.prog.stoodInHeld 38 =false:=by kernel_rfl
 have e0:=run_equalIn_int (P:= prog) w 9998 22 .u64 .u64 h.pc k.pc underlying22
 have e2:=run_equalIn_bool (P:= prog) w 9998 4 h.held k.held underlying4
 have e3:=run_equalIn_int (P:= prog) w 9998 22 .u64 .u64 h.addr k.addr underlying22
 have e4:=run_equalIn_int (P:= prog) w 9998 3 .i64 .i64 h.size k.size underlying3
 refine⟨h.pc==k.pc && (r && (h.held==k.held && (h.addr==k.addr && h.size==k.size))),?_,?_⟩
 ·rw[run_eql_struct,run_equalIn_struct w 9999 _ _ _ hu hp,he]
  rw[Xd n0 (by rw[t0,o0];exact run_part_plain (P:= prog) w (e:= 22) (by kernel_rfl) a0) (by rw[t0,o0];exact run_part_plain (P:= prog) w (e:= 22) (by kernel_rfl) b0) (by rw[t0];exact e0)]
  rw[Xd n1 (by rw[t1,o1];exact Z0Z h l1 w) (by rw[t1,o1];exact Z0Z k l2 w) (by rw[t1];exact hr)]
  rw[Xd n2 (by rw[t2,o2];exact run_part_plain (P:= prog) w (e:= 4) (by kernel_rfl) a1) (by rw[t2,o2];exact run_part_plain (P:= prog) w (e:= 4) (by kernel_rfl) b1) (by rw[t2];exact e2)]
  rw[Xd n3 (by rw[t3,o3];exact run_part_plain (P:= prog) w (e:= 22) (by kernel_rfl) a2) (by rw[t3,o3];exact run_part_plain (P:= prog) w (e:= 22) (by kernel_rfl) b2) (by rw[t3];exact e3)]
  rw[Xd n4 (by rw[t4,o4];exact run_part_plain (P:= prog) w (e:= 3) (by kernel_rfl) a3) (by rw[t4,o4];exact run_part_plain (P:= prog) w (e:= 3) (by kernel_rfl) b3) (by rw[t4];exact e4)]
  cases (h.pc==k.pc)<;>cases r<;>cases (h.held==k.held)<;>cases (h.addr==k.addr)<;>cases (h.size==k.size)<;>simp[Op.eqFields]
 ·obtain⟨p1,x1,d1,a1,s1⟩:=h
  obtain⟨p2,x2,d2,a2,s2⟩:=k
  simp only[Bool.and_eq_true,hiff,beq_iff_eq,HV.mk.injEq]
def Z10 (n:Nat) (h:HV) (bs:By) (p q:Nat) (w:World) (e:Ending) (w':World):Prop:=
 e=.returned (.tuple #[.agg (hC (runS n 0 h bs).1).toArray,.int .i64 ((runS n 0 h bs).2.1:Int),.int .i64 (runS n 0 h bs).2.2.1])∧Mem 62 w' p q (runS n 0 h bs).2.2.2∧w.grownBy w' (some q)
theorem Z1V{h:HV}{w W1:World}{p q g:Nat}{bs:By}{old:Array Value}(hg:w.grownBy W1 (some q))(hM:Mem 62 W1 p q bs)(k0:W1.heap[g]? =some (.cells old 38 (0,0)))(hlen:(hC h).toArray.size=36)(hgw:w.heap.size≤g)
  (tmps:Array Value) (v E:Int) (hp:tmps.getD 6 undef=.pointer (some ⟨g,0,none⟩)) (h7:tmps.getD 7 undef=.int .i64 v) (h8:tmps.getD 8 undef=.int .i64 E):
  bodyPost prog Tryz.f13 (fun e w'=>e=.returned (.tuple #[.agg (hC h).toArray,.int .i64 v,.int .i64 E])∧Mem 62 w' p q bs∧w.grownBy w' (some q)) Exit.ret {tmps:=tmps,defers:=[]} (W1.setRow g (hC h).toArray):=by
 have k2:=setRow_heap W1 g _ (hC h).toArray 38 _ k0
 have hpg:p≠g:=by
  rintro rfl
  have:=hM.1.symm.trans k0
  simp at this
 have hqg:q≠g:=by
  rintro rfl
  have:=hM.2.symm.trans k0
  simp at this
 refine bodyPost_ret (Z0Q rfl _ _ g _ hp (Xz g _ _ _ _ k2 hlen)) rfl ⟨by rw[h7,h8],⟨(setRow_other W1 g p _ hpg).trans hM.1,(setRow_other W1 g q _ hqg).trans hM.2⟩,?_⟩
 exact⟨hg.os,hg.tape,hg.output,Nat.le_trans hg.size (by simp[World.setRow]),fun k hk hr=>(setRow_other W1 g k _ (by omega)).trans (hg.block k hk hr)⟩
theorem Z8o{w a c:World}{q:Nat}(g:w.grownBy a (some q))(k:a.grownBy c (some q)):w.grownBy c (some q):=
 ⟨k.os.trans g.os,k.tape.trans g.tape,k.output.trans g.output,Nat.le_trans g.size k.size,fun i hi hr=>(k.block i (Nat.lt_of_lt_of_le hi g.size) hr).trans (g.block i hi hr)⟩
theorem Z5E(h:HV)(p q:Nat)(bs:By)(n:Nat)(hn:n<4611686018427387904)(hh:HOk h)(hl:bs.length≤16777216)(w:World)(hM:Mem 62 w p q bs):
  Calls prog 13 #[.agg (hC h).toArray,.pointer (some ⟨p,0,none⟩),.int .i64 (n:Int)] w (Z10 n h bs p q w):=by
 have hMlt:=hM.lt
 have hok0:=Lib.hid hh
 obtain⟨R,hR⟩:∃R,runS n 0 h bs=R:=⟨_,rfl⟩
 have hR':=Lib.hid hR
 unfold Z10
 rw[hR]
 clear hR hh
 go_enter func13,ntmps13
 go_upto_region 1 with(fail)
 obtain⟨W1,w1e⟩:∃W1,(w.alloc (Obj.cells (hC h).toArray 38)).alloc (Obj.cells Z8 38)=W1:=⟨_,rfl⟩
 have n1:Nb w W1:=by rw[←w1e];exact((Nb.refl _).alloc _).alloc _
 have kH:W1.heap[w.heap.size]? =some (.cells (hC h).toArray 38 (0,0)):=by rw[←w1e];exact Zo (Zd _ _ rfl) _
 have kZ:W1.heap[w.heap.size+1]? =some (.cells Z8 38 (0,0)):=by rw[←w1e];exact Zd _ _ (by simp)
 change Code.wp _ _ _ _ ((w.alloc (Obj.cells (hC h).toArray 38)).alloc (Obj.cells Z8 38))
 rw[w1e]
 clear w1e
 go_wp2_with fail
 go_loopw [9] (fun i wr=>∃(k:Nat) (h1:HV) (b1:By),k≤n∧i=.int .i64 k∧Hid (HOk h1)∧Hid (b1.length=bs.length)∧Hid (runS (n-k) k h1 b1=R)∧Hid (wr.heap[w.heap.size]? =some (.cells (hC h1).toArray 38 (0,0)))∧Hid (wr.heap[w.heap.size+1]? =some (.cells Z8 38 (0,0)))∧Mem 62 wr p q b1∧w.grownBy wr (some q)) (fun i _=>n-(intOf i).toNat)
 case atStart=>exact⟨0,h,bs,Nat.zero_le _,rfl,hok0,Lib.hid rfl,hR',Lib.hid kH,Lib.hid kZ,hM.nb n1,n1.grown_none⟩
 case round=>
  obtain⟨k,h1,b1,hk,rfl,hok,hbl,hrun,kH1,kZ1,hMr,gr⟩:=hrel
  clear kH kZ n1 hR' hok0
  have hlen1:=Lib.hid (show(hC h1).toArray.size=36 by rw[List.size_toArray];exact Zv (by exact hok.out.len))
  have hone1:=Lib.hid (Zu (ZI h1))
  by_cases hlt:k<n
  ·have hlt2:(k:Int)<(n:Int):=by omega
   have HS:=Lib.hid (Z0p h1 p q b1 hok.out (by rw[hbl.out];exact hl) wr hMr)
   unfold Jz at HS
   go_wp2_with (first|refine wpList_load_row rfl 38 (.tmp 3) rfl w.heap.size rfl 38 (hC h1).toArray (0,0) _ kH1.out underlying38 rfl (by rw[Zk,hlen1.out]) ?_)
   refine(HS.out).mono ?_
   rintro e w2⟨rfl,hM2,g2⟩
   have kH2:=(g2.block _ (Zf kH1.out) (by intro e;injection e with e;omega)).trans kH1.out
   have kZ2:=(g2.block _ (Zf kZ1.out) (by intro e;injection e with e;omega)).trans kZ1.out
   have gg:=Z8o gr g2
   have hok2:=Lib.hid (Jy h1 b1 hok.out)
   have hlen2:=Lib.hid (show(hC (stepS h1 b1).1).toArray.size=36 by rw[List.size_toArray];exact Zv (by exact hok2.out.len))
   have hone2:=Lib.hid (Zu (ZI (stepS h1 b1).1))
   clear HS
   go_upto_region 4 with(first
    |refine wpList_store_row rfl 38 (.tmp 10) (.tmp 19) rfl w2.heap.size (hC (stepS h1 b1).1).toArray rfl rfl 38 Z8 (heap_alloc_new w2 _) (by rw[Zk,hlen2.out]) (by rw[hlen2.out];rfl) hone2.out ?_)
   obtain⟨W3,w3e⟩:∃W3,(w2.alloc (Obj.cells Z8 38)).setRow w2.heap.size (hC (stepS h1 b1).1).toArray=W3:=⟨_,rfl⟩
   have n3:Nb w2 W3:=by rw[←w3e];exact((Nb.refl _).alloc _).setRow (Nat.le_refl _) _
   have kX:W3.heap[w2.heap.size]? =some (.cells (hC (stepS h1 b1).1).toArray 38 (0,0)):=by rw[←w3e];exact setRow_heap _ _ _ _ _ _ (heap_alloc_new w2 _)
   change Code.wp _ _ _ _ ((w2.alloc (Obj.cells Z8 38)).setRow w2.heap.size (hC (stepS h1 b1).1).toArray)
   rw[w3e]
   clear w3e
   have kH3:=n3.block kH2
   have kZ3:=n3.block kZ2
   have hM3:=hM2.nb n3
   have g3:=YF gg n3
   have hz2:=Nat.lt_of_lt_of_le (Zf kZ1.out) g2.size
   clear kH2 kZ2 hM2 gg kH1 kZ1
   have hm:n-k=(n-(k+1))+1:=by omega
   rw[hm] at hrun
   by_cases he:(stepS h1 b1).2.1=0
   ·have he':((stepS h1 b1).2.1 !=0)=false:=by rw[he];rfl
    have hrun2:runS (n-(k+1)) (k+1) (stepS h1 b1).1 (stepS h1 b1).2.2=R:=by
     have:=hrun.out
     unfold runS at this
     rwa [if_pos he] at this
    have hrun3:=Lib.hid hrun2
    clear hrun hm he hrun2
    go_upto_region 7 with(first
     |refine wpList_load_row rfl 38 (.tmp 10) rfl w2.heap.size rfl 38 (hC (stepS h1 b1).1).toArray (0,0) _ kX underlying38 rfl (by rw[Zk,hlen2.out]) ?_
     |refine wpList_store_row rfl 38 (.tmp 3) (.tmp 26) rfl w.heap.size (hC (stepS h1 b1).1).toArray rfl rfl 38 _ kH3 (by rw[Zk,hlen2.out]) (by rw[hlen1.out,hlen2.out]) hone2.out ?_)
    obtain⟨W4,w4e⟩:∃W4,W3.setRow w.heap.size (hC (stepS h1 b1).1).toArray=W4:=⟨_,rfl⟩
    have kH4:W4.heap[w.heap.size]? =some (.cells (hC (stepS h1 b1).1).toArray 38 (0,0)):=by rw[←w4e];exact setRow_heap _ _ _ _ _ _ kH3
    have oth:∀j,j≠w.heap.size→W4.heap[j]? =W3.heap[j]? :=fun j hj=>by rw[←w4e];exact setRow_other W3 _ j _ hj
    have kZ4:=(oth _ (by omega)).trans kZ3
    have hM4:Mem 62 W4 p q (stepS h1 b1).2.2:=⟨(oth _ (by omega)).trans hM3.1,(oth _ (by omega)).trans hM3.2⟩
    have g4:w.grownBy W4 (some q):=by rw[←w4e];exact Z2j g3 (Nat.le_refl _) _
    have hbl2:=Lib.hid ((K8 h1 b1 hok.out).trans hbl.out)
    rw[w4e]
    clear w4e oth kH3 kZ3 hM3 g3 kX
    go_wp2_with fail
    exact⟨⟨k+1,(stepS h1 b1).1,(stepS h1 b1).2.2,by omega,rfl,hok2,hbl2,hrun3,Lib.hid kH4,Lib.hid kZ4,hM4,g4⟩,by simp[intOf];omega⟩
   ·have he':((stepS h1 b1).2.1 !=0)=true:=by simp[bne,he]
    have hRe:R=(h1,k,(stepS h1 b1).2.1,(stepS h1 b1).2.2):=by
     have:=hrun.out.symm
     unfold runS at this
     rwa [if_neg he] at this
    subst hRe
    clear hrun he hm
    go_wp2_with (first
     |refine wpList_load_row rfl 38 (.tmp 3) rfl w.heap.size rfl 38 (hC h1).toArray (0,0) _ kH3 underlying38 rfl (by rw[Zk,hlen1.out]) ?_
     |refine wpList_store_row rfl 38 (.tmp 6) (.tmp 23) rfl (w.heap.size+1) (hC h1).toArray rfl rfl 38 _ kZ3 (by rw[Zk,hlen1.out]) (by rw[hlen1.out];rfl) hone1.out ?_)
    exact Z1V g3 hM3 kZ3 hlen1.out (by omega) _ _ _ rfl rfl rfl
  ·obtain rfl:k=n:=by omega
   have hRe:R=(h1,k,0,b1):=by
    have:=hrun.out.symm
    rwa [Nat.sub_self] at this
   subst hRe
   clear hrun
   go_wp2_with (first
    |refine wpList_load_row rfl 38 (.tmp 3) rfl w.heap.size rfl 38 (hC h1).toArray (0,0) _ kH1.out underlying38 rfl (by rw[Zk,hlen1.out]) ?_
    |refine wpList_store_row rfl 38 (.tmp 6) (.tmp 29) rfl (w.heap.size+1) (hC h1).toArray rfl rfl 38 _ kZ1.out (by rw[Zk,hlen1.out]) (by rw[hlen1.out];rfl) hone1.out ?_)
   exact Z1V gr hMr kZ1.out hlen1.out (by omega) _ _ _ rfl rfl rfl
theorem Z5F(p b:Nat)(bs xs:By)(at_:Nat)(A:Option Addr)(cap:Nat)(ha:at_≤1000)(hx:xs.length≤500)(hc:xs.length≤cap)(hl:bs.length≤16777216)(w:World)(hM:Mem 85 w p b bs)(hS:Src w A xs):
  Calls prog 7 #[.pointer (some ⟨p,0,none⟩),.int .u64 (at_:Int),.slice A xs.length cap] w fun e w'=>(∃E:Int,e=.returned (.int .i64 E))∧Mem 85 w' p b (putB bs at_ xs)∧w.grownBy w' (some b):=by
 unfold putB
 by_cases h:(bs.length:Int)<(at_:Int)+xs.length
 ·rw[if_pos h]
  refine(put_no p b bs xs at_ A cap (by omega) (by omega) (by omega) h hl w hM).mono ?_
  rintro e w'⟨rfl,rfl⟩
  exact⟨⟨_,rfl⟩,hM,World.grownBy.refl _ _⟩
 ·rw[if_neg h,Int.toNat_natCast]
  exact(put_ok p b bs xs at_ A cap (by omega) hl w hM hS).mono fun e w' ⟨h1,h2,h3⟩=>⟨⟨_,h1⟩,h2,h3⟩
theorem rput_z(p b:Nat)(bs xs:By)(at_:Nat)(A:Option Addr)(cap:Nat)(h:at_+xs.length≤bs.length)(hl:bs.length≤16777216)(hc:xs.length≤cap)(w:World)(hM:Mem 62 w p b bs)(hS:Src w A xs)(hb:0<xs.length→∀ad,A=some ad→ad.block≠b):
  Calls prog 8 #[.pointer (some ⟨p,0,none⟩),.int .u64 (at_:Int),.slice A xs.length cap] w fun e w'=>e=.returned (.int .i64 0)∧Mem 62 w' p b (lay bs at_ xs)∧w.grownBy w' (some b):=by
 have HF:=J9 p b bs (at_:Int) xs.length (by omega) (by omega) (by omega) hl w hM
 rw[KQ (by omega)] at HF
 replace HF:=Lib.hid HF
 have hSh:=Lib.hid hS
 have hbh:=Lib.hid hb
 clear hS hb
 go_enter func8,ntmps8
 go_wp2_with fail
 refine(HF.out).mono ?_
 rintro e w'⟨rfl,rfl⟩
 clear HF
 go_wp2_with fail
 go_loopw [8] (fun i wr=>∃k:Nat,k≤xs.length∧i=.int .i64 k∧Mem 62 wr p b (lay bs at_ (xs.take k))∧w.grownBy wr (some b)) (fun i _=>xs.length-(intOf i).toNat)
 case atStart=>exact⟨0,Nat.zero_le _,rfl,by rw[List.take_zero,Jn];exact hM,World.grownBy.refl w _⟩
 case round=>
  obtain⟨k,hk,rfl,hMr,hg⟩:=hrel
  by_cases hlt:k<xs.length
  ·obtain⟨ad,hA,hcx⟩:=hSh.out.cell hg (hbh.out (by omega)) k hlt
   subst hA
   have hf:=hMr.frozen (at_+k)
   have hd:=hMr.head
   have hll:(lay bs at_ (xs.take k)).length=bs.length:=Jm bs at_ _ (by simp;omega)
   obtain⟨x,hc1⟩:∃x,wr.cell? ⟨b,at_+k,none⟩=some x:=⟨_,hMr.byte (at_+k) (by omega)⟩
   have hset:=Lib.hid (hMr.set (by decide) (at_+k) xs[k])
   rw[←Z5u bs xs at_ k (by omega) hlt] at hset
   rw[hll] at hd
   have hlt2:(k:Int)<(xs.length:Int):=by omega
   generalize xs[k]=c at*
   clear hMr hll hk
   go_wp2_with fail
   go_region
   have hg2:=Lib.hid (XW hg (KT wr b (at_+k) (.int .u8 (c.toNat:Int))))
   clear hg
   go_wp2_with fail
   exact⟨⟨k+1,by omega,rfl,hset.out,⟨hg2.out.os,hg2.out.tape,hg2.out.output,hg2.out.size,hg2.out.block⟩⟩,by simp[intOf]<;>omega⟩
  ·obtain rfl:k=xs.length:=by omega
   clear hk hlt
   go_wp2_with fail
   go_ret
   rw[List.take_length] at hMr
   exact⟨rfl,hMr,hg⟩
theorem Z5G(p b:Nat)(bs xs:By)(at_:Nat)(A:Option Addr)(cap:Nat)(ha:at_≤1000)(hx:xs.length≤500)(hc:xs.length≤cap)(hl:bs.length≤16777216)(w:World)(hM:Mem 62 w p b bs)(hS:Src w A xs)(hb:0<xs.length→∀ad,A=some ad→ad.block≠b):
  Calls prog 8 #[.pointer (some ⟨p,0,none⟩),.int .u64 (at_:Int),.slice A xs.length cap] w fun e w'=>(∃E:Int,e=.returned (.int .i64 E))∧Mem 62 w' p b (putB bs at_ xs)∧w.grownBy w' (some b):=by
 unfold putB
 by_cases h:(bs.length:Int)<(at_:Int)+xs.length
 ·rw[if_pos h]
  refine(Z88 p b bs xs at_ A cap (by omega) (by omega) (by omega) h hl w hM).mono ?_
  rintro e w'⟨rfl,rfl⟩
  exact⟨⟨_,rfl⟩,hM,World.grownBy.refl _ _⟩
 ·rw[if_neg h,Int.toNat_natCast]
  exact(rput_z p b bs xs at_ A cap (by omega) hl hc w hM hS hb).mono fun e w' ⟨h1,h2,h3⟩=>⟨⟨_,h1⟩,h2,h3⟩
theorem Z5H{w:World}{g n cap:Nat}{bs:By}(h:w.heap[g]? =some (.cells (Lib.byteCells bs).toArray 5 (0,0)))(hn:bs.length=n):
  (convert 27 9 (.slice (some ⟨g,0,none⟩) n cap)).run prog w=.ok (.string ⟨bs.toArray⟩) w:=by
 subst hn
 refine run_convert_bytes_back w _ _ 5 _ cap bs underlying27 underlying5 underlying9 fun j hj=> ?_
 rw[Z1R,cell_of_row _ _ _ _ _ _ h]
 simp[Lib.byteCells,hj]
theorem Z1W(p q p2 q2 n:Nat)(bs:By)(hn:bs.length=n)(hl:n≤16777216)(w:World)(hM:Mem 85 w p q bs)(hR:Mem 62 w p2 q2 bs):
  Calls prog 11 #[.pointer (some ⟨p,0,none⟩),.pointer (some ⟨p2,0,none⟩)] w fun e w'=>e=.returned (.bool true)∧Nb w w':=by
 have LM:=Z85 p q bs w hM
 rw[hn] at LM
 replace LM:=Lib.hid LM
 have BM:=Lib.hid (Z5p p q bs 0 n (by omega) (by omega) w hM)
 unfold Z0W at BM
 rw[show(bs.drop 0).take n=bs from by rw[List.drop_zero,←hn];exact List.take_length] at BM
 have hn':=Lib.hid hn
 have hR':=Lib.hid hR
 clear hn hM hR
 go_enter func11,ntmps11
 go_wp2_with fail
 refine(LM.out).mono ?_
 rintro e w'⟨rfl,rfl⟩
 go_wp2_with fail
 refine(BM.out).mono ?_
 rintro e w3⟨rfl,k3,b3⟩
 have hR3:=hR'.out.nb b3
 have hd:=hR3.head
 rw[hn'.out] at hd
 have hm1:Nb w w3:=b3
 have e1:=Z5H (w:=w3.drew) (n:=n) (cap:=n) k3 hn'.out
 have e2:=Z5H (w:=w3.drew) (n:=n) (cap:=n) hR3.2 hn'.out
 clear LM BM k3 b3 hR3 hR' hn'
 go_wp2_with fail
 go_region
 go_wp2_with fail
 go_ret
 exact⟨rfl,hm1.trans ⟨rfl,rfl,rfl,Nat.le_refl _,fun _ _=>rfl⟩⟩
end Go.Proofs.YtgpdpaljbiclkaaGreatDoor
end
section
namespace Go.Proofs.YtgpdpaljbiclkaaGreatDoor
open _root_.Go.Proofs.Tryz
open Go.ChangeShapes Go.WideShapes Go.ChangeAt Go.RowKit Go.Deep Go.Joins
set_option linter.unusedVariables false
set_option linter.unusedSimpArgs false
theorem in_of{x:Int}(h:(Lit.int .u64 x).wf=true):0≤x∧x<18446744073709551616:=by
 simp[Lit.wf,IntKind.min,IntKind.max,IntKind.signed,IntKind.bits] at h
 omega
theorem u8_of{x:Int}(h:(Lit.int .u8 x).wf=true):0≤x∧x<256:=by
 simp[Lit.wf,IntKind.min,IntKind.max,IntKind.signed,IntKind.bits] at h
 omega
def InR (x:Int):Prop:= -9223372036854775808≤x∧x<9223372036854775808
def Ins (w:World) (b off:Nat) (is:List In7):Prop:=∀k,k<is.length→∃i,is[k]? =some i∧
 w.cell? ⟨b,off+k*7,none⟩=some (.int .i64 i.1)∧w.cell? ⟨b,off+k*7+1,none⟩=some (.int .i64 i.2.1)∧w.cell? ⟨b,off+k*7+2,none⟩=some (.int .i64 i.2.2.1)∧w.cell? ⟨b,off+k*7+3,none⟩=some (.int .i64 i.2.2.2.1)∧w.cell? ⟨b,off+k*7+4,none⟩=some (.int .i64 i.2.2.2.2.1)∧w.cell? ⟨b,off+k*7+5,none⟩=some (.bool i.2.2.2.2.2.1)∧w.cell? ⟨b,off+k*7+6,none⟩=some (.bool i.2.2.2.2.2.2)
theorem Ins.nb{a c:World}{b off:Nat}{is:List In7}(h:Ins a b off is)(hn:Nb a c):Ins c b off is:=by
 intro k hk
 obtain⟨i,hi,c0,c1,c2,c3,c4,c5,c6⟩:=h k hk
 exact⟨i,hi,hn.cell c0,hn.cell c1,hn.cell c2,hn.cell c3,hn.cell c4,hn.cell c5,hn.cell c6⟩
theorem Ins.at_{w:World}{b off:Nat}{is:List In7}(h:Ins w b off is)(k:Nat)(i:In7)(hi:is[k]? =some i):
 w.cell? ⟨b,off+k*7,none⟩=some (.int .i64 i.1)∧w.cell? ⟨b,off+k*7+1,none⟩=some (.int .i64 i.2.1)∧w.cell? ⟨b,off+k*7+2,none⟩=some (.int .i64 i.2.2.1)∧w.cell? ⟨b,off+k*7+3,none⟩=some (.int .i64 i.2.2.2.1)∧w.cell? ⟨b,off+k*7+4,none⟩=some (.int .i64 i.2.2.2.2.1)∧w.cell? ⟨b,off+k*7+5,none⟩=some (.bool i.2.2.2.2.2.1)∧w.cell? ⟨b,off+k*7+6,none⟩=some (.bool i.2.2.2.2.2.2):=by
 have hk:k<is.length:=by
  rcases Nat.lt_or_ge k is.length with h1|h1
  ·exact h1
  ·rw[List.getElem?_eq_none h1] at hi;cases hi
 obtain⟨j,hj,hc⟩:=h k hk
 obtain rfl:=Option.some.inj (hj.symm.trans hi)
 exact hc
theorem Z8p{α:Type}(n:Nat)(P:Nat→α→Prop)(h:∀i,i<n→∃x,P i x):∃l:List α,l.length=n∧∀i x,l[i]? =some x→P i x:=by
 induction n with
 |zero=>exact⟨[],rfl,fun i x hx=>by simp at hx⟩
 |succ n ih=>
  obtain⟨l,hl,hp⟩:=ih fun i hi=>h i (by omega)
  obtain⟨x,hx⟩:=h n (by omega)
  refine⟨l++[x],by simp[hl],fun i y hy=> ?_⟩
  rw[List.getElem?_append] at hy
  split at hy
  ·exact hp i y hy
  ·rename_i hge
   by_cases e:i-l.length=0
   ·rw[e] at hy
    simp at hy
    obtain rfl:i=n:=by omega
    rw[←hy];exact hx
   ·rw[List.getElem?_eq_none (by simp;omega)] at hy;cases hy
section
variable {H:Type} {enc:TypeId×Value→H} {P:Program} {base:Nat}
theorem Jc(hl:laidOutB P=true){W W':World}{sp:Nat→Bool}(hb:Below W.heap.size W W'):∀ {ts:List TypeId} {vs:List Value} {ds:List (DataW H)} {ps:List MemPlace},
  DataW.TrodAll enc P W 0 (fun _=>true) true ts vs ds ps→(∀t ∈ ts,P.readableRec t=true∧t<P.types.size)→(∀x ∈ ps,x.block<W.heap.size)→(∀x ∈ ps,sp x.block=true)→
  DataW.TrodAll enc P W' 0 sp true ts vs ds ps
 |[],vs,ds,ps,h,_,_,_=>by
  obtain⟨rfl,rfl,rfl⟩:=trodAll_nil h
  exact trodAll_mk0
 |t::ts,vs,ds,ps,h,ht,hlt,hsp=>by
  obtain⟨v,vs',d,ds',p,q,rfl,rfl,rfl,h1,h2⟩:=trodAll_cons h
  obtain⟨hr,hrow⟩:=ht t (List.mem_cons_self ..)
  exact trodAll_cons_mk (WideElems.Trod_stays hl hr hrow h1 (fun x hx=>hb.same (hlt x (List.mem_append_left _ hx))) (fun x hx=>hsp x (List.mem_append_left _ hx)))
   (Jc hl hb h2 (fun t h=>ht t (List.mem_cons_of_mem _ h)) (fun x hx=>hlt x (List.mem_append_right _ hx)) (fun x hx=>hsp x (List.mem_append_right _ hx)))
end
section
variable {H:Type} {enc:TypeId×Value→H} {P:Program} {w:World} {base:Nat} {spare:Nat→Bool} {held:Bool}
theorem KR{t e:TypeId}{fs:Array Field}{fuel:Nat}{cs:List Value}{x:DataW H×List MemPlace}(ht:P.underlying t=some (.slice e))(he:P.underlying e=some (.struct fs))
  (hone:oneCellFields P fs=true) (hC:P.cellsOf e=fs.size) (h:DataW.trod enc P w base spare held fuel t cs=some x):
  (cs=[.slice none 0 0])∨
  ∃(a:Addr) (len cap m:Nat),cs=[.slice (some a) len cap]∧len≤cap∧cap≤maxLen∧len≤m∧
   ∀i,i<m→∃(ys:List (DataW H×List MemPlace)) (n:Nat),
    ∀(j:Nat) (f:Field),fs[j]? =some f→∃(v:Value) (y:DataW H×List MemPlace),w.cell? (a.add (i*fs.size+j))=some v∧ys[j]? =some y∧DataW.trod enc P w base spare held n f.type [v]=some y:=by
 rcases open_slice ht h with h0|⟨a,len,cap,m,n,D,Pl,hcs,hb,hl,hm,hmm,hx,hi⟩
 ·exact .inl h0.1
 ·refine .inr ⟨a,len,cap,m,hcs,hl,hm,by rw[hmm];split<;>omega,fun i him=> ?_⟩
  obtain⟨cs',hc,ht'⟩:=hi i him
  rw[hC] at hc
  obtain⟨ys,n',hn',hy,hlen,hyl,hf⟩:=DataW.trod_struct he ht'
  obtain⟨_,hcl,hat⟩:=World.cells?_some hc
  refine⟨ys,n',fun j f hj=> ?_⟩
  obtain⟨ho,hk⟩:=hone_of hone j f hj
  have hjl:j<fs.size:=(Array.getElem?_eq_some_iff.1 hj).1
  have hcell:=hat j hjl
  have hv:cs'[j]? =some (cs'[j]'(by omega)):=List.getElem?_eq_getElem (by omega)
  have h1:=hf j f hj
  rw[ho,hk] at h1
  have hone':(cs'.drop j).take 1=[cs'[j]'(by omega)]:=by
   rw[List.drop_eq_getElem_cons (by omega)]
   rfl
  rw[hone'] at h1
  have hys:ys[j]? =some (ys[j]'(by omega)):=List.getElem?_eq_getElem (by omega)
  refine⟨_,_,?_,hys,h1.trans hys⟩
  rw[←Go.Deep.add_add,hcell,hv]
end
section
variable {H:Type} {enc:TypeId×Value→H} {w:World} {base:Nat} {spare:Nat→Bool} {held:Bool}
theorem Z00{r:Reach}{b0:Nat}{v:Value}{d:DataW H}{p:List MemPlace}(hv:Value.okWide prog w r b0 26 v)(h:DataW.Trod enc prog w base spare held 26 v d p):
  ∃(A:Option Addr) (b off cap:Nat) (is:List In7),v=.slice A is.length cap∧(0<is.length→A=some ⟨b,off,none⟩)∧Ins w b off is∧(∀i ∈ is,InR i.2.2.2.2.1)∧is.length≤9223372036854775807:=by
 obtain⟨a1,len1,cap1,rfl⟩:=okWide_slice underlying26 hv
 obtain⟨fuel,hf⟩:=h
 rcases KR underlying26 underlying50 (by kernel_rfl) Z6f hf with hcs|⟨a,len,cap,m,hcs,hl,hm,hlm,hi⟩
 ·simp[Value.cells] at hcs
  obtain⟨rfl,rfl,rfl⟩:=hcs
  exact⟨none,0,0,0,[],rfl,fun h=>absurd h (by simp),(fun k hk=>absurd hk (by simp)),(fun i h=>by cases h),by simp⟩
 ·simp[Value.cells] at hcs
  obtain⟨rfl,rfl,rfl⟩:=hcs
  obtain⟨is,hlen,hp⟩:=Z8p len1 (fun i (x:In7)=>InR x.2.2.2.2.1∧w.cell? (a.add (i*7+0))=some (.int .i64 x.1)∧w.cell? (a.add (i*7+1))=some (.int .i64 x.2.1)∧w.cell? (a.add (i*7+2))=some (.int .i64 x.2.2.1)∧w.cell? (a.add (i*7+3))=some (.int .i64 x.2.2.2.1)
    ∧w.cell? (a.add (i*7+4))=some (.int .i64 x.2.2.2.2.1)∧w.cell? (a.add (i*7+5))=some (.bool x.2.2.2.2.2.1)∧w.cell? (a.add (i*7+6))=some (.bool x.2.2.2.2.2.2)) (fun i hil=>by
   obtain⟨ys,n,hq⟩:=hi i (by omega)
   obtain⟨c0,y0,e0,-,t0⟩:=hq 0 _ rfl
   obtain⟨c1,y1,e1,-,t1⟩:=hq 1 _ rfl
   obtain⟨c2,y2,e2,-,t2⟩:=hq 2 _ rfl
   obtain⟨c3,y3,e3,-,t3⟩:=hq 3 _ rfl
   obtain⟨c4,y4,e4,-,t4⟩:=hq 4 _ rfl
   obtain⟨c5,y5,e5,-,t5⟩:=hq 5 _ rfl
   obtain⟨c6,y6,e6,-,t6⟩:=hq 6 _ rfl
   obtain⟨x0,rfl,-,w0⟩:=J1 t0
   obtain⟨x1,rfl,-,w1⟩:=J1 t1
   obtain⟨x2,rfl,-,w2⟩:=J1 t2
   obtain⟨x3,rfl,-,w3⟩:=J1 t3
   obtain⟨x4,rfl,-,w4⟩:=J1 t4
   obtain⟨x5,rfl,-⟩:=Z0A t5
   obtain⟨x6,rfl,-⟩:=Z0A t6
   exact⟨(x0,x1,x2,x3,x4,x5,x6),JH w4,e0,e1,e2,e3,e4,e5,e6⟩)
  subst hlen
  have hspot:0<is.length→a=⟨a.block,a.off,none⟩:=fun h0=>by
   obtain⟨x,hx⟩:∃x,is[0]? =some x:=⟨is[0],List.getElem?_eq_getElem h0⟩
   have h1:=(hp 0 x hx).2.1
   have e:a.add (0*7+0)=a:=rfl
   rw[e] at h1
   cases a with
   |mk b o s=>
    cases s with
    |none=>rfl
    |some s=>
     unfold World.cell? at h1
     split at h1
     ·simp at h1
     ·cases h1
  refine⟨some a,a.block,a.off,cap1,is,rfl,fun h0=>by rw[←hspot h0],fun k hk=> ?_,fun i hi=> ?_,?_⟩
  ·have hx:is[k]? =some is[k]:=List.getElem?_eq_getElem hk
   obtain⟨-,e0,e1,e2,e3,e4,e5,e6⟩:=hp k _ hx
   have ha:=hspot (by omega)
   have hadd:∀n,a.add n=⟨a.block,a.off+n,none⟩:=fun n=>by
    unfold Addr.add
    split
    ·rename_i hn;subst hn;exact ha
    ·rfl
   simp only[hadd,Nat.add_zero,←Nat.add_assoc] at e0 e1 e2 e3 e4 e5 e6
   exact⟨is[k],hx,e0,e1,e2,e3,e4,e5,e6⟩
  ·obtain⟨k,hk,rfl⟩:=List.mem_iff_getElem.1 hi
   exact(hp k _ (List.getElem?_eq_getElem hk)).1
  ·unfold maxLen at hm;omega
end
section
variable {H:Type} {enc:TypeId×Value→H} {w:World} {base:Nat} {spare:Nat→Bool} {held:Bool}
theorem src_of{A:Option Addr}{a:Addr}{zs:List Int}{len:Nat}(hz:len≤zs.length)(hA:A=some a)(hc:∀i,i<zs.length→w.cell? (a.add i)=some (.int .u8 (zs.getD i 0)))(hw:∀n ∈ zs,(Lit.int .u8 n).wf=true):
  Src w A ((zs.take len).map fun n=>UInt8.ofNat n.toNat):=by
 intro h0
 refine⟨a,hA,fun j v hv=> ?_⟩
 unfold Lib.byteCells at hv
 simp only[List.map_map,List.getElem?_map,Option.map_eq_some_iff] at hv
 obtain⟨x,hx,rfl⟩:=hv
 rw[List.getElem?_take] at hx
 split at hx
 ·rename_i hj
  rw[hc j (by omega),List.getD_eq_getElem?_getD,hx]
  have h1:=u8_of (hw x (List.mem_of_getElem? hx))
  have h2:(UInt8.ofNat x.toNat).toNat=x.toNat:=by simp;omega
  simp only[Option.getD_some,Function.comp,h2]
  congr 2
  omega
 ·cases hx
theorem Z2q{r:Reach}{b0:Nat}{v:Value}{d:DataW H}{p:List MemPlace}(hv:Value.okWide prog w r b0 27 v)(h:DataW.Trod enc prog w base spare held 27 v d p):
  ∃(A:Option Addr) (cap:Nat) (bs:By),v=.slice A bs.length cap∧bs.length≤9223372036854775807∧bs.length≤cap∧Src w A bs:=by
 obtain⟨a1,len1,cap1,rfl⟩:=okWide_slice underlying27 hv
 obtain⟨fuel,hf⟩:=h
 rcases open_ints underlying27 underlying5 (by kernel_rfl) hf with⟨hcs,-⟩|⟨a,len,cap,zs,hcs,_,hl,hm,hz,-,hcell,hwz⟩
 ·simp[Value.cells] at hcs
  obtain⟨rfl,rfl,rfl⟩:=hcs
  exact⟨none,0,[],rfl,by simp,by simp,fun h=>absurd h (by simp)⟩
 ·simp[Value.cells] at hcs
  obtain⟨rfl,rfl,rfl⟩:=hcs
  have hle:len1≤zs.length:=by rw[hz];split<;>omega
  have hbl:((zs.take len1).map fun n=>UInt8.ofNat n.toNat).length=len1:=by simp;omega
  refine⟨some a,cap1,(zs.take len1).map fun n=>UInt8.ofNat n.toNat,by rw[hbl],by rw[hbl];unfold maxLen at hm;omega,by rw[hbl];exact hl,src_of hle rfl hcell hwz⟩
end
section
variable {H:Type} {enc:TypeId×Value→H} {w:World} {base:Nat} {spare:Nat→Bool} {held:Bool}
theorem u64_in{fuel:Nat}{v:Value}{y:DataW H×List MemPlace}(h:DataW.trod enc prog w base spare held fuel 22 [v]=some y):∃x,v=.int .u64 x∧InU x:=by
 obtain⟨a,e0,rfl,wa⟩:=DataW.trod_int underlying22 h
 simp at e0
 exact⟨a,e0,in_of wa⟩
theorem Z8q{cs:List Value}{n:Nat}(hl:cs.length=n)(h:∀i,i<n→∃x:Int,cs[i]? =some (.int .u64 x)∧InU x):∃xs:List Int,xs.length=n∧cs=xV xs∧∀v ∈ xs,InU v:=by
 induction n generalizing cs with
 |zero=>exact⟨[],rfl,List.eq_nil_of_length_eq_zero hl,fun v hv=>by cases hv⟩
 |succ n ih=>
  cases cs with
  |nil=>simp at hl
  |cons c r=>
   obtain⟨x,hx,qx⟩:=h 0 (by omega)
   obtain⟨xs,h1,h2,h3⟩:=ih (cs:=r) (by simpa using hl) (fun i hi=>by
    obtain⟨y,hy,qy⟩:=h (i+1) (by omega)
    exact⟨y,by simpa using hy,qy⟩)
   simp at hx
   refine⟨x::xs,by simp[h1],by rw[hx,h2];rfl,fun v hv=> ?_⟩
   rcases List.mem_cons.1 hv with rfl|hv
   ·exact qx
   ·exact h3 v hv
theorem Z2r: Tryz.prog.cellsOf 25 =36:=by kernel_rfl
theorem Jd: Tryz.prog.cellsOf 22 =1:=by kernel_rfl
theorem Z3I: Tryz.prog.cellsOf 3=1:=by kernel_rfl
theorem Z2s: Tryz.prog.cellsOf 4=1:=by kernel_rfl
theorem Z01: Tryz.prog.cellsOf 23 =32:=by kernel_rfl
theorem Z02{cs:List Value}{i:Nat}(h:i<cs.length):(cs.drop i).take 1=[cs[i]]:=by
 rw[List.drop_eq_getElem_cons h];rfl
theorem Z0q{r:Reach}{b0:Nat}{v:Value}{d:DataW H}{p:List MemPlace}(hv:Value.okWide prog w r b0 25 v)(h:DataW.Trod enc prog w base spare held 25 v d p):
  ∃hh:HV,v=hA hh∧HOk hh:=by
 obtain⟨cs,rfl,hsz⟩:=okWide_struct underlying25 hv
 obtain⟨fuel,hf⟩:=h
 obtain⟨xs,n,-,-,hl,hxl,hh⟩:=DataW.trod_struct underlying25 hf
 rw[Z2r] at hl
 have hl':cs.toList.length=36:=by simpa[Value.cells] using hl
 have g0:DataW.trod enc prog w base spare held n 22 ((cs.toList.drop 0).take (Tryz.prog.cellsOf 22))=xs[0]? :=hh 0 _ rfl
 have g1:DataW.trod enc prog w base spare held n 23 ((cs.toList.drop 1).take (Tryz.prog.cellsOf 23))=xs[1]? :=hh 1 _ rfl
 have g2:DataW.trod enc prog w base spare held n 4 ((cs.toList.drop 33).take (Tryz.prog.cellsOf 4))=xs[2]? :=hh 2 _ rfl
 have g3:DataW.trod enc prog w base spare held n 22 ((cs.toList.drop 34).take (Tryz.prog.cellsOf 22))=xs[3]? :=hh 3 _ rfl
 have g4:DataW.trod enc prog w base spare held n 3 ((cs.toList.drop 35).take (Tryz.prog.cellsOf 3))=xs[4]? :=hh 4 _ rfl
 rw[Jd,Z02 (by omega),List.getElem?_eq_getElem (by rw[hxl];decide)] at g0
 rw[Z01,List.getElem?_eq_getElem (by rw[hxl];decide)] at g1
 rw[Z2s,Z02 (by omega),List.getElem?_eq_getElem (by rw[hxl];decide)] at g2
 rw[Jd,Z02 (by omega),List.getElem?_eq_getElem (by rw[hxl];decide)] at g3
 rw[Z3I,Z02 (by omega),List.getElem?_eq_getElem (by rw[hxl];decide)] at g4
 obtain⟨pc,e0,q0⟩:=u64_in g0
 obtain⟨held',e2,-⟩:=Z0A g2
 obtain⟨ad,e3,q3⟩:=u64_in g3
 obtain⟨sz,e4,-,q4⟩:=J1 g4
 obtain⟨ys,m,-,-,hal,hyl,ha⟩:=DataW.trod_array underlying23 g1
 rw[Z01] at hal
 obtain⟨rs,r1,r2,r3⟩:=Z8q (n:=32) hal (fun i hi=>by
  have hi2:=ha i hi
  rw[Jd,Nat.mul_one,Z02 (by omega),List.getElem?_eq_getElem (by omega)] at hi2
  obtain⟨x,hx,qx⟩:=u64_in hi2
  exact⟨x,by rw[List.getElem?_eq_getElem (by omega),hx],qx⟩)
 refine⟨⟨pc,rs,held',ad,sz⟩,?_,⟨r1,q0,r3,q3,JH q4⟩⟩
 unfold hA hC
 dsimp only
 congr 1
 apply Array.ext'
 rw[←r2]
 have h1:cs.toList.drop 33=[cs.toList[33],cs.toList[34],cs.toList[35]]:=by
  rw[List.drop_eq_getElem_cons (by omega),List.drop_eq_getElem_cons (by omega),List.drop_eq_getElem_cons (by omega),List.drop_of_length_le (by omega)]
 have h2:cs.toList=cs.toList[0]::cs.toList.drop 1:=by
  have:=List.drop_eq_getElem_cons (l:=cs.toList) (i:=0) (by omega)
  simpa using this
 have h3:cs.toList.drop 1=(cs.toList.drop 1).take 32++cs.toList.drop 33:=by
  have:=(List.take_append_drop 32 (cs.toList.drop 1)).symm
  rwa [List.drop_drop] at this
 have h4:cs.toList=cs.toList[0]::((cs.toList.drop 1).take 32++[cs.toList[33],cs.toList[34],cs.toList[35]]):=by
  rw[←h1,←h3];exact h2
 rw[e0,e2,e3,e4] at h4
 exact h4
end
end Go.Proofs.YtgpdpaljbiclkaaGreatDoor
end
